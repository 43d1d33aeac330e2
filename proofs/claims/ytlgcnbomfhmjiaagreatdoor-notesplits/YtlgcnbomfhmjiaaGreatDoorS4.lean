/-
  What is proved here: what Width, Give and Leaps of item answer of any list.
  What is proved here: slots, profiles and lines (no program is named): which profiles may be, a line's slot, the line from an item on, the lines of items; a part of a list of items has the breaks, widths and beginnings of the list.
  What is proved here: what keeps, mayNotBe, Check, Slot of first and the document's slot, Check, Slot answer of any profile.
-/
import Derived.Test.YtlgcnbomfhmjiaaGreatDoorS3
import Derived.Deep.MidRow
namespace Go.Proofs.YtlgcnbomfhmjiaaGreatDoor
open Go.RowKit Go.Shelf
set_option maxRecDepth 100000
set_option maxHeartbeats 4000000

theorem shN_sub {l : List It} {f t : Nat} (ht : t ≤ l.length) : ∀ n,f + n ≤ t → shN (subL l f t) 0 n = shN l f n
 | 0,_ => rfl
 | n + 1,h => by
  show (if (itAt (subL l f t) (0 + n)).k = 2 then shN (subL l f t) 0 n else n + 1) = if (itAt l (f + n)).k = 2 then shN l f n else n + 1
  rw [Nat.zero_add,sub_at ht (by omega),shN_sub ht n (by omega)]
theorem line_at {l : List It} {f t : Nat} (ht : t ≤ l.length) (hft : f ≤ t) {i : Nat} (hi : i < shN l f (t - f)) : ∃ h : f + i < l.length,((subL l f t).take (shN l f (t - f)))[i]? = some (l[f + i]'h) := by
 have h1 := shN_le l f (t - f)
 have h2 : f + i < l.length := by omega
 refine ⟨h2,?_⟩
 rw [List.getElem?_take_of_lt hi]
 unfold subL
 rw [List.getElem?_take_of_lt (by omega),List.getElem?_drop,List.getElem?_eq_getElem h2]

theorem iwidth_any (v : Value) (l : List It) (x y z : Int) (w : World) (hS : ItsAt w v l) :
  Calls Tryz.prog 285 #[v,.int .i64 x,.int .i64 y,.int .i64 z] w fun e w' => e = .returned (.tuple #[.int .i64 (wiV l x y z),.int .i64 (wiE l x y z)]) ∧ Below w.heap.size w w' := by
 have hc : Hid (Calls Tryz.prog 90 #[v,.int .i64 x,.int .i64 y] w fun e w' => e = .returned (.int .i64 (rfL l x y)) ∧ Below w.heap.size w w') := irefuse_any v l x y w hS
 obtain ⟨a,cap,rfl,-⟩ := hS.ex
 have hle := hS.le _ _ _ rfl
 have hSh : Hid (ItsAt w (.slice a l.length cap) l) := hS
 clear hS
 unfold wiV
 by_cases h0 : rfL l x y = 0
 ·have hwe : wiE l x y z = if 0 ≤ z ∧ z ≤ 4095 then 0 else 5 := by unfold wiE; rw [if_neg (by simpa using h0)]
  rw [h0] at hc
  by_cases hz : 0 ≤ z ∧ z ≤ 4095
  ·rw [if_pos hz] at hwe
   rw [hwe,if_pos rfl]
   obtain ⟨h1,h2,h3,h4⟩ := rf_ok h0
   obtain ⟨A,rfl⟩ : ∃ i : Nat,x = i := ⟨x.toNat,by omega⟩
   obtain ⟨E,rfl⟩ : ∃ i : Nat,y = i := ⟨y.toNat,by omega⟩
   rw [Int.toNat_natCast,Int.toNat_natCast]
   have h8 : (l.length : Int) ≤ 8192 := by have := ck_len h1; omega
   have hck : Hid (ckL l = 0) := h1
   obtain ⟨hz0,hz1⟩ := hz
   have hAE : A ≤ E := by omega
   have hEl : E ≤ l.length := by omega
   clear hwe h0 h1 h2 h3 h4
   obtain ⟨m,hm⟩ : ∃ m,shN l A (E - A) = m := ⟨_,rfl⟩
   have hmle : m ≤ E - A := by rw [← hm]; exact shN_le _ _ _
   have hsl : Hid (∀ W,Below w.heap.size w W → ∃ a',(Instr.slice 68 (.slice a l.length cap) (some (.int .i64 (A : Int))) (some (.int .i64 (E : Int))) none).run Tryz.prog W = .ok (.slice a' (E - A) (cap - A)) W ∧ Calls Tryz.prog 91 #[.slice a' (E - A) (cap - A)] W fun e w' => (∃ a2 cap2,e = .returned (.slice a2 m cap2) ∧ ItsAt W (.slice a2 m cap2) ((subL l A E).take m)) ∧ w' = W) := fun W hB => by
    obtain ⟨a',hr,ha'⟩ := slice29 a l.length cap A E W hAE (by omega)
    refine ⟨a',hr,?_⟩
    have hI := sub_its (hSh.out.below hB (Nat.le_refl _)) hAE hEl ha'
    have hc := shown_any _ (subL l A E) (by rw [sub_len hEl]; omega) W hI
    rw [sub_len hEl,shN_sub hEl _ (by omega),hm] at hc
    exact hc
   have hat : Hid (∀ W a2 cap2,ItsAt W (.slice a2 m cap2) ((subL l A E).take m) → ∀ i,i < m → ∃ b o,a2 = some ⟨b,o,none⟩ ∧ ∀ W',Below W.heap.size W W' → ItAt W b (o + i * 8) (itAt l (A + i)) W') := fun W a2 cap2 hI i hi => by
    obtain ⟨hlt,he⟩ := line_at hEl hAE (i := i) (by rw [hm]; exact hi)
    rw [hm] at he
    obtain ⟨hil,he'⟩ := List.getElem?_eq_some_iff.1 he
    obtain ⟨b,o,e,_,h⟩ := its_at hI hil
    rw [he'] at h
    refine ⟨b,o,e,fun W' hW => ?_⟩
    rw [itAt_is hlt]
    exact h W' hW
   have hrg : Hid (∀ k,k ≤ m → z ≤ atN l A z k ∧ atN l A z k ≤ z + 524288 * (k : Int)) := fun k hk => at_rng hck.out hz0 k (by omega)
   have hgo : Hid (∀ k,k < m → okP (itAt l (A + k))) := fun k hk => by
    rw [itAt_is (show A + k < l.length by omega)]
    exact ck_at hck.out (by omega)
   have hend : Hid (ntV l A E z = atN l A z m + pnI l E - z) := by show _ = _; unfold ntV; rw [hm]
   have hpr := pn_rng hck.out E
   have hpn : Hid (∀ W',Below w.heap.size w W' → (pnI l E = 0 ∧ (¬ E < l.length ∨ (E < l.length ∧ ∃ b o kx,a = some ⟨b,o,none⟩ ∧ W'.cell? ⟨b,o + E * 8,none⟩ = some (.int .i64 kx) ∧ (kx == 3) = false))) ∨ (E < l.length ∧ ∃ b o,a = some ⟨b,o,none⟩ ∧ W'.cell? ⟨b,o + E * 8,none⟩ = some (.int .i64 3) ∧ W'.cell? ⟨b,o + E * 8 + 3,none⟩ = some (.int .i64 (pnI l E)))) := fun W' hW => by
    unfold pnI
    by_cases hE : E < l.length
    ·obtain ⟨b,o,e,_,h⟩ := its_at hSh.out hE
     rw [itAt_is hE]
     by_cases h3 : l[E].k = 3
     ·rw [if_pos ⟨hE,h3⟩]
      refine .inr ⟨hE,b,o,e,?_,(h W' hW).c3⟩
      have := (h W' hW).c0; rwa [h3] at this
     ·rw [if_neg (fun h => h3 h.2)]
      exact .inl ⟨rfl,.inr ⟨hE,b,o,_,e,(h W' hW).c0,by simpa using h3⟩⟩
    ·rw [if_neg (fun h => hE h.1)]
     exact .inl ⟨rfl,.inl hE⟩
   rw [hend.out]
   clear hend hm hck hSh
   generalize pnI l E = pw at *
   have hA' : (A : Int) ≤ E := by omega
   have hE' : (E : Int) ≤ cap := by omega
   go_enter Tryz.func285,Tryz.ntmps285
   go_wp2_with (first | (go_at_call 90; refine hc.out.mono ?_; rintro e w1 ⟨rfl,hb1⟩; obtain ⟨a1,hs1,hcs⟩ := hsl.out _ hb1) | (go_at_call 91; refine hcs.mono ?_; rintro e w' ⟨⟨a2,cap2,rfl,hI⟩,hww⟩; subst w'))
   have hat2 := hat.out _ _ _ hI
   have hat3 : Hid (∀ i,i < m → ∃ b o,a2 = some ⟨b,o,none⟩ ∧ ∀ W',Below w1.heap.size w1 W' → ItAt w1 b (o + i * 8) (itAt l (A + i)) W') := hat2
   clear hat hat2 hsl hc hcs hs1 hI
   go_loopw [11,34] (fun p i wr => ∃ k : Nat,k ≤ m ∧ i = .int .i64 k ∧ p = .int .i64 (atN l A z k) ∧ Below w1.heap.size w1 wr) (fun _ i _ => m - (intOf i).toNat)
   case atStart => exact ⟨0,by omega,rfl,rfl,Below.refl _ _⟩
   case round =>
    obtain ⟨k,hk,rfl,rfl,hb2⟩ := hrel
    by_cases hlt : k < m
    ·have hlt' : (k : Int) < m := by omega
     obtain ⟨bb,oo,rfl,hit⟩ := hat3.out k hlt
     have hi := hit wr hb2
     have c0 := hi.c0
     have c1 := hi.c1
     have c2 := hi.c2
     have c3 := hi.c3
     have c4 := hi.c4
     have c5 := hi.c5
     have c6 := hi.c6
     have c7 := hi.c7
     have hok := hgo.out k hlt
     have hr1 := hrg.out k (by omega)
     have he : Hid (atN l A z (k + 1) = goI (atN l A z k) (itAt l (A + k))) := rfl
     clear hit hi
     generalize itAt l (A + k) = it at *
     obtain ⟨k0,f0,t0,w0,s0,h0,q0,y0⟩ := it
     unfold okP at hok
     unfold goI at he
     simp only at c0 c1 c2 c3 c4 c5 c6 c7 hok he
     have hk4 : Hid (k0 = 1 ∨ k0 = 2 ∨ k0 = 3 ∨ k0 = 4) := by show _ ∨ _; omega
     have hw0 : 0 ≤ w0 ∧ w0 ≤ 524288 := hok.2.2.2.1
     obtain ⟨p,hp⟩ : ∃ p,atN l A z k = p := ⟨_,rfl⟩
     have hp0 : 0 ≤ p := by omega
     have hp1 : p ≤ 5000000000 := by omega
     rw [hp] at he ⊢
     have hkk : Hid (k ≤ m) := hk
     clear hok hr1 hp hk
     have hB2 := hb2.alloc hb2.size (.cells #[.int .i64 k0,.int .i64 f0,.int .i64 t0,.int .i64 w0,.int .i64 s0,.int .i64 h0,.int .i64 q0,.bool y0] 91)
     rcases hk4.out with rfl | rfl | rfl | rfl
     ·go_wp2_with fail
      go_roundw
      case rel => exact ⟨k + 1,by omega,by simp,by rw [he.out]; simp,hB2⟩
      case measure => simp [intOf]; omega
     ·go_wp2_with fail
      go_roundw
      case rel => exact ⟨k + 1,by omega,by simp,by rw [he.out]; simp,hB2⟩
      case measure => simp [intOf]; omega
     ·go_wp2_with fail
      go_roundw
      case rel => exact ⟨k + 1,by omega,by simp,by rw [he.out]; simp,hB2⟩
      case measure => simp [intOf]; omega
     ·have hst := stop_any p hp0 (by omega)
      go_wp2_with (go_at_call 299; refine (hst _).mono ?_; rintro e w' ⟨rfl,hww⟩; subst w')
      go_roundw
      case rel => exact ⟨k + 1,by omega,by simp,by rw [he.out]; simp,hB2⟩
      case measure => simp [intOf]; omega
    ·obtain rfl : k = m := by omega
     have hb3 : Below w.heap.size w wr := hb1.trans (hb2.mono hb1.size)
     have hr1 := hrg.out k (by omega)
     obtain ⟨p,hp⟩ : ∃ p,atN l A z k = p := ⟨_,rfl⟩
     have hp0 : z ≤ p := by omega
     have hp1 : p ≤ 5000000000 := by omega
     rw [hp]
     have hpH : Hid (atN l A z k = p) := hp
     have hge : ¬ (k : Int) < k := by omega
     clear hr1 hp hat3 hgo hrg
     rcases hpn.out _ hb3 with ⟨rfl,hn | ⟨hE,bb,oo,kx,rfl,c0,q3⟩⟩ | ⟨hE,bb,oo,rfl,c0,c3⟩
     ·have hn' : ¬ (E : Int) < l.length := by omega
      clear hpn
      go_wp2_with fail
      go_ret2
      exact ⟨by rw [hpH.out]; simp,hb3⟩
     ·have hn' : (E : Int) < l.length := by omega
      clear hpn
      go_wp2_with fail
      go_ret2
      exact ⟨by rw [hpH.out]; simp,hb3⟩
     ·have hn' : (E : Int) < l.length := by omega
      clear hpn
      go_wp2_with fail
      go_ret2
      exact ⟨by rw [hpH.out]; rfl,hb3⟩
  ·rw [if_neg hz] at hwe
   rw [hwe]
   clear hwe h0 hSh
   by_cases hz0 : 0 ≤ z
   ·have hz1 : ¬ z ≤ 4095 := fun h => hz ⟨hz0,h⟩
    clear hz
    go_enter Tryz.func285,Tryz.ntmps285
    go_wp2_with (go_at_call 90; refine hc.out.mono ?_; rintro e w' ⟨rfl,hb2⟩)
    go_ret2
    exact ⟨rfl,hb2⟩
   ·clear hz
    go_enter Tryz.func285,Tryz.ntmps285
    go_wp2_with (go_at_call 90; refine hc.out.mono ?_; rintro e w' ⟨rfl,hb2⟩)
    go_ret2
    exact ⟨rfl,hb2⟩
 ·have hwe : wiE l x y z = rfL l x y := by unfold wiE; rw [if_pos h0]
  rw [hwe,if_neg h0]
  have h0' : (rfL l x y == 0) = false := by simpa using h0
  clear h0 hSh hwe
  generalize rfL l x y = n at *
  go_enter Tryz.func285,Tryz.ntmps285
  go_wp2_with (go_at_call 90; refine hc.out.mono ?_; rintro e w' ⟨rfl,hb2⟩)
  go_ret2
  exact ⟨rfl,hb2⟩

end Go.Proofs.YtlgcnbomfhmjiaaGreatDoor

namespace Go.Proofs.YtlgcnbomfhmjiaaGreatDoor
open Go.RowKit Go.Shelf

structure Sl where
 x : Int
 w : Int
def slL (s : Sl) : List Value := [.int .i64 s.x,.int .i64 s.w]
def sl0 : Sl := ⟨0,0⟩
def okS (s : Sl) : Bool := decide ((0 ≤ s.x ∧ s.x ≤ 4095) ∧ 0 ≤ s.w ∧ s.w ≤ 4095)
def ckS (ss : List Sl) (r : Sl) : Int := if 256 < ss.length then 3 else if okS r = true ∧ ss.all okS = true then 0 else 2
def slN (ss : List Sl) (r : Sl) (n : Nat) : Sl := ss.getD n r
def slI (ss : List Sl) (r : Sl) (n : Int) : Sl := if n < 0 then sl0 else slN ss r n.toNat
abbrev SlsAt (W : World) (v : Value) (ss : List Sl) : Prop := RecAt 2 slL W v ss
theorem slI_nat (ss : List Sl) (r : Sl) (n : Nat) : slI ss r n = slN ss r n := by
 unfold slI
 rw [if_neg (by omega),Int.toNat_natCast]
theorem slN_in {ss : List Sl} {r : Sl} {n : Nat} (h : n < ss.length) : slN ss r n = ss[n] := by
 unfold slN; rw [List.getD_eq_getElem?_getD,List.getElem?_eq_getElem h]; rfl
theorem slN_out {ss : List Sl} {r : Sl} {n : Nat} (h : ss.length ≤ n) : slN ss r n = r := by
 unfold slN; rw [List.getD_eq_getElem?_getD,List.getElem?_eq_none h]; rfl
theorem slN_ok {ss : List Sl} {r : Sl} (h : ckS ss r = 0) (n : Nat) : okS (slN ss r n) = true := by
 unfold ckS at h
 split at h
 ·cases h
 ·split at h
  ·rename_i h1
   by_cases hn : n < ss.length
   ·rw [slN_in hn]; exact List.all_eq_true.1 h1.2 _ (List.getElem_mem hn)
   ·rw [slN_out (by omega)]; exact h1.1
  ·cases h
theorem okS_rng {s : Sl} (h : okS s = true) : (0 ≤ s.x ∧ s.x ≤ 4095) ∧ 0 ≤ s.w ∧ s.w ≤ 4095 := of_decide_eq_true h
theorem ckS_few {ss : List Sl} {r : Sl} (h : ckS ss r = 0) : ss.length ≤ 256 := by
 unfold ckS at h
 split at h
 ·cases h
 ·omega

structure Pc where
 a : Nat
 b : Nat
 wd : Bool
 hy : Bool
 nt : Int
def pcL (p : Pc) : List Value := [.int .i64 p.a,.int .i64 p.b,.bool p.wd,.bool p.hy,.int .i64 p.nt]
theorem pcL_len (p : Pc) : (pcL p).length = 5 := rfl
theorem pcL_one (p : Pc) : ∀ u ∈ pcL p,u.oneCell' = true := by
 intro u hu; simp [pcL] at hu; rcases hu with rfl | rfl | rfl | rfl | rfl <;> rfl
theorem pcL_all (p : Pc) : (pcL p).toArray.all (·.oneCell') = true := all_oneCell_toArray (pcL_one p)
abbrev PcsAt (W : World) (v : Value) (ps : List Pc) : Prop := RecAt 5 pcL W v ps
def hyB (l : List It) (b : Nat) : Bool := decide (b < l.length) && (itAt l b).y
def lnG (l : List It) (a : Nat) (s : Sl) : Nat → Nat → Pc → Pc
 | 0,_,p => p
 | n + 1,b,p => if enB l b = true then (if s.w < ntV l a b s.x then (if a < p.b then p else ⟨a,b,true,hyB l b,ntV l a b s.x⟩) else lnG l a s n (b + 1) ⟨a,b,false,hyB l b,ntV l a b s.x⟩) else lnG l a s n (b + 1) p
def pc0 (a : Nat) : Pc := ⟨a,a,false,false,0⟩
def lnP (l : List It) (a : Nat) (s : Sl) : Pc := lnG l a s (l.length - a) (a + 1) (pc0 a)
theorem lnG_a {l : List It} {a : Nat} {s : Sl} : ∀ n b (p : Pc),p.a = a → (lnG l a s n b p).a = a
 | 0,_,_,h => h
 | n + 1, b, p, h => by
  unfold lnG
  split
  ·split
   ·split
    ·exact h
    ·rfl
   ·exact lnG_a n (b + 1) _ rfl
  ·exact lnG_a n (b + 1) p h
theorem lnG_b {l : List It} {a : Nat} {s : Sl} : ∀ n b (p : Pc),a < b → l.length + 1 = b + n → p.b ≤ l.length → (a < p.b ∨ 0 < n) → (lnG l a s n b p).b ≤ l.length ∧ a < (lnG l a s n b p).b
 | 0,_,p,_,_,h,h' => ⟨h,h'.elim id (fun h => absurd h (Nat.lt_irrefl _))⟩
 | n + 1, b, p, hb, hn, h, h' => by
  unfold lnG
  split
  ·split
   ·split
    ·rename_i h3; exact ⟨h,h3⟩
    ·exact ⟨by show b ≤ _; omega,hb⟩
   ·exact lnG_b n (b + 1) _ (by omega) (by omega) (by show b ≤ _; omega) (.inl hb)
  ·rename_i h1
   have hne : b ≠ l.length := fun e => h1 (by unfold enB; exact decide_eq_true (.inl e))
   exact lnG_b n (b + 1) p (by omega) (by omega) h (by omega)
theorem lnP_a (l : List It) (a : Nat) (s : Sl) : (lnP l a s).a = a := lnG_a _ _ _ rfl
theorem lnP_b {l : List It} {a : Nat} {s : Sl} (h : a < l.length) : (lnP l a s).b ≤ l.length ∧ a < (lnP l a s).b := lnG_b _ _ _ (by omega) (by omega) (by show a ≤ _; omega) (.inr (by omega))
theorem lnP_end (l : List It) (s : Sl) : lnP l l.length s = pc0 l.length := by unfold lnP; rw [Nat.sub_self]; rfl
theorem lnP_le {l : List It} {a : Nat} {s : Sl} (h : a ≤ l.length) : a ≤ (lnP l a s).b ∧ (lnP l a s).b ≤ l.length := by
 by_cases ha : a < l.length
 ·have := lnP_b (s := s) ha; omega
 ·obtain rfl : a = l.length := by omega
  rw [lnP_end]; exact ⟨Nat.le_refl _,Nat.le_refl _⟩
theorem sk_le {l : List It} : ∀ n i,i ≤ l.length → i ≤ skG l n i ∧ skG l n i ≤ l.length
 | 0,i,h => ⟨Nat.le_refl _,h⟩
 | n + 1, i, h => by
  unfold skG
  split
  ·rename_i h1
   have := sk_le (l := l) n (i + 1) (by omega)
   omega
  ·exact ⟨Nat.le_refl _,h⟩
theorem bg_le {l : List It} {i : Nat} (h : i ≤ l.length) : i ≤ bgN l i ∧ bgN l i ≤ l.length := by
 unfold bgN
 split
 ·have := sk_le (l := l) (l.length + 1) (i + 1) (by omega)
  omega
 ·exact sk_le _ _ h
def lsG (l : List It) (ss : List Sl) (r : Sl) : Nat → Nat → Nat → List Pc
 | 0,_,_ => []
 | f + 1,a,n => lnP l a (slN ss r n) :: (if bgN l (lnP l a (slN ss r n)).b < l.length then lsG l ss r f (bgN l (lnP l a (slN ss r n)).b) (n + 1) else [])
def lsL (l : List It) (ss : List Sl) (r : Sl) : List Pc := lsG l ss r (l.length + 1) (sk l 0) 0
theorem lsG_enough {l : List It} {ss : List Sl} {r : Sl} : ∀ f g a n,l.length < a + f → l.length < a + g → a ≤ l.length → lsG l ss r f a n = lsG l ss r g a n
 | 0,_,a,n,h1,h2,h3 => by omega
 | f + 1,0,a,n,h1,h2,h3 => by omega
 | f + 1, g + 1, a, n, h1, h2, h3 => by
  unfold lsG
  split
  ·rename_i hb
   have h4 := lnP_le (s := slN ss r n) h3
   have h5 := bg_le h4.2
   have h6 : a < bgN l (lnP l a (slN ss r n)).b := by
    by_cases ha : a < l.length
    ·have := lnP_b (s := slN ss r n) ha; omega
    ·omega
   rw [lsG_enough f g _ (n + 1) (by omega) (by omega) h5.2]
  ·rfl
def lsA (l : List It) (ss : List Sl) (r : Sl) (a n : Nat) : List Pc := lsG l ss r (l.length + 1) a n
theorem lsA_go {l : List It} {ss : List Sl} {r : Sl} {a n : Nat} (h : a ≤ l.length) (hb : bgN l (lnP l a (slN ss r n)).b < l.length) : lsA l ss r a n = lnP l a (slN ss r n) :: lsA l ss r (bgN l (lnP l a (slN ss r n)).b) (n + 1) := by
 unfold lsA
 conv => lhs; unfold lsG
 rw [if_pos hb]
 have h4 := lnP_le (s := slN ss r n) h
 have h5 := bg_le h4.2
 have h6 : a < bgN l (lnP l a (slN ss r n)).b := by
  by_cases ha : a < l.length
  ·have := lnP_b (s := slN ss r n) ha; omega
  ·omega
 rw [lsG_enough l.length (l.length + 1) _ (n + 1) (by omega) (by omega) h5.2]
theorem lsA_end {l : List It} {ss : List Sl} {r : Sl} {a n : Nat} (hb : ¬ bgN l (lnP l a (slN ss r n)).b < l.length) : lsA l ss r a n = [lnP l a (slN ss r n)] := by
 unfold lsA lsG
 rw [if_neg hb]

theorem sub_ck {l : List It} (h : ckL l = 0) {f t : Nat} (ht : t ≤ l.length) : ckL (subL l f t) = 0 := by
 have h8 := ck_len h
 refine ck_good (by rw [sub_len ht]; omega) fun k hk => ?_
 have : (subL l f t)[k] ∈ l := List.mem_of_mem_drop (List.mem_of_mem_take (List.getElem_mem hk))
 exact List.all_eq_true.1 (ck_all h) _ this
theorem sub_legal {l : List It} (h : ckL l = 0) {b : Nat} (h0 : 0 < b) (hb : b ≤ l.length) : lgB (subL l (b - 1) (min (b + 1) l.length)) 1 = enB l b := by
 have hm : min (b + 1) l.length ≤ l.length := Nat.min_le_right _ _
 have hc := sub_ck h (f := b - 1) hm
 have hl := sub_len (l := l) (f := b - 1) hm
 unfold lgB rfL
 rw [if_neg (by simpa using hc),if_pos (by rw [hl]; omega)]
 show (decide ((0 : Int) = 0) && enB _ 1) = _
 rw [decide_eq_true rfl,Bool.true_and]
 unfold enB
 rw [hl]
 by_cases hbl : b = l.length
 ·rw [decide_eq_true (.inl (by omega)),decide_eq_true (.inl hbl)]
 ·have e1 := sub_at (l := l) (f := b - 1) (t := min (b + 1) l.length) (i := 1) hm (by omega)
  have e0 := sub_at (l := l) (f := b - 1) (t := min (b + 1) l.length) (i := 0) hm (by omega)
  rw [show b - 1 + 1 = b by omega] at e1
  rw [show b - 1 + 0 = b - 1 by omega] at e0
  rw [e1]
  show decide (_ ∨ _ ∨ _ ∧ _ ∧ (itAt (subL l (b - 1) (min (b + 1) l.length)) 0).k ≠ 2) = _
  rw [e0]
  congr 1
  simp only [eq_iff_iff]
  constructor
  ·rintro (h1 | h1 | ⟨h1,_,h2⟩)
   ·omega
   ·exact .inr (.inl h1)
   ·exact .inr (.inr ⟨h1,h0,h2⟩)
  ·rintro (h1 | h1 | ⟨h1,_,h2⟩)
   ·exact absurd h1 hbl
   ·exact .inr (.inl h1)
   ·exact .inr (.inr ⟨h1,by omega,h2⟩)
theorem at_sub {l : List It} {f t : Nat} (ht : t ≤ l.length) (x : Int) : ∀ n,f + n ≤ t → atN (subL l f t) 0 x n = atN l f x n
 | 0,_ => rfl
 | n + 1,h => by
  show goI (atN (subL l f t) 0 x n) (itAt (subL l f t) (0 + n)) = goI (atN l f x n) (itAt l (f + n))
  rw [at_sub ht x n (by omega),Nat.zero_add,sub_at ht (by omega)]
theorem sub_width {l : List It} (h : ckL l = 0) {a b : Nat} {x : Int} (hx : 0 ≤ x ∧ x ≤ 4095) (hab : a ≤ b) (hb : b ≤ l.length) : wiV (subL l a (min (b + 1) l.length)) 0 ((b - a : Nat) : Int) x = ntV l a b x := by
 have hm : min (b + 1) l.length ≤ l.length := Nat.min_le_right _ _
 have hc := sub_ck h (f := a) hm
 have hl := sub_len (l := l) (f := a) hm
 have he : wiE (subL l a (min (b + 1) l.length)) 0 ((b - a : Nat) : Int) x = 0 := by
  have hr : rfL (subL l a (min (b + 1) l.length)) 0 ((b - a : Nat) : Int) = 0 := by
   unfold rfL
   rw [if_neg (by simpa using hc),if_pos (by rw [hl]; omega)]
  unfold wiE
  rw [hr,if_neg (by simp),if_pos hx]
 unfold wiV
 rw [if_pos he,Int.toNat_natCast]
 show ntV _ 0 (b - a) x = _
 unfold ntV
 rw [Nat.sub_zero,shN_sub hm _ (by omega),at_sub hm x _ (by have := shN_le l a (b - a); omega)]
 congr 2
 unfold pnI
 rw [hl]
 by_cases hbl : b = l.length
 ·rw [if_neg (by omega),if_neg (by omega)]
 ·have e := sub_at (l := l) (f := a) (t := min (b + 1) l.length) (i := b - a) hm (by omega)
  rw [show a + (b - a) = b by omega] at e
  rw [e]
  by_cases h3 : (itAt l b).k = 3
  ·rw [if_pos ⟨by omega,h3⟩,if_pos ⟨by omega,h3⟩]
  ·rw [if_neg (fun h => h3 h.2),if_neg (fun h => h3 h.2)]
theorem sk_sub {l : List It} {f : Nat} (hf : f ≤ l.length) : ∀ n i,f + i ≤ l.length → f + skG (subL l f l.length) n i = skG l n (f + i)
 | 0,_,_ => rfl
 | n + 1, i, h => by
  have hl := sub_len (l := l) (f := f) (Nat.le_refl _)
  unfold skG
  rw [hl]
  by_cases hi : f + i < l.length
  ·rw [sub_at (Nat.le_refl _) hi]
   by_cases h2 : (itAt l (f + i)).k = 2
   ·rw [if_pos ⟨by omega,h2⟩,if_pos ⟨hi,h2⟩,sk_sub hf n (i + 1) (by omega)]; rfl
   ·rw [if_neg (fun h => h2 h.2),if_neg (fun h => h2 h.2)]
  ·rw [if_neg (by omega),if_neg (by omega)]
theorem sub_start {l : List It} (h : ckL l = 0) {b : Nat} (hb : b ≤ l.length) : (b : Int) + stV (subL l b l.length) 0 = (bgN l b : Nat) := by
 have hc := sub_ck h (f := b) (Nat.le_refl _)
 have hl := sub_len (l := l) (f := b) (Nat.le_refl _)
 have hr : rfL (subL l b l.length) 0 (subL l b l.length).length = 0 := by
  unfold rfL
  rw [if_neg (by simpa using hc),if_pos (by rw [hl]; omega)]
 unfold stV
 rw [hr,if_pos rfl]
 show (b : Int) + ((bgN (subL l b l.length) 0 : Nat) : Int) = _
 rw [← Int.natCast_add]
 congr 1
 unfold bgN
 rw [hl]
 by_cases hbl : b < l.length
 ·have e := sub_at (l := l) (f := b) (t := l.length) (i := 0) (Nat.le_refl _) (by omega)
  rw [Nat.add_zero] at e
  rw [e]
  have hen : ∀ j,j ≤ 1 → skG (subL l b l.length) (l.length - b + 1) j = skG (subL l b l.length) (l.length + 1) j := fun j _ => skG_enough _ _ _ (by rw [hl]; omega) (by rw [hl]; omega)
  by_cases h3 : (itAt l b).k = 3
  ·rw [if_pos ⟨by omega,h3⟩,if_pos ⟨hbl,h3⟩,hen 1 (Nat.le_refl _),sk_sub hb _ 1 (by omega)]
  ·rw [if_neg (fun h => h3 h.2),if_neg (fun h => h3 h.2),hen 0 (by omega),sk_sub hb _ 0 (by omega)]; rfl
 ·obtain rfl : b = l.length := by omega
  rw [if_neg (by omega),if_neg (by omega),Nat.sub_self]
  have h1 := sk_sub (l := l) hb (0 + 1) 0 (by omega)
  rw [h1,Nat.add_zero,skG_no (by omega),skG_no (by omega),Nat.add_zero]
theorem nt_rng {l : List It} (h : ckL l = 0) {a b : Nat} {x : Int} (hx : 0 ≤ x) (hab : a ≤ b) (hb : b ≤ l.length) : 0 ≤ ntV l a b x ∧ ntV l a b x ≤ 524288 * 8193 := by
 have h1 := shN_le l a (b - a)
 have h2 := at_rng h (a := a) hx (shN l a (b - a)) (by omega)
 have h3 := pn_rng h b
 have h8 := ck_len h
 unfold ntV
 constructor
 ·omega
 ·have : 524288 * ((shN l a (b - a) : Nat) : Int) ≤ 524288 * 8192 := by omega
  omega
end Go.Proofs.YtlgcnbomfhmjiaaGreatDoor

namespace Go.Proofs.YtlgcnbomfhmjiaaGreatDoor
open Go.RowKit Go.Shelf
set_option maxRecDepth 100000
set_option maxHeartbeats 2000000

theorem fkeeps_any (n : Int) (w : World) : Calls Tryz.prog 178 #[.int .i64 n] w fun e w' => e = .returned (.bool (keB n 4095)) ∧ w' = w := by
 unfold keB
 by_cases h1 : 0 ≤ n
 ·by_cases h2 : n ≤ 4095
  ·rw [decide_eq_true ⟨h1,h2⟩]
   go_enter Tryz.func178,Tryz.ntmps178
   go_wp2
   go_ret
   exact ⟨rfl,rfl⟩
  ·rw [decide_eq_false (by omega)]
   go_enter Tryz.func178,Tryz.ntmps178
   go_wp2
   go_ret
   exact ⟨rfl,rfl⟩
 ·rw [decide_eq_false (by omega)]
  go_enter Tryz.func178,Tryz.ntmps178
  go_wp2
  go_ret
  exact ⟨rfl,rfl⟩
theorem okS_is (x y : Int) : okS ⟨x,y⟩ = (keB x 4095 && keB y 4095) := by
 unfold okS keB
 simp [Bool.decide_and]

theorem mayNot_any (s : Sl) (w : World) : Calls Tryz.prog 116 #[.agg (slL s).toArray] w fun e w' => e = .returned (.bool (!okS s)) ∧ Below w.heap.size w w' := by
 obtain ⟨x,y⟩ := s
 rw [okS_is]
 have hB := (Below.refl w.heap.size w).alloc (Nat.le_refl _) (.cells #[.int .i64 x,.int .i64 y] 53)
 have hx := fkeeps_any x (w.alloc (.cells #[.int .i64 x,.int .i64 y] 53))
 have hy := fkeeps_any y (w.alloc (.cells #[.int .i64 x,.int .i64 y] 53))
 show Calls Tryz.prog 116 #[.agg #[.int .i64 x,.int .i64 y]] w _
 cases h1 : keB x 4095 with
 | true =>
  cases h2 : keB y 4095 with
  | true =>
   rw [h1] at hx; rw [h2] at hy
   go_enter Tryz.func116,Tryz.ntmps116
   go_wp2_with (go_at_call 178; first | (with_reducible refine hx.mono ?_; rintro e w' ⟨rfl,rfl⟩) | (with_reducible refine hy.mono ?_; rintro e w' ⟨rfl,rfl⟩))
   go_ret
   exact ⟨rfl,hB⟩
  | false =>
   rw [h1] at hx; rw [h2] at hy
   go_enter Tryz.func116,Tryz.ntmps116
   go_wp2_with (go_at_call 178; first | (with_reducible refine hx.mono ?_; rintro e w' ⟨rfl,rfl⟩) | (with_reducible refine hy.mono ?_; rintro e w' ⟨rfl,rfl⟩))
   go_ret
   exact ⟨rfl,hB⟩
 | false =>
  rw [h1] at hx
  clear hy
  go_enter Tryz.func116,Tryz.ntmps116
  go_wp2_with (go_at_call 178; refine hx.mono ?_; rintro e w' ⟨rfl,rfl⟩)
  go_ret
  exact ⟨rfl,hB⟩
theorem sls_at {W : World} {a : Option Addr} {n cap : Nat} {ss : List Sl} (h : SlsAt W (.slice a n cap) ss) {i : Nat} (hi : i < ss.length) :
  ∃ b o,a = some ⟨b,o,none⟩ ∧ b < W.heap.size ∧ ∀ W',Below W.heap.size W W' → W'.cell? ⟨b,o + i * 2,none⟩ = some (.int .i64 ss[i].x) ∧ W'.cell? ⟨b,o + i * 2 + 1,none⟩ = some (.int .i64 ss[i].w) := by
 obtain ⟨a',cap',h1,h2⟩ := h.ex
 cases h1
 rcases h2 with h2 | ⟨b,o,rfl,hb,hc⟩
 ·subst h2; simp at hi
 ·exact ⟨b,o,rfl,hb,fun W' hW => ⟨(hW.cell hb).trans (hc i hi 0 _ rfl),(hW.cell hb).trans (hc i hi 1 _ rfl)⟩⟩
theorem sall_no {ss : List Sl} {i : Nat} (hi : i < ss.length) (h : okS ss[i] = false) : ss.all okS = false := by
 rw [List.all_eq_false]
 exact ⟨ss[i],List.getElem_mem hi,by rw [h]; decide⟩
theorem sall_yes {ss : List Sl} (h : ∀ i (hi : i < ss.length),okS ss[i] = true) : ss.all okS = true := by
 rw [List.all_eq_true]
 intro x hx
 obtain ⟨i,hi,rfl⟩ := List.getElem_of_mem hx
 exact h i hi

theorem sindex_any (v : Value) (l : List Sl) (hl : l.length ≤ 9223372036854775807) (w : World) (hS : SlsAt w v l) :
  Calls Tryz.prog 179 #[v,.func (.func 116) #[] #[]] w fun e w' => (∃ n : Int,e = .returned (.int .i64 n) ∧ decide (0 ≤ n) = !l.all okS) ∧ Below w.heap.size w w' := by
 obtain ⟨a,cap,rfl,-⟩ := hS.ex
 have hY : Hid (∀ k (hk : k < l.length),okS l[k] = false → decide ((0 : Int) ≤ (k : Nat)) = !l.all okS) := fun k hk e => by rw [sall_no hk e]; simp
 have hN : Hid ((∀ k (hk : k < l.length),okS l[k] = true) → decide ((0 : Int) ≤ -1) = !l.all okS) := fun h => by rw [sall_yes h]; simp
 have hSh : Hid (SlsAt w (.slice a l.length cap) l) := hS
 clear hS
 generalize (!l.all okS) = r at hY hN ⊢
 go_enter Tryz.func179,Tryz.ntmps179
 go_wp2_with fail
 go_loopw [8] (fun i wr => ∃ (k : Nat),k ≤ l.length ∧ i = .int .i64 k ∧ Below w.heap.size w wr ∧ Hid (∀ j (hj : j < l.length),j < k → okS l[j] = true)) (fun i _ => l.length - (intOf i).toNat)
 case atStart => exact ⟨0,by omega,rfl,Below.refl _ _,fun j _ hj => by omega⟩
 case round =>
  obtain ⟨k,hk,rfl,hb,hall⟩ := hrel
  by_cases hlt : k < l.length
  ·obtain ⟨b,o,rfl,hbl,hit⟩ := sls_at hSh.out hlt
   obtain ⟨c0,c1⟩ := hit wr hb
   have hlt' : (k : Int) < l.length := by omega
   have hm := mayNot_any l[k] wr
   have hyes : Hid (okS l[k] = false → decide ((0 : Int) ≤ (k : Nat)) = r) := hY.out k hlt
   have hno : Hid (okS l[k] = true → ∀ j (hj : j < l.length),j < k + 1 → okS l[j] = true) := fun hv j hj hjk => by
    by_cases h : j < k
    ·exact hall.out j hj h
    ·obtain rfl : j = k := by omega
     exact hv
   clear hY hN hall hit hSh
   generalize l[k] = it at *
   obtain ⟨x0,y0⟩ := it
   simp only at c0 c1
   have hm' : Hid (Calls Tryz.prog 116 #[.agg #[.int .i64 x0,.int .i64 y0]] wr fun e w' => e = .returned (.bool (!okS ⟨x0,y0⟩)) ∧ Below wr.heap.size wr w') := hm
   clear hm
   cases hv : okS ⟨x0,y0⟩ with
   | false =>
    have hn' : Hid (decide ((0 : Int) ≤ (k : Nat)) = r) := hyes.out hv
    rw [hv] at hm'
    clear hyes hno hv
    go_wp2_with (go_at_call 116; refine hm'.out.mono ?_; rintro e w' ⟨rfl,hb2⟩)
    go_ret
    exact ⟨⟨_,rfl,hn'.out⟩,hb.trans (hb2.mono hb.size)⟩
   | true =>
    have hn : Hid (∀ j (hj : j < l.length),j < k + 1 → okS l[j] = true) := hno.out hv
    rw [hv] at hm'
    clear hyes hno hv
    go_wp2_with (go_at_call 116; refine hm'.out.mono ?_; rintro e w' ⟨rfl,hb2⟩)
    go_roundw
    case rel => exact ⟨k + 1,by omega,by simp,hb.trans (hb2.mono hb.size),hn⟩
    case measure => simp [intOf]; omega
  ·have hn' : Hid (decide ((0 : Int) ≤ -1) = r) := hN.out (fun j hj => hall.out j hj (by omega))
   have hge : ¬ (k : Int) < l.length := by omega
   clear hY hN hall hSh
   go_wp2_with fail
   go_ret
   exact ⟨⟨_,rfl,hn'.out⟩,hb⟩

theorem fcheck_any (v : Value) (l : List Sl) (r : Sl) (hl : l.length ≤ 9223372036854775807) (w : World) (hS : SlsAt w v l) :
  Calls Tryz.prog 78 #[v,.agg (slL r).toArray] w fun e w' => e = .returned (.int .i64 (ckS l r)) ∧ Below w.heap.size w w' := by
 have hB := (Below.refl w.heap.size w).alloc (Nat.le_refl _) (.cells (slL r).toArray 53)
 have hS1 := hS.below hB (Nat.le_refl _)
 have hm : Hid (Calls Tryz.prog 116 #[.agg (slL r).toArray] (w.alloc (.cells (slL r).toArray 53)) fun e w' => e = .returned (.bool (!okS r)) ∧ Below (w.alloc (.cells (slL r).toArray 53)).heap.size (w.alloc (.cells (slL r).toArray 53)) w') := mayNot_any r _
 have hc : Hid (∀ W,Below (w.alloc (.cells (slL r).toArray 53)).heap.size (w.alloc (.cells (slL r).toArray 53)) W → Calls Tryz.prog 117 #[v,.func (.func 116) #[] #[]] W fun e w' => e = .returned (.bool (!l.all okS)) ∧ Below W.heap.size W w') := fun W hW => by
  have hi : Hid (Calls Tryz.prog 179 #[v,.func (.func 116) #[] #[]] W fun e w' => (∃ n : Int,e = .returned (.int .i64 n) ∧ decide (0 ≤ n) = !l.all okS) ∧ Below W.heap.size W w') := sindex_any v l hl W (hS1.below hW (Nat.le_refl _))
  obtain ⟨a,cap,rfl,-⟩ := hS.ex
  show Calls Tryz.prog 117 _ _ _
  clear hS hS1 hm hB
  generalize (!l.all okS) = q at *
  go_enter Tryz.func117,Tryz.ntmps117
  go_wp2_with (go_at_call 179; refine hi.out.mono ?_; rintro e w' ⟨⟨n,rfl,hn⟩,hb2⟩)
  go_ret
  exact ⟨by rw [← hn]; rfl,hb2⟩
 obtain ⟨a,cap,rfl,-⟩ := hS.ex
 clear hS hS1
 have hck : Hid (ckS l r = if 256 < l.length then 3 else if okS r = true ∧ l.all okS = true then 0 else 2) := rfl
 generalize hk : ckS l r = ck at *
 obtain ⟨x,y⟩ := r
 unfold slL at *
 simp only at *
 generalize hw1 : w.alloc (.cells [Value.int .i64 x,.int .i64 y].toArray 53) = w1 at *
 have hx1 : w1.cell? ⟨w.heap.size,0,none⟩ = some (.int .i64 x) := by rw [← hw1,Lib.cell_of_heap (World.alloc_heap_new w _)]; rfl
 have hy1 : w1.cell? ⟨w.heap.size,1,none⟩ = some (.int .i64 y) := by rw [← hw1,Lib.cell_of_heap (World.alloc_heap_new w _)]; rfl
 by_cases h1 : 256 < l.length
 ·have h1' : (256 : Int) < l.length := by omega
  have e : ck = 3 := by rw [hck.out,if_pos h1]
  subst e
  clear hm hc hck
  go_enter Tryz.func78,Tryz.ntmps78
  go_wp2_with fail
  go_ret
  exact ⟨rfl,hB⟩
 ·have h1' : ¬ (256 : Int) < l.length := by omega
  have e : Hid (ck = if okS ⟨x,y⟩ = true ∧ l.all okS = true then 0 else 2) := by show ck = _; rw [hck.out,if_neg h1]
  clear hck h1
  cases ho : okS ⟨x,y⟩ with
  | false =>
   have e2 : ck = 2 := by rw [e.out,ho,if_neg (by simp)]
   subst e2
   rw [ho] at hm
   clear e ho hc
   go_enter Tryz.func78,Tryz.ntmps78
   go_wp2_with (go_at_call 116; refine hm.out.mono ?_; rintro e w' ⟨rfl,hb2⟩)
   go_ret
   exact ⟨rfl,hB.trans (hb2.mono hB.size)⟩
  | true =>
   rw [ho] at hm
   cases ha : l.all okS with
   | false =>
    have e2 : ck = 2 := by rw [e.out,ho,ha,if_neg (by simp)]
    subst e2
    rw [ha] at hc
    clear e ho ha
    go_enter Tryz.func78,Tryz.ntmps78
    go_wp2_with (first | (go_at_call 116; refine hm.out.mono ?_; rintro e w2 ⟨rfl,hb2⟩) | (go_at_call 117; refine (hc.out w2 hb2).mono ?_; rintro e w3 ⟨rfl,hb3⟩))
    go_ret
    exact ⟨rfl,hB.trans ((hb2.trans (hb3.mono hb2.size)).mono hB.size)⟩
   | true =>
    have e2 : ck = 0 := by rw [e.out,ho,ha,if_pos (by simp)]
    subst e2
    rw [ha] at hc
    clear e ho ha
    go_enter Tryz.func78,Tryz.ntmps78
    go_wp2_with (first | (go_at_call 116; refine hm.out.mono ?_; rintro e w2 ⟨rfl,hb2⟩) | (go_at_call 117; refine (hc.out w2 hb2).mono ?_; rintro e w3 ⟨rfl,hb3⟩))
    go_ret
    exact ⟨rfl,hB.trans ((hb2.trans (hb3.mono hb2.size)).mono hB.size)⟩

theorem below2 (w : World) (x y : Obj) : Below w.heap.size w ((w.alloc x).alloc y) := ((Below.refl w.heap.size w).alloc (Nat.le_refl _) x).alloc (by simp) y

theorem alloc2_heap (w : World) (x y : Obj) : ((w.alloc x).alloc y).heap[w.heap.size + 1]? = some y := by
 have := World.alloc_heap_new (w.alloc x) y
 rwa [World.size_alloc] at this
theorem info25 (x y : Value) : (Tryz.prog.info? 53).map (·.size) = some (#[x,y] : Array Value).size := by show _ = some 2; kernel_rfl

theorem fslot_any (v : Value) (l : List Sl) (r : Sl) (n : Int) (_hl : l.length ≤ 9223372036854775807) (w : World) (hS : SlsAt w v l) :
  Calls Tryz.prog 37 #[v,.agg (slL r).toArray,.int .i64 n] w fun e w' => e = .returned (.agg (slL (slI l r n)).toArray) ∧ Below w.heap.size w w' := by
 obtain ⟨x,y⟩ := r
 obtain ⟨a,cap,rfl,-⟩ := hS.ex
 have hSh : Hid (SlsAt w (.slice a l.length cap) l) := hS
 clear hS
 show Calls Tryz.prog 37 #[.slice a l.length cap,.agg #[.int .i64 x,.int .i64 y],.int .i64 n] w _
 by_cases h0 : n < 0
 ·have e : slI l ⟨x,y⟩ n = ⟨0,0⟩ := if_pos h0
  rw [e]
  clear e hSh
  go_enter Tryz.func37,Tryz.ntmps37
  go_wp2_with fail
  exact bodyPost_ret (results_cell_row rfl _ _ (w.heap.size + 1) 53 _ (0,0) _ rfl (alloc2_heap w _ _) Tryz.underlying53 rfl (info25 _ _)) rfl ⟨rfl,below2 w _ _⟩
 ·obtain ⟨k,rfl⟩ : ∃ k : Nat,n = k := ⟨n.toNat,by omega⟩
  rw [slI_nat]
  by_cases hk : k < l.length
  ·rw [slN_in hk]
   have hk' : (k : Int) < l.length := by omega
   obtain ⟨b,o,rfl,hbl,hit⟩ := sls_at hSh.out hk
   obtain ⟨c0,c1⟩ := hit _ (below2 w (.cells #[.int .i64 x,.int .i64 y] 53) (.cells #[.int .i64 0,.int .i64 0] 53))
   clear hit hSh
   generalize l[k] = s at *
   obtain ⟨x1,y1⟩ := s
   simp only at c0 c1
   go_enter Tryz.func37,Tryz.ntmps37
   go_wp2_with fail
   exact bodyPost_ret (results_cell_row rfl _ _ (w.heap.size + 1) 53 _ (0,0) _ rfl (alloc2_heap w _ _) Tryz.underlying53 rfl (info25 _ _)) rfl ⟨rfl,below2 w _ _⟩
  ·rw [slN_out (by omega)]
   have hk' : ¬ (k : Int) < l.length := by omega
   clear hSh
   go_enter Tryz.func37,Tryz.ntmps37
   go_wp2_with fail
   exact bodyPost_ret (results_cell_row rfl _ _ (w.heap.size + 1) 53 _ (0,0) _ rfl (alloc2_heap w _ _) Tryz.underlying53 rfl (info25 _ _)) rfl ⟨rfl,below2 w _ _⟩

end Go.Proofs.YtlgcnbomfhmjiaaGreatDoor
