/-
  NtRest
-/
import Derived.Test.YtieklnlbljejdaaGreatDoorG38
namespace Go.Proofs.YtieklnlbljejdaaGreatDoor
open Go.RowKit St
namespace Rt
def IdleK (r r' : RtM) (i : Nat) : Prop := ∀ p, p ≠ i → Idle (r.P p) → Idle (r'.P p)
theorem IdleK.refl (r : RtM) (i : Nat) : IdleK r r i := fun _ _ h => h
theorem IdleK.trans {a b c : RtM} {i : Nat} (h : IdleK a b i) (g : IdleK b c i) : IdleK a c i := fun p hp hi => g p hp (h p hp hi)
theorem IdleK.setP (r : RtM) (i : Nat) (q : PtM) : IdleK r (r.setP i q) i := fun p hp h => by
 show Idle (updP r.P i q p)
 rw [updP_other _ _ hp]; exact h
theorem IdleK.of_P {r r' : RtM} (h : r'.P = r.P) (i : Nat) : IdleK r r' i := fun p _ hi => by rw [h]; exact hi
theorem IdleK.meet (r : RtM) (i : Nat) (q : PeerM) : IdleK r (r.meet i q) i := fun p hp h => by
 rw [(meet_same r i q).2.2.2, updP_other _ _ hp]; exact h
theorem idle_send {r : RtM} (t : Msg) {p : Nat} (h : Idle (r.P p)) : Idle ((r.send t).P p) := by
 unfold RtM.send
 split
 · exact h
 · split
   · exact h
   · rename_i b hb
     show Idle (updP r.P b _ p)
     by_cases e : p = b
     · subst e
       exfalso
       split at hb
       · cases ht : toH (hopsM r) t.1 with
         | none => rw [ht] at hb; simp at hb
         | some x =>
           rw [ht] at hb
           have hb2 : bestP r.P x.nxt r.n = some p := hb
           have := (bestP_some hb2).2.1
           rw [h.pe] at this
           exact absurd this (by decide)
       · simp at hb
     · rw [updP_other _ _ e]; exact h
theorem IdleK.send (r : RtM) (t : Msg) (i : Nat) : IdleK r (r.send t) i := fun _ _ h => idle_send t h
theorem IdleK.state (r : RtM) (i : Nat) (l : List UInt8) : IdleK r (stateM r i l) i := by
 unfold stateM
 simp only
 split
 · exact IdleK.refl r i
 · split
   · exact IdleK.of_P (behind_same _ _).2.2.2 i
   · split
     · exact (IdleK.of_P rfl i).trans (IdleK.setP _ _ _)
     · exact IdleK.of_P rfl i
theorem IdleK.take (r : RtM) (i : Nat) (c : UInt8) (s : List UInt8) : IdleK r (r.take i c s) i := by
 rw [take_eq]
 have h1 : IdleK r (linkM r i c s) i := by
  unfold linkM
  split
  · exact IdleK.setP _ _ _
  · exact IdleK.refl _ _
 split
 · exact h1.trans (IdleK.meet _ _ _)
 · refine h1.trans ?_
   unfold restM
   split
   · split
     · exact IdleK.meet _ _ _
     · exact IdleK.refl _ _
   · split
     · exact IdleK.state _ _ _
     · split
       · unfold heardM
         simp only
         split <;> exact IdleK.of_P rfl i
       · split
         · unfold msgM
           split
           · exact IdleK.send _ _ _
           · exact IdleK.refl _ _
         · exact IdleK.refl _ _
theorem IdleK.takes : ∀ (l : List (List UInt8)) (r : RtM) (i : Nat), IdleK r (r.takes i l) i
 | [], r, i => IdleK.refl r i
 | t :: l, r, i => by
   show IdleK r ((match t with | [] => r | c :: s => r.take i c s).takes i l) i
   refine IdleK.trans ?_ (IdleK.takes l _ i)
   cases t with
   | nil => exact IdleK.refl _ _
   | cons c s => exact IdleK.take r i c s
theorem IdleK.recv (r : RtM) (i : Nat) (l : List UInt8) : IdleK r (r.recv i l) i := by
 unfold RtM.recv
 simp only
 exact (IdleK.setP r i _).trans (IdleK.takes _ _ i)
theorem IdleK.plug (r : RtM) (i : Nat) (up : Bool) : IdleK r (r.plug i up).1 i := by
 unfold RtM.plug
 simp only
 split
 · exact IdleK.refl r i
 · exact (IdleK.setP r i _).trans (IdleK.meet _ _ _)
theorem tickPt_idle {p : PtM} (h : Idle p) : p.tick = p := by
 have h1 : tickL p.L = (p.L, []) := by
  have e1 : tickS p.L = p.L := by unfold tickS; simp [h.st]
  have e2 : tickO p.L = [] := by unfold tickO; simp [h.st]
  unfold tickL
  rw [e1, e2]
  simp [h.st]
 unfold PtM.tick
 rw [h1]
 rfl
theorem idle_tickP {r : RtM} (i : Nat) {p : Nat} (h : Idle (r.P p)) : Idle ((r.tickP i).P p) := by
 rw [tickP_eq]
 by_cases e : p = i
 · subst e
   have h1 : (tickR r p).P p = r.P p := by
    show updP r.P p (r.P p).tick p = _
    rw [updP_same, tickPt_idle h]
   rw [h1, if_pos (by rw [h.st]; decide), (meet_same _ _ _).2.2.2, updP_same, h1]
   exact ⟨h.st, rfl, h.out⟩
 · have h1 : Idle ((tickR r i).P p) := by
    show Idle (updP r.P i _ p)
    rw [updP_other _ _ e]; exact h
   split
   · exact IdleK.meet _ _ _ p e h1
   · exact IdleK.setP _ i _ p e (IdleK.meet _ _ _ p e h1)
theorem idle_ticks {r : RtM} {p : Nat} (h : Idle (r.P p)) : ∀ q, Idle ((r.ticks q).P p)
 | 0 => h
 | q + 1 => idle_tickP q (idle_ticks h q)
theorem idle_sendTo {r : RtM} (t : Int) (tx : List UInt8) {p : Nat} (h : Idle (r.P p)) : Idle ((sendTo r t tx).1.P p) := by
 unfold Rt.sendTo
 split
 · exact h
 · show Idle ((r.send (t, 8, tx)).P p)
   exact idle_send (t, 8, tx) h
structure NOk (y : NtM) (D k : Nat) : Prop where
 n1 : 1 ≤ y.n
 n6 : y.n ≤ 6
 c9 : y.nc ≤ 9
 en : ∀ c d, c < y.nc → d < 2 → ((y.C c).e d).1 < y.n ∧ ((y.C c).e d).2 < 3
 ds : ∀ c d c' d', c < y.nc → d < 2 → c' < y.nc → d' < 2 → (y.C c).e d = (y.C c').e d' → c = c' ∧ d = d'
 ms : ∀ i p, i < y.n → p < 3 → 1 ≤ y.ms i p ∧ y.ms i p ≤ 20
 rn : ∀ i, i < y.n → (y.R i).n = 3 ∧ (y.R i).id = (i : Int) + 1
 ok : ∀ i, i < y.n → ROk (y.R i)
 drop : ∀ i, i < y.n → 0 ≤ (y.R i).drop ∧ (y.R i).drop ≤ D
 ol : ∀ c d, c < y.nc → d < 2 → ((y.C c).on d).length ≤ 2000
 ib : ∀ i, i < y.n → (y.inb i).length ≤ D
 idle : ∀ i p, i < y.n → p < 3 → (∀ c d, c < y.nc → d < 2 → (y.C c).e d ≠ (i, p)) → Idle ((y.R i).P p)
 fit : ∀ i, i < y.n → (y.R i).inb.length ≤ k ∧ ∀ p, p < 3 → ((y.R i).P p).out.length ≤ 6000 * k
theorem NOk.mono {y : NtM} {D k D' k' : Nat} (h : NOk y D k) (hD : D ≤ D') (hk : k ≤ k') : NOk y D' k' :=
 ⟨h.n1, h.n6, h.c9, h.en, h.ds, h.ms, h.rn, h.ok, fun i hi => by have := h.drop i hi; omega, h.ol, fun i hi => by have := h.ib i hi; omega, h.idle, fun i hi => ⟨by have := (h.fit i hi).1; omega, fun p hp => by have := (h.fit i hi).2 p hp; omega⟩⟩
theorem NOk.fits {y : NtM} {D k : Nat} (h : NOk y D k) (hD : D ≤ 1000000000000000) {i : Nat} (hi : i < y.n) : Fit (y.R i) k :=
 ⟨(h.fit i hi).1, by have := h.drop i hi; omega, fun p hp => (h.fit i hi).2 p (by rw [(h.rn i hi).1] at hp; exact hp)⟩
theorem NOk.setR {y : NtM} {D k : Nat} (h : NOk y D k) {i : Nat} (hi : i < y.n) {r : RtM} {D' k' : Nat} (hD : D ≤ D') (hk : k ≤ k') (hn : r.n = 3 ∧ r.id = (i : Int) + 1) (hok : ROk r) (hd : 0 ≤ r.drop ∧ r.drop ≤ D') (hf : Fit r k')
 (hid : ∀ p, p < 3 → (∀ c d, c < y.nc → d < 2 → (y.C c).e d ≠ (i, p)) → Idle (r.P p)) : NOk (y.setR i r) D' k' := by
 have hR : ∀ j, (y.setR i r).R j = if j = i then r else y.R j := fun j => rfl
 refine ⟨h.n1, h.n6, h.c9, h.en, h.ds, h.ms, fun j hj => ?_, fun j hj => ?_, fun j hj => ?_, h.ol, fun j hj => Nat.le_trans (h.ib j hj) hD, fun j p hj hp hc => ?_, fun j hj => ?_⟩
 · rw [hR]; by_cases e : j = i
   · rw [if_pos e]; subst e; exact hn
   · rw [if_neg e]; exact h.rn j hj
 · rw [hR]; by_cases e : j = i
   · rw [if_pos e]; exact hok
   · rw [if_neg e]; exact h.ok j hj
 · rw [hR]; by_cases e : j = i
   · rw [if_pos e]; exact hd
   · rw [if_neg e]; have := h.drop j hj; omega
 · rw [hR]; by_cases e : j = i
   · rw [if_pos e]; subst e; exact hid p hp hc
   · rw [if_neg e]; exact h.idle j p hj hp hc
 · rw [hR]; by_cases e : j = i
   · rw [if_pos e]; exact ⟨hf.inb, fun p hp => hf.out p (by rw [hn.1]; exact hp)⟩
   · rw [if_neg e]; exact ⟨by have := (h.fit j hj).1; omega, fun p hp => by have := (h.fit j hj).2 p hp; omega⟩
theorem NOk.call {y : NtM} {D k : Nat} (h : NOk y D k) {i : Nat} (hi : i < y.n) {r : RtM} {g k' : Nat} (hk : k ≤ k') (hG : Grew (y.R i) r g) (hok : ROk r) (hf : Fit r k')
 (hid : ∀ p, p < 3 → (∀ c d, c < y.nc → d < 2 → (y.C c).e d ≠ (i, p)) → Idle ((y.R i).P p) → Idle (r.P p)) : NOk (y.setR i r) (D + g) k' := by
 have h1 := h.rn i hi
 have h2 := h.drop i hi
 have h3 := hG.lo
 have h4 := hG.hi
 exact h.setR hi (by omega) hk ⟨hG.n.trans h1.1, hG.id.trans h1.2⟩ hok (by omega) hf (fun p hp hc => hid p hp hc (h.idle i p hi hp hc))
theorem NOk.setC {y : NtM} {D k : Nat} (h : NOk y D k) {c : Nat} {cb : CbM} (he : c < y.nc → cb.e = (y.C c).e) (hl : c < y.nc → ∀ d, d < 2 → (cb.on d).length ≤ 2000) : NOk (y.setC c cb) D k := by
 have hC : ∀ x, x < y.nc → ((y.setC c cb).C x).e = (y.C x).e := fun x hx => by
  show (if x = c then cb else y.C x).e = _
  by_cases e : x = c
  · rw [if_pos e]; subst e; exact he hx
  · rw [if_neg e]
 refine ⟨h.n1, h.n6, h.c9, fun x d hx hd => by rw [hC x hx]; exact h.en x d hx hd, fun x d x' d' hx hd hx' hd' e => by rw [hC x hx, hC x' hx'] at e; exact h.ds x d x' d' hx hd hx' hd' e, h.ms, h.rn, h.ok, h.drop, fun x d hx hd => ?_, h.ib, fun i p hi hp hc => h.idle i p hi hp (fun x d hx hd => by have := hc x d hx hd; rwa [hC x hx] at this), h.fit⟩
 show ((if x = c then cb else y.C x).on d).length ≤ _
 by_cases e : x = c
 · rw [if_pos e]; subst e; exact hl hx d hd
 · rw [if_neg e]; exact h.ol x d hx hd
theorem NOk.tickR {y : NtM} {D k : Nat} (h : NOk y D k) (hD : D ≤ 1000000000000000) {i : Nat} (hi : i < y.n) : NOk (y.setR i (y.R i).tick) D (k + 6) := by
 have h1 := ticks_all (h.ok i hi) (h.fits hD hi) (y.R i).n (Nat.le_refl _)
 rw [(h.rn i hi).1] at h1
 have e : (y.R i).tick = (y.R i).ticks 3 := by unfold RtM.tick; rw [(h.rn i hi).1]
 rw [e]
 exact h.call hi (by omega) (Grew.ticks _ 3) h1.2.1 h1.2.2 (fun p _ _ hp => idle_ticks hp 3)
theorem NOk.recvR {y : NtM} {D k : Nat} (h : NOk y D k) (hD : D ≤ 1000000000000000) {c d : Nat} (hc : c < y.nc) (hd : d < 2) (l : List UInt8) (hl : l.length ≤ 2000) : NOk (y.setR ((y.C c).e d).1 ((y.R ((y.C c).e d).1).recv ((y.C c).e d).2 l)) (D + 2000) (k + 4000) := by
 obtain ⟨hi, hp⟩ := h.en c d hc hd
 have h1 := recv_all (h.ok _ hi) (h.fits hD hi) ((y.C c).e d).2 l
 exact h.call hi (by omega) ((Grew.recv _ _ l).mono hl) h1.1 (h1.2.mono (by omega)) (fun p _ hn hp => IdleK.recv _ _ l p (fun e => hn c d hc hd (by rw [e])) hp)
theorem NOk.plugR {y : NtM} {D k : Nat} (h : NOk y D k) (hD : D ≤ 1000000000000000) {c d : Nat} (hc : c < y.nc) (hd : d < 2) (up : Bool) : NOk (y.plugAt c d up) D (k + 1) := by
 obtain ⟨hi, hp⟩ := h.en c d hc hd
 have h1 := plug_all (h.ok _ hi) (h.fits hD hi) ((y.C c).e d).2 up
 exact h.call hi (by omega) (Grew.plug _ _ up) h1.1 h1.2 (fun p _ hn hp => IdleK.plug _ _ up p (fun e => hn c d hc hd (by rw [e])) hp)
theorem NOk.sendR {y : NtM} {D k : Nat} (h : NOk y D k) (hD : D ≤ 1000000000000000) {i : Nat} (hi : i < y.n) (t : Int) (tx : List UInt8) : NOk (y.setR i (sendTo (y.R i) t tx).1) (D + 1) (k + 1) := by
 have h1 := sendTo_all (h.ok i hi) (h.fits hD hi) t tx
 exact h.call hi (by omega) (Grew.sendTo _ t tx) h1.1 h1.2 (fun p _ _ hp => idle_sendTo t tx hp)
theorem newRt_ok {id : Int} {m : Nat → Int} (hid : 1 ≤ id ∧ id ≤ 6) (hm : ∀ i, i < 3 → 1 ≤ m i ∧ m i ≤ 20) : ROk (newRt id 3 m) := by
 refine ⟨hid, hm, fun i _ => PeOk.nobody hid.1, ⟨(1, []), ?_, ?_⟩, fun x hx => ?_⟩
 · show (if id = id then some ((1, []) : PS) else none) = _
   rw [if_pos rfl]
 · show stF id 1 [] = 0
   unfold stF
   have h1 : ¬ id < 1 := by omega
   have h2 : ¬ 6 < id := by omega
   simp [h1, h2, edgF]
 · have hx' : (if x = id then some ((1, []) : PS) else none).isSome = true := hx
   by_cases e : x = id
   · omega
   · rw [if_neg e] at hx'; simp at hx'
theorem newRt_fit {id : Int} {m : Nat → Int} (k : Nat) : Fit (newRt id 3 m) k := ⟨Nat.zero_le _, ⟨Int.le_refl _, by show (0 : Int) ≤ _; omega⟩, fun _ _ => Nat.zero_le _⟩
theorem newRt_idle (id : Int) (m : Nat → Int) (p : Nat) : Idle ((newRt id 3 m).P p) := ⟨rfl, rfl, rfl⟩
theorem NOk.gat1 {y : NtM} {D k : Nat} (h : NOk y D k) (hD : D ≤ 1000000000000000) {c d : Nat} (hc : c < y.nc) (hd : d < 2) : NOk (y.gat1 c d) D k := by
 obtain ⟨hi, hp⟩ := h.en c d hc hd
 unfold NtM.gat1
 have hf := h.fits hD hi
 have ho := h.ok _ hi
 have h1 : NOk (y.setR ((y.C c).e d).1 ((y.R ((y.C c).e d).1).out ((y.C c).e d).2)) D k := by
  refine h.setR hi (Nat.le_refl _) (Nat.le_refl _) (h.rn _ hi) (ho.setP _ _ rfl (fun hi => ho.pe _ hi)) (h.drop _ hi) (hf.setP _ _ (fun _ => Nat.zero_le _)) (fun p hp hn => ?_)
  exact IdleK.setP _ _ _ p (fun e => hn c d hc hd (by rw [e])) (h.idle _ p hi hp hn)
 refine h1.setC (fun _ => ?_) (fun _ d' hd' => ?_)
 · unfold CbM.put
   split <;> rfl
 · unfold CbM.put
   split
   · rename_i hx
     show (upN (y.C c).on d _ d').length ≤ 2000
     by_cases e : d' = d
     · subst e; rw [upN_same, List.length_append]; exact hx.2
     · rw [upN_other _ _ e]; exact h.ol c d' hc hd'
   · exact h.ol c d' hc hd'
theorem gat1_same (y : NtM) (c d : Nat) : (y.gat1 c d).n = y.n ∧ (y.gat1 c d).nc = y.nc ∧ (y.gat1 c d).ms = y.ms ∧ (y.gat1 c d).inb = y.inb ∧ ∀ x, ((y.gat1 c d).C x).e = (y.C x).e ∧ ((y.gat1 c d).C x).inn = (y.C x).inn := by
 refine ⟨rfl, rfl, rfl, rfl, fun x => ?_⟩
 show (if x = c then (y.C c).put d _ else y.C x).e = _ ∧ (if x = c then (y.C c).put d _ else y.C x).inn = _
 by_cases e : x = c
 · rw [if_pos e]
   subst e
   unfold CbM.put
   split <;> exact ⟨rfl, rfl⟩
 · rw [if_neg e]; exact ⟨rfl, rfl⟩
theorem gatC_same (y : NtM) : ∀ k, (y.gatC k).n = y.n ∧ (y.gatC k).nc = y.nc ∧ (y.gatC k).ms = y.ms ∧ (y.gatC k).inb = y.inb ∧ ∀ x, ((y.gatC k).C x).e = (y.C x).e ∧ ((y.gatC k).C x).inn = (y.C x).inn
 | 0 => ⟨rfl, rfl, rfl, rfl, fun _ => ⟨rfl, rfl⟩⟩
 | k + 1 => by
   obtain ⟨a1, a2, a3, a4, a5⟩ := gatC_same y k
   obtain ⟨b1, b2, b3, b4, b5⟩ := gat1_same (y.gatC k) k 0
   obtain ⟨c1, c2, c3, c4, c5⟩ := gat1_same ((y.gatC k).gat1 k 0) k 1
   exact ⟨c1.trans (b1.trans a1), c2.trans (b2.trans a2), c3.trans (b3.trans a3), c4.trans (b4.trans a4), fun x => ⟨(c5 x).1.trans ((b5 x).1.trans (a5 x).1), (c5 x).2.trans ((b5 x).2.trans (a5 x).2)⟩⟩
theorem NOk.gatC {y : NtM} {D k : Nat} (h : NOk y D k) (hD : D ≤ 1000000000000000) : ∀ q, q ≤ y.nc → NOk (y.gatC q) D k
 | 0, _ => h
 | q + 1, hq => by
   have h1 := NOk.gatC h hD q (by omega)
   have e1 : (y.gatC q).nc = y.nc := (gatC_same y q).2.1
   have h2 := h1.gat1 hD (c := q) (d := 0) (by rw [e1]; omega) (by omega)
   exact h2.gat1 hD (c := q) (d := 1) (by show q < (y.gatC q).nc; rw [e1]; omega) (by omega)
theorem gat1_P (y : NtM) (c d i p : Nat) : ((y.gat1 c d).R i).P p = if (y.C c).e d = (i, p) then { (y.R i).P p with out := [] } else (y.R i).P p := by
 show ((upN y.R ((y.C c).e d).1 ((y.R ((y.C c).e d).1).out ((y.C c).e d).2)) i).P p = _
 by_cases e : i = ((y.C c).e d).1
 · rw [e, upN_same]
   show updP _ ((y.C c).e d).2 _ p = _
   by_cases e2 : p = ((y.C c).e d).2
   · rw [e2, updP_same, if_pos rfl]
   · rw [updP_other _ _ e2, if_neg (fun h => e2 (by rw [h]))]
 · rw [upN_other _ _ e, if_neg (fun h => e (by rw [h]))]
theorem gat1_out {y : NtM} (c d i p : Nat) (h : (y.C c).e d = (i, p) ∨ ((y.R i).P p).out = []) : (((y.gat1 c d).R i).P p).out = [] := by
 rw [gat1_P]
 rcases h with h | h
 · rw [if_pos h]
 · split
   · rfl
   · exact h
theorem gatC_out {y : NtM} (i p : Nat) : ∀ q, ((y.R i).P p).out = [] ∨ (∃ c d, c < q ∧ d < 2 ∧ (y.C c).e d = (i, p)) → (((y.gatC q).R i).P p).out = []
 | 0, h => by
   rcases h with h | ⟨c, _, hc, _⟩
   · exact h
   · omega
 | q + 1, h => by
   have hs := gatC_same y q
   have hs1 := gat1_same (y.gatC q) q 0
   by_cases h0 : ((y.R i).P p).out = [] ∨ (∃ c d, c < q ∧ d < 2 ∧ (y.C c).e d = (i, p))
   · have ih := gatC_out i p q h0
     exact gat1_out _ _ _ _ (.inr (gat1_out _ _ _ _ (.inr ih)))
   · rcases h with h | ⟨c, d, hc, hd, he⟩
     · exact absurd (.inl h) h0
     · have hcq : c = q := by
        rcases Nat.lt_or_ge c q with h1 | h1
        · exact absurd (.inr ⟨c, d, h1, hd, he⟩) h0
        · omega
       subst hcq
       have hd2 : d = 0 ∨ d = 1 := by omega
       rcases hd2 with rfl | rfl
       · exact gat1_out _ _ _ _ (.inr (gat1_out _ _ _ _ (.inl ((hs.2.2.2.2 c).1 ▸ he))))
       · refine gat1_out _ _ _ _ (.inl ?_)
         rw [(hs1.2.2.2.2 c).1, (hs.2.2.2.2 c).1]
         exact he
theorem NOk.outs {y : NtM} {D k : Nat} (h : NOk y D k) {i p : Nat} (hi : i < y.n) (hp : p < 3) : (((y.gatC y.nc).R i).P p).out = [] := by
 by_cases hx : ∃ c d, c < y.nc ∧ d < 2 ∧ (y.C c).e d = (i, p)
 · exact gatC_out i p _ (.inr hx)
 · exact gatC_out i p _ (.inl (h.idle i p hi hp (fun c d hc hd e => hx ⟨c, d, hc, hd, e⟩)).out)
theorem gatI_same (y : NtM) : ∀ k, (y.gatI k).n = y.n ∧ (y.gatI k).nc = y.nc ∧ (y.gatI k).ms = y.ms ∧ (y.gatI k).C = y.C
 | 0 => ⟨rfl, rfl, rfl, rfl⟩
 | k + 1 => gatI_same y k
theorem gatI_R (y : NtM) (i : Nat) : ∀ k, (y.gatI k).R i = (if i < k then { y.R i with inb := [] } else y.R i) ∧ (y.gatI k).inb i = if i < k then y.inb i ++ (y.R i).inb else y.inb i
 | 0 => by simp [NtM.gatI]
 | k + 1 => by
   obtain ⟨h1, h2⟩ := gatI_R y i k
   show upN (y.gatI k).R k { (y.gatI k).R k with inb := [] } i = _ ∧ upN (y.gatI k).inb k ((y.gatI k).inb k ++ ((y.gatI k).R k).inb) i = _
   by_cases e : i = k
   · subst e
     rw [upN_same, upN_same, h1, h2, if_neg (Nat.lt_irrefl i), if_neg (Nat.lt_irrefl i), if_pos (Nat.lt_succ_self i), if_pos (Nat.lt_succ_self i)]
     exact ⟨rfl, rfl⟩
   · rw [upN_other _ _ e, upN_other _ _ e, h1, h2]
     by_cases e2 : i < k
     · have e3 : i < k + 1 := by omega
       rw [if_pos e2, if_pos e3, if_pos e2, if_pos e3]; exact ⟨rfl, rfl⟩
     · have e3 : ¬ i < k + 1 := by omega
       rw [if_neg e2, if_neg e3, if_neg e2, if_neg e3]; exact ⟨rfl, rfl⟩
theorem NOk.gatI {y : NtM} {D k : Nat} (h : NOk y D k) (q : Nat) : NOk (y.gatI q) (D + k) k := by
 obtain ⟨e1, e2, e3, e4⟩ := gatI_same y q
 have hR : ∀ i, ((y.gatI q).R i).n = (y.R i).n ∧ ((y.gatI q).R i).id = (y.R i).id ∧ ((y.gatI q).R i).P = (y.R i).P ∧ ((y.gatI q).R i).drop = (y.R i).drop ∧ ((y.gatI q).R i).K = (y.R i).K ∧ ((y.gatI q).R i).inb.length ≤ (y.R i).inb.length := fun i => by
  rw [(gatI_R y i q).1]
  split
  · exact ⟨rfl, rfl, rfl, rfl, rfl, Nat.zero_le _⟩
  · exact ⟨rfl, rfl, rfl, rfl, rfl, Nat.le_refl _⟩
 refine ⟨by rw [e1]; exact h.n1, by rw [e1]; exact h.n6, by rw [e2]; exact h.c9, fun c d hc hd => ?_, fun c d c' d' hc hd hc' hd' => ?_, fun i p hi hp => ?_, fun i hi => ?_, fun i hi => ?_, fun i hi => ?_, fun c d hc hd => ?_, fun i hi => ?_, fun i p hi hp hn => ?_, fun i hi => ?_⟩
 · rw [e4, e1]; rw [e2] at hc; exact h.en c d hc hd
 · rw [e4]; rw [e2] at hc hc'; exact h.ds c d c' d' hc hd hc' hd'
 · rw [e3]; rw [e1] at hi; exact h.ms i p hi hp
 · rw [e1] at hi; rw [(hR i).1, (hR i).2.1]; exact h.rn i hi
 · rw [e1] at hi
   have ho := h.ok i hi
   rw [(gatI_R y i q).1]
   split
   · exact ⟨ho.id, ho.m, ho.pe, ho.own, ho.rng⟩
   · exact ho
 · rw [e1] at hi; rw [(hR i).2.2.2.1]; have := h.drop i hi; omega
 · rw [e4]; rw [e2] at hc; exact h.ol c d hc hd
 · rw [e1] at hi
   rw [(gatI_R y i q).2]
   have h1 := h.ib i hi
   have h2 := (h.fit i hi).1
   split
   · rw [List.length_append]; omega
   · omega
 · rw [e1] at hi; rw [(hR i).2.2.1]
   exact h.idle i p hi hp (fun c d hc hd => by have := hn c d (by rw [e2]; exact hc) hd; rwa [e4] at this)
 · rw [e1] at hi
   have h1 := h.fit i hi
   rw [(hR i).2.2.1]
   exact ⟨Nat.le_trans (hR i).2.2.2.2.2 h1.1, h1.2⟩
theorem NOk.gather {y : NtM} {D k : Nat} (h : NOk y D k) (hD : D ≤ 1000000000000000) : NOk y.gather (D + k) 0 := by
 unfold NtM.gather
 obtain ⟨s1, s2, s3, s4, s5⟩ := gatC_same y y.nc
 have h1 := h.gatC hD y.nc (Nat.le_refl _)
 have h2 := h1.gatI y.n
 obtain ⟨e1, e2, e3, e4⟩ := gatI_same (y.gatC y.nc) y.n
 refine ⟨h2.n1, h2.n6, h2.c9, h2.en, h2.ds, h2.ms, h2.rn, h2.ok, h2.drop, h2.ol, h2.ib, h2.idle, fun i hi => ?_⟩
 have hi' : i < y.n := by rw [e1, s1] at hi; exact hi
 rw [(gatI_R (y.gatC y.nc) i y.n).1, if_pos hi']
 refine ⟨Nat.le_refl _, fun p hp => ?_⟩
 show (((y.gatC y.nc).R i).P p).out.length ≤ _
 rw [h.outs hi' hp]
 exact Nat.zero_le _
theorem gather_same (y : NtM) : y.gather.n = y.n ∧ y.gather.nc = y.nc ∧ y.gather.ms = y.ms ∧ ∀ x, (y.gather.C x).e = (y.C x).e ∧ (y.gather.C x).inn = (y.C x).inn := by
 unfold NtM.gather
 obtain ⟨s1, s2, s3, s4, s5⟩ := gatC_same y y.nc
 obtain ⟨e1, e2, e3, e4⟩ := gatI_same (y.gatC y.nc) y.n
 exact ⟨e1.trans s1, e2.trans s2, e3.trans s3, fun x => by rw [e4]; exact s5 x⟩
theorem NOk.plug1 {y : NtM} {D k : Nat} (h : NOk y D k) (hD : D ≤ 1000000000000000) {c : Nat} (hc : c < y.nc) (up : Bool) : NOk (y.plug1 c up) D (k + 2) := by
 unfold NtM.plug1
 have h1 : NOk (y.setC c { y.C c with inn := up, on := fun _ => [] }) D k := h.setC (fun _ => rfl) (fun _ _ _ => Nat.zero_le _)
 exact (h1.plugR hD (c := c) (d := 0) hc (by omega) up).plugR hD (c := c) (d := 1) hc (by omega) up
theorem plug1_same (y : NtM) (c : Nat) (up : Bool) : (y.plug1 c up).n = y.n ∧ (y.plug1 c up).nc = y.nc ∧ (y.plug1 c up).ms = y.ms ∧ (y.plug1 c up).inb = y.inb ∧ ∀ x, ((y.plug1 c up).C x).e = (y.C x).e ∧ ((y.plug1 c up).C x).inn = if x = c then up else (y.C x).inn := by
 refine ⟨rfl, rfl, rfl, rfl, fun x => ?_⟩
 show (if x = c then ({ y.C c with inn := up, on := fun _ => [] } : CbM) else y.C x).e = _ ∧ (if x = c then ({ y.C c with inn := up, on := fun _ => [] } : CbM) else y.C x).inn = _
 by_cases e : x = c
 · rw [if_pos e, if_pos e]; subst e; exact ⟨rfl, rfl⟩
 · rw [if_neg e, if_neg e]; exact ⟨rfl, rfl⟩
theorem NOk.plugs {D : Nat} (hD : D ≤ 1000000000000000) (up : Bool) : ∀ (l : List Nat) {y : NtM} {k : Nat}, NOk y D k → (∀ c ∈ l, c < y.nc) → NOk (y.plugs up l) D (k + 2 * l.length)
 | [], _, _, h, _ => h
 | c :: l, y, k, h, hl => by
   have h1 := h.plug1 hD (hl c (by simp)) up
   have := NOk.plugs hD up l h1 (fun x hx => hl x (by simp [hx]))
   exact this.mono (Nat.le_refl _) (by simp; omega)
theorem plugs_same (up : Bool) : ∀ (l : List Nat) (y : NtM), (y.plugs up l).n = y.n ∧ (y.plugs up l).nc = y.nc ∧ (y.plugs up l).ms = y.ms ∧ (y.plugs up l).inb = y.inb ∧ ∀ x, ((y.plugs up l).C x).e = (y.C x).e
 | [], y => ⟨rfl, rfl, rfl, rfl, fun _ => rfl⟩
 | c :: l, y => by
   obtain ⟨h1, h2, h3, h4, h5⟩ := plugs_same up l (y.plug1 c up)
   obtain ⟨g1, g2, g3, g4, g5⟩ := plug1_same y c up
   exact ⟨h1.trans g1, h2.trans g2, h3.trans g3, h4.trans g4, fun x => (h5 x).trans (g5 x).1⟩
theorem NOk.plug {y : NtM} {D : Nat} (h : NOk y D 0) (hD : D ≤ 1000000000000000) (i : Int) (up : Bool) : NOk (y.plug i up).1 (D + 2) 0 := by
 unfold NtM.plug
 split
 · exact h.mono (by omega) (Nat.le_refl _)
 · split
   · exact h.mono (by omega) (Nat.le_refl _)
   · exact (h.plug1 hD (by omega) up).gather hD
theorem NOk.tick {y : NtM} {D : Nat} (h : NOk y D 0) (hD : D ≤ 1000000000000000) (i : Int) : NOk (y.tick i).1 (D + 6) 0 := by
 unfold NtM.tick
 split
 · exact h.mono (by omega) (Nat.le_refl _)
 · exact (h.tickR hD (by omega)).gather hD
theorem NOk.recvAt {y : NtM} {D k : Nat} (h : NOk y D k) (hD : D ≤ 1000000000000000) {c d q : Nat} (hc : c < y.nc) (hd : d < 2) : NOk (y.recvAt c d q) (D + 2000) (k + 4000) := by
 have hl : ((y.C c).on d).length ≤ 2000 := h.ol c d hc hd
 unfold NtM.recvAt
 have h1 : NOk (y.setC c { y.C c with on := upN (y.C c).on d (((y.C c).on d).drop q) }) D k := h.setC (fun _ => rfl) (fun _ d' hd' => by
  show (upN (y.C c).on d _ d').length ≤ _
  by_cases e : d' = d
  · subst e; rw [upN_same, List.length_drop]; omega
  · rw [upN_other _ _ e]; exact h.ol c d' hc hd')
 have h2 := h1.recvR hD (c := c) (d := 1 - d) hc (by omega) (((y.C c).on d).take q) (by rw [List.length_take]; omega)
 have e : ((y.setC c { y.C c with on := upN (y.C c).on d (((y.C c).on d).drop q) }).C c).e = (y.C c).e := by
  show (if c = c then _ else y.C c).e = _
  rw [if_pos rfl]
 rw [e] at h2
 exact h2
theorem NOk.deliver {y : NtM} {D : Nat} (h : NOk y D 0) (hD : D ≤ 100000000000000) (i d many : Int) : NOk (y.deliver i d many).1 (D + 6000) 0 := by
 unfold NtM.deliver
 split
 · exact h.mono (by omega) (Nat.le_refl _)
 · exact ((h.recvAt (by omega) (by omega) (by omega)).gather (by omega)).mono (by omega) (Nat.le_refl _)
theorem NOk.spoil {y : NtM} {D : Nat} (h : NOk y D 0) (hD : D ≤ 1000000000000000) (i d j : Int) (t : UInt8) : NOk (y.spoil i d j t).1 D 0 := by
 unfold NtM.spoil
 split
 · exact h
 · split
   · exact h
   · refine NOk.gather (k := 0) (h.setC (fun _ => rfl) (fun hc d' hd' => ?_)) hD
     show (upN (y.C i.toNat).on d.toNat _ d').length ≤ _
     by_cases e : d' = d.toNat
     · subst e; rw [upN_same, List.length_set]; exact h.ol _ _ hc hd'
     · rw [upN_other _ _ e]; exact h.ol _ d' hc hd'
theorem cabsIn_lt {y : NtM} {k : Nat} : ∀ c ∈ y.cabsIn k, c < y.nc := fun c hc => by
 unfold NtM.cabsIn at hc
 exact List.mem_range.1 (List.mem_filter.1 hc).1
theorem cabsIn_len (y : NtM) (k : Nat) : (y.cabsIn k).length ≤ y.nc := by
 unfold NtM.cabsIn
 have := List.length_filter_le (fun c => (y.C c).inn && (((y.C c).e 0).1 == k || ((y.C c).e 1).1 == k)) (List.range y.nc)
 simpa using this
theorem NOk.anew {y : NtM} {D k : Nat} (h : NOk y D k) (i : Nat) (hi : i < y.n) : NOk (y.setR i (newRt ((i : Int) + 1) 3 (y.ms i))) D k :=
 h.setR hi (Nat.le_refl _) (Nat.le_refl _) ⟨rfl, rfl⟩ (newRt_ok (by have := h.n6; omega) (fun p hp => h.ms i p hi hp)) ⟨Int.le_refl _, by show (0 : Int) ≤ _; omega⟩ (newRt_fit k) (fun p _ _ => newRt_idle _ _ p)
theorem NOk.restart {y : NtM} {D : Nat} (h : NOk y D 0) (hD : D ≤ 1000000000000000) (i : Int) : NOk (y.restart i).1 (D + 36) 0 := by
 unfold NtM.restart
 split
 · exact h.mono (by omega) (Nat.le_refl _)
 · have hl := cabsIn_len y (i - 1).toNat
   have h9 := h.c9
   have h1 := NOk.plugs hD false (y.cabsIn (i - 1).toNat) h cabsIn_lt
   obtain ⟨s1, s2, s3, s4, s5⟩ := plugs_same false (y.cabsIn (i - 1).toNat) y
   have h2 := h1.anew (i - 1).toNat (by rw [s1]; omega)
   have e : (((i - 1).toNat : Nat) : Int) + 1 = i := by omega
   rw [e, s3] at h2
   have h3 := NOk.plugs hD true (y.cabsIn (i - 1).toNat) h2 (fun c hc => by
    show c < (y.plugs false (y.cabsIn (i - 1).toNat)).nc
    rw [s2]; exact cabsIn_lt c hc)
   exact (h3.gather hD).mono (by omega) (Nat.le_refl _)
theorem NOk.send {y : NtM} {D : Nat} (h : NOk y D 0) (hD : D ≤ 100000000000000) (f t : Int) (tx : List UInt8) : NOk (y.send f t tx).1 (D + 2) 0 := by
 unfold NtM.send
 split
 · exact h.mono (by omega) (Nat.le_refl _)
 · split
   · exact h.mono (by omega) (Nat.le_refl _)
   · exact (h.sendR (by omega) (by omega) t tx).gather (by omega)
end Rt
end Go.Proofs.YtieklnlbljejdaaGreatDoor
