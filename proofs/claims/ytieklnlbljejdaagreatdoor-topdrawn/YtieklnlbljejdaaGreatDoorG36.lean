/-
  NtMem NtMap NtNewR
-/
import Derived.Test.YtieklnlbljejdaaGreatDoorG28
import Derived.Test.YtieklnlbljejdaaGreatDoorG35
import Derived.DeepKeys4
namespace Go.Proofs.YtieklnlbljejdaaGreatDoor
open Go.RowKit St
namespace Rt
def Zt.plus (z : Zt) (X : Nat → Prop) : Zt := { z with fm := { z.fm with no := fun k => z.fm.no k ∨ X k } }
theorem RtR.besides {w w' : World} {z : Zt} {r : RtM} (h : RtR w z r) (hs : w.heap.size ≤ w'.heap.size) (hk : ∀ k, k < w.heap.size → (¬ z.fm.no k ∨ z.mine r.n k) → w'.heap[k]? = w.heap[k]?)
 (X : Nat → Prop) (hX : ∀ k, X k → w.heap.size ≤ k ∧ k < w'.heap.size) : RtR w' (z.plus X) r := by
 have hm : ∀ k, z.mine r.n k → w'.heap[k]? = w.heap[k]? := fun k e => hk k (h.mineLt k e) (.inr e)
 have hbs := h.bs.still hs (fun j hj hn => hk j hj (.inl hn)) h.nb.1 h.nb.2.1 h.nb.2.2 (fun k => z.fm.no k ∨ X k) (fun j hj => hj.imp_right (fun e => (hX j e).1)) (fun j hj => hj.elim (fun e => Nat.lt_of_lt_of_le (h.bs.nob j e) hs) (fun e => (hX j e).2))
 have hBbl : z.Bb < w.heap.size := by obtain ⟨_, _, hF, _⟩ := h.bs.ex; exact hF.lt
 have hfgl : z.fm.g < w.heap.size := by obtain ⟨_, _, hF, _⟩ := h.bs.ex; exact hF.row.lt _ rfl
 refine ⟨h.n1, h.n3, h.ncap, h.id, h.blk.keep (hm _ (.inl rfl)), fun i hi => ?_, h.ib.keep hs (fun k e => hm k (.inr (.inr (.inr e)))), hbs, h.bl, fun k e => .inl (h.no k e), ⟨fun e => ?_, fun e => ?_, fun b hb e => ?_⟩, h.sR, h.sB, h.sV, h.sI, h.nz0⟩
 · have hp := h.pt i hi
   obtain ⟨F, hC, hF⟩ := hp.cel
   exact ⟨⟨F, hC.keep (hm _ (.inr (.inl rfl))), hF⟩, hp.lk.keep (hm _ (.inr (.inr (.inl ⟨i, hi, .inl rfl⟩)))), hp.ou.keep hs (fun x hx => hm x (.inr (.inr (.inl ⟨i, hi, .inr hx⟩)))), hp.few, hp.ok, hp.gB, hp.vg, hp.vB, hp.nz⟩
 · rcases e with e | e
   · exact h.nb.1 e
   · have h8 : w.heap.size ≤ z.Bb := (hX _ e).1
     omega
 · rcases e with e | e
   · exact h.nb.2.1 e
   · have h8 : w.heap.size ≤ z.fm.g := (hX _ e).1
     omega
 · rcases e with e | e
   · exact h.nb.2.2 b hb e
   · have h9 := h.bs.mlt b hb
     have h8 := (hX _ e).1
     omega
inductive Lab where
 | N
 | R
 | I
 | C
 | ib (i : Nat)
 | on (c d : Nat)
structure Yt where
 N : Nat
 gR : Nat
 capR : Nat
 gI : Nat
 capI : Nat
 gC : Option Nat
 capC : Nat
 bM : Nat
 z : Nat → Zt
 iv : Nat → Value
 ov : Nat → Nat → Value
 ext : Nat → Prop
def Yt.at (y : Yt) : Lab → Option Nat
 | .N => some y.N
 | .R => some y.gR
 | .I => some y.gI
 | .C => y.gC
 | .ib i => (y.iv i).ownBlock
 | .on c d => (y.ov c d).ownBlock
def Yt.own (y : Yt) (k : Nat) : Prop := ∃ l, y.at l = some k
def Zt.foot (z : Zt) (k : Nat) : Prop := z.mine 3 k ∨ k = z.fm.bm ∨ k ∈ z.fm.bs
def Yt.away (y : Yt) (n i k : Nat) : Prop := y.own k ∨ y.ext k ∨ ∃ j, j < n ∧ j ≠ i ∧ (y.z j).foot k
def Yt.all (y : Yt) (n k : Nat) : Prop := y.own k ∨ ∃ j, j < n ∧ (y.z j).foot k
def Yt.cv (y : Yt) (nc : Nat) : Value := match y.gC with | none => .slice none 0 0 | some g => .slice (some ⟨g, 0, none⟩) nc y.capC
def cbF (c : CbM) (o : Nat → Value) : Nat → Value := fun j =>
 if j = 0 then .int .i64 (((c.e 0).1 : Int) + 1) else if j = 1 then .int .i64 ((c.e 0).2 : Int) else if j = 2 then .int .i64 (((c.e 1).1 : Int) + 1) else if j = 3 then .int .i64 ((c.e 1).2 : Int)
 else if j = 4 then .bool c.inn else if j = 5 then o 0 else o 1
def endV (r p : Int) : Value := .agg #[.int .i64 r, .int .i64 p]
def EMap (w : World) (b : Nat) (E : List (Int × Int × Int)) : Prop := ∃ es clock, w.heap[b]? = some (.map es clock) ∧ es.toList.map (fun e => (e.key, e.val)) = E.map fun x => (endV x.1 x.2.1, .int .i64 x.2.2)
def EOk (E : List (Int × Int × Int)) : Prop := ∀ x ∈ E, (1 ≤ x.1 ∧ x.1 ≤ 6 ∧ 0 ≤ x.2.1 ∧ x.2.1 ≤ 2) ∧ lookE E x.1 x.2.1 = some x.2.2
def TellsM (E : List (Int × Int × Int)) (n : Nat) (ms : Nat → Nat → Int) : Prop := (∀ (i p : Nat), i < n → p < 3 → (lookE E ((i : Int) + 1) (p : Int)).getD 1 = ms i p ∧ 1 ≤ ms i p ∧ ms i p ≤ 20) ∧ EOk E
structure NetR (w : World) (y : Yt) (n : NtM) : Prop where
 n1 : 1 ≤ n.n
 n6 : n.n ≤ 6
 c9 : n.nc ≤ 9
 blk : Blk w y.N #[.slice (some ⟨y.gR, 0, none⟩) n.n y.capR, .slice (some ⟨y.gI, 0, none⟩) n.n y.capI, .map (some y.bM), y.cv n.nc] 190
 rr : Cel w y.gR 0 n.n (fun i => .pointer (some ⟨(y.z i).R, 0, none⟩))
 ri : Cel w y.gI 0 n.n y.iv
 rc : ∀ g, y.gC = some g → ∀ c, c < n.nc → Cel w g (c * 7) 7 (cbF (n.C c) (y.ov c))
 gc : ∀ c, c < n.nc → ∃ g, y.gC = some g
 mp : ∃ E, EMap w y.bM E ∧ TellsM E n.n n.ms
 rt : ∀ i, i < n.n → RtR w (y.z i) (n.R i)
 rn : ∀ i, i < n.n → (n.R i).n = 3 ∧ (n.R i).id = (i : Int) + 1
 ib : ∀ i, i < n.n → Row w 3 (y.iv i) (n.inb i).length (msgC (n.inb i))
 ob : ∀ c d, c < n.nc → d < 2 → Row w 1 (y.ov c d) ((n.C c).on d).length (cells8 ((n.C c).on d))
 ol : ∀ c d, c < n.nc → d < 2 → ((n.C c).on d).length ≤ 2000
 en : ∀ c d, c < n.nc → d < 2 → ((n.C c).e d).1 < n.n ∧ ((n.C c).e d).2 < 3
 inj : ∀ l l' k, y.at l = some k → y.at l' = some k → l = l'
 away : ∀ i, i < n.n → ∀ k, y.away n.n i k → (y.z i).fm.no k ∧ ¬ (y.z i).mine 3 k
 nx : ∀ k, y.ext k → ¬ y.own k
 nM : ¬ y.own y.bM ∧ ¬ y.ext y.bM ∧ ∀ i, i < n.n → ¬ (y.z i).foot y.bM
 z0 : ¬ y.own 0
structure Yt.same (y y' : Yt) : Prop where
 N : y'.N = y.N
 gR : y'.gR = y.gR
 capR : y'.capR = y.capR
 gI : y'.gI = y.gI
 capI : y'.capI = y.capI
 gC : y'.gC = y.gC
 capC : y'.capC = y.capC
 bM : y'.bM = y.bM
theorem Yt.same_refl (y : Yt) : y.same y := ⟨rfl, rfl, rfl, rfl, rfl, rfl, rfl, rfl⟩
theorem Yt.same_trans {a b c : Yt} (h : a.same b) (k : b.same c) : a.same c := ⟨k.N.trans h.N, k.gR.trans h.gR, k.capR.trans h.capR, k.gI.trans h.gI, k.capI.trans h.capI, k.gC.trans h.gC, k.capC.trans h.capC, k.bM.trans h.bM⟩
structure KeptY (w w' : World) (y : Yt) (n : Nat) : Prop where
 os : w'.os = w.os
 tape : w'.tape = w.tape
 output : w'.output = w.output
 size : w.heap.size ≤ w'.heap.size
 block : ∀ k, k < w.heap.size → ¬ y.all n k → w'.heap[k]? = w.heap[k]?
structure WentN (w w' : World) (y : Yt) (n : NtM) (m : Nat) : Prop where
 ex : ∃ y', NetR w' y' n ∧ y.same y' ∧ (∀ k, y'.all m k → y.all m k ∨ w.heap.size ≤ k) ∧ (∀ k, y'.ext k ↔ y.ext k)
 kept : KeptY w w' y m
theorem NetR.lt {w : World} {y : Yt} {n : NtM} (h : NetR w y n) {k : Nat} (hk : y.own k ∨ y.ext k) : k < w.heap.size := by
 have h1 := (h.away 0 h.n1 k (hk.imp_right .inl)).1
 exact (h.rt 0 h.n1).bs.nob k h1
theorem NetR.mapLt {w : World} {y : Yt} {n : NtM} (h : NetR w y n) : y.bM < w.heap.size := by
 obtain ⟨E, ⟨es, clock, h1, _⟩, _⟩ := h.mp
 exact (Array.getElem?_eq_some_iff.1 h1).1
theorem NetR.footLt {w : World} {y : Yt} {n : NtM} (h : NetR w y n) {i k : Nat} (hi : i < n.n) (hk : (y.z i).foot k) : k < w.heap.size := by
 rcases hk with e | e | e
 · have h1 := (h.rt i hi).mineLt k
   rw [(h.rn i hi).1] at h1
   exact h1 e
 · exact (h.rt i hi).bs.mlt k (.inl e)
 · exact (h.rt i hi).bs.mlt k (.inr e)
theorem NetR.awayFoot {w : World} {y : Yt} {n : NtM} (h : NetR w y n) {i k : Nat} (hi : i < n.n) (hk : y.away n.n i k) : ¬ (y.z i).foot k := by
 obtain ⟨h1, h2⟩ := h.away i hi k hk
 intro e
 rcases e with e | e | e
 · exact h2 e
 · exact (h.rt i hi).nb.2.2 k (.inl e) h1
 · exact (h.rt i hi).nb.2.2 k (.inr e) h1
theorem NetR.ownFoot {w : World} {y : Yt} {n : NtM} (h : NetR w y n) {i k : Nat} (hi : i < n.n) (hk : y.own k) : ¬ (y.z i).foot k := h.awayFoot hi (.inl hk)
theorem EMap.keep {w w' : World} {b : Nat} {E : List (Int × Int × Int)} (h : EMap w b E) (hb : w'.heap[b]? = w.heap[b]?) : EMap w' b E := by
 obtain ⟨es, clock, h1, h2⟩ := h
 exact ⟨es, clock, hb.trans h1, h2⟩
theorem KeptY.refl (w : World) (y : Yt) (n : Nat) : KeptY w w y n := ⟨rfl, rfl, rfl, Nat.le_refl _, fun _ _ _ => rfl⟩
theorem WentN.refl {w : World} {y : Yt} {n : NtM} (h : NetR w y n) : WentN w w y n n.n := ⟨⟨y, h, y.same_refl, fun _ e => .inl e, fun _ => Iff.rfl⟩, KeptY.refl w y n.n⟩
theorem WentN.thenBy {a b c : World} {y y' : Yt} {n' : NtM} {m : Nat} (h : KeptY a b y m) (hN : y.same y') (hm : ∀ k, y'.all m k → y.all m k ∨ a.heap.size ≤ k) (he : ∀ k, y'.ext k ↔ y.ext k) (k : WentN b c y' n' m) : WentN a c y n' m := by
 obtain ⟨⟨y2, hR, hN2, hm2, he2⟩, hK⟩ := k
 refine ⟨⟨y2, hR, Yt.same_trans hN hN2, fun x hx => ?_, fun x => (he2 x).trans (he x)⟩, ⟨hK.os.trans h.os, hK.tape.trans h.tape, hK.output.trans h.output, Nat.le_trans h.size hK.size, fun x hx h1 => (hK.block x (Nat.lt_of_lt_of_le hx h.size) (fun e => ?_)).trans (h.block x hx h1)⟩⟩
 · rcases hm2 x hx with e | e
   · exact hm x e
   · exact .inr (Nat.le_trans h.size e)
 · rcases hm x e with e1 | e1
   · exact h1 e1
   · omega
theorem WentN.step {a b c : World} {y : Yt} {n n' : NtM} {m : Nat} (h : WentN a b y n m) (k : ∀ y', NetR b y' n → y.same y' → WentN b c y' n' m) : WentN a c y n' m := by
 obtain ⟨⟨y', hR, hN, hm, he⟩, hK⟩ := h
 exact WentN.thenBy hK hN hm he (k y' hR hN)
theorem WentN.call {w W : World} {y : Yt} {n n' : NtM} {m : Nat} {f : FuncId} {args : Array Value} {E : Ending → Prop} (h : WentN w W y n m) (k : ∀ y1, NetR W y1 n → y.same y1 → Calls Tryz.prog f args W fun e w' => E e ∧ WentN W w' y1 n' m) : Calls Tryz.prog f args W fun e w' => E e ∧ WentN w w' y n' m := by
 obtain ⟨y1, hR, hN, hm, he⟩ := h.ex
 refine (k y1 hR hN).mono ?_
 rintro e w' ⟨he', hw⟩
 exact ⟨he', WentN.thenBy h.kept hN hm he hw⟩
theorem NetR.router {w w' : World} {y : Yt} {n : NtM} {i : Nat} {r : RtM} (h : NetR w y n) (hi : i < n.n) (hW : WentR w w' (y.z i) r 3) (hr : r.n = 3 ∧ r.id = (i : Int) + 1) : WentN w w' y (n.setR i r) n.n := by
 obtain ⟨⟨z', hR, hl, hm, hno⟩, hK⟩ := hW
 have hfoot : ∀ k, z'.foot k → (y.z i).foot k ∨ w.heap.size ≤ k := by
  intro k hk
  rcases hk with e | e | e
  · exact (hm k e).imp_left .inl
  · rw [hl.bm] at e; exact .inl (.inr (.inl e))
  · rw [hl.bs] at e; exact .inl (.inr (.inr e))
 have hblk : ∀ k, k < w.heap.size → ¬ (y.z i).foot k → w'.heap[k]? = w.heap[k]? := fun k hk hf => hK.block k hk (fun e => hf (.inl e)) (fun e => hf (.inr (.inl e))) (fun e => hf (.inr (.inr e)))
 have hown : ∀ k, y.own k → w'.heap[k]? = w.heap[k]? := fun k e => hblk k (h.lt (.inl e)) (h.ownFoot hi e)
 obtain ⟨X, hXe⟩ : ∃ X : Nat → Prop, X = fun k => w.heap.size ≤ k ∧ k < w'.heap.size ∧ z'.mine 3 k := ⟨_, rfl⟩
 have hX : ∀ k, X k → w.heap.size ≤ k ∧ k < w'.heap.size := fun k e => by rw [hXe] at e; exact ⟨e.1, e.2.1⟩
 have hz'lt : ∀ k, z'.mine 3 k → k < w'.heap.size := fun k e => by
  have := hR.mineLt k
  rw [hr.1] at this
  exact this e
 obtain ⟨Z, hZ⟩ : ∃ Z : Nat → Zt, Z = fun j => if j = i then z' else (y.z j).plus X := ⟨_, rfl⟩
 have hZi : Z i = z' := by rw [hZ]; simp
 have hZj : ∀ j, j ≠ i → Z j = (y.z j).plus X := fun j hj => by rw [hZ]; simp [hj]
 have hZR : ∀ j, (Z j).R = (y.z j).R := fun j => by
  by_cases e : j = i
  · subst e; rw [hZi]; exact hl.R
  · rw [hZj j e]; rfl
 have hZfoot : ∀ j k, (Z j).foot k → (y.z j).foot k ∨ (j = i ∧ w.heap.size ≤ k ∧ z'.mine 3 k) := by
  intro j k hk
  by_cases e : j = i
  · subst e
    rw [hZi] at hk
    rcases hk with e1 | e1 | e1
    · rcases hm k e1 with e2 | e2
      · exact .inl (.inl e2)
      · exact .inr ⟨rfl, e2, e1⟩
    · rw [hl.bm] at e1; exact .inl (.inr (.inl e1))
    · rw [hl.bs] at e1; exact .inl (.inr (.inr e1))
  · rw [hZj j e] at hk
    exact .inl hk
 refine ⟨⟨{ y with z := Z }, ⟨h.n1, h.n6, h.c9, h.blk.keep (hown _ ⟨.N, rfl⟩), ?_, h.ri.keep (hown _ ⟨.I, rfl⟩), fun g hg c hc => (h.rc g hg c hc).keep (hown _ ⟨.C, hg⟩), h.gc, ?_, ?_, ?_, fun j hj => (h.ib j hj).keep hK.size (fun k hk => hown k ⟨.ib j, hk⟩), fun c d hc hd => (h.ob c d hc hd).keep hK.size (fun k hk => hown k ⟨.on c d, hk⟩), h.ol, h.en, h.inj, ?_, h.nx, ⟨h.nM.1, h.nM.2.1, ?_⟩, h.z0⟩, ⟨rfl, rfl, rfl, rfl, rfl, rfl, rfl, rfl⟩, ?_, fun _ => Iff.rfl⟩, ⟨hK.os, hK.tape, hK.output, hK.size, fun k hk hn => hblk k hk (fun e => hn (.inr ⟨i, hi, e⟩))⟩⟩
 · refine (h.rr.keep (hown _ ⟨.R, rfl⟩)).congr fun j _ => ?_
   show Value.pointer (some ⟨(y.z j).R, 0, none⟩) = .pointer (some ⟨(Z j).R, 0, none⟩)
   rw [hZR j]
 · obtain ⟨E, h1, h2⟩ := h.mp
   exact ⟨E, h1.keep (hblk _ h.mapLt (h.nM.2.2 i hi)), h2⟩
 · intro j hj
   show RtR w' (Z j) (upN n.R i r j)
   by_cases e : j = i
   · subst e; rw [hZi, upN_same]; exact hR
   · rw [hZj j e, upN_other _ _ e]
     refine (h.rt j hj).besides hK.size (fun k hk hc => hblk k hk (fun ef => ?_)) X hX
     have ha := h.away j hj k (.inr (.inr ⟨i, hi, fun e' => e e'.symm, ef⟩))
     rcases hc with hc | hc
     · exact hc ha.1
     · rw [(h.rn j hj).1] at hc; exact ha.2 hc
 · intro j hj
   show (upN n.R i r j).n = 3 ∧ (upN n.R i r j).id = (j : Int) + 1
   by_cases e : j = i
   · subst e; rw [upN_same]; exact hr
   · rw [upN_other _ _ e]; exact h.rn j hj
 · intro j hj k hk
   show (Z j).fm.no k ∧ ¬ (Z j).mine 3 k
   have hold : (y.own k ∨ y.ext k ∨ ∃ x, x < n.n ∧ x ≠ j ∧ (y.z x).foot k) ∨ (j ≠ i ∧ w.heap.size ≤ k ∧ z'.mine 3 k) := by
    rcases hk with e | e | ⟨x, hx, hne, e⟩
    · exact .inl (.inl e)
    · exact .inl (.inr (.inl e))
    · rcases hZfoot x k e with e1 | ⟨e1, e2, e3⟩
      · exact .inl (.inr (.inr ⟨x, hx, hne, e1⟩))
      · exact .inr ⟨fun e' => hne (e1.trans e'.symm), e2, e3⟩
   by_cases e : j = i
   · subst e
     rw [hZi]
     rcases hold with ho | ho
     · have ha := h.away j hj k ho
       refine ⟨hno k ha.1, fun e1 => ?_⟩
       rcases hm k e1 with e2 | e2
       · exact ha.2 e2
       · have := (h.rt j hj).bs.nob k ha.1; omega
     · exact absurd rfl ho.1
   · rw [hZj j e]
     rcases hold with ho | ho
     · have ha := h.away j hj k ho
       exact ⟨.inl ha.1, ha.2⟩
     · refine ⟨.inr ?_, fun e1 => ?_⟩
       · rw [hXe]; exact ⟨ho.2.1, hz'lt k ho.2.2, ho.2.2⟩
       · have h1 : k < w.heap.size := h.footLt hj (.inl e1)
         omega
 · intro j hj e
   rcases hZfoot j _ e with e1 | ⟨_, e2, _⟩
   · exact h.nM.2.2 j hj e1
   · have := h.mapLt
     have e2' : w.heap.size ≤ y.bM := e2
     omega
 · intro k hk
   rcases hk with e | ⟨j, hj, e⟩
   · exact .inl (.inl e)
   · rcases hZfoot j k e with e1 | ⟨_, e2, _⟩
     · exact .inl (.inr ⟨j, hj, e1⟩)
     · exact .inr e2
end Rt
end Go.Proofs.YtieklnlbljejdaaGreatDoor

namespace Go.Proofs.YtieklnlbljejdaaGreatDoor
open Go.RowKit St
open Go.ChangeMaps Go.MapKept
namespace Rt
theorem laidOutB_ok : laidOutB Tryz.prog = true := by kernel_rfl
theorem endRow : 192 < Tryz.prog.types.size := of_decide_eq_true (by kernel_rfl)
theorem endWide : (match Tryz.prog.underlying 192 with | some (.array _ _) | some (.struct _) => true | _ => false) = true := by kernel_rfl
set_option maxRecDepth 100000 in
theorem endLaw : Maps.Keyed Tryz.prog 192 := Maps.Keyed.of_law (deep_law_laid laidOutB_ok (m := 3) (by omega) endRow (by kernel_rfl) endWide)
theorem endKeys : ((List.range 7).all fun i => (List.range 4).all fun j => (keyOf Tryz.prog 192 (endV (i : Int) (j : Int))).isSome) = true := by kernel_rfl
theorem endKey {a b : Int} (h : 1 ≤ a ∧ a ≤ 6 ∧ 0 ≤ b ∧ b ≤ 2) : ∃ l, keyOf Tryz.prog 192 (endV a b) = some l := by
 have h1 := List.all_eq_true.1 (List.all_eq_true.1 endKeys a.toNat (List.mem_range.2 (by omega))) b.toNat (List.mem_range.2 (by omega))
 have e1 : ((a.toNat : Nat) : Int) = a := by omega
 have e2 : ((b.toNat : Nat) : Int) = b := by omega
 rw [e1, e2] at h1
 exact Option.isSome_iff_exists.1 h1
theorem endV_inj {a b c d : Int} (h : endV a b = endV c d) : a = c ∧ b = d := by
 unfold endV at h
 injection h with h
 have h1 := congrArg Array.toList h
 simp at h1
 exact h1
theorem lookE_none : ∀ {E : List (Int × Int × Int)} {r p : Int}, (∀ x ∈ E, ¬ (x.1 = r ∧ x.2.1 = p)) → lookE E r p = none
 | [], _, _, _ => rfl
 | x :: E, r, p, h => by
   unfold lookE
   rw [if_neg (h x (by simp))]
   exact lookE_none (fun z hz => h z (by simp [hz]))
theorem lookE_mem : ∀ {E : List (Int × Int × Int)} {r p m : Int}, lookE E r p = some m → (r, p, m) ∈ E
 | [], _, _, _, h => by simp [lookE] at h
 | x :: E, r, p, m, h => by
   unfold lookE at h
   split at h
   · rename_i hx
     have := Option.some.inj h
     have e : x = (r, p, m) := by
      obtain ⟨x1, x2, x3⟩ := x
      simp at hx this ⊢
      exact ⟨hx.1, hx.2, this⟩
     rw [e]; simp
   · exact List.mem_cons_of_mem _ (lookE_mem h)
theorem lookE_snoc (E : List (Int × Int × Int)) (x : Int × Int × Int) (r p : Int) : lookE (E ++ [x]) r p = match lookE E r p with | some m => some m | none => if x.1 = r ∧ x.2.1 = p then some x.2.2 else none := by
 induction E with
 | nil =>
   show lookE [x] r p = _
   unfold lookE
   split <;> rfl
 | cons z E ih =>
   show lookE (z :: (E ++ [x])) r p = _
   unfold lookE
   split
   · rfl
   · exact ih
theorem EOk.snoc {E : List (Int × Int × Int)} (h : EOk E) {x : Int × Int × Int} (hx : 1 ≤ x.1 ∧ x.1 ≤ 6 ∧ 0 ≤ x.2.1 ∧ x.2.1 ≤ 2) (hn : lookE E x.1 x.2.1 = none) : EOk (E ++ [x]) := fun z hz => by
 rw [lookE_snoc]
 rcases List.mem_append.1 hz with h1 | h1
 · have := h z h1
   exact ⟨this.1, by rw [this.2]⟩
 · have : z = x := by simpa using h1
   subst this
   exact ⟨hx, by rw [hn]; simp⟩
theorem EMap.find {w : World} {b : Nat} {E : List (Int × Int × Int)} {es : Array MapEntry} {clock : Nat} (_hb : w.heap[b]? = some (.map es clock)) (he : es.toList.map (fun e => (e.key, e.val)) = E.map fun x => (endV x.1 x.2.1, .int .i64 x.2.2)) (hE : EOk E) {r p : Int} (hr : 1 ≤ r ∧ r ≤ 6 ∧ 0 ≤ p ∧ p ≤ 2) :
 (lookE E r p = none ∧ (Instr.findKey 192 (endV r p) es.toList).run Tryz.prog w = .ok none w) ∨ ∃ m j, lookE E r p = some m ∧ (Instr.findKey 192 (endV r p) es.toList).run Tryz.prog w = .ok (some (j, .int .i64 m)) w := by
 obtain ⟨l, hl⟩ := endKey hr
 have hall : ∀ e ∈ es.toList, ∃ x ∈ E, e.key = endV x.1 x.2.1 ∧ e.val = .int .i64 x.2.2 := fun e hm => by
  have h1 : (e.key, e.val) ∈ es.toList.map (fun e => (e.key, e.val)) := List.mem_map.2 ⟨e, hm, rfl⟩
  rw [he] at h1
  obtain ⟨x, hx, h2⟩ := List.mem_map.1 h1
  injection h2 with h3 h4
  exact ⟨x, hx, h3.symm, h4.symm⟩
 have hrev : ∀ x ∈ E, ∃ e ∈ es.toList, e.key = endV x.1 x.2.1 := fun x hx => by
  have h1 : (endV x.1 x.2.1, (.int .i64 x.2.2 : Value)) ∈ E.map fun x => (endV x.1 x.2.1, (.int .i64 x.2.2 : Value)) := List.mem_map.2 ⟨x, hx, rfl⟩
  rw [← he] at h1
  obtain ⟨e, hm, h2⟩ := List.mem_map.1 h1
  injection h2 with h3 h4
  exact ⟨e, hm, h3⟩
 rcases endLaw.find w hl es.toList (fun e hm => by
  obtain ⟨x, hx, h1, _⟩ := hall e hm
  rw [h1]
  exact endKey (hE x hx).1) with ⟨h1, h2⟩ | ⟨j, e, h1, h2, h3⟩
 · left
   refine ⟨lookE_none (fun x hx hc => ?_), h1⟩
   obtain ⟨e, hm, h4⟩ := hrev x hx
   exact h2 e hm (by rw [h4, hc.1, hc.2])
 · right
   obtain ⟨x, hx, h4, h5⟩ := hall e (List.mem_of_getElem? h2)
   rw [h3] at h4
   obtain ⟨e1, e2⟩ := endV_inj h4
   refine ⟨x.2.2, j, ?_, by rw [h1, h5]⟩
   rw [e1, e2]
   exact (hE x hx).2
theorem EMap.look {w : World} {b : Nat} {E : List (Int × Int × Int)} (h : EMap w b E) (hE : EOk E) {r p : Int} (hr : 1 ≤ r ∧ r ≤ 6 ∧ 0 ≤ p ∧ p ≤ 2) :
 (Instr.lookup 184 (.map (some b)) (endV r p) true).run Tryz.prog w = .ok (.tuple #[.int .i64 ((lookE E r p).getD 0), .bool (lookE E r p).isSome]) w := by
 obtain ⟨es, clock, hb, he⟩ := h
 obtain ⟨l, hl⟩ := endKey hr
 have hz : (zeroValue 3).run Tryz.prog w = .ok (.int .i64 0) w := by kernel_rfl
 have hc := endLaw.check w es.isEmpty hl
 unfold Instr.lookup
 simp only [Sem.run_bind, run_underlying Tryz.underlying184, Result.andThen_ok, Go.MapKept.run_getObj_map hb, Sem.run_pure, hc]
 rcases EMap.find hb he hE hr with ⟨h1, h2⟩ | ⟨m, j, h1, h2⟩
 · simp only [h2, Result.andThen_ok, Sem.run_bind, hz, Sem.run_pure, h1]
   rfl
 · simp only [h2, Result.andThen_ok, h1]
   rfl
theorem EMap.store {w : World} {b : Nat} {E : List (Int × Int × Int)} (h : EMap w b E) (hE : EOk E) {r p m : Int} (hr : 1 ≤ r ∧ r ≤ 6 ∧ 0 ≤ p ∧ p ≤ 2) (hn : lookE E r p = none) :
 ∃ w', (Instr.mapUpdate 184 (.map (some b)) (endV r p) (.int .i64 m)).run Tryz.prog w = .ok () w' ∧ EMap w' b (E ++ [(r, p, m)]) ∧ w'.os = w.os ∧ w'.tape = w.tape ∧ w'.output = w.output ∧ w'.heap.size = w.heap.size ∧ ∀ k, k ≠ b → w'.heap[k]? = w.heap[k]? := by
 obtain ⟨es, clock, hb, he⟩ := h
 obtain ⟨l, hl⟩ := endKey hr
 have hc := endLaw.check w false hl
 have hbl : b < w.heap.size := (Array.getElem?_eq_some_iff.1 hb).1
 rcases EMap.find hb he hE hr with ⟨h1, h2⟩ | ⟨m', j, h1, h2⟩
 · refine ⟨{ w with heap := w.heap.setIfInBounds b (.map (es.push { key := endV r p, val := .int .i64 m, born := clock }) (clock + 1)) }, ?_, ⟨es.push { key := endV r p, val := .int .i64 m, born := clock }, clock + 1, ?_, ?_⟩, rfl, rfl, rfl, by simp, fun k hk => ?_⟩
   · unfold Instr.mapUpdate
     simp only [Sem.run_bind, run_underlying Tryz.underlying184, Result.andThen_ok, Go.MapKept.run_getObj_map hb, hc, h2, Go.MapKept.run_setObj_map _ hb]
   · simp [hbl]
   · simp [he]
   · show (w.heap.setIfInBounds b _)[k]? = _
     rw [Array.getElem?_setIfInBounds_ne (fun e => hk e.symm)]
 · rw [hn] at h1; simp at h1
end Rt
end Go.Proofs.YtieklnlbljejdaaGreatDoor

namespace Go.Proofs.YtieklnlbljejdaaGreatDoor
open Go.RowKit St
namespace Rt
theorem infoI64 : (Tryz.prog.info? 3).map (fun i => (i.zero, i.size, i.bytes)) = some (some (.int .i64 0), 1, 8) := by kernel_rfl
def intsM (ms : Nat → Int) : Nat → List Value
 | 0 => []
 | q + 1 => intsM ms q ++ [.int .i64 (ms q)]
theorem intsM_length (ms : Nat → Int) : ∀ q, (intsM ms q).length = q
 | 0 => rfl
 | q + 1 => by unfold intsM; rw [List.length_append, intsM_length ms q]; rfl
theorem intsM_at (ms : Nat → Int) : ∀ (q i : Nat), i < q → (intsM ms q)[i]? = some (.int .i64 (ms i))
 | q + 1, i, h => by
   unfold intsM
   by_cases e : i < q
   · rw [List.getElem?_append_left (by rw [intsM_length]; exact e)]
     exact intsM_at ms q i e
   · have : i = q := by omega
     subst this
     rw [List.getElem?_append_right (by rw [intsM_length]; exact Nat.le_refl _), intsM_length, Nat.sub_self]
     rfl
set_option maxRecDepth 100000 in
set_option maxHeartbeats 4000000 in
theorem newRouter_any (N b i : Nat) (E : List (Int × Int × Int)) (ms : Nat → Int) (w : World) (hc : w.cell? ⟨N, 2, none⟩ = some (.map (some b))) (hm : EMap w b E) (hE : EOk E) (hi6 : i < 6) (ht : ∀ p : Nat, p < 3 → (lookE E ((i : Int) + 1) (p : Int)).getD 1 = ms p ∧ 1 ≤ ms p ∧ ms p ≤ 20) (hT : TabOk w) (X : Nat → Prop) (hX : ∀ k, X k → k < w.heap.size) :
 Calls Tryz.prog 96 #[.pointer (some ⟨N, 0, none⟩), .int .i64 ((i : Int) + 1)] w fun e w' => ∃ z, e = .returned (.tuple #[.pointer (some ⟨z.R, 0, none⟩), .nilIface]) ∧ RtR w' z (newRt ((i : Int) + 1) 3 ms) ∧ Below w.heap.size w w' ∧ (∀ k, z.mine 3 k → w.heap.size ≤ k) ∧ w.heap.size ≤ z.fm.bm ∧ (∀ x ∈ z.fm.bs, w.heap.size ≤ x) ∧ ∀ k, X k → z.fm.no k := by
 obtain ⟨i0, hi, hz0, hz1, hz2⟩ := info_parts infoI64
 have Nl := World.block_lt_of_cell? _ _ hc
 have bl : b < w.heap.size := by
  obtain ⟨es, clock, h1, _⟩ := hm
  exact (Array.getElem?_eq_some_iff.1 h1).1
 have HL : Hid (∀ W, Below w.heap.size w W → ∀ p : Nat, p < 3 → (Instr.lookup 184 (.map (some b)) (.agg #[.int .i64 ((i : Int) + 1), .int .i64 (p : Int)]) true).run Tryz.prog W = .ok (.tuple #[.int .i64 ((lookE E ((i : Int) + 1) (p : Int)).getD 0), .bool (lookE E ((i : Int) + 1) (p : Int)).isSome]) W) := by
  intro W hW p hp
  exact EMap.look (hm.keep (hW.block b bl)) hE ⟨by omega, by omega, by omega, by omega⟩
 have HC : Hid (∀ W, Below w.heap.size w W → W.cell? ⟨N, 2, none⟩ = some (.map (some b)) ∧ N < W.heap.size) := by
  intro W hW
  exact ⟨(World.cell?_of_block (a := ⟨N, 2, none⟩) (hW.block N Nl)).trans hc, Nat.lt_of_lt_of_le Nl hW.size⟩
 have HT : Hid (∀ p : Nat, p < 3 → (lookE E ((i : Int) + 1) (p : Int)).getD 1 = ms p ∧ 1 ≤ ms p ∧ ms p ≤ 20) := ht
 have HTab : Hid _ := hT
 clear hm hc ht hT
 go_enter Tryz.func96, Tryz.ntmps96
 go_wp2_with (fail)
 go_loopw [6, 10] (fun v x wr => ∃ q : Nat, q ≤ 3 ∧ x = .int .i64 q ∧ Row wr 1 v q (intsM ms q) ∧ (∀ k, v.ownBlock = some k → w.heap.size ≤ k) ∧ Below w.heap.size w wr) (fun _ x _ => 3 - (intOf x).toNat)
 case atStart => exact ⟨0, Nat.zero_le _, rfl, Row.nil _ _, fun k hk => by simp [Value.ownBlock] at hk, Below.refl _ _⟩
 case round =>
  obtain ⟨q, hq, rfl, hrow, hown, hbel⟩ := hrel
  by_cases hlt : q < 3
  · have hlt' : (q : Int) < 3 := by omega
    have hlk := HL.out wr hbel q hlt
    obtain ⟨d2, dl⟩ := HC.out wr hbel
    obtain ⟨t1, t2, t3⟩ := HT.out q hlt
    have HR : Hid _ := hrow
    have HO : Hid _ := hown
    have HB : Hid _ := hbel
    clear hown hbel
    cases hlo : lookE E ((i : Int) + 1) (q : Int) with
    | none =>
      rw [hlo] at hlk t1
      have T1 : Hid (ms q = 1) := t1.symm
      have e0 : (Option.getD (none : Option Int) 0) = 0 := rfl
      have e1 : (Option.isSome (none : Option Int)) = false := rfl
      rw [e0, e1] at hlk
      clear hlo t1
      go_wp2_with (at_builtin; go_must (refine wpList_append_row _ rfl (.tmp 26) (.tmp 28) 22 rfl 3 i0 (.int .i64 0) 1 8 Tryz.underlying22 hi hz0 hz1 hz2 rfl (by decide) u6 q (intsM ms q) rfl (hrow.alloc _) _ 1 1 [.int .i64 1] rfl rfl (by decide) (cells_one _ _ _) (one_int _ _) (by unfold maxLen; omega) (by omega) ?_))
      intro g' cap' w3 hr3 hg3 ho3
      have HN : Hid (Row w3 1 (.slice (some ⟨g', 0, none⟩) (q + 1) cap') (q + 1) (intsM ms (q + 1)) ∧ (∀ k, Value.ownBlock (.slice (some ⟨g', 0, none⟩) (q + 1) cap') = some k → w.heap.size ≤ k) ∧ Below w.heap.size w w3) := by
       have hs := HB.out.size
       refine ⟨by unfold intsM; rw [T1.out]; exact hr3, fun k hk => ?_, ?_⟩
       · have : g' = k := by simpa [Value.ownBlock] using hk
         subst this
         rcases ho3 with e | e
         · exact HO.out _ e
         · have : (wr.alloc (.cells #[.int .i64 1] 3)).heap.size = wr.heap.size + 1 := by simp
           omega
       · exact (HB.out.alloc hs _).grown hg3 (by simp; omega) (fun k hk => HO.out k (by rw [← hk]))
      clear hr3 hg3 ho3 hrow
      go_wp2_with (fail)
      go_roundw
      case rel => exact ⟨q + 1, by omega, by go_num, HN.out⟩
      case measure => simp [intOf]; omega
    | some m =>
      rw [hlo] at hlk t1
      have T1 : Hid (ms q = m) := t1.symm
      have e0 : (Option.getD (some m) 0) = m := rfl
      have e1 : (Option.isSome (some m)) = true := rfl
      rw [e0, e1] at hlk
      clear hlo t1
      go_wp2_with (at_builtin; go_must (refine wpList_append_row _ rfl (.tmp 26) (.tmp 28) 22 rfl 3 i0 (.int .i64 0) 1 8 Tryz.underlying22 hi hz0 hz1 hz2 rfl (by decide) u6 q (intsM ms q) rfl (hrow.alloc _) _ 1 1 [.int .i64 m] rfl rfl (by decide) (cells_one _ _ _) (one_int _ _) (by unfold maxLen; omega) (by omega) ?_))
      intro g' cap' w3 hr3 hg3 ho3
      have HN : Hid (Row w3 1 (.slice (some ⟨g', 0, none⟩) (q + 1) cap') (q + 1) (intsM ms (q + 1)) ∧ (∀ k, Value.ownBlock (.slice (some ⟨g', 0, none⟩) (q + 1) cap') = some k → w.heap.size ≤ k) ∧ Below w.heap.size w w3) := by
       have hs := HB.out.size
       refine ⟨by unfold intsM; rw [T1.out]; exact hr3, fun k hk => ?_, ?_⟩
       · have : g' = k := by simpa [Value.ownBlock] using hk
         subst this
         rcases ho3 with e | e
         · exact HO.out _ e
         · have : (wr.alloc (.cells #[.int .i64 m] 3)).heap.size = wr.heap.size + 1 := by simp
           omega
       · exact (HB.out.alloc hs _).grown hg3 (by simp; omega) (fun k hk => HO.out k (by rw [← hk]))
      clear hr3 hg3 ho3 hrow
      go_wp2_with (fail)
      go_roundw
      case rel => exact ⟨q + 1, by omega, by go_num, HN.out⟩
      case measure => simp [intOf]; omega
  · obtain rfl : q = 3 := by omega
    have hr3 := hrow
    have hsh : ∃ g cap, u6 = .slice (some ⟨g, 0, none⟩) 3 cap := by
     rcases hrow.2 with ⟨_, e2⟩ | ⟨g, cap, e, _⟩
     · omega
     · exact ⟨g, cap, e⟩
    obtain ⟨g, cap, rfl⟩ := hsh
    have hnew := newR_any ((i : Int) + 1) g 0 3 cap ms wr (TabOk.below (w := w) HTab.out hbel) (by omega) (by omega) (fun j hj => by
     have := Row.cell hrow j _ (intsM_at ms 3 j hj)
     rw [Nat.zero_add]
     exact this) (fun j hj => (HT.out j hj).2) X (fun k hk => Nat.lt_of_lt_of_le (hX k hk) hbel.size)
    have HB : Hid _ := hbel
    have h33 : ((3 : Nat) : Int) = 3 := rfl
    clear hrow hown hbel hr3
    go_wp2_with (fail)
    refine hnew.mono ?_
    rintro e w1 ⟨z, rfl, hz⟩
    have HZ : Hid _ := hz
    clear hnew hz
    go_wp2_with (fail)
    go_ret2
    have hs := HB.out.size
    obtain ⟨z1, z2, z3, z4, z5, z6⟩ := HZ.out
    exact ⟨z, rfl, z1, below_chain HB.out z2, fun k hk => Nat.le_trans hs (z3 k hk), Nat.le_trans hs z4, fun x hx => Nat.le_trans hs (z5 x hx), z6⟩
end Rt
end Go.Proofs.YtieklnlbljejdaaGreatDoor
