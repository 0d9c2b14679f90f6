/-
  RtBase RtHas RtTo RtEdges
-/
import Derived.Test.YtieklnlbljejdaaGreatDoorG26
namespace Go.Proofs.YtieklnlbljejdaaGreatDoor
open Go.RowKit St
namespace Rt
theorem KeptZ.refl (w : World) (z : Zt) (n : Nat) : KeptZ w w z n := ⟨rfl, rfl, rfl, Nat.le_refl _, fun _ _ _ _ _ => rfl⟩
theorem KeptZ.of_below {w w' : World} (z : Zt) (n : Nat) (h : Below w.heap.size w w') : KeptZ w w' z n := ⟨h.os, h.tape, h.output, h.size, fun k hk _ _ _ => h.block k hk⟩
theorem Zt.like_refl (z : Zt) : z.like z := ⟨rfl, rfl, rfl, rfl, rfl, rfl, rfl, rfl⟩
theorem Zt.like_trans {a b c : Zt} (h : a.like b) (k : b.like c) : a.like c := ⟨k.R.trans h.R, k.g.trans h.g, k.cap.trans h.cap, k.B.trans h.B, k.Bb.trans h.Bb, k.bm.trans h.bm, k.fg.trans h.fg, k.bs.trans h.bs⟩
theorem RtR.mineLt {w : World} {z : Zt} {r : RtM} (h : RtR w z r) : ∀ k, z.mine r.n k → k < w.heap.size := fun k hk => h.bs.nob k (h.no k hk)
theorem RtR.below {w w' : World} {z : Zt} {r : RtM} (h : RtR w z r) (hb : Below w.heap.size w w') : RtR w' z r :=
 ⟨h.n1, h.n3, h.ncap, h.id, h.blk.keep (hb.block _ h.blk.lt), fun i hi => (h.pt i hi).below hb, h.ib.below hb, h.bs.below hb, h.bl, h.no, h.nb, h.sR, h.sB, h.sV, h.sI, h.nz0⟩
theorem WentR.still {w w' : World} {z : Zt} {r : RtM} (h : RtR w z r) (hb : Below w.heap.size w w') : WentR w w' z r r.n :=
 ⟨⟨z, h.below hb, z.like_refl, fun _ e => .inl e, fun _ e => e⟩, KeptZ.of_below z r.n hb⟩
theorem WentR.refl {w : World} {z : Zt} {r : RtM} (h : RtR w z r) : WentR w w z r r.n := ⟨⟨z, h, z.like_refl, fun _ e => .inl e, fun _ e => e⟩, KeptZ.refl w z r.n⟩
theorem WentR.step {a b c : World} {z : Zt} {r r' : RtM} {n : Nat} (h : WentR a b z r n) (k : ∀ z', RtR b z' r → z.like z' → WentR b c z' r' n) : WentR a c z r' n := by
 obtain ⟨⟨z', hR, hl, hm, hno⟩, hK⟩ := h
 obtain ⟨⟨z2, hR2, hl2, hm2, hno2⟩, hK2⟩ := k z' hR hl
 refine ⟨⟨z2, hR2, Zt.like_trans hl hl2, fun x hx => ?_, fun x hx => hno2 x (hno x hx)⟩, ⟨hK2.os.trans hK.os, hK2.tape.trans hK.tape, hK2.output.trans hK.output, Nat.le_trans hK.size hK2.size, fun x hx h1 h2 h3 => (hK2.block x (Nat.lt_of_lt_of_le hx hK.size) (fun e => ?_) (by rw [hl.bm]; exact h2) (by rw [hl.bs]; exact h3)).trans (hK.block x hx h1 h2 h3)⟩⟩
 · rcases hm2 x hx with e | e
   · exact hm x e
   · exact .inr (Nat.le_trans hK.size e)
 · rcases hm x e with e1 | e1
   · exact h1 e1
   · omega
theorem WentR.below {a b c : World} {z : Zt} {r : RtM} {n : Nat} (h : WentR a b z r n) (hn : r.n = n) (hb : Below b.heap.size b c) : WentR a c z r n := by
 subst hn
 exact h.step fun z' hR _ => WentR.still hR hb
theorem WentR.first {a b c : World} {z : Zt} {r r' : RtM} {n : Nat} (hR : RtR a z r) (hn : r.n = n) (hb : Below a.heap.size a b) (k : RtR b z r → WentR b c z r' n) : WentR a c z r' n := by
 subst hn
 obtain ⟨⟨z2, hR2, hl2, hm2, hno2⟩, hK2⟩ := k (hR.below hb)
 exact ⟨⟨z2, hR2, hl2, fun x hx => (hm2 x hx).imp_right (fun e => Nat.le_trans hb.size e), hno2⟩, ⟨hK2.os.trans hb.os, hK2.tape.trans hb.tape, hK2.output.trans hb.output, Nat.le_trans hb.size hK2.size, fun x hx h1 h2 h3 => (hK2.block x (Nat.lt_of_lt_of_le hx hb.size) h1 h2 h3).trans (hb.block x hx)⟩⟩
theorem WentR.tab {a b : World} {z : Zt} {r0 r : RtM} {n : Nat} (h : WentR a b z r n) (hR : RtR a z r0) (hn : r0.n = n) (hT : TabOk a) : TabOk b := fun e s he hs => by
 subst hn
 refine (World.cell?_of_block (a := ⟨0, e * 10 + s, none⟩) (h.kept.block 0 hT.lt (fun hm => ?_) (fun hm => ?_) (fun hm => ?_))).trans (hT e s he hs)
 · rcases hm with e | e | ⟨i, hi, e | e⟩ | e
   · exact hR.sR.2.1 e.symm
   · exact (hR.pt 0 hR.n1).nz.1 e.symm
   · exact (hR.pt i hi).nz.2.1 e.symm
   · exact (hR.pt i hi).nz.2.2 e
   · exact hR.nz0.1 e
 · exact hR.nz0.2 0 (.inl hm) rfl
 · exact hR.nz0.2 0 (.inr hm) rfl
theorem RtR.base {w w' : World} {z : Zt} {r : RtM} {k : Nat} {K' : Int → Option PS} {O' : Nat → Int → Option PS} (h : RtR w z r) (hB : BR w' z.Bb z.fm k K' O') (hk : KeptM w w' z.fm) : WentR w w' z { r with K := K', O := O' } r.n := by
 have hb : ∀ x, z.mine r.n x → w'.heap[x]? = w.heap[x]? := fun x hx => hk.block x (h.mineLt x hx) (fun e => h.nb.2.2 x (.inl e) (h.no x hx)) (fun e => h.nb.2.2 x (.inr e) (h.no x hx))
 refine ⟨⟨z, ⟨h.n1, h.n3, h.ncap, h.id, h.blk.keep (hb _ (.inl rfl)), fun i hi => ?_, h.ib.keep hk.size (fun x hx => hb x (.inr (.inr (.inr hx)))), hB.six, h.bl, h.no, h.nb, h.sR, h.sB, h.sV, h.sI, h.nz0⟩, z.like_refl, fun _ e => .inl e, fun _ e => e⟩, ⟨hk.os, hk.tape, hk.output, hk.size, fun x hx _ h2 h3 => hk.block x hx h2 h3⟩⟩
 have hp := h.pt i hi
 obtain ⟨F, hC, hF⟩ := hp.cel
 exact ⟨⟨F, hC.keep (hb _ (.inr (.inl rfl))), hF⟩, hp.lk.keep (hb _ (.inr (.inr (.inl ⟨i, hi, .inl rfl⟩)))), hp.ou.keep hk.size (fun x hx => hb x (.inr (.inr (.inl ⟨i, hi, .inr hx⟩)))), hp.few, hp.ok, hp.gB, hp.vg, hp.vB, hp.nz⟩
theorem ptF_pe (p : PtM) (B : Nat) (v : Value) (F : Nat → Value) (q : PeerM) : ∀ j, j < 71 → updV (updV (updV (ptF p B v F) 67 (.int .i64 q.who)) 68 (.bool q.both)) 69 (.int .i64 q.left) j = ptF { p with pe := q } B v F j := by
 intro j hj
 by_cases h1 : j = 69
 · subst h1; simp [updV, ptF]
 by_cases h2 : j = 68
 · subst h2; simp [updV, ptF]
 by_cases h3 : j = 67
 · subst h3; simp [updV, ptF]
 rw [updV_other _ _ h1, updV_other _ _ h2, updV_other _ _ h3]
 simp only [ptF, h1, h2, h3, if_false]
theorem PtR.peer {w : World} {g o B : Nat} {v : Value} {p : PtM} (h : PtR w g o B v p) (q : PeerM) :
 WentP w (((w.setCell ⟨g, o + 67, none⟩ (.int .i64 q.who)).setCell ⟨g, o + 68, none⟩ (.bool q.both)).setCell ⟨g, o + 69, none⟩ (.int .i64 q.left)) g o B v { p with pe := q } := by
 obtain ⟨F, hC, hF⟩ := h.cel
 have hk : KeptC w (((w.setCell ⟨g, o + 67, none⟩ (.int .i64 q.who)).setCell ⟨g, o + 68, none⟩ (.bool q.both)).setCell ⟨g, o + 69, none⟩ (.int .i64 q.left)) g o 71 := (((KeptC.refl w g o 71).set (o + 67) (by omega) (by omega) _).set (o + 68) (by omega) (by omega) _).set (o + 69) (by omega) (by omega) _
 have hb : ∀ x, x < w.heap.size → x ≠ g → _ := hk.block
 refine ⟨⟨v, ⟨⟨F, (((hC.set 67 (by decide) _).set 68 (by decide) _).set 69 (by decide) _).congr (ptF_pe p B v F q), hF⟩, h.lk.keep (hb B h.lk.lt (fun e => h.gB e.symm)), h.ou.keep hk.size (fun x hx => hb x (h.ou.lt x hx) (fun e => h.vg (by rw [hx, e]))), h.few, h.ok, h.gB, h.vg, h.vB, h.nz⟩, fun _ e => .inl e⟩, ⟨hk.os, hk.tape, hk.output, hk.size, fun i hi h1 _ _ => hk.block i hi h1, hk.cell, hk.fz⟩⟩
theorem RtR.own {w w' : World} {z : Zt} {r : RtM} (h : RtR w z r) (iv' : Value) (inb : List Msg) (d : Int) (hs : w.heap.size ≤ w'.heap.size) (hos : w'.os = w.os) (htp : w'.tape = w.tape) (hou : w'.output = w.output) (hk : ∀ k, k < w.heap.size → k ≠ z.R → z.iv.ownBlock ≠ some k → w'.heap[k]? = w.heap[k]?)
 (hblk : Blk w' z.R #[.int .i64 r.id, .slice (some ⟨z.g, 0, none⟩) r.n z.cap, .pointer (some ⟨z.Bb, 0, none⟩), iv', .int .i64 d] 135) (hib : Row w' 3 iv' inb.length (msgC inb)) (hnew : ∀ k, iv'.ownBlock = some k → z.iv.ownBlock = some k ∨ w.heap.size ≤ k) : WentR w w' z { r with inb := inb, drop := d } r.n := by
 have hiv : ∀ k, z.iv.ownBlock = some k → z.mine r.n k := fun k hk => .inr (.inr (.inr hk))
 have hoth : ∀ k, k < w.heap.size → ¬ z.mine r.n k → w'.heap[k]? = w.heap[k]? := fun k hk' hm => hk k hk' (fun e => hm (.inl e)) (fun e => hm (hiv k e))
 have hbs := h.bs.still hs (fun j hj hn => hoth j hj (fun e => hn (h.no j e))) h.nb.1 h.nb.2.1 h.nb.2.2 (fun k => z.fm.no k ∨ (w.heap.size ≤ k ∧ k < w'.heap.size ∧ iv'.ownBlock = some k)) (fun j hj => by
  rcases hj with e | e
  · exact .inl e
  · exact .inr e.1) (fun j hj => by
  rcases hj with e | e
  · exact Nat.lt_of_lt_of_le (h.bs.nob j e) hs
  · exact e.2.1)
 have hmlt : ∀ b, (b = z.fm.bm ∨ b ∈ z.fm.bs) → b < w.heap.size := h.bs.mlt
 have hBbl : z.Bb < w.heap.size := by obtain ⟨_, _, hF, _⟩ := h.bs.ex; exact hF.lt
 have hfgl : z.fm.g < w.heap.size := by obtain ⟨_, _, hF, _⟩ := h.bs.ex; exact hF.row.lt _ rfl
 have hI' : ∀ k, k < w.heap.size → iv'.ownBlock = some k → z.iv.ownBlock = some k := fun k hk e => by
  rcases hnew k e with e1 | e1
  · exact e1
  · omega
 refine ⟨⟨{ z with iv := iv', fm := { z.fm with no := fun k => z.fm.no k ∨ (w.heap.size ≤ k ∧ k < w'.heap.size ∧ iv'.ownBlock = some k) } }, ⟨h.n1, h.n3, h.ncap, h.id, hblk, fun i hi => ?_, hib, hbs, h.bl, ?_, ?_, h.sR, h.sB, h.sV, ?_, ?_⟩, ⟨rfl, rfl, rfl, rfl, rfl, rfl, rfl, rfl⟩, ?_, fun k hk => .inl hk⟩, ⟨hos, htp, hou, hs, fun k hk' hm _ _ => hoth k hk' hm⟩⟩
 · have hp := h.pt i hi
   obtain ⟨F, hC, hF⟩ := hp.cel
   have hz := h.sR.2.2 i hi
   refine ⟨⟨F, hC.keep (hk _ hp.lt (fun e => h.sR.1 e.symm) (fun e => (h.sI _ e).2.1 rfl)), hF⟩, hp.lk.keep (hk _ hp.lk.lt hz.1 (fun e => ((h.sI _ e).2.2 i hi).1 rfl)), hp.ou.keep hs (fun x hx => hk x (hp.ou.lt x hx) (fun e => hz.2 (by rw [hx, e])) (fun e => ((h.sI x e).2.2 i hi).2 hx)), hp.few, hp.ok, hp.gB, hp.vg, hp.vB, hp.nz⟩
 · intro k hk
   rcases hk with e | e | e | e
   · exact .inl (h.no k (.inl e))
   · exact .inl (h.no k (.inr (.inl e)))
   · exact .inl (h.no k (.inr (.inr (.inl e))))
   · rcases hnew k e with e1 | e1
     · exact .inl (h.no k (hiv k e1))
     · exact .inr ⟨e1, hib.lt k e, e⟩
 · refine ⟨fun e => ?_, fun e => ?_, fun b hb e => ?_⟩
   · rcases e with e | e
     · exact h.nb.1 e
     · have h8 : w.heap.size ≤ z.Bb := e.1
       omega
   · rcases e with e | e
     · exact h.nb.2.1 e
     · have h8 : w.heap.size ≤ z.fm.g := e.1
       omega
   · rcases e with e | e
     · exact h.nb.2.2 b hb e
     · have h9 := hmlt b hb
       omega
 · intro k hk
   rcases hnew k hk with e1 | e1
   · exact h.sI k e1
   · refine ⟨fun e => ?_, fun e => ?_, fun i hi => ⟨fun e => ?_, fun e => ?_⟩⟩
     · have e' : k = z.R := e
       have := h.blk.lt; omega
     · have e' : k = z.g := e
       have := (h.pt 0 h.n1).lt; omega
     · have e' : k = z.B i := e
       have := (h.pt i hi).lk.lt; omega
     · have := (h.pt i hi).ou.lt k e; omega
 · refine ⟨fun e => ?_, h.nz0.2⟩
   rcases hnew 0 e with e1 | e1
   · exact h.nz0.1 e1
   · have := h.blk.lt; omega
 · intro k hk
   rcases hk with e | e | e | e
   · exact .inl (.inl e)
   · exact .inl (.inr (.inl e))
   · exact .inl (.inr (.inr (.inl e)))
   · exact (hnew k e).imp_left (hiv k)
end Rt
end Go.Proofs.YtieklnlbljejdaaGreatDoor

namespace Go.Proofs.YtieklnlbljejdaaGreatDoor
open Go.RowKit St
namespace Rt
theorem RtR.c0 {w : World} {z : Zt} {r : RtM} (h : RtR w z r) : w.cell? ⟨z.R, 0, none⟩ = some (.int .i64 r.id) := h.blk.cell 0
theorem RtR.c1 {w : World} {z : Zt} {r : RtM} (h : RtR w z r) : w.cell? ⟨z.R, 1, none⟩ = some (.slice (some ⟨z.g, 0, none⟩) r.n z.cap) := h.blk.cell 1
theorem RtR.c2 {w : World} {z : Zt} {r : RtM} (h : RtR w z r) : w.cell? ⟨z.R, 2, none⟩ = some (.pointer (some ⟨z.Bb, 0, none⟩)) := h.blk.cell 2
theorem RtR.c3 {w : World} {z : Zt} {r : RtM} (h : RtR w z r) : w.cell? ⟨z.R, 3, none⟩ = some z.iv := h.blk.cell 3
theorem RtR.c4 {w : World} {z : Zt} {r : RtM} (h : RtR w z r) : w.cell? ⟨z.R, 4, none⟩ = some (.int .i64 r.drop) := h.blk.cell 4
theorem RtR.lt {w : World} {z : Zt} {r : RtM} (h : RtR w z r) : z.R < w.heap.size := h.blk.lt
theorem RtR.glt {w : World} {z : Zt} {r : RtM} (h : RtR w z r) : z.g < w.heap.size := (h.pt 0 h.n1).lt
def hasB (i : Int) (n : Nat) : Bool := decide (0 ≤ i) && decide (i < (n : Int))
theorem hasB_yes {i : Nat} {n : Nat} (h : i < n) : hasB (i : Int) n = true := by simp [hasB]; omega
theorem hasB_cases (i : Int) (n : Nat) : hasB i n = false ∨ ∃ k : Nat, k < n ∧ i = (k : Int) := by
 by_cases h0 : 0 ≤ i
 · by_cases h1 : i < (n : Int)
   · exact .inr ⟨i.toNat, by omega, by omega⟩
   · exact .inl (by simp [hasB, h1])
 · exact .inl (by simp [hasB, h0])
set_option maxRecDepth 100000 in
theorem hasR_any (z : Zt) (r : RtM) (i : Int) (w : World) (h : RtR w z r) :
 Calls Tryz.prog 72 #[.pointer (some ⟨z.R, 0, none⟩), .int .i64 i] w fun e w' => e = .returned (.bool (hasB i r.n)) ∧ w = w' := by
 have hl := h.lt
 have c1 := h.c1
 unfold hasB
 by_cases h0 : 0 ≤ i
 · by_cases h1 : i < (r.n : Int)
   · have hv : (decide (0 ≤ i) && decide (i < (r.n : Int))) = true := by simp [h0, h1]
     rw [hv]
     clear hv h
     go_enter Tryz.func72, Tryz.ntmps72
     go_wp2
     go_ret
     exact ⟨by first | rfl | (simp; omega), rfl⟩
   · have hv : (decide (0 ≤ i) && decide (i < (r.n : Int))) = false := by simp [h1]
     rw [hv]
     clear hv h
     go_enter Tryz.func72, Tryz.ntmps72
     go_wp2
     go_ret
     exact ⟨by first | rfl | (simp; omega), rfl⟩
 · have hv : (decide (0 ≤ i) && decide (i < (r.n : Int))) = false := by simp [h0]
   rw [hv]
   clear hv h
   go_enter Tryz.func72, Tryz.ntmps72
   go_wp2
   go_ret
   exact ⟨by first | rfl | (simp; omega), rfl⟩
set_option maxRecDepth 100000 in
theorem link_yes (z : Zt) (r : RtM) (i : Nat) (w : World) (h : RtR w z r) (hi : i < r.n) :
 Calls Tryz.prog 60 #[.pointer (some ⟨z.R, 0, none⟩), .int .i64 (i : Int)] w fun e w' => e = .returned (.tuple #[.int .i64 (r.P i).L.st, .nilIface]) ∧ w = w' := by
 have hh := hasR_any z r i w h
 rw [hasB_yes hi] at hh
 have hl := h.lt
 have c1 := h.c1
 have g1 := (h.pt i hi).c1
 have gl := h.glt
 have hs := state_rep (z.B i) _ (r.P i).L _ [] w (Rep.rest (h.pt i hi).lk)
 have hi' : (i : Int) < (r.n : Int) := by omega
 have hi0 : (0 : Int) ≤ (i : Int) := by omega
 clear h
 go_enter Tryz.func60, Tryz.ntmps60
 go_wp2_with (fail)
 refine hh.mono ?_
 rintro e w1 ⟨rfl, rfl⟩
 clear hh
 go_wp2_with (fail)
 refine hs.mono ?_
 rintro e w1 ⟨rfl, rfl⟩
 clear hs
 go_wp2_with (fail)
 go_ret2
 exact ⟨rfl, rfl⟩
set_option maxRecDepth 100000 in
theorem peer_yes (z : Zt) (r : RtM) (i : Nat) (w : World) (h : RtR w z r) (hi : i < r.n) :
 Calls Tryz.prog 61 #[.pointer (some ⟨z.R, 0, none⟩), .int .i64 (i : Int)] w fun e w' => e = .returned (.tuple #[.agg #[.int .i64 (r.P i).pe.who, .bool (r.P i).pe.both, .int .i64 (r.P i).pe.left], .nilIface]) ∧ Below w.heap.size w w' := by
 have hb := below_alloc w (.cells #[.int .i64 0, .bool false, .int .i64 0] 116)
 have hb2 := below_alloc w (.cells #[.int .i64 (r.P i).pe.who, .bool (r.P i).pe.both, .int .i64 (r.P i).pe.left] 116)
 have hh := hasR_any z r i _ (h.below hb)
 rw [hasB_yes hi] at hh
 have hz := zeroPeer
 have hl := h.lt
 have c1 := h.c1
 have g1 := (h.pt i hi).c67
 have g2 := (h.pt i hi).c68
 have g3 := (h.pt i hi).c69
 have gl := h.glt
 have hi' : (i : Int) < (r.n : Int) := by omega
 have hi0 : (0 : Int) ≤ (i : Int) := by omega
 clear h
 go_enter Tryz.func61, Tryz.ntmps61
 go_wp2_with (fail)
 refine hh.mono ?_
 rintro e w1 ⟨rfl, rfl⟩
 clear hh
 go_wp2_with (fail)
 refine bodyPost_ret (v := .tuple #[.agg #[.int .i64 (r.P i).pe.who, .bool (r.P i).pe.both, .int .i64 (r.P i).pe.left], .nilIface]) (by simp [results, Tryz.results61, go_sem]) rfl ?_
 exact ⟨rfl, hb2⟩
end Rt
end Go.Proofs.YtieklnlbljejdaaGreatDoor

namespace Go.Proofs.YtieklnlbljejdaaGreatDoor
open Go.RowKit St
namespace Rt
def rowOf (m : Nat) (F : Nat → Value) : Array Value := (Array.range m).map F
theorem rowOf_size (m : Nat) (F : Nat → Value) : (rowOf m F).size = m := by simp [rowOf]
theorem rowOf_at (m : Nat) (F : Nat → Value) (j : Nat) (h : j < m) : (rowOf m F)[j]? = some (F j) := by simp [rowOf, h]
section
variable {P : Program}
theorem Cel.loadAt {w : World} {g o m : Nat} {F : Nat → Value} (h : Cel w g o m F) (t : TypeId) (d : TypeDesc) (hu : P.underlying t = some d) (hd : (match d with | .struct _ | .array _ _ => true | _ => false) = true) (hi : (P.info? t).map (·.size) = some m) :
 (Instr.loadAt t (.pointer (some ⟨g, o, none⟩))).run P w = .ok (.agg (rowOf m F)) w := by
 have hl : (loadCells ⟨g, o, none⟩ (rowOf m F).toList.length).run P w = .ok (rowOf m F).toList.toArray w :=
  run_loadCells_list (P := P) w ⟨g, o, none⟩ (rowOf m F).toList (fun j v hv => by
   have hadd : (⟨g, o, none⟩ : Addr).add j = ⟨g, o + j, none⟩ := by unfold Addr.add; split <;> simp_all
   have hj : j < m := by
    have := (List.getElem?_eq_some_iff.1 hv).1
    simpa [rowOf] using this
   have e2 : (rowOf m F).toList[j]? = some (F j) := by simpa using rowOf_at m F j hj
   rw [hadd, h.cell j hj]
   exact e2.symm.trans hv)
 cases hq : P.info? t with
 | none => simp [hq] at hi
 | some i =>
   have hs : i.size = m := by simpa [hq] using hi
   have hagg : (isAgg t).run P w = .ok true w := by
    unfold isAgg
    rw [Sem.run_bind, run_underlying hu w]
    cases d <;> simp_all
   simp only [Array.length_toList, Array.toArray_toList, rowOf_size] at hl
   simp [Instr.loadAt, Instr.sureAddr, loadVar, Sem.run_bind, hagg, sizeOf, typeInfo, hq, hs, hl]
theorem wpList_load_cel (w : World) {ops : Array Oper} {rest : List Oper} {o : Oper} {a : Act} {Q : Exit → Act → World → Prop} (hgd : o.guard = none) (x : Operand) (t : TypeId) (ho : o.op = .load t x)
 (g off m : Nat) (F : Nat → Value) (d : TypeDesc) (hx : a.eval x = .pointer (some ⟨g, off, none⟩)) (hb : Cel w g off m F) (hu : P.underlying t = some d) (hd : (match d with | .struct _ | .array _ _ => true | _ => false) = true) (hi : (P.info? t).map (·.size) = some m)
 (h : wpList P ops Q rest (a.put o.dst (.agg (rowOf m F))) w) : wpList P ops Q (o :: rest) a w := by
 refine wpList_plain hgd fun K hK => ?_
 have hr := Cel.loadAt hb t d hu hd hi
 unfold Oper.wp execOp
 simp only [ho, Sem.run_bind, Sem.run_pure, Result.andThen_ok, hx, hr]
 exact hK _ _ h
theorem wpList_store_blk0 (w : World) {ops : Array Oper} {rest : List Oper} {o : Oper} {a : Act} {Q : Exit → Act → World → Prop} (hgd : o.guard = none) (x y : Operand) (t : TypeId) (ho : o.op = .store t x y) (hd : o.dst = none)
 (B : Nat) (C D : Array Value) (hx : a.eval x = .pointer (some ⟨B, 0, none⟩)) (hy : a.eval y = .agg D) (hb : Blk w B C t) (hs : C.size = D.size) (hi : (P.info? t).map (·.size) = some D.size) (h1 : D.all (·.oneCell') = true)
 (h : wpList P ops Q rest a (w.setRow B D)) : wpList P ops Q (o :: rest) a w := by
 refine wpList_store_blk w hgd x y t ho B C D hx hy hb hs hi h1 ?_
 rw [hd]
 exact h
end
def zPt : Nat → Value := fun j => if j = 0 then .int .i64 0 else if j = 1 then .pointer none else if j < 67 then zRd (j - 2) else if j = 67 then .int .i64 0 else if j = 68 then .bool false else if j = 69 then .int .i64 0 else .slice none 0 0
theorem infoPt : (Tryz.prog.info? 142).map (fun i => (i.zero, i.size)) = some (some (.agg (rowOf 71 zPt)), 71) := by kernel_rfl
theorem zeroPt (w : World) : (zeroValue 142).run Tryz.prog w = .ok (.agg (rowOf 71 zPt)) w := (zero_of_info infoPt).1 w
theorem sizePt : (Tryz.prog.info? 142).map (·.size) = some 71 := (zero_of_info infoPt).2
theorem RdF.one {F : Nat → Value} {l : List UInt8} {e d : Bool} (h : RdF F l e d) (j : Nat) (hj : j < 65) : (F j).oneCell' = true := by
 by_cases h1 : j < 62
 · obtain ⟨x, hx⟩ := h.live j h1
   rw [hx]; rfl
 · have : j = 62 ∨ j = 63 ∨ j = 64 := by omega
   rcases this with rfl | rfl | rfl
   · rw [h.many]; rfl
   · rw [h.esc]; rfl
   · rw [h.bad]; rfl
theorem ptF_one {p : PtM} {B : Nat} {v : Value} {F : Nat → Value} (h : RdF F p.rd.1 p.rd.2.1 p.rd.2.2) (hv : v.oneCell' = true) : (rowOf 71 (ptF p B v F)).all (·.oneCell') = true := by
 rw [Array.all_eq_true]
 intro j hj
 rw [rowOf_size] at hj
 have e : (rowOf 71 (ptF p B v F))[j] = ptF p B v F j := by simp [rowOf]
 rw [e]
 unfold ptF
 by_cases h1 : j = 0
 · simp [h1]; rfl
 by_cases h2 : j = 1
 · simp [h2]; rfl
 by_cases h3 : j < 67
 · simp only [h1, h2, h3, if_false, if_true]; exact RdF.one h (j - 2) (by omega)
 by_cases h4 : j = 67
 · simp [h4]; rfl
 by_cases h5 : j = 68
 · simp [h5]; rfl
 by_cases h6 : j = 69
 · simp [h6]; rfl
 · simp only [h1, h2, h3, h4, h5, h6, if_false]; exact hv
theorem Row.one {w : World} {k : Nat} {v : Value} {n : Nat} {xs : List Value} (h : Row w k v n xs) : v.oneCell' = true := by
 rcases h.2 with ⟨e, _⟩ | ⟨g, c, e, _⟩
 · rw [e]; rfl
 · rw [e]; rfl
def bestV : Option Nat → Int
 | none => 0
 | some b => (b : Int)
theorem bestP_lt (P : Nat → PtM) (n : Int) (k b : Nat) (h : bestP P n k = some b) : b < k := (bestP_some h).1
set_option maxRecDepth 100000 in
set_option maxHeartbeats 4000000 in
theorem portTo_any (z : Zt) (r : RtM) (x : Int) (w : World) (h : RtR w z r) :
 Calls Tryz.prog 200 #[.pointer (some ⟨z.R, 0, none⟩), .int .i64 x] w fun e w' => e = .returned (.tuple #[.int .i64 (bestV (bestP r.P x r.n)), .bool (bestP r.P x r.n).isSome]) ∧ Below w.heap.size w w' := by
 have hl := h.lt
 have c1 := h.c1
 have hz := zeroPt
 have hsz := sizePt
 have hn3 := h.n3
 have hcp := h.ncap
 obtain ⟨n, hn⟩ : ∃ n, r.n = n := ⟨_, rfl⟩
 have HR : Hid _ := h
 have HN : Hid _ := hn
 rw [hn] at c1 hn3 hcp
 rw [hn]
 obtain ⟨Zp, hZp⟩ : ∃ Zp, rowOf 71 zPt = Zp := ⟨_, rfl⟩
 have hZs : Zp.size = 71 := by rw [← hZp]; exact rowOf_size _ _
 rw [hZp] at hz
 clear h hn hZp
 go_enter Tryz.func200, Tryz.ntmps200
 go_wp2_with (fail)
 go_loopw [6, 7, 15] (fun b f i wr => ∃ k : Nat, k ≤ n ∧ i = .int .i64 k ∧ b = .int .i64 (bestV (bestP r.P x k)) ∧ f = .bool (bestP r.P x k).isSome ∧ Below w.heap.size w wr) (fun _ _ i _ => n - (intOf i).toNat)
 case atStart => exact ⟨0, Nat.zero_le _, rfl, rfl, rfl, Below.refl _ _⟩
 case round =>
  obtain ⟨k, hk, rfl, rfl, rfl, hbel⟩ := hrel
  by_cases hlt : k < n
  · have hlt' : (k : Int) < (n : Int) := by omega
    have hk0 : (0 : Int) ≤ (k : Int) := by omega
    have R := HR.out.below hbel
    have hkn : k < r.n := by rw [HN.out]; exact hlt
    have hp := R.pt k hkn
    obtain ⟨F, hC, hF⟩ := hp.cel
    have hone := ptF_one (B := z.B k) (v := z.v k) hF (Row.one hp.ou)
    have gl := R.glt
    have d1 := R.c1
    have dl := R.lt
    rw [HN.out] at d1
    have HM : Hid (∀ b, bestP r.P x k = some b → wr.cell? ⟨z.g, b * 71, none⟩ = some (.int .i64 (r.P b).m)) := fun b hb => (R.pt b (by have := bestP_lt _ _ _ _ hb; omega)).c0
    obtain ⟨D, hD⟩ : ∃ D, rowOf 71 (ptF (r.P k) (z.B k) (z.v k) F) = D := ⟨_, rfl⟩
    have hDs : D.size = 71 := by rw [← hD]; exact rowOf_size _ _
    have a0 : D[0]? = some (.int .i64 (r.P k).m) := by rw [← hD]; exact rowOf_at 71 _ 0 (by decide)
    have a67 : D[67]? = some (.int .i64 (r.P k).pe.who) := by rw [← hD]; exact rowOf_at 71 _ 67 (by decide)
    have a68 : D[68]? = some (.bool (r.P k).pe.both) := by rw [← hD]; exact rowOf_at 71 _ 68 (by decide)
    rw [hD] at hone
    have ba := below_alloc wr (.cells D 142)
    have hB : Blk (wr.alloc (.cells D 142)) wr.heap.size D 142 := Blk.new _ _ _
    have HB : Hid (Below w.heap.size w (wr.alloc (.cells D 142))) := below_chain hbel ba
    have d1' := (World.cell?_of_block (a := ⟨z.R, 1, none⟩) (ba.block z.R dl)).trans d1
    have dl' : z.R < (wr.alloc (.cells D 142)).heap.size := Nat.lt_of_lt_of_le dl ba.size
    have HM2 : Hid (∀ b, bestP r.P x k = some b → (wr.alloc (.cells D 142)).cell? ⟨z.g, b * 71, none⟩ = some (.int .i64 (r.P b).m)) := fun b hb => (World.cell?_of_block (a := ⟨z.g, b * 71, none⟩) (ba.block z.g gl)).trans (HM.out b hb)
    have gl' : z.g < (wr.alloc (.cells D 142)).heap.size := Nat.lt_of_lt_of_le gl ba.size
    have hnew := World.setRow_alloc_new wr Zp D 142
    go_wp2_with (first
     | (refine wpList_load_cel _ rfl (.tmp 18) 142 rfl z.g (k * 71) 71 (ptF (r.P k) (z.B k) (z.v k) F) _ rfl hC Tryz.underlying142 rfl hsz ?_; rw [hD])
     | (refine wpList_store_blk0 _ rfl (.tmp 9) (.tmp 19) 142 rfl rfl wr.heap.size Zp D rfl rfl (Blk.new _ _ _) (by rw [hZs, hDs]) (by rw [hDs]; exact hsz) hone ?_; rw [hnew]))
    have y0 := (hB.cell 0).trans a0
    have y67 := (hB.cell 67).trans a67
    have y68 := (hB.cell 68).trans a68
    have yl : wr.heap.size < (wr.alloc (.cells D 142)).heap.size := World.block_lt_of_cell? _ _ y0
    obtain ⟨W, hW⟩ : ∃ W, wr.alloc (.cells D 142) = W := ⟨_, rfl⟩
    obtain ⟨Z, hZ⟩ : ∃ Z, wr.heap.size = Z := ⟨_, rfl⟩
    rw [hW] at HB HM2 d1' dl' gl' y0 y67 y68 yl
    rw [hZ] at y0 y67 y68 yl
    rw [hW, hZ]
    clear hW hZ hnew hB ba HM hone hC hF hp R hD a0 a67 a68 hDs d1 dl gl
    cases hb : (r.P k).pe.both with
    | false =>
      have HN : Hid _ := bestP_no (P := r.P) (n := x) (k := k) (fun hc => by have := hc.1; rw [hb] at this; cases this)
      rw [hb] at y68
      go_wp2_with (fail)
      go_quiet (fail)
      go_wp2_with (fail)
      go_roundw
      case rel => exact ⟨k + 1, by omega, by go_num, by rw [HN.out], by rw [HN.out], below_drewN HB.out _⟩
      case measure => simp [intOf]; omega
    | true =>
      rw [hb] at y68
      cases hw : ((r.P k).pe.who == x) with
      | false =>
        have HN : Hid _ := bestP_no (P := r.P) (n := x) (k := k) (fun hc => by have := hc.2.1; simp [this] at hw)
        go_wp2_with (fail)
        go_quiet (fail)
        go_wp2_with (fail)
        go_roundw
        case rel => exact ⟨k + 1, by omega, by go_num, by rw [HN.out], by rw [HN.out], below_drewN HB.out _⟩
        case measure => simp [intOf]; omega
      | true =>
        have hw' : (r.P k).pe.who = x := by simpa using hw
        cases hbs : bestP r.P x k with
        | none =>
          have HY : Hid _ := bestP_yes (P := r.P) (n := x) (k := k) ⟨hb, hw', by rw [hbs]⟩
          have e1 : bestV none = 0 := rfl
          have e2 : (none : Option Nat).isSome = false := rfl
          rw [e1, e2]
          go_wp2_with (fail)
          go_quiet (fail)
          go_wp2_with (fail)
          go_roundw
          case rel => exact ⟨k + 1, by omega, by go_num, by rw [HY.out]; rfl, by rw [HY.out]; rfl, below_drewN HB.out _⟩
          case measure => simp [intOf]; omega
        | some b =>
          have hbk := bestP_lt _ _ _ _ hbs
          have hM := HM2.out b hbs
          have hb1 : (b : Int) < (n : Int) := by omega
          have hb0 : (0 : Int) ≤ (b : Int) := by omega
          have e1 : bestV (some b) = (b : Int) := rfl
          have e2 : (some b : Option Nat).isSome = true := rfl
          by_cases hm : (r.P k).m < (r.P b).m
          · have HY : Hid _ := bestP_yes (P := r.P) (n := x) (k := k) ⟨hb, hw', by rw [hbs]; simp [hm]⟩
            have hmd : decide ((r.P k).m < (r.P b).m) = true := by simp [hm]
            rw [e1, e2]
            clear hm hbs
            go_wp2_with (fail)
            go_quiet (fail)
            go_wp2_with (fail)
            go_roundw
            case rel => exact ⟨k + 1, by omega, by go_num, by rw [HY.out]; rfl, by rw [HY.out]; rfl, below_drewN HB.out _⟩
            case measure => simp [intOf]; omega
          · have HN : Hid (bestP r.P x (k + 1) = some b) := (bestP_no (P := r.P) (n := x) (k := k) (fun hc => by have := hc.2.2; rw [hbs] at this; simp [hm] at this)).trans hbs
            have hmd : decide ((r.P k).m < (r.P b).m) = false := by simp [hm]
            rw [e1, e2]
            clear hm hbs
            go_wp2_with (fail)
            go_quiet (fail)
            go_wp2_with (fail)
            go_roundw
            case rel => exact ⟨k + 1, by omega, by go_num, by rw [HN.out]; rfl, by rw [HN.out]; rfl, below_drewN HB.out _⟩
            case measure => simp [intOf]; omega
  · have hkn : k = n := by omega
    subst hkn
    go_wp2_with (fail)
    go_ret2
    exact ⟨rfl, hbel⟩
end Rt
end Go.Proofs.YtieklnlbljejdaaGreatDoor

namespace Go.Proofs.YtieklnlbljejdaaGreatDoor
open Go.RowKit St
namespace Rt
def edgT (r : RtM) (k : Nat) : List Opt := (List.range k).filterMap fun (j : Nat) => (bestP r.P ((j : Int) + 1) r.n).map fun b => ((j : Int) + 1, (r.P b).m)
theorem edgT_none {r : RtM} {k : Nat} (h : bestP r.P ((k : Int) + 1) r.n = none) : edgT r (k + 1) = edgT r k := by
 unfold edgT
 rw [List.range_succ, List.filterMap_append]
 simp [h]
theorem edgT_some {r : RtM} {k b : Nat} (h : bestP r.P ((k : Int) + 1) r.n = some b) : edgT r (k + 1) = edgT r k ++ [((k : Int) + 1, (r.P b).m)] := by
 unfold edgT
 rw [List.range_succ, List.filterMap_append]
 simp [h]
set_option maxRecDepth 100000 in
set_option maxHeartbeats 4000000 in
theorem edgesR_any (z : Zt) (r : RtM) (w : World) (h : RtR w z r) :
 Calls Tryz.prog 179 #[.pointer (some ⟨z.R, 0, none⟩)] w fun e w' => ∃ v, e = .returned v ∧ Made w w' v (edgesM r) := by
 obtain ⟨i0, hi, hz0, hz1, hz2⟩ := info_parts infoEdge
 have HR : Hid _ := h
 clear h
 go_enter Tryz.func179, Tryz.ntmps179
 go_wp2_with (fail)
 go_loopw [3, 7] (fun out i wr => ∃ (k : Nat) (ao : Option Addr) (m cp : Nat), k ≤ 6 ∧ out = .slice ao m cp ∧ i = .int .i64 k ∧ m ≤ k ∧ Row wr 2 (.slice ao m cp) m (optCells (edgT r k)) ∧ (∀ j, Value.ownBlock (.slice ao m cp) = some j → w.heap.size ≤ j) ∧ Below w.heap.size w wr) (fun _ i _ => 6 - (intOf i).toNat)
 case atStart => exact ⟨0, none, 0, 0, Nat.zero_le _, rfl, rfl, Nat.le_refl _, by simpa [edgT, optCells] using Row.nil w 2, fun j hj => own_none hj, Below.refl _ _⟩
 case round =>
  obtain ⟨k, ao, m, cp, hk, rfl, rfl, hmk, hrow, hnew, hbel⟩ := hrel
  by_cases hlt : k < 6
  · have hlt' : (k : Int) < 6 := by omega
    have hk0 : (0 : Int) ≤ (k : Int) := by omega
    have R := HR.out.below hbel
    have hpt := portTo_any z r ((k : Int) + 1) wr R
    cases hb : bestP r.P ((k : Int) + 1) r.n with
    | none =>
      have hpt : Calls Tryz.prog 200 #[.pointer (some ⟨z.R, 0, none⟩), .int .i64 ((k : Int) + 1)] wr fun e w' => e = .returned (.tuple #[.int .i64 0, .bool false]) ∧ Below wr.heap.size wr w' := by
       rw [hb] at hpt
       exact hpt
      have HU : Hid _ := edgT_none hb
      have HRw : Hid _ := hrow
      have HB : Hid _ := hbel
      clear R hb hrow hbel
      go_wp2_with (fail)
      refine hpt.mono ?_
      rintro e w1 ⟨rfl, b1⟩
      clear hpt
      go_wp2_with (fail)
      go_roundw
      case rel => exact ⟨k + 1, _, m, cp, by omega, rfl, by go_num, by omega, by rw [HU.out]; exact Row.below HRw.out b1, hnew, below_chain HB.out b1⟩
      case measure => simp [intOf]; omega
    | some b =>
      have hpt : Calls Tryz.prog 200 #[.pointer (some ⟨z.R, 0, none⟩), .int .i64 ((k : Int) + 1)] wr fun e w' => e = .returned (.tuple #[.int .i64 (b : Int), .bool true]) ∧ Below wr.heap.size wr w' := by
       rw [hb] at hpt
       exact hpt
      have HU : Hid _ := edgT_some hb
      have hbn := (bestP_some hb).1
      have HR1 : Hid _ := R
      have HRw : Hid _ := hrow
      have HB : Hid _ := hbel
      clear R hb hrow hbel
      go_wp2_with (fail)
      refine hpt.mono ?_
      rintro e w1 ⟨rfl, b1⟩
      have R2 := HR1.out.below b1
      have d1 := R2.c1
      have dl := R2.lt
      have gl := R2.glt
      have g0 := (R2.pt b hbn).c0
      have hb1 : (b : Int) < (r.n : Int) := by omega
      have hb0 : (0 : Int) ≤ (b : Int) := by omega
      have hrow2 := Row.below HRw.out b1
      have hbel2 := below_chain HB.out b1
      clear hpt R2
      go_wp2_with (at_builtin; go_must (refine wpList_append_row _ rfl (.tmp 18) (.tmp 30) 38 rfl 123 i0 (.agg #[.int .i64 0, .int .i64 0]) 2 16 Tryz.underlying38 hi hz0 hz1 hz2 rfl (by decide) (.slice ao m cp) m (optCells (edgT r k)) rfl (hrow2.alloc _) _ 1 1 [.int .i64 ((k : Int) + 1), .int .i64 (r.P b).m] rfl rfl (by decide) (cells_twoN _ _ _ _ _ (by simp)) (one_ints _ _ _ _) (by unfold maxLen; omega) (by omega) ?_))
      intro g' cap' w2 hr1 hg1 hown1
      have hb2 := grow_below (hbel2.alloc hbel2.size _) hg1 hnew
      have hn1 := grow_new (B := w.heap.size) hown1 (by have := hbel2.size; omega) hnew
      rw [show [Value.int .i64 ((k : Int) + 1), Value.int .i64 (r.P b).m] = [Value.int .i64 (((k : Int) + 1, (r.P b).m) : Opt).1, Value.int .i64 (((k : Int) + 1, (r.P b).m) : Opt).2] from rfl, ← optCells_snoc, ← HU.out] at hr1
      clear hg1 hown1
      go_wp2_with (fail)
      go_roundw
      case rel => exact ⟨k + 1, _, m + 1, cap', by omega, rfl, by go_num, by omega, hr1, fun j hj => own_some hn1 hj, hb2⟩
      case measure => simp [intOf]; omega
  · have hk6 : k = 6 := by omega
    subst hk6
    have hml : m = (edgesM r).length := by have := hrow.1; rw [optCells_length] at this; show m = (edgT r 6).length; omega
    go_wp2_with (fail)
    go_ret
    exact ⟨_, rfl, ⟨by rw [← hml]; exact hrow, hnew, hbel⟩⟩
set_option maxRecDepth 100000 in
set_option maxHeartbeats 4000000 in
theorem equal_any (a b : Option Addr) (ca cb n m : Nat) (os qs : List Opt) (w : World) (ha : OptR w a n os) (hb : OptR w b m qs) (hn : n ≤ 1000000) (hm : m ≤ 1000000) :
 Calls Tryz.prog 178 #[.slice a n ca, .slice b m cb] w fun e w' => e = .returned (.bool (decide (os = qs))) ∧ ∃ k, w' = w.drewN k := by
 have hl := ha.1
 have hl2 := hb.1
 by_cases hnm : n = m
 · subst hnm
   have heq : ((n : Int) != (n : Int)) = false := by simp
   go_enter Tryz.func178, Tryz.ntmps178
   go_wp2_with (fail)
   go_loopw [13] (fun i wr => ∃ k m : Nat, k ≤ n ∧ i = .int .i64 k ∧ os.take k = qs.take k ∧ wr = w.drewN m) (fun i _ => n - (intOf i).toNat)
   case atStart => exact ⟨0, 0, Nat.zero_le _, rfl, rfl, rfl⟩
   case round =>
    obtain ⟨k, m, hk, rfl, hT, rfl⟩ := hrel
    have HT : Hid _ := hT
    clear hT
    by_cases hlt : k < n
    · rcases ha.2 with hA | ⟨b1, o1, rfl, hA⟩
      · omega
      rcases hb.2 with hB | ⟨b2, o2, rfl, hB⟩
      · omega
      obtain ⟨c1, c2⟩ := hA k (by omega)
      obtain ⟨c3, c4⟩ := hB k (by omega)
      have H1 : Hid (os.take (k + 1) = os.take k ++ [os[k]'(by omega)]) := List.take_succ_eq_append_getElem (by omega)
      have H2 : Hid (qs.take (k + 1) = qs.take k ++ [qs[k]'(by omega)]) := List.take_succ_eq_append_getElem (by omega)
      have H3 : Hid (os = qs → os[k]'(by omega) = qs[k]'(by omega)) := fun h => by subst h; rfl
      clear hA hB
      generalize os[k]'(by omega) = o at c1 c2 H1 H3
      generalize qs[k]'(by omega) = q at c3 c4 H2 H3
      have hlt' : (k : Int) < (n : Int) := by omega
      cases q1 : (o.1 == q.1)
      · have hne : Hid (decide (os = qs) = false) := by
         show _ = _
         rw [decide_eq_false_iff_not]
         intro h
         have := H3.out h
         rw [this] at q1
         simp at q1
        go_wp2_with (fail)
        go_quiet (fail)
        go_wp2_with (fail)
        rw [hne.out]
        go_ret
        exact ⟨rfl, _, drewN_drewN _ _ _⟩
      · cases q2 : (o.2 == q.2)
        · have hne : Hid (decide (os = qs) = false) := by
           show _ = _
           rw [decide_eq_false_iff_not]
           intro h
           have := H3.out h
           rw [this] at q2
           simp at q2
          go_wp2_with (fail)
          go_quiet (fail)
          go_wp2_with (fail)
          rw [hne.out]
          go_ret
          exact ⟨rfl, _, drewN_drewN _ _ _⟩
        · have HE : Hid (os.take (k + 1) = qs.take (k + 1)) := by
           show _ = _
           rw [H1.out, H2.out, HT.out]
           simp at q1 q2
           congr 2
           exact Prod.ext q1 q2
          go_wp2_with (fail)
          go_quiet (fail)
          go_wp2_with (fail)
          go_roundw
          case rel => exact ⟨k + 1, _, by omega, by go_num, HE.out, rfl⟩
          case measure => simp [intOf]; omega
    · have hfin : decide (os = qs) = true := by
       have h1 : os.take k = os := List.take_of_length_le (by omega)
       have h2 : qs.take k = qs := List.take_of_length_le (by omega)
       have := HT.out
       rw [h1, h2] at this
       simp [this]
      go_wp2_with (fail)
      rw [hfin]
      go_ret
      exact ⟨rfl, m, rfl⟩
 · have heq : ((n : Int) != (m : Int)) = true := by simp; omega
   have hne : decide (os = qs) = false := by
    rw [decide_eq_false_iff_not]
    intro h
    subst h
    omega
   rw [hne]
   go_enter Tryz.func178, Tryz.ntmps178
   go_wp2_with (fail)
   go_ret
   exact ⟨rfl, 0, rfl⟩
end Rt
end Go.Proofs.YtieklnlbljejdaaGreatDoor
