/-
  NtRenew NtRestart NtMetrics
-/
import Derived.Test.YtieklnlbljejdaaGreatDoorG44
namespace Go.Proofs.YtieklnlbljejdaaGreatDoor
open Go.RowKit St
namespace Rt
theorem RtR.footLt {w : World} {z : Zt} {r : RtM} (h : RtR w z r) (h3 : r.n = 3) {b : Nat} (hb : z.foot b) : b < w.heap.size := by
 rcases hb with e | e | e
 · have := h.mineLt b
   rw [h3] at this
   exact this e
 · exact h.bs.mlt b (.inl e)
 · exact h.bs.mlt b (.inr e)
theorem RtR.cellAway {w : World} {z : Zt} {r : RtM} (h : RtR w z r) (h3 : r.n = 3) {g : Nat} (hg : z.fm.no g ∧ ¬ z.mine 3 g) (j : Nat) (v : Value) : RtR (w.setCell ⟨g, j, none⟩ v) (z.plus fun _ => False) r := by
 refine h.besides (by simp) (fun k _ hc => Below.heap_setCell _ _ _ k (fun e => ?_)) _ (fun k e => e.elim)
 have e' : k = g := e
 subst e'
 rcases hc with hc | hc
 · exact hc hg.1
 · rw [h3] at hc; exact hg.2 hc
theorem NetR.renew {W0 W2 W3 : World} {y y1 : Yt} {n n3 : NtM} {k : Nat} {z : Zt} {r : RtM} (h0 : NetR W0 y n) (hk : k < n.n) (hb : Below W0.heap.size W0 W2) (hz : RtR W2 z r) (hr : r.n = 3 ∧ r.id = (k : Int) + 1)
 (hzn : ∀ b, z.foot b → W0.heap.size ≤ b) (hzX : ∀ b, y.all n.n b ∨ y.ext b → z.fm.no b) (hs1 : y.same y1) (ha1 : ∀ b, y1.all n.n b ↔ y.all n.n b) (he1 : ∀ b, y1.ext b ↔ y.ext b ∨ z.foot b)
 (hW : WentN W2 W3 y1 n3 n.n) (hn3 : n3.n = n.n) :
 ∃ y2, NetR (W3.setCell ⟨y.gR, k, none⟩ (.pointer (some ⟨z.R, 0, none⟩))) y2 (n3.setR k r) ∧ y.same y2 ∧ (∀ b, y2.all n.n b → y.all n.n b ∨ z.foot b ∨ W2.heap.size ≤ b) ∧ (∀ b, y2.ext b ↔ y.ext b) ∧ KeptY W0 (W3.setCell ⟨y.gR, k, none⟩ (.pointer (some ⟨z.R, 0, none⟩))) y n.n := by
 obtain ⟨y', R', s', hm', he'⟩ := hW.ex
 have hK := hW.kept
 have hgR : y'.gR = y.gR := s'.gR.trans hs1.gR
 have hbM : y'.bM = y.bM := s'.bM.trans hs1.bM
 have hzlt : ∀ b, z.foot b → b < W2.heap.size := fun b e => hz.footLt hr.1 e
 have hall : ∀ b, y'.all n.n b → y.all n.n b ∨ W2.heap.size ≤ b := fun b e => (hm' b e).imp_left (ha1 b).1
 have hallLt : ∀ b, y.all n.n b → b < W0.heap.size := fun b e => h0.allLt e
 have hRlt : ∀ b, y'.all n.n b → b < W3.heap.size := fun b e => R'.allLt (by rw [hn3]; exact e)
 obtain ⟨X, hXe⟩ : ∃ X : Nat → Prop, X = fun b => W2.heap.size ≤ b ∧ b < W3.heap.size ∧ y'.all n.n b := ⟨_, rfl⟩
 have hX : ∀ b, X b → W2.heap.size ≤ b ∧ b < W3.heap.size := fun b e => by rw [hXe] at e; exact ⟨e.1, e.2.1⟩
 have hz3 : RtR W3 (z.plus X) r := by
  refine hz.besides hK.size (fun b hb' hc => hK.block b hb' (fun e => ?_)) X hX
  have e1 := (ha1 b).1 e
  rcases hc with hc | hc
  · exact hc (hzX b (.inl e1))
  · rw [hr.1] at hc
    have := hzn b (.inl hc)
    have := hallLt b e1
    omega
 -- what of the net's own and of the routers is kept away from the new one
 have hnew : ∀ b, y'.all n.n b → (z.fm.no b ∨ X b) ∧ ¬ z.mine 3 b := fun b e => by
  rcases hall b e with e1 | e1
  · exact ⟨.inl (hzX b (.inl e1)), fun e2 => by have := hzn b (.inl e2); have := hallLt b e1; omega⟩
  · exact ⟨.inr (by rw [hXe]; exact ⟨e1, hRlt b e, e⟩), fun e2 => by have := hzlt b (.inl e2); omega⟩
 have hgRown : y'.own y.gR := ⟨.R, by rw [← hgR]; rfl⟩
 have hgRaw : (z.plus X).fm.no y.gR ∧ ¬ (z.plus X).mine 3 y.gR := hnew y.gR (.inl hgRown)
 obtain ⟨W4, hW4⟩ : ∃ W4, W3.setCell ⟨y.gR, k, none⟩ (.pointer (some ⟨z.R, 0, none⟩)) = W4 := ⟨_, rfl⟩
 have hzz : RtR W4 ((z.plus X).plus fun _ => False) r := by rw [← hW4]; exact hz3.cellAway hr.1 hgRaw k _
 have hoth : ∀ j, j < n.n → RtR W4 ((y'.z j).plus fun _ => False) (n3.R j) := fun j hj => by
  rw [← hW4]
  exact (R'.rt j (by rw [hn3]; exact hj)).cellAway (R'.rn j (by rw [hn3]; exact hj)).1 (R'.away j (by rw [hn3]; exact hj) y.gR (.inl hgRown)) k _
 have hblk : ∀ b, b ≠ y.gR → W4.heap[b]? = W3.heap[b]? := fun b e => by rw [← hW4]; exact Below.heap_setCell _ _ _ b e
 have hsz : W4.heap.size = W3.heap.size := by rw [← hW4]; simp
 have hat : ∀ l b, y'.at l = some b → l ≠ .R → W4.heap[b]? = W3.heap[b]? := fun l b e hl => hblk b (fun e1 => R'.at_ne e (show y'.at .R = some y'.gR from rfl) hl (by rw [hgR]; exact e1))
 obtain ⟨Z, hZ⟩ : ∃ Z : Nat → Zt, Z = fun j => if j = k then (z.plus X).plus fun _ => False else (y'.z j).plus fun _ => False := ⟨_, rfl⟩
 have hZk : Z k = (z.plus X).plus fun _ => False := by rw [hZ]; simp
 have hZj : ∀ j, j ≠ k → Z j = (y'.z j).plus fun _ => False := fun j hj => by rw [hZ]; simp [hj]
 have hZf : ∀ j b, (Z j).foot b → (j = k ∧ z.foot b) ∨ (j ≠ k ∧ (y'.z j).foot b) := fun j b e => by
  by_cases ej : j = k
  · subst ej; rw [hZk] at e; exact .inl ⟨rfl, e⟩
  · rw [hZj j ej] at e; exact .inr ⟨ej, e⟩
 have hkept : KeptY W0 W4 y n.n := by
  have b1 : Below 0 W3 W4 := by rw [← hW4]; exact (Below.refl 0 W3).setCell (Nat.zero_le _) _
  refine ⟨b1.os.trans (hK.os.trans hb.os), b1.tape.trans (hK.tape.trans hb.tape), b1.output.trans (hK.output.trans hb.output), by rw [hsz]; exact Nat.le_trans hb.size hK.size, fun b hb' hn => ?_⟩
  have e1 : b ≠ y.gR := fun e => hn (.inl ⟨.R, by rw [e]; rfl⟩)
  rw [hblk b e1, hK.block b (Nat.lt_of_lt_of_le hb' hb.size) (fun e => hn ((ha1 b).1 e)), hb.block b hb']
 rw [hW4]
 refine ⟨{ y' with z := Z, ext := fun b => y'.ext b ∧ ¬ z.foot b }, ⟨R'.n1, R'.n6, R'.c9, R'.blk.keep (hat .N _ rfl (fun e => nomatch e)), ?_, R'.ri.keep (hat .I _ rfl (fun e => nomatch e)), fun g hg c hc => (R'.rc g hg c hc).keep (hat .C _ hg (fun e => nomatch e)), R'.gc, ?_, ?_, ?_, fun j hj => (R'.ib j hj).keep (by omega) (fun b e => hat (.ib j) b e (fun e => nomatch e)), fun c d hc hd => (R'.ob c d hc hd).keep (by omega) (fun b e => hat (.on c d) b e (fun e => nomatch e)), R'.ol, R'.en, R'.inj, ?_, fun b e => R'.nx b e.1, ⟨R'.nM.1, fun e => R'.nM.2.1 e.1, ?_⟩, R'.z0⟩, Yt.same_trans hs1 (Yt.same_trans s' ⟨rfl, rfl, rfl, rfl, rfl, rfl, rfl, rfl⟩), ?_, ?_, hkept⟩
 · have h1 := R'.rr.set k (by rw [hn3]; exact hk) (.pointer (some ⟨z.R, 0, none⟩))
   rw [hgR, Nat.zero_add, hW4] at h1
   show Cel W4 y'.gR 0 n3.n _
   rw [hgR]
   refine h1.congr fun j hj => ?_
   show updV _ k _ j = .pointer (some ⟨(Z j).R, 0, none⟩)
   by_cases e : j = k
   · subst e; rw [hZk]; unfold updV; simp; rfl
   · rw [hZj j e, updV_other _ _ e]; rfl
 · obtain ⟨E, h1, h2⟩ := R'.mp
   refine ⟨E, h1.keep (hblk y'.bM (fun e => R'.nM.1 ?_)), h2⟩
   rw [e]; exact hgRown
 · intro j hj
   show RtR W4 (Z j) (upN n3.R k r j)
   by_cases e : j = k
   · subst e; rw [hZk, upN_same]; exact hzz
   · rw [hZj j e, upN_other _ _ e]; exact hoth j (by rw [← hn3]; exact hj)
 · intro j hj
   show (upN n3.R k r j).n = 3 ∧ (upN n3.R k r j).id = (j : Int) + 1
   by_cases e : j = k
   · subst e; rw [upN_same]; exact hr
   · rw [upN_other _ _ e]; exact R'.rn j hj
 · intro i hi b hb'
   have hi' : i < n.n := by rw [← hn3]; exact hi
   show (Z i).fm.no b ∧ ¬ (Z i).mine 3 b
   by_cases ei : i = k
   · subst ei
     rw [hZk]
     have hgoal : (z.fm.no b ∨ X b) ∧ ¬ z.mine 3 b := by
      rcases hb' with e | e | ⟨j, hj, hne, e⟩
      · exact hnew b (.inl e)
      · have e1 := (he' b).1 e.1
        rcases (he1 b).1 e1 with e2 | e2
        · exact ⟨.inl (hzX b (.inr e2)), fun e3 => e.2 (.inl e3)⟩
        · exact absurd e2 e.2
      · rcases hZf j b e with ⟨e1, _⟩ | ⟨e1, e2⟩
        · exact absurd e1 hne
        · exact hnew b (.inr ⟨j, by rw [← hn3]; exact hj, e2⟩)
     exact ⟨.inl hgoal.1, hgoal.2⟩
   · rw [hZj i ei]
     have hgoal : (y'.z i).fm.no b ∧ ¬ (y'.z i).mine 3 b := by
      rcases hb' with e | e | ⟨j, hj, hne, e⟩
      · exact R'.away i hi b (.inl e)
      · exact R'.away i hi b (.inr (.inl e.1))
      · rcases hZf j b e with ⟨e1, e2⟩ | ⟨e1, e2⟩
        · exact R'.away i hi b (.inr (.inl ((he' b).2 ((he1 b).2 (.inr e2)))))
        · exact R'.away i hi b (.inr (.inr ⟨j, hj, hne, e2⟩))
     exact ⟨.inl hgoal.1, hgoal.2⟩
 · intro i hi e
   show False
   rcases hZf i _ e with ⟨_, e2⟩ | ⟨_, e2⟩
   · have e3 := hzn _ e2
     have h1 := h0.mapLt
     have e4 : W0.heap.size ≤ y'.bM := e3
     rw [hbM] at e4
     omega
   · exact R'.nM.2.2 i hi e2
 · intro b e
   rcases e with e | ⟨j, hj, e⟩
   · rcases hall b (.inl e) with e1 | e1
     · exact .inl e1
     · exact .inr (.inr e1)
   · rcases hZf j b e with ⟨_, e2⟩ | ⟨_, e2⟩
     · exact .inr (.inl e2)
     · rcases hall b (.inr ⟨j, hj, e2⟩) with e1 | e1
       · exact .inl e1
       · exact .inr (.inr e1)
 · intro b
   constructor
   · rintro ⟨e1, e2⟩
     rcases (he1 b).1 ((he' b).1 e1) with e3 | e3
     · exact e3
     · exact absurd e3 e2
   · intro e
     refine ⟨(he' b).2 ((he1 b).2 (.inl e)), fun e2 => ?_⟩
     have h1 := h0.lt (.inr e)
     have h2 := hzn b e2
     omega
end Rt
end Go.Proofs.YtieklnlbljejdaaGreatDoor

namespace Go.Proofs.YtieklnlbljejdaaGreatDoor
open Go.RowKit St
namespace Rt
theorem plugs_snoc (up : Bool) : ∀ (l : List Nat) (y : NtM) (c : Nat), y.plugs up (l ++ [c]) = (y.plugs up l).plug1 c up
 | [], _, _ => rfl
 | _ :: l, _, c => plugs_snoc up l _ c
theorem natsV_at (l : List Nat) (j : Nat) (h : j < l.length) : (natsV l)[j]? = some (.int .i64 (l[j] : Int)) := by simp [natsV, h]
theorem plugNext_any (Wb : World) (y : Yt) (n0 M : NtM) (D m : Nat) (up : Bool) (L : List Nat) (h0 : NetR Wb y n0) (hn0 : n0.n = m) (hT : TabOk Wb) (hok : NOk M D 20) (hD : D ≤ 900000000) (hL : ∀ c ∈ L, c < M.nc) (hl : L.length ≤ 9) (hMn : M.n = m) (q : Nat) (hq : q < L.length) (W : World) (hW : WentN Wb W y (M.plugs up (L.take q)) m) :
 Calls Tryz.prog 113 #[.pointer (some ⟨y.N, 0, none⟩), .int .i64 (L[q] : Int), .bool up] W fun e w' => e = .returned (.tuple #[]) ∧ WentN Wb w' y (M.plugs up (L.take (q + 1))) m := by
 have hTW := hW.tab h0 hn0 hT
 obtain ⟨s1, s2, s3, s4, s5⟩ := plugs_same up (L.take q) M
 have hok1 := NOk.plugs (by omega) up (L.take q) hok (fun c hc => hL c (List.mem_of_mem_take hc))
 have hlq : (L.take q).length ≤ q := List.length_take_le _ _
 have e1 : M.plugs up (L.take (q + 1)) = (M.plugs up (L.take q)).plug1 L[q] up := by
  rw [List.take_succ_eq_append_getElem hq, plugs_snoc]
 rw [e1]
 refine hW.call fun y1 R1 h1 => ?_
 rw [← h1.N]
 have := plugI_any y1 _ D _ L[q] up W R1 hTW hok1 hD (by omega) (by rw [s2]; exact hL _ (List.getElem_mem hq))
 rw [s1, hMn] at this
 exact this
set_option maxRecDepth 100000 in
set_option maxHeartbeats 4000000 in
theorem restart_net (y : Yt) (n : NtM) (D : Nat) (i : Int) (w : World) (h : NetR w y n) (hT : TabOk w) (hok : NOk n D 0) (hD : D ≤ 900000000) :
 Calls Tryz.prog 62 #[.pointer (some ⟨y.N, 0, none⟩), .int .i64 i] w fun e w' => e = .returned (errV (n.restart i).2) ∧ WentN w w' y (n.restart i).1 n.n := by
 have hh := hasRouter_any y n i w h
 rcases hasN_cases i n.n with ⟨hn, hi⟩ | ⟨k, hk, rfl⟩
 · have hE : n.restart i = (n, 6) := by unfold NtM.restart; rw [if_pos hi]
   rw [hE]
   rw [hn] at hh
   have HW : Hid _ := WentN.refl h
   clear h hok hT
   go_enter Tryz.func62, Tryz.ntmps62
   go_wp2_with (fail)
   refine hh.mono ?_
   rintro e w1 ⟨rfl, rfl⟩
   clear hh
   go_wp2_with (fail)
   go_ret
   exact ⟨rfl, HW.out⟩
 · rw [hasN_yes hk] at hh
   have n6 := h.n6
   obtain ⟨L, hL⟩ : ∃ L, n.cabsIn k = L := ⟨_, rfl⟩
   have hE : n.restart ((k : Int) + 1) = ((((n.plugs false L).setR k (newRt ((k : Int) + 1) 3 (n.ms k))).plugs true L).gather, 0) := by
    unfold NtM.restart
    have e1 : ((k : Int) + 1 - 1).toNat = k := by omega
    rw [if_neg (by omega), e1, hL]
   rw [hE]
   have e0 : errV 0 = .nilIface := rfl
   rw [e0]
   obtain ⟨E, hEm, hET, hEO⟩ := h.mp
   have hnr := newRouter_any y.N y.bM k E (n.ms k) w h.k2 hEm hEO (by omega) (fun p hp => hET k p hk hp) hT (fun b => y.all n.n b ∨ y.ext b) (fun b hb => hb.elim (fun e => h.allLt e) (fun e => h.lt (.inr e)))
   have hLl : L.length ≤ 9 := by
    rw [← hL]
    exact Nat.le_trans (cabsIn_len n k) h.c9
   have hLc : ∀ c ∈ L, c < n.nc := fun c hc => by rw [← hL] at hc; exact cabsIn_lt c hc
   have HCab : Hid (∀ W, Below w.heap.size w W → Calls Tryz.prog 115 #[.pointer (some ⟨y.N, 0, none⟩), .int .i64 ((k : Int) + 1)] W fun e w' => ∃ v, e = .returned v ∧ Row w' 1 v L.length (natsV L) ∧ (∀ b, v.ownBlock = some b → W.heap.size ≤ b) ∧ Below W.heap.size W w') := by
    intro W hW
    have := cablesIn_any y n k W (h.below hW)
    rw [hL] at this
    exact this
   have HH : Hid _ := h
   have HT : Hid _ := hT
   have HOK : Hid _ := hok
   have HK : Hid (k < n.n) := hk
   have HLC : Hid _ := hLc
   clear h hT hok hEm hET hEO hE hL hLc
   go_enter Tryz.func62, Tryz.ntmps62
   go_wp2_with (fail)
   refine hh.mono ?_
   rintro e w1 ⟨rfl, rfl⟩
   clear hh
   go_wp2_with (fail)
   refine hnr.mono ?_
   rintro e W1 ⟨z, rfl, hz1, hb1, hz3, hz4, hz5, hz6⟩
   have hca := HCab.out W1 hb1
   have HZ1 : Hid _ := hz1
   have HB1 : Hid _ := hb1
   have hzn : Hid (∀ b, z.foot b → w.heap.size ≤ b) := by
    intro b hb
    rcases hb with e | e | e
    · exact hz3 b e
    · rw [e]; exact hz4
    · exact hz5 b e
   have HZX : Hid (∀ b, y.all n.n b ∨ y.ext b → z.fm.no b) := fun b hb => hz6 b hb
   clear hnr hz1 hb1 hz3 hz4 hz5 hz6
   go_wp2_with (fail)
   refine hca.mono ?_
   rintro e W2 ⟨v, rfl, hrow, hown, hb2⟩
   clear hca
   have hb02 : Below w.heap.size w W2 := below_chain HB1.out hb2
   have hz2 : RtR W2 z (newRt ((k : Int) + 1) 3 (n.ms k)) := HZ1.out.below hb2
   have hr2 : (newRt ((k : Int) + 1) 3 (n.ms k)).n = 3 ∧ (newRt ((k : Int) + 1) 3 (n.ms k)).id = (k : Int) + 1 := ⟨rfl, rfl⟩
   have hfl : ∀ b, z.foot b → b < W1.heap.size := fun b e => HZ1.out.footLt rfl e
   obtain ⟨y1, R1, s1, ha1, he1⟩ := HH.out.beside hb02.size (fun b hb' _ => hb02.block b hb') z.foot (fun b e => ⟨hzn.out b e, Nat.lt_of_lt_of_le (hfl b e) hb2.size⟩)
   have hT2 : TabOk W2 := TabOk.below (w := w) HT.out hb02
   have hok20 : NOk n D 20 := HOK.out.mono (Nat.le_refl _) (by omega)
   obtain ⟨a, cp, hve⟩ := Row.shape hrow
   subst hve
   have hNe : Hid (∀ b, Value.ownBlock (.slice a L.length cp) = some b → W1.heap.size ≤ b ∧ b < W2.heap.size) := fun b hb => ⟨hown b hb, hrow.lt b hb⟩
   have HRow : Hid _ := hrow
   have HP0 : Hid (WentN W2 W2 y1 (n.plugs false (L.take 0)) n.n) := WentN.refl R1
   have HPl : Hid (∀ q W, (hq : q < L.length) → WentN W2 W y1 (n.plugs false (L.take q)) n.n → Calls Tryz.prog 113 #[.pointer (some ⟨y.N, 0, none⟩), .int .i64 (L[q] : Int), .bool false] W fun e w' => e = .returned (.tuple #[]) ∧ WentN W2 w' y1 (n.plugs false (L.take (q + 1))) n.n) := by
    intro q W hq hW
    rw [← s1.N]
    exact plugNext_any W2 y1 n n D n.n false L R1 rfl hT2 hok20 hD HLC.out hLl rfl q hq W hW
   have HCel : Hid (∀ q W M, (hq : q < L.length) → WentN W2 W y1 M n.n → ∃ g, a = some ⟨g, 0, none⟩ ∧ W.cell? ⟨g, q, none⟩ = some (.int .i64 (L[q] : Int))) := by
    intro q W M hq hW
    rcases HRow.out.2 with ⟨_, e2⟩ | ⟨g, c, e, _, _, _, hc, _⟩
    · omega
    · have ea : a = some ⟨g, 0, none⟩ := (Value.slice.inj e).1
      have hg := hNe.out g (by rw [ea]; rfl)
      refine ⟨g, ea, (World.cell?_of_block (a := ⟨g, q, none⟩) (hW.kept.block g hg.2 (fun e3 => ?_))).trans (hc q _ (natsV_at L q hq))⟩
      have h1 := HH.out.allLt ((ha1 g).1 e3)
      have h2 := HB1.out.size
      omega
   have HR1 : Hid _ := R1
   have HS1 : Hid _ := s1
   have HA1 : Hid _ := ha1
   have HE1 : Hid _ := he1
   have HZ2 : Hid _ := hz2
   have HB02 : Hid _ := hb02
   have HFL : Hid _ := hfl
   have HT2 : Hid _ := hT2
   have HB2 : Hid _ := hb2
   obtain ⟨len, hlen⟩ : ∃ len, L.length = len := ⟨_, rfl⟩
   have HLen : Hid _ := hlen
   rw [hlen] at hLl
   clear hrow hown hb02 hz2 hr2 hfl R1 s1 ha1 he1 hT2 hb2 hok20
   go_wp2_with (fail)
   go_loopw [31] (fun x wr => ∃ q : Nat, q ≤ len ∧ x = .int .i64 q ∧ WentN W2 wr y1 (n.plugs false (L.take q)) n.n) (fun x _ => len - (intOf x).toNat)
   case atStart => exact ⟨0, Nat.zero_le _, rfl, HP0.out⟩
   case round =>
    obtain ⟨q, hq, rfl, hwq⟩ := hrel
    obtain ⟨V, rfl⟩ : ∃ V, V = wr := ⟨_, rfl⟩
    by_cases hlt : q < len
    · have hlt' : (q : Int) < (len : Int) := by omega
      have hq0 : (0 : Int) ≤ (q : Int) := by omega
      have hqL : q < L.length := by rw [HLen.out]; exact hlt
      obtain ⟨g, rfl, hcell⟩ := HCel.out q V _ hqL hwq
      have gl := World.block_lt_of_cell? _ _ hcell
      have hpl := HPl.out q V hqL hwq
      generalize L[q] = cq at hcell hpl
      clear hwq
      go_wp2_with (fail)
      refine hpl.mono ?_
      rintro e w1 ⟨rfl, hw1⟩
      have HW : Hid _ := hw1
      clear hpl hw1
      go_wp2_with (fail)
      go_roundw
      case rel => exact ⟨q + 1, by omega, by go_num, HW.out⟩
      case measure => simp [intOf]; omega
    · have hge : ¬ (q : Int) < (len : Int) := by omega
      obtain rfl : q = len := by omega
      have e9 : L.take q = L := by rw [← HLen.out]; exact List.take_length
      rw [e9] at hwq
      obtain ⟨n3, hn3⟩ : ∃ n3, n.plugs false L = n3 := ⟨_, rfl⟩
      obtain ⟨p1, p2, p3, p4, p5⟩ := plugs_same false L n
      rw [hn3] at hwq p1 p2
      have hok3 : NOk n3 D 20 := by
       rw [← hn3]
       exact (NOk.plugs (by omega) false L HOK.out HLC.out).mono (Nat.le_refl _) (by rw [HLen.out]; omega)
      obtain ⟨y2, R2, s2, ha2, he2, hk2⟩ := NetR.renew HH.out HK.out HB02.out HZ2.out ⟨rfl, rfl⟩ hzn.out HZX.out HS1.out HA1.out HE1.out hwq p1
      have hok4 := hok3.anew k (by rw [p1]; exact HK.out)
      have e8 : n3.ms k = n.ms k := by rw [← hn3, p3]
      rw [e8] at hok4
      obtain ⟨n4, hn4⟩ : ∃ n4, n3.setR k (newRt ((k : Int) + 1) 3 (n.ms k)) = n4 := ⟨_, rfl⟩
      rw [hn4] at R2 hok4
      have hn4n : n4.n = n.n := by rw [← hn4]; exact p1
      have hn4c : n4.nc = n.nc := by rw [← hn4]; exact p2
      -- the pointers' row
      have d0 := hwq.k0
      have dl := hwq.lt
      rw [HS1.out.N, HS1.out.gR, HS1.out.capR, p1] at d0
      rw [HS1.out.N] at dl
      obtain ⟨Rk, hRk⟩ := hwq.ptr (i := k) (by rw [p1]; exact HK.out)
      rw [HS1.out.gR] at hRk
      have gRl := World.block_lt_of_cell? _ _ hRk
      have gRf : V.frozen? ⟨y.gR, k, none⟩ = false := by
       obtain ⟨y9, R9, s9, _, _⟩ := hwq.ex
       have h1 := R9.rr.fz k (by rw [p1]; exact HK.out)
       rw [Nat.zero_add, s9.gR, HS1.out.gR] at h1
       exact h1
      have hwr := wrap_pred HK.out n6
      have hki : (k : Int) < (n.n : Int) := by omega
      have hk0 : (0 : Int) ≤ (k : Int) := by omega
      have hTV : TabOk V := hwq.tab HR1.out rfl HT2.out
      obtain ⟨W4, hW4⟩ : ∃ W4, V.setCell ⟨y.gR, k, none⟩ (.pointer (some ⟨z.R, 0, none⟩)) = W4 := ⟨_, rfl⟩
      rw [hW4] at R2 hk2
      have hgR0 : y.gR ≠ 0 := fun e => HH.out.z0 ⟨.R, by rw [← e]; rfl⟩
      have hT4 : TabOk W4 := fun e s he hs => by
       rw [← hW4, World.cell?_setCell_other _ _ _ _ (fun e1 => hgR0 (congrArg Addr.block e1))]
       exact hTV e s he hs
      have hsz4 : W4.heap.size = V.heap.size := by rw [← hW4]; simp
      have hVs := hwq.kept.size
      have HCel2 : Hid (∀ q' W M, (hq' : q' < L.length) → WentN W4 W y2 M n.n → ∃ g, a = some ⟨g, 0, none⟩ ∧ W.cell? ⟨g, q', none⟩ = some (.int .i64 (L[q'] : Int))) := by
       intro q' W M hq' hW
       obtain ⟨g, ea, hc⟩ := HCel.out q' V _ hq' hwq
       have hg := hNe.out g (by rw [ea]; rfl)
       have hs1 := HB1.out.size
       have hgg : g ≠ y.gR := fun e => by
        have := HH.out.gRlt
        omega
       refine ⟨g, ea, (World.cell?_of_block (a := ⟨g, q', none⟩) (hW.kept.block g (by omega) (fun e3 => ?_))).trans ?_⟩
       · rcases ha2 g e3 with h1 | h1 | h1
         · have := HH.out.allLt h1
           omega
         · have := HFL.out g h1
           omega
         · omega
       · rw [← hW4, World.cell?_setCell_other _ _ _ _ (fun e1 => hgg (congrArg Addr.block e1).symm)]
         exact hc
      have HP2 : Hid (WentN W4 W4 y2 (n4.plugs true (L.take 0)) n.n) := by
       show WentN _ _ _ _ _
       rw [← hn4n]
       exact WentN.refl R2
      have HPl2 : Hid (∀ q' W, (hq' : q' < L.length) → WentN W4 W y2 (n4.plugs true (L.take q')) n.n → Calls Tryz.prog 113 #[.pointer (some ⟨y.N, 0, none⟩), .int .i64 (L[q'] : Int), .bool true] W fun e w' => e = .returned (.tuple #[]) ∧ WentN W4 w' y2 (n4.plugs true (L.take (q' + 1))) n.n) := by
       intro q' W hq' hW
       rw [← s2.N]
       exact plugNext_any W4 y2 n4 n4 D n.n true L R2 hn4n hT4 hok4 hD (fun c hc => by rw [hn4c]; exact HLC.out c hc) (by rw [HLen.out]; exact hLl) hn4n q' hq' W hW
      have HG : Hid (∀ W, WentN W4 W y2 (n4.plugs true L) n.n → Calls Tryz.prog 111 #[.pointer (some ⟨y.N, 0, none⟩)] W fun e w' => e = .returned (.tuple #[]) ∧ WentN W4 w' y2 (n4.plugs true L).gather n.n) := by
       intro W hW
       refine hW.call fun y3 R3 s3 => ?_
       rw [← s2.N, ← s3.N]
       have h5 := NOk.plugs (by omega) true L hok4 (fun c hc => by rw [hn4c]; exact HLC.out c hc)
       have h6 := gather_any y3 _ D _ W R3 h5 (by omega) (by rw [HLen.out]; omega)
       rw [(plugs_same true L n4).1, hn4n] at h6
       exact h6
      have HFin : Hid (∀ W, WentN W4 W y2 (n4.plugs true L).gather n.n → WentN w W y ((((n.plugs false L).setR k (newRt ((k : Int) + 1) 3 (n.ms k))).plugs true L).gather) n.n) := by
       intro W hW
       rw [hn3, hn4]
       refine WentN.thenBy hk2 s2 (fun b e => ?_) he2 hW
       rcases ha2 b e with h1 | h1 | h1
       · exact .inl h1
       · exact .inr (hzn.out b h1)
       · exact .inr (Nat.le_trans HB02.out.size h1)
      have HW4 : Hid _ := hW4
      clear hwq R2 s2 ha2 he2 hk2 hok3 hok4 hn3 hn4 hn4n hn4c hTV hT4 hW4 p1 p2 p3 p4 p5 e8 HCel HPl HP0
      go_wp2_with (fail)
      rw [HW4.out]
      go_loopw [49] (fun x wr => ∃ q' : Nat, q' ≤ q ∧ x = .int .i64 q' ∧ WentN W4 wr y2 (n4.plugs true (L.take q')) n.n) (fun x _ => q - (intOf x).toNat)
      case atStart => exact ⟨0, Nat.zero_le _, rfl, HP2.out⟩
      case round =>
       obtain ⟨t, ht, rfl, hwt⟩ := hrel
       by_cases hlt2 : t < q
       · have hlt2' : (t : Int) < (q : Int) := by omega
         have ht0 : (0 : Int) ≤ (t : Int) := by omega
         have htL : t < L.length := by rw [HLen.out]; exact hlt2
         obtain ⟨g, rfl, hcell⟩ := HCel2.out t wr _ htL hwt
         have gl := World.block_lt_of_cell? _ _ hcell
         have hpl := HPl2.out t wr htL hwt
         generalize L[t] = cq at hcell hpl
         clear hwt
         go_wp2_with (fail)
         refine hpl.mono ?_
         rintro e w1 ⟨rfl, hw1⟩
         have HW : Hid _ := hw1
         clear hpl hw1
         go_wp2_with (fail)
         go_roundw
         case rel => exact ⟨t + 1, by omega, by go_num, HW.out⟩
         case measure => simp [intOf]; omega
       · have hge2 : ¬ (t : Int) < (q : Int) := by omega
         obtain rfl : t = q := by omega
         rw [e9] at hwt
         have hg := HG.out wr hwt
         clear hwt
         go_wp2_with (fail)
         refine hg.mono ?_
         rintro e w1 ⟨rfl, hw1⟩
         have HW : Hid _ := HFin.out _ hw1
         clear hg hw1
         go_wp2_with (fail)
         go_ret
         exact ⟨rfl, HW.out⟩
end Rt
end Go.Proofs.YtieklnlbljejdaaGreatDoor

namespace Go.Proofs.YtieklnlbljejdaaGreatDoor
open Go.RowKit St
namespace Rt
def CabR (w : World) (a : Option Addr) (L : List Cab) : Prop := ∀ j, (hj : j < L.length) → ∃ b off, a = some ⟨b, off, none⟩ ∧ w.cell? ⟨b, off + j * 5, none⟩ = some (.int .i64 L[j].a) ∧ w.cell? ⟨b, off + j * 5 + 1, none⟩ = some (.int .i64 L[j].pa) ∧ w.cell? ⟨b, off + j * 5 + 2, none⟩ = some (.int .i64 L[j].b) ∧ w.cell? ⟨b, off + j * 5 + 3, none⟩ = some (.int .i64 L[j].pb) ∧ w.cell? ⟨b, off + j * 5 + 4, none⟩ = some (.int .i64 L[j].m)
theorem CabR.below {w w' : World} {a : Option Addr} {L : List Cab} (h : CabR w a L) (hb : Below w.heap.size w w') : CabR w' a L := fun j hj => by
 obtain ⟨b, off, e, h0, h1, h2, h3, h4⟩ := h j hj
 have hk := hb.block b (World.block_lt_of_cell? _ _ h0)
 exact ⟨b, off, e, (World.cell?_of_block (a := ⟨b, off + j * 5, none⟩) hk).trans h0, (World.cell?_of_block (a := ⟨b, off + j * 5 + 1, none⟩) hk).trans h1, (World.cell?_of_block (a := ⟨b, off + j * 5 + 2, none⟩) hk).trans h2, (World.cell?_of_block (a := ⟨b, off + j * 5 + 3, none⟩) hk).trans h3, (World.cell?_of_block (a := ⟨b, off + j * 5 + 4, none⟩) hk).trans h4⟩
theorem sizeEnds : (Tryz.prog.info? 193).map (·.size) = some 4 := by kernel_rfl
set_option maxRecDepth 100000 in
theorem endsOf_any (a pa b pb m : Int) (w : World) : Calls Tryz.prog 97 #[.agg #[.int .i64 a, .int .i64 pa, .int .i64 b, .int .i64 pb, .int .i64 m]] w fun e w' => e = .returned (.agg #[.int .i64 a, .int .i64 pa, .int .i64 b, .int .i64 pb]) ∧ Below w.heap.size w w' := by
 have hB : Blk ((w.alloc (.cells #[.int .i64 a, .int .i64 pa, .int .i64 b, .int .i64 pb, .int .i64 m] 81)).alloc (.cells #[.int .i64 a, .int .i64 pa, .int .i64 b, .int .i64 pb] 193)) (w.heap.size + 1) #[.int .i64 a, .int .i64 pa, .int .i64 b, .int .i64 pb] 193 := by
  have := Blk.new (w.alloc (.cells #[.int .i64 a, .int .i64 pa, .int .i64 b, .int .i64 pb, .int .i64 m] 81)) #[.int .i64 a, .int .i64 pa, .int .i64 b, .int .i64 pb] 193
  simpa using this
 have hb : Below w.heap.size w ((w.alloc (.cells #[.int .i64 a, .int .i64 pa, .int .i64 b, .int .i64 pb, .int .i64 m] 81)).alloc (.cells #[.int .i64 a, .int .i64 pa, .int .i64 b, .int .i64 pb] 193)) := (below_alloc _ _).alloc (by simp) _
 have l6 := run_loadVar_row (P := Tryz.prog) _ (w.heap.size + 1) 193 193 #[.int .i64 a, .int .i64 pa, .int .i64 b, .int .i64 pb] (0, 0) _ hB Tryz.underlying193 rfl sizeEnds
 go_enter Tryz.func97, Tryz.ntmps97
 go_wp2_with (fail)
 refine bodyPost_ret (v := .agg #[.int .i64 a, .int .i64 pa, .int .i64 b, .int .i64 pb]) (by simp [results, Tryz.results97, asAddr, l6]) rfl ?_
 exact ⟨rfl, hb⟩
set_option maxRecDepth 100000 in
theorem mayBe_any (r p many : Int) (w : World) : Calls Tryz.prog 154 #[.agg #[.int .i64 r, .int .i64 p], .int .i64 many] w fun e w' => e = .returned (.bool (endOk many r p)) ∧ Below w.heap.size w w' := by
 have hb := below_alloc w (.cells #[.int .i64 r, .int .i64 p] 192)
 unfold endOk
 by_cases h1 : 1 ≤ r
 · by_cases h2 : r ≤ many
   · by_cases h3 : 0 ≤ p
     · by_cases h4 : p < 3
       · have hv : (decide (1 ≤ r) && decide (r ≤ many) && decide (0 ≤ p) && decide (p < 3)) = true := by simp [h1, h2, h3, h4]
         rw [hv]
         clear hv
         go_enter Tryz.func154, Tryz.ntmps154
         go_wp2_with (fail)
         go_ret
         exact ⟨by first | rfl | (simp; omega), hb⟩
       · have hv : (decide (1 ≤ r) && decide (r ≤ many) && decide (0 ≤ p) && decide (p < 3)) = false := by simp [h4]
         rw [hv]
         clear hv
         go_enter Tryz.func154, Tryz.ntmps154
         go_wp2_with (fail)
         go_ret
         exact ⟨by first | rfl | (simp; omega), hb⟩
     · have hv : (decide (1 ≤ r) && decide (r ≤ many) && decide (0 ≤ p) && decide (p < 3)) = false := by simp [h3]
       rw [hv]
       clear hv
       go_enter Tryz.func154, Tryz.ntmps154
       go_wp2_with (fail)
       go_ret
       exact ⟨by first | rfl | (simp; omega), hb⟩
   · have hv : (decide (1 ≤ r) && decide (r ≤ many) && decide (0 ≤ p) && decide (p < 3)) = false := by simp [h2]
     rw [hv]
     clear hv
     go_enter Tryz.func154, Tryz.ntmps154
     go_wp2_with (fail)
     go_ret
     exact ⟨by first | rfl | (simp; omega), hb⟩
 · have hv : (decide (1 ≤ r) && decide (r ≤ many) && decide (0 ≤ p) && decide (p < 3)) = false := by simp [h1]
   rw [hv]
   clear hv
   go_enter Tryz.func154, Tryz.ntmps154
   go_wp2_with (fail)
   go_ret
   exact ⟨by first | rfl | (simp; omega), hb⟩
end Rt
end Go.Proofs.YtieklnlbljejdaaGreatDoor
