/-
  WaysLight NtTop NtLook NtPlayed NtPlayed2 TopDrawnWalk
-/
import Derived.Test.YtieklnlbljejdaaGreatDoorG15
import Derived.Test.YtieklnlbljejdaaGreatDoorG22
import Derived.Test.YtieklnlbljejdaaGreatDoorH50
namespace Go.Proofs.YtieklnlbljejdaaGreatDoor
open Go.RowKit St
set_option maxRecDepth 100000 in
set_option maxHeartbeats 4000000 in
theorem sameHops_yes (a b : Option Addr) (n ca cb : Nat) (L : List HP) (w : World) (hS : HsR w a n L) (hT : HsR w b n L) (hn : n ≤ 1000) :
 Calls Tryz.prog 46 #[.slice a n ca, .slice b n cb] w fun e w' => e = .returned (.bool true) ∧ Below w.heap.size w w' := by
 have hl := hS.len
 go_enter Tryz.func46, Tryz.ntmps46
 go_wp2_with (fail)
 go_loopw [5] (fun i wr => ∃ k : Nat, k ≤ n ∧ i = .int .i64 k ∧ Below w.heap.size w wr) (fun i _ => n - (intOf i).toNat)
 case atStart => exact ⟨0, Nat.zero_le _, rfl, Below.refl _ _⟩
 case round =>
  obtain ⟨k, hk, rfl, hbel⟩ := hrel
  by_cases hlt : k < n
  · have hlt' : (k : Int) < (n : Int) := by omega
    have r1 := (hS.below hbel).row
    have r2 := (hT.below hbel).row
    rcases r1 with h1 | ⟨b1, o1, rfl, hc1⟩
    · omega
    rcases r2 with h1 | ⟨b2, o2, rfl, hc2⟩
    · omega
    have hg : L[k]? = some (L[k]'(by omega)) := List.getElem?_eq_getElem (by omega)
    obtain ⟨c0, c1, c2⟩ := hc1 k _ hg
    obtain ⟨d0, d1, d2⟩ := hc2 k _ hg
    generalize L[k]'(by omega) = p at c0 c1 c2 d0 d1 d2 hg
    obtain ⟨pd, pf, px⟩ := p
    simp only at c0 c1 c2 d0 d1 d2
    clear hc1 hc2 hg
    have HB : Hid _ := hbel
    clear hbel
    go_wp2_with (fail)
    go_quiet (fail)
    go_wp2_with (fail)
    go_roundw
    case rel => exact ⟨k + 1, by omega, by go_num, below_drewN HB.out _⟩
    case measure => simp [intOf]; omega
  · have hge : ¬ (k : Int) < (n : Int) := by omega
    go_wp2_with (fail)
    go_ret
    exact ⟨rfl, hbel⟩
end Go.Proofs.YtieklnlbljejdaaGreatDoor

namespace Go.Proofs.YtieklnlbljejdaaGreatDoor
open Go.RowKit St
namespace Rt
structure NetA (w0 w : World) (N : Nat) (X : Nat → Prop) (n : NtM) : Prop where
 ex : ∃ y, NetR w y n ∧ y.N = N ∧ (∀ b, y.all n.n b → w0.heap.size ≤ b) ∧ ∀ b, y.ext b ↔ X b
 bel : Below w0.heap.size w0 w
theorem NetA.of_new {w0 w w' : World} {many : Int} {L : List Cab} {X : Nat → Prop} {e : Ending} (h : NewP w many L X e w') (h0 : netF many L = 0) (hb : Below w0.heap.size w0 w) : ∃ N, e = .returned (.tuple #[.pointer (some ⟨N, 0, none⟩), .nilIface]) ∧ NetA w0 w' N X (newNt many.toNat L) := by
 obtain ⟨_, h2, h3⟩ := h
 obtain ⟨y, he, hR, ha, hx⟩ := h2 h0
 exact ⟨y.N, he, ⟨y, hR, rfl, fun b hb' => Nat.le_trans hb.size (ha b hb'), hx⟩, below_chain hb h3⟩
theorem NetA.no_new {w0 w w' : World} {many : Int} {L : List Cab} {X : Nat → Prop} {e : Ending} (h : NewP w many L X e w') (h0 : netF many L ≠ 0) (hb : Below w0.heap.size w0 w) : e = .returned (.tuple #[.pointer none, errV (netF many L)]) ∧ Below w0.heap.size w0 w' := by
 obtain ⟨h1, _, h3⟩ := h
 exact ⟨h1 h0, below_chain hb h3⟩
theorem NetA.still {w0 w w' : World} {N : Nat} {X : Nat → Prop} {n : NtM} (h : NetA w0 w N X n) (hb : Below w.heap.size w w') : NetA w0 w' N X n := by
 obtain ⟨⟨y, hR, hN, ha, hx⟩, hbel⟩ := h
 exact ⟨⟨y, hR.below hb, hN, ha, hx⟩, below_chain hbel hb⟩
theorem NetA.tab {w0 w : World} {N : Nat} {X : Nat → Prop} {n : NtM} (h : NetA w0 w N X n) (hT : TabOk w0) : TabOk w := hT.below h.bel
theorem NetA.went {w0 W w' : World} {y : Yt} {X : Nat → Prop} {n n' : NtM} (hR : NetR W y n) (ha : ∀ b, y.all n.n b → w0.heap.size ≤ b) (hx : ∀ b, y.ext b ↔ X b) (hb : Below w0.heap.size w0 W) (hn : n'.n = n.n) (h : WentN W w' y n' n.n) :
 NetA w0 w' y.N X n' ∧ ∀ b, X b → w'.heap[b]? = W.heap[b]? := by
 obtain ⟨⟨y', hR', hs, hm, he⟩, hK⟩ := h
 have hlt : ∀ b, X b → b < W.heap.size := fun b hb' => hR.lt (.inr ((hx b).2 hb'))
 have hnall : ∀ b, X b → ¬ y.all n.n b := fun b hb' e => by
  rcases e with e | ⟨j, hj, e⟩
  · exact hR.nx b ((hx b).2 hb') e
  · exact hR.awayFoot hj (.inr (.inl ((hx b).2 hb'))) e
 refine ⟨⟨⟨y', hR', hs.N, fun b hb' => ?_, fun b => (he b).trans (hx b)⟩, ?_⟩, fun b hb' => hK.block b (hlt b hb') (hnall b hb')⟩
 · rw [hn] at hb'
   rcases hm b hb' with e | e
   · exact ha b e
   · exact Nat.le_trans hb.size e
 · refine ⟨hK.os.trans hb.os, hK.tape.trans hb.tape, hK.output.trans hb.output, Nat.le_trans hb.size hK.size, fun b hb' => ?_⟩
   refine (hK.block b (Nat.lt_of_lt_of_le hb' hb.size) (fun e => ?_)).trans (hb.block b hb')
   have := ha b e
   omega
theorem NetA.call {w0 W : World} {N : Nat} {X : Nat → Prop} {n n' : NtM} {f : FuncId} {args : Array Value} {E : Ending → Prop} (h : NetA w0 W N X n) (hn : n'.n = n.n)
 (k : ∀ y, NetR W y n → y.N = N → Calls Tryz.prog f args W fun e w' => E e ∧ WentN W w' y n' n.n) : Calls Tryz.prog f args W fun e w' => E e ∧ NetA w0 w' N X n' ∧ ∀ b, X b → w'.heap[b]? = W.heap[b]? := by
 obtain ⟨⟨y, hR, hN, ha, hx⟩, hb⟩ := h
 refine (k y hR hN).mono ?_
 rintro e w' ⟨he, hw⟩
 have := NetA.went hR ha hx hb hn hw
 rw [hN] at this
 exact ⟨he, this⟩
def NtM.rounds (y : NtM) : Nat → NtM
 | 0 => y
 | k + 1 => (y.rounds k).round
def wkL : List Cab := [⟨1, 0, 2, 0, 3⟩]
def wk1 : NtM := ((newNt 2 wkL).plug 0 true).1
theorem wk_hops : hopsM ((wk1.rounds 6).R 1) = [⟨1, 3, 1⟩] := by kernel_rfl
theorem wk_plug : ((newNt 2 wkL).plug 0 true).2 = 0 := by kernel_rfl
theorem wk_ok0 : netF 2 wkL = 0 := by kernel_rfl
theorem rounds_n (y : NtM) : ∀ k, (y.rounds k).n = y.n
 | 0 => rfl
 | k + 1 => (round_same (y.rounds k)).1.trans (rounds_n y k)
theorem rounds_ok {y : NtM} {D : Nat} (h : NOk y D 0) (hD : D ≤ 100000000) : ∀ k, k ≤ 100 → NOk (y.rounds k) (D + 1300000 * k) 0
 | 0, _ => h
 | k + 1, hk => ((rounds_ok h hD k (by omega)).round (by omega)).mono (by omega) (Nat.le_refl _)
theorem wk_ok : NOk wk1 2 0 := (newNt_ok (netF_ok wk_ok0)).plug (by omega) 0 true
set_option maxRecDepth 100000 in
set_option maxHeartbeats 4000000 in
theorem works_any (w : World) (hT : TabOk w) : Calls Tryz.prog 42 #[] w fun e w' => e = .returned (.bool true) ∧ Below w.heap.size w w' := by
 obtain ⟨W0, hW0⟩ : ∃ W0, w.alloc (.cells #[.int .i64 1, .int .i64 0, .int .i64 2, .int .i64 0, .int .i64 3] 81) = W0 := ⟨_, rfl⟩
 have hb := below_alloc w (.cells #[.int .i64 1, .int .i64 0, .int .i64 2, .int .i64 0, .int .i64 3] 81)
 have hc := fun j => World.cell?_alloc_mark w #[.int .i64 1, .int .i64 0, .int .i64 2, .int .i64 0, .int .i64 3] 81 (0, 0) j
 rw [hW0] at hb
 rw [hW0] at hc
 have hL : CabR W0 (some ⟨w.heap.size, 0, none⟩) wkL := fun j hj => by
  obtain rfl : j = 0 := by simp [wkL] at hj; exact hj
  exact ⟨w.heap.size, 0, rfl, hc 0, hc 1, hc 2, hc 3, hc 4⟩
 have hnew : Calls Tryz.prog 36 #[.int .i64 2, .slice (some ⟨w.heap.size, 0, none⟩) 1 1] W0 fun e w' => ∃ N, e = .returned (.tuple #[.pointer (some ⟨N, 0, none⟩), .nilIface]) ∧ NetA w w' N (fun _ => False) (newNt 2 wkL) := by
  refine (new_net 2 (some ⟨w.heap.size, 0, none⟩) 1 wkL W0 hL (by decide) (TabOk.below (w := w) hT hb) (fun _ => False) (fun b hb' => hb'.elim)).mono ?_
  rintro e w' h
  exact NetA.of_new h wk_ok0 hb
 have hplug : ∀ W N, NetA w W N (fun _ => False) (newNt 2 wkL) → Calls Tryz.prog 57 #[.pointer (some ⟨N, 0, none⟩), .int .i64 0, .bool true] W fun e w' => e = .returned .nilIface ∧ NetA w w' N (fun _ => False) (wk1.rounds 0) := by
  intro W N hA
  refine (hA.call (E := fun e => e = .returned .nilIface) (n' := wk1) rfl fun y hR hN => ?_).mono (fun e w' h => ⟨h.1, h.2.1⟩)
  rw [← hN]
  refine (plug_net y (newNt 2 wkL) 0 0 true W hR (hA.tab hT) (newNt_ok (netF_ok wk_ok0)) (by omega)).mono ?_
  rintro e w' ⟨rfl, hw⟩
  rw [wk_plug]
  exact ⟨rfl, hw⟩
 have hround : ∀ W N k, k < 6 → NetA w W N (fun _ => False) (wk1.rounds k) → Calls Tryz.prog 54 #[.pointer (some ⟨N, 0, none⟩)] W fun e w' => e = .returned (.tuple #[]) ∧ NetA w w' N (fun _ => False) (wk1.rounds (k + 1)) := by
  intro W N k hk hA
  refine (hA.call (E := fun e => e = .returned (.tuple #[])) (n' := wk1.rounds (k + 1)) (round_same (wk1.rounds k)).1 fun y hR hN => ?_).mono (fun e w' h => ⟨h.1, h.2.1⟩)
  rw [← hN]
  exact round_net y (wk1.rounds k) (2 + 1300000 * k) W hR (hA.tab hT) (rounds_ok wk_ok (by omega) k (by omega)) (by omega)
 have hrouter : ∀ W N, NetA w W N (fun _ => False) (wk1.rounds 6) → Calls Tryz.prog 40 #[.pointer (some ⟨N, 0, none⟩), .int .i64 2] W fun e w' => ∃ R, e = .returned (.tuple #[.pointer (some ⟨R, 0, none⟩), .nilIface]) ∧ Below w.heap.size w w' ∧ Calls Tryz.prog 64 #[.pointer (some ⟨R, 0, none⟩)] w' fun e w2 => ∃ b c, e = .returned (.slice b 1 c) ∧ HsR w2 b 1 [⟨1, 3, 1⟩] ∧ Below w.heap.size w w2 := by
  intro W N hA
  obtain ⟨⟨y, hR, hN, ha, hx⟩, hbel⟩ := hA
  rw [← hN]
  have hn : (wk1.rounds 6).n = 2 := rounds_n wk1 6
  refine (router_yes y (wk1.rounds 6) 1 W hR (by rw [hn]; decide)).mono ?_
  rintro e w' ⟨rfl, rfl⟩
  refine ⟨(y.z 1).R, rfl, hbel, ?_⟩
  have hok := (rounds_ok wk_ok (by omega) 6 (by omega)).ok 1 (by rw [hn]; decide)
  refine (hopsR_any (y.z 1) ((wk1.rounds 6).R 1) W (hR.rt 1 (by rw [hn]; decide)) hok.rng).mono ?_
  rintro e w2 ⟨b, c, rfl, hH, hb2⟩
  rw [wk_hops] at hH ⊢
  exact ⟨b, c, rfl, hH, below_chain hbel hb2⟩
 have hsame : ∀ W b c W2, Below w.heap.size w W → HsR W b 1 [⟨1, 3, 1⟩] → W2 = W.alloc (.cells #[.int .i64 1, .int .i64 3, .int .i64 1] 98) → Calls Tryz.prog 46 #[.slice b 1 c, .slice (some ⟨W.heap.size, 0, none⟩) 1 1] W2 fun e w' => e = .returned (.bool true) ∧ Below w.heap.size w w' := by
  rintro W b c W2 hbW hH rfl
  have hb2 := below_alloc W (.cells #[.int .i64 1, .int .i64 3, .int .i64 1] 98)
  have hc2 := fun j => World.cell?_alloc_mark W #[.int .i64 1, .int .i64 3, .int .i64 1] 98 (0, 0) j
  refine (sameHops_yes b (some ⟨W.heap.size, 0, none⟩) 1 c 1 [⟨1, 3, 1⟩] _ (hH.below hb2) ⟨rfl, .inr ⟨W.heap.size, 0, rfl, fun j h hj => ?_⟩⟩ (by omega)).mono ?_
  · obtain ⟨l, v⟩ := List.getElem?_eq_some_iff.1 hj
    obtain rfl : j = 0 := by simp at l; exact l
    obtain rfl : _ = h := v
    exact ⟨hc2 0, hc2 1, hc2 2⟩
  · rintro e w' ⟨rfl, hb3⟩
    exact ⟨rfl, below_chain hbW (below_chain hb2 hb3)⟩
 have HW0 : Hid _ := hW0
 have HR : Hid (∀ W N k, k < 6 → NetA w W N (fun _ => False) (wk1.rounds k) → Calls Tryz.prog 54 #[.pointer (some ⟨N, 0, none⟩)] W fun e w' => e = .returned (.tuple #[]) ∧ NetA w w' N (fun _ => False) (wk1.rounds (k + 1))) := hround
 obtain ⟨Q, hQ⟩ : ∃ Q : Nat → NtM, Q = wk1.rounds := ⟨_, rfl⟩
 clear hW0 hb hc hL hround
 rw [← hQ] at hplug HR hrouter
 generalize newNt 2 wkL = z0 at hnew hplug
 clear hQ
 go_enter Tryz.func42, Tryz.ntmps42
 go_wp2_with (fail)
 try rw [HW0.out]
 go_wp2_with (fail)
 refine hnew.mono ?_
 rintro e w1 ⟨N, rfl, hA⟩
 have h1 := hplug w1 N hA
 clear hnew hplug hA
 go_wp2_with (fail)
 refine h1.mono ?_
 rintro e w2 ⟨rfl, hA⟩
 have HA : Hid _ := hA
 clear h1 hA
 go_wp2_with (fail)
 go_loopw [3] (fun x wr => ∃ k : Nat, k ≤ 6 ∧ x = .int .i64 k ∧ NetA w wr N (fun _ => False) (Q k)) (fun x _ => 6 - (intOf x).toNat)
 case atStart => exact ⟨0, Nat.zero_le _, rfl, HA.out⟩
 case round =>
  obtain ⟨k, hk, rfl, hAk⟩ := hrel
  obtain ⟨V, rfl⟩ : ∃ V, V = wr := ⟨_, rfl⟩
  by_cases hlt : k < 6
  · have hlt' : (k : Int) < 6 := by omega
    have hr := HR.out V N k hlt hAk
    clear hAk
    go_wp2_with (fail)
    refine hr.mono ?_
    rintro e w3 ⟨rfl, hA3⟩
    have HA3 : Hid _ := hA3
    clear hr hA3
    go_wp2_with (fail)
    go_roundw
    case rel => exact ⟨k + 1, by omega, by go_num, HA3.out⟩
    case measure => simp [intOf]; omega
  · have hge : ¬ (k : Int) < 6 := by omega
    obtain rfl : k = 6 := by omega
    have hr := hrouter V N hAk
    clear hAk hrouter
    go_wp2_with (fail)
    refine hr.mono ?_
    rintro e w3 ⟨R, rfl, hb3, hh⟩
    have HB3 : Hid _ := hb3
    clear hr hb3
    go_wp2_with (fail)
    refine hh.mono ?_
    rintro e w4 ⟨b, c, rfl, hH, hb4⟩
    obtain ⟨W5, hW5⟩ : ∃ W5, W5 = w4.alloc (.cells #[.int .i64 1, .int .i64 3, .int .i64 1] 98) := ⟨_, rfl⟩
    have hs := hsame w4 b c W5 hb4 hH hW5
    have HW5 : Hid _ := hW5.symm
    clear hh hH hb4 hsame hW5
    go_wp2_with (fail)
    try rw [HW5.out]
    go_wp2_with (fail)
    refine hs.mono ?_
    rintro e w6 ⟨rfl, hb6⟩
    have HB6 : Hid _ := hb6
    clear hs hb6
    go_wp2_with (fail)
    go_ret
    exact ⟨rfl, HB6.out⟩
theorem lightCables_any (a : Option Addr) (n cap : Nat) (w : World) (_hn : n ≤ maxLen) : Calls Tryz.prog 35 #[.slice a n cap] w fun e w' => e = .returned (.bool (decide (n ≤ 12))) ∧ w = w' := by
 by_cases h : n ≤ 12
 · have h' : (n : Int) ≤ 12 := by omega
   go_enter Tryz.func35, Tryz.ntmps35
   go_wp2_with (fail)
   go_ret
   exact ⟨by simp [h], rfl⟩
 · have h' : ¬ (n : Int) ≤ 12 := by omega
   go_enter Tryz.func35, Tryz.ntmps35
   go_wp2_with (fail)
   go_ret
   exact ⟨by simp, rfl⟩
end Rt
end Go.Proofs.YtieklnlbljejdaaGreatDoor

namespace Go.Proofs.YtieklnlbljejdaaGreatDoor
open Go.RowKit St
namespace Rt
structure Look (W : World) (N m nc : Nat) (Rp : Nat → Nat) (st : Nat → Nat → Int) (pe : Nat → Nat → PeerM) (on : Nat → Nat → Nat) : Prop where
 router : ∀ k : Nat, k < m → ∀ w, Below W.heap.size W w → Calls Tryz.prog 40 #[.pointer (some ⟨N, 0, none⟩), .int .i64 ((k : Int) + 1)] w fun e w' => e = .returned (.tuple #[.pointer (some ⟨Rp k, 0, none⟩), .nilIface]) ∧ w = w'
 link : ∀ k p : Nat, k < m → p < 3 → ∀ w, Below W.heap.size W w → Calls Tryz.prog 60 #[.pointer (some ⟨Rp k, 0, none⟩), .int .i64 (p : Int)] w fun e w' => e = .returned (.tuple #[.int .i64 (st k p), .nilIface]) ∧ w = w'
 peer : ∀ k p : Nat, k < m → p < 3 → ∀ w, Below W.heap.size W w → Calls Tryz.prog 61 #[.pointer (some ⟨Rp k, 0, none⟩), .int .i64 (p : Int)] w fun e w' => e = .returned (.tuple #[.agg #[.int .i64 (pe k p).who, .bool (pe k p).both, .int .i64 (pe k p).left], .nilIface]) ∧ Below w.heap.size w w'
 on : ∀ c d : Nat, c < nc → d < 2 → ∀ w, Below W.heap.size W w → Calls Tryz.prog 41 #[.pointer (some ⟨N, 0, none⟩), .int .i64 (c : Int), .int .i64 (d : Int)] w fun e w' => e = .returned (.tuple #[.int .i64 (on c d : Nat), .nilIface]) ∧ w = w'
theorem NetA.look {w0 W : World} {N : Nat} {X : Nat → Prop} {n : NtM} (h : NetA w0 W N X n) : ∃ Rp, Look W N n.n n.nc Rp (fun i p => ((n.R i).P p).L.st) (fun i p => ((n.R i).P p).pe) (fun c d => ((n.C c).on d).length) := by
 obtain ⟨⟨y, hR, rfl, _, _⟩, _⟩ := h
 refine ⟨fun i => (y.z i).R, ⟨fun k hk w hb => router_yes y n k w (hR.below hb) hk, fun k p hk hp w hb => ?_, fun k p hk hp w hb => ?_, fun c d hc hd w hb => on_yes y n c d w (hR.below hb) hc hd⟩⟩
 · have h1 := (hR.below hb).rt k hk
   exact link_yes (y.z k) (n.R k) p w h1 (by rw [(hR.rn k hk).1]; exact hp)
 · have h1 := (hR.below hb).rt k hk
   exact peer_yes (y.z k) (n.R k) p w h1 (by rw [(hR.rn k hk).1]; exact hp)
def AtI (w0 : World) (N : Nat) (X : Nat → Prop) (m nc i : Nat) (n : NtM) (w : World) : Prop := NetA w0 w N X n ∧ GN n ∧ NOk n (1300000 * i) 0 ∧ n.n = m ∧ n.nc = nc
theorem AtI.act {w0 : World} {N : Nat} {X : Nat → Prop} {m nc i : Nat} {n : NtM} {W : World} (h : AtI w0 N X m nc i n W) (hT : TabOk w0) (hi : i ≤ 300) (v : AV) :
 Calls Tryz.prog 59 #[.pointer (some ⟨N, 0, none⟩), .agg #[.string v.kind, .int .i64 v.a, .int .i64 v.b, .int .i64 v.c, .int .i64 v.d, .string v.s, .int .i64 v.pcode, .int .i64 v.pid, .slice v.po v.pn v.pcap, .int .i64 v.x.own, .int .i64 v.x.seq, .slice v.x.a v.x.n v.x.cap]] W fun e w' => e = .returned (.tuple #[]) ∧ AtI w0 N X m nc (i + 1) (actN n v) w' ∧ ∀ b, X b → w'.heap[b]? = W.heap[b]? := by
 obtain ⟨hA, hG, hok, hn, hc⟩ := h
 obtain ⟨s1, s2, _, _⟩ := actN_same n v
 refine (hA.call (E := fun e => e = .returned (.tuple #[])) (n' := actN n v) s1 fun y hR hN => ?_).mono ?_
 · rw [← hN]
   exact act_any y n (1300000 * i) v W hR (hA.tab hT) hok (by omega)
 · rintro e w' ⟨he, hA', hX⟩
   exact ⟨he, ⟨hA', (hG.act hok (by omega) v).1, (hok.act (by omega) v).mono (by omega) (Nat.le_refl _), s1.trans hn, s2.trans hc⟩, hX⟩
theorem AtI.plug {w0 : World} {N : Nat} {X : Nat → Prop} {m nc i : Nat} {n : NtM} {W : World} (h : AtI w0 N X m nc i n W) (hT : TabOk w0) (hi : i ≤ 300) (c : Int) (up : Bool) :
 Calls Tryz.prog 57 #[.pointer (some ⟨N, 0, none⟩), .int .i64 c, .bool up] W fun e w' => e = .returned (errV (n.plug c up).2) ∧ AtI w0 N X m nc (i + 1) (n.plug c up).1 w' ∧ ∀ b, X b → w'.heap[b]? = W.heap[b]? := by
 obtain ⟨hA, hG, hok, hn, hc⟩ := h
 obtain ⟨s1, s2, _, _⟩ := plug_same n c up
 refine (hA.call (E := fun e => e = .returned (errV (n.plug c up).2)) (n' := (n.plug c up).1) s1 fun y hR hN => ?_).mono ?_
 · rw [← hN]
   exact plug_net y n (1300000 * i) c up W hR (hA.tab hT) hok (by omega)
 · rintro e w' ⟨he, hA', hX⟩
   exact ⟨he, ⟨hA', (hG.plug hok c up).1, (hok.plug (by omega) c up).mono (by omega) (Nat.le_refl _), s1.trans hn, s2.trans hc⟩, hX⟩
theorem spoil_same (y : NtM) (i d j : Int) (t : UInt8) : (y.spoil i d j t).1.n = y.n ∧ (y.spoil i d j t).1.nc = y.nc ∧ ∀ x, ((y.spoil i d j t).1.C x).e = (y.C x).e := by
 unfold NtM.spoil
 split
 · exact ⟨rfl, rfl, fun _ => rfl⟩
 · split
   · exact ⟨rfl, rfl, fun _ => rfl⟩
   · obtain ⟨g1, g2, g3, g4⟩ := gather_same (y.setC i.toNat { y.C i.toNat with on := upN (y.C i.toNat).on d.toNat (((y.C i.toNat).on d.toNat).set j.toNat (((y.C i.toNat).on d.toNat).getD j.toNat 0 ^^^ t)) })
     refine ⟨g1, g2, fun x => (g4 x).1.trans ?_⟩
     show ((if x = i.toNat then _ else y.C x) : CbM).e = _
     by_cases e : x = i.toNat
     · rw [if_pos e]; subst e; rfl
     · rw [if_neg e]
theorem AtI.spoil {w0 : World} {N : Nat} {X : Nat → Prop} {m nc i : Nat} {n : NtM} {W : World} (h : AtI w0 N X m nc i n W) (hi : i ≤ 300) (c d j : Int) (t : UInt8) :
 Calls Tryz.prog 58 #[.pointer (some ⟨N, 0, none⟩), .int .i64 c, .int .i64 d, .int .i64 j, .int .u8 (t.toNat : Int)] W fun e w' => (∃ v, e = .returned v) ∧ AtI w0 N X m nc (i + 1) (n.spoil c d j t).1 w' ∧ ∀ b, X b → w'.heap[b]? = W.heap[b]? := by
 obtain ⟨hA, hG, hok, hn, hc⟩ := h
 obtain ⟨s1, s2, _⟩ := spoil_same n c d j t
 refine (hA.call (E := fun e => ∃ v, e = .returned v) (n' := (n.spoil c d j t).1) s1 fun y hR hN => ?_).mono ?_
 · rw [← hN]
   refine (spoil_net y n (1300000 * i) c d j t W hR hok (by omega)).mono ?_
   rintro e w' ⟨rfl, hw⟩
   exact ⟨⟨_, rfl⟩, hw⟩
 · rintro e w' ⟨he, hA', hX⟩
   exact ⟨he, ⟨hA', (hG.spoil c d j t).1, (hok.spoil (by omega) c d j t).mono (by omega) (Nat.le_refl _), s1.trans hn, s2.trans hc⟩, hX⟩
theorem AtI.new {w0 w w' : World} {many : Int} {L : List Cab} {X : Nat → Prop} {e : Ending} (h : NewP w many L X e w') (h0 : netF many L = 0) (hb : Below w0.heap.size w0 w) : ∃ N, e = .returned (.tuple #[.pointer (some ⟨N, 0, none⟩), .nilIface]) ∧ AtI w0 N X many.toNat L.length 0 (newNt many.toNat L) w' := by
 obtain ⟨N, he, hA⟩ := NetA.of_new h h0 hb
 exact ⟨N, he, hA, newNt_gate _ _, newNt_ok (netF_ok h0), rfl, rfl⟩
theorem u8_wrap (d : Int) : ∃ t : UInt8, IntKind.u8.wrap d = (t.toNat : Int) := by
 have h0 : 0 ≤ d % 256 := Int.emod_nonneg _ (by decide)
 have h1 : d % 256 < 256 := Int.emod_lt_of_pos _ (by decide)
 refine ⟨UInt8.ofNat (d % 256).toNat, ?_⟩
 have : IntKind.u8.wrap d = d % 256 := by
  first
   | rfl
   | simp [IntKind.wrap, IntKind.bits, IntKind.signed]
 rw [this, UInt8.toNat_ofNat']
 omega
end Rt
end Go.Proofs.YtieklnlbljejdaaGreatDoor

namespace Go.Proofs.YtieklnlbljejdaaGreatDoor
open Go.RowKit St
namespace Rt
def playN (y : NtM) (V : Nat → AV) : Nat → NtM
 | 0 => y
 | k + 1 => actN (playN y V k) (V k)
theorem NetA.write {w0 W W' : World} {N : Nat} {X : Nat → Prop} {n : NtM} (h : NetA w0 W N X n) (hs : W.heap.size ≤ W'.heap.size) (hk : ∀ k, k < W.heap.size → ¬ X k → W'.heap[k]? = W.heap[k]?) (hX : ∀ k, X k → w0.heap.size ≤ k)
 (ho : W'.os = W.os) (ht : W'.tape = W.tape) (hu : W'.output = W.output) (Z : Nat → Prop) (hZ : ∀ k, Z k → W.heap.size ≤ k ∧ k < W'.heap.size) : NetA w0 W' N (fun b => X b ∨ Z b) n := by
 obtain ⟨⟨y, hR, hN, ha, hx⟩, hb⟩ := h
 obtain ⟨y', hR', hs', ha', he'⟩ := hR.beside hs (fun k hk' hne => hk k hk' (fun e => hne ((hx k).2 e))) Z hZ
 refine ⟨⟨y', hR', hs'.N.trans hN, fun b hb' => ha b ((ha' b).1 hb'), fun b => ?_⟩, ho.trans hb.os, ht.trans hb.tape, hu.trans hb.output, Nat.le_trans hb.size hs, fun b hb' => ?_⟩
 · rw [he' b, hx b]
 · refine (hk b (Nat.lt_of_lt_of_le hb' hb.size) (fun e => ?_)).trans (hb.block b hb')
   have := hX b e
   omega
theorem NetA.congrX {w0 W : World} {N : Nat} {X Y : Nat → Prop} {n : NtM} (h : NetA w0 W N X n) (e : ∀ b, X b ↔ Y b) : NetA w0 W N Y n := by
 obtain ⟨⟨y, hR, hN, ha, hx⟩, hb⟩ := h
 exact ⟨⟨y, hR, hN, ha, fun b => (hx b).trans (e b)⟩, hb⟩
structure PlayI (w : World) (N g m : Nat) (L : List Cab) (V : Nat → AV) (i j : Nat) (W : World) : Prop where
 g0 : w.heap.size ≤ g
 at_ : AtI w N (fun b => b = g) m L.length i (playN (newNt m L) V i) W
 row : Cel W g 0 L.length (fun k => .bool ((playN (newNt m L) V j).C k).inn)
def falses (m : Nat) : Array Value := Array.replicate m (.bool false)
theorem mkIn0 (W : World) : (Instr.makeSlice 87 (.int .i64 0) (.int .i64 0)).run Tryz.prog W = .ok (.slice (some ⟨W.heap.size, 0, none⟩) 0 0) (W.alloc (.cells (falses 0) 4)) := by kernel_rfl
theorem mkIn1 (W : World) : (Instr.makeSlice 87 (.int .i64 1) (.int .i64 1)).run Tryz.prog W = .ok (.slice (some ⟨W.heap.size, 0, none⟩) 1 1) (W.alloc (.cells (falses 1) 4)) := by kernel_rfl
theorem mkIn2 (W : World) : (Instr.makeSlice 87 (.int .i64 2) (.int .i64 2)).run Tryz.prog W = .ok (.slice (some ⟨W.heap.size, 0, none⟩) 2 2) (W.alloc (.cells (falses 2) 4)) := by kernel_rfl
theorem mkIn3 (W : World) : (Instr.makeSlice 87 (.int .i64 3) (.int .i64 3)).run Tryz.prog W = .ok (.slice (some ⟨W.heap.size, 0, none⟩) 3 3) (W.alloc (.cells (falses 3) 4)) := by kernel_rfl
theorem mkIn4 (W : World) : (Instr.makeSlice 87 (.int .i64 4) (.int .i64 4)).run Tryz.prog W = .ok (.slice (some ⟨W.heap.size, 0, none⟩) 4 4) (W.alloc (.cells (falses 4) 4)) := by kernel_rfl
theorem mkIn5 (W : World) : (Instr.makeSlice 87 (.int .i64 5) (.int .i64 5)).run Tryz.prog W = .ok (.slice (some ⟨W.heap.size, 0, none⟩) 5 5) (W.alloc (.cells (falses 5) 4)) := by kernel_rfl
theorem mkIn6 (W : World) : (Instr.makeSlice 87 (.int .i64 6) (.int .i64 6)).run Tryz.prog W = .ok (.slice (some ⟨W.heap.size, 0, none⟩) 6 6) (W.alloc (.cells (falses 6) 4)) := by kernel_rfl
theorem mkIn7 (W : World) : (Instr.makeSlice 87 (.int .i64 7) (.int .i64 7)).run Tryz.prog W = .ok (.slice (some ⟨W.heap.size, 0, none⟩) 7 7) (W.alloc (.cells (falses 7) 4)) := by kernel_rfl
theorem mkIn8 (W : World) : (Instr.makeSlice 87 (.int .i64 8) (.int .i64 8)).run Tryz.prog W = .ok (.slice (some ⟨W.heap.size, 0, none⟩) 8 8) (W.alloc (.cells (falses 8) 4)) := by kernel_rfl
theorem mkIn9 (W : World) : (Instr.makeSlice 87 (.int .i64 9) (.int .i64 9)).run Tryz.prog W = .ok (.slice (some ⟨W.heap.size, 0, none⟩) 9 9) (W.alloc (.cells (falses 9) 4)) := by kernel_rfl
theorem mkIn (p : Nat) (hp : p ≤ 9) (W : World) : (Instr.makeSlice 87 (.int .i64 (p : Int)) (.int .i64 (p : Int))).run Tryz.prog W = .ok (.slice (some ⟨W.heap.size, 0, none⟩) p p) (W.alloc (.cells (falses p) 4)) := by
 have : p = 0 ∨ p = 1 ∨ p = 2 ∨ p = 3 ∨ p = 4 ∨ p = 5 ∨ p = 6 ∨ p = 7 ∨ p = 8 ∨ p = 9 := by omega
 rcases this with rfl | rfl | rfl | rfl | rfl | rfl | rfl | rfl | rfl | rfl
 · exact mkIn0 W
 · exact mkIn1 W
 · exact mkIn2 W
 · exact mkIn3 W
 · exact mkIn4 W
 · exact mkIn5 W
 · exact mkIn6 W
 · exact mkIn7 W
 · exact mkIn8 W
 · exact mkIn9 W
theorem PlayI.new {w W : World} {N m : Nat} {L : List Cab} {V : Nat → AV} (h : AtI w N (fun _ => False) m L.length 0 (newNt m L) W) : PlayI w N W.heap.size m L V 0 0 (W.alloc (.cells (falses L.length) 4)) := by
 obtain ⟨hA, hG, hok, hn, hc⟩ := h
 refine ⟨hA.bel.size, ⟨?_, hG, hok, hn, hc⟩, ?_⟩
 · refine (NetA.write hA (W' := W.alloc (.cells (falses L.length) 4)) (by simp) (fun k hk _ => Below.heap_alloc _ _ _ hk) (fun k e => e.elim) rfl rfl rfl (fun b => b = W.heap.size) (fun k e => by subst e; simp)).congrX (fun b => by simp)
 · have hB : Blk (W.alloc (.cells (falses L.length) 4)) W.heap.size (falses L.length) 4 := Blk.new W _ _
   intro j hj
   have e : (falses L.length)[j]? = some (.bool false) := by simp [falses, hj]
   refine ⟨?_, ?_⟩
   · rw [Nat.zero_add, hB.cell j, e]
     rfl
   · rw [Nat.zero_add]; exact hB.frozen j
theorem PlayI.act {w : World} {N g m : Nat} {L : List Cab} {V : Nat → AV} {i : Nat} {W : World} (h : PlayI w N g m L V i i W) (hT : TabOk w) (hi : i ≤ 100) :
 Calls Tryz.prog 59 #[.pointer (some ⟨N, 0, none⟩), .agg #[.string (V i).kind, .int .i64 (V i).a, .int .i64 (V i).b, .int .i64 (V i).c, .int .i64 (V i).d, .string (V i).s, .int .i64 (V i).pcode, .int .i64 (V i).pid, .slice (V i).po (V i).pn (V i).pcap, .int .i64 (V i).x.own, .int .i64 (V i).x.seq, .slice (V i).x.a (V i).x.n (V i).x.cap]] W fun e w' => e = .returned (.tuple #[]) ∧ PlayI w N g m L V (i + 1) i w' := by
 refine (h.at_.act hT (by omega) (V i)).mono ?_
 rintro e w' ⟨he, h2, h3⟩
 exact ⟨he, h.g0, h2, h.row.keep (h3 g rfl)⟩
theorem PlayI.inn {w : World} {N g m : Nat} {L : List Cab} {V : Nat → AV} {i : Nat} {W : World} (h : PlayI w N g m L V i i W) (hi : i ≤ 100) (k : Nat) (hk : k < L.length) :
 ((playN (newNt m L) V (i + 1)).C k).inn = if isPlug (V i) = true ∧ (k : Int) = (V i).a then (V i).b == 1 else ((playN (newNt m L) V i).C k).inn := by
 obtain ⟨_, hG, hok, _, hc⟩ := h.at_
 exact (hG.act hok (by omega) (V i)).2 k (by rw [hc]; exact hk)
theorem PlayI.same {w : World} {N g m : Nat} {L : List Cab} {V : Nat → AV} {i : Nat} {W W' : World} (h : PlayI w N g m L V (i + 1) i W) (he : ∀ k, k < L.length → ((playN (newNt m L) V (i + 1)).C k).inn = ((playN (newNt m L) V i).C k).inn) (hg : g < W.heap.size) (hb : Below W.heap.size W W') : PlayI w N g m L V (i + 1) (i + 1) W' := by
 obtain ⟨hA, hG, hok, hn, hc⟩ := h.at_
 exact ⟨h.g0, ⟨hA.still hb, hG, hok, hn, hc⟩, (h.row.congr (fun k hk => by show Value.bool _ = Value.bool _; rw [he k hk])).keep (hb.block g hg)⟩
theorem PlayI.gl {w : World} {N g m : Nat} {L : List Cab} {V : Nat → AV} {i j : Nat} {W : World} (h : PlayI w N g m L V i j W) : g < W.heap.size := by
 obtain ⟨⟨⟨y, hR, _, _, hx⟩, _⟩, _⟩ := h.at_
 exact hR.lt (.inr ((hx g).2 rfl))
theorem PlayI.set {w : World} {N g m : Nat} {L : List Cab} {V : Nat → AV} {i k : Nat} {W W1 : World} {b : Bool} (h : PlayI w N g m L V (i + 1) i W) (hk : k < L.length)
 (he : ∀ x, x < L.length → ((playN (newNt m L) V (i + 1)).C x).inn = if x = k then b else ((playN (newNt m L) V i).C x).inn) (hb : Below W.heap.size W W1) : PlayI w N g m L V (i + 1) (i + 1) (W1.setCell ⟨g, k, none⟩ (.bool b)) := by
 have hg := h.gl
 obtain ⟨hA, hG, hok, hn, hc⟩ := h.at_
 have hA1 := hA.still hb
 refine ⟨h.g0, ⟨?_, hG, hok, hn, hc⟩, ?_⟩
 · refine (NetA.write hA1 (W' := W1.setCell ⟨g, k, none⟩ (.bool b)) (by simp) (fun x _ hne => Below.heap_setCell _ _ _ x (fun e => hne e)) (fun x e => by rw [e]; exact h.g0) rfl rfl rfl (fun _ => False) (fun _ e => e.elim)).congrX (fun b => by simp)
 · have h1 := ((h.row.keep (hb.block g hg)).set k hk (.bool b))
   rw [Nat.zero_add] at h1
   refine h1.congr (fun x hx => ?_)
   show updV _ k (.bool b) x = Value.bool _
   rw [he x hx]
   by_cases e : x = k
   · rw [e, updV_same, if_pos rfl]
   · rw [updV_other _ _ e, if_neg e]
end Rt
end Go.Proofs.YtieklnlbljejdaaGreatDoor

namespace Go.Proofs.YtieklnlbljejdaaGreatDoor
open Go.RowKit St
namespace Rt
def PlayP (w : World) (many : Int) (L : List Cab) (n2 : Nat) (V : Nat → AV) (e : Ending) (w' : World) : Prop :=
 (e = .returned (.tuple #[.pointer none, .slice none 0 0, .bool false]) ∧ Below w.heap.size w w') ∨
 (netF many L = 0 ∧ n2 ≤ 40 ∧ ∃ N g, e = .returned (.tuple #[.pointer (some ⟨N, 0, none⟩), .slice (some ⟨g, 0, none⟩) L.length L.length, .bool true]) ∧ PlayI w N g many.toNat L V n2 n2 w')
theorem PlayI.bel {w : World} {N g m : Nat} {L : List Cab} {V : Nat → AV} {i j : Nat} {W : World} (h : PlayI w N g m L V i j W) : Below w.heap.size w W := h.at_.1.bel
set_option maxRecDepth 100000 in
set_option maxHeartbeats 8000000 in
theorem played_any (many : Int) (a : Option Addr) (n cap : Nat) (L : List Cab) (a2 : Option Addr) (n2 cap2 : Nat) (V : Nat → AV) (E : Nat → List Opt) (w : World) (hL : CabR w a L) (hl : L.length = n) (hn : n ≤ maxLen) (hA : ActsR w a2 n2 V E) (hT : TabOk w) :
 Calls Tryz.prog 43 #[.int .i64 many, .slice a n cap, .slice a2 n2 cap2] w fun e w' => PlayP w many L n2 V e w' := by
 have hlc := lightCables_any a n cap w hn
 have hla : Calls Tryz.prog 16 #[.slice a2 n2 cap2, .int .i64 40] w fun e w' => (∃ b : Bool, e = .returned (.bool b) ∧ (b = true → n2 ≤ 40)) ∧ Below w.heap.size w w' := by
  refine (lightActs_all a2 n2 cap2 V E 40 w hA (by omega)).mono ?_
  rintro e w' ⟨⟨b, he, hb1⟩, hb2⟩
  exact ⟨⟨b, he, fun hx => by have := (hb1 hx).1; omega⟩, hb2⟩
 have hnew : ∀ W, n ≤ 12 → Below w.heap.size w W → Calls Tryz.prog 36 #[.int .i64 many, .slice a n cap] W fun e w' => NewP W many L (fun _ => False) e w' := by
  intro W h12 hb
  rw [← hl]
  exact new_net many a cap L W (hL.below hb) (by omega) (TabOk.below (w := w) hT hb) (fun _ => False) (fun b hb' => hb'.elim)
 have HA : Hid (ActsR w a2 n2 V E) := hA
 have HT : Hid (TabOk w) := hT
 have HL : Hid (L.length = n) := hl
 clear hL hA hT hl
 by_cases h12 : n ≤ 12
 case neg =>
  have hd : decide (n ≤ 12) = false := by simpa using h12
  rw [hd] at hlc
  go_enter Tryz.func43, Tryz.ntmps43
  go_wp2_with (fail)
  refine hlc.mono ?_
  rintro e w2 ⟨rfl, rfl⟩
  clear hlc hla hnew
  go_wp2_with (fail)
  refine bodyPost_ret (v := .tuple #[.pointer none, .slice none 0 0, .bool false]) (by simp [results, Tryz.results43, go_sem]) rfl ?_
  exact .inl ⟨rfl, Below.refl _ _⟩
 case pos =>
  have hd : decide (n ≤ 12) = true := by simpa using h12
  rw [hd] at hlc
  go_enter Tryz.func43, Tryz.ntmps43
  go_wp2_with (fail)
  refine hlc.mono ?_
  rintro e w2 ⟨rfl, rfl⟩
  clear hlc
  go_wp2_with (fail)
  refine hla.mono ?_
  rintro e w2 ⟨⟨b, rfl, hb40⟩, hb2⟩
  have hnw := hnew w2 h12 hb2
  have HB2 : Hid _ := hb2
  have HB40 : Hid (b = true → n2 ≤ 40) := hb40
  clear hla hnew hb2 hb40
  cases b
  case false =>
   go_wp2_with (fail)
   refine bodyPost_ret (v := .tuple #[.pointer none, .slice none 0 0, .bool false]) (by simp [results, Tryz.results43, go_sem]) rfl ?_
   exact .inl ⟨rfl, HB2.out⟩
  case true =>
   have h40 : n2 ≤ 40 := HB40.out rfl
   go_wp2_with (fail)
   refine hnw.mono ?_
   rintro e w3 hP
   clear hnw
   by_cases h0 : netF many L = 0
   case neg =>
    obtain ⟨rfl, hb3⟩ := NetA.no_new hP h0 HB2.out
    have HB3 : Hid _ := hb3
    have he : errV (netF many L) = .iface 128 (.int .i64 ((netF many L : Nat) : Int)) := errV_pos h0
    rw [he]
    clear hP hb3 h0 he
    go_wp2_with (fail)
    refine bodyPost_ret (v := .tuple #[.pointer none, .slice none 0 0, .bool false]) (by simp [results, Tryz.results43, go_sem]) rfl ?_
    exact .inl ⟨rfl, HB3.out⟩
   case pos =>
    obtain ⟨N, rfl, hG0⟩ := AtI.new hP h0 HB2.out
    have hm := (netF_ok h0).m
    have hl9 := (netF_ok h0).l
    obtain ⟨m, rfl⟩ : ∃ m : Nat, many = (m : Int) := ⟨many.toNat, by omega⟩
    rw [Int.toNat_natCast] at hG0
    have hp0 := PlayI.new (V := V) hG0
    rw [HL.out] at hl9
    have hmk := mkIn n hl9
    obtain ⟨w4, hw4⟩ : ∃ w4, w3.alloc (.cells (falses n) 4) = w4 := ⟨_, rfl⟩
    obtain ⟨g, hg⟩ : ∃ g, w3.heap.size = g := ⟨_, rfl⟩
    rw [HL.out, hw4, hg] at hp0
    have HW4 : Hid (w3.alloc (.cells (falses n) 4) = w4) := hw4
    have HG : Hid (w3.heap.size = g) := hg
    have HP0 : Hid (PlayI w N g m L V 0 0 w4) := hp0
    have H0 : Hid (netF (m : Int) L = 0) := h0
    clear hP h0 hG0 hp0 hw4 hg
    go_wp2_with (fail)
    try rw [HW4.out]
    try rw [HG.out]
    go_wp2_with (fail)
    go_loopw [12] (fun x wr => ∃ i : Nat, i ≤ n2 ∧ x = .int .i64 i ∧ PlayI w N g m L V i i wr) (fun x _ => n2 - (intOf x).toNat)
    case atStart => exact ⟨0, Nat.zero_le _, rfl, HP0.out⟩
    case round =>
     obtain ⟨i, hi, rfl, hG⟩ := hrel
     obtain ⟨V0, rfl⟩ : ∃ V0, V0 = wr := ⟨_, rfl⟩
     by_cases hlt : i < n2
     case neg =>
      have hge : ¬ (i : Int) < (n2 : Int) := by omega
      obtain rfl : i = n2 := by omega
      have HR : Hid (PlayI w N g m L V i i V0) := hG
      clear hG
      go_wp2_with (fail)
      refine bodyPost_ret (v := .tuple #[.pointer (some ⟨N, 0, none⟩), .slice (some ⟨g, 0, none⟩) n n, .bool true]) (by simp [results, Tryz.results43, go_sem]) rfl ?_
      refine .inr ⟨H0.out, h40, N, g, ?_, ?_⟩
      · rw [HL.out]
      · exact HR.out
     case pos =>
      have hlt' : (i : Int) < (n2 : Int) := by omega
      rcases HA.out.row with h1 | ⟨b, off, rfl, hrow⟩
      · omega
      have hv0 := hrow i hlt
      have hv := hv0.below hG.bel
      have HV : Hid (∀ W, Below w.heap.size w W → (V i).at_ W b (off + i * 12)) := fun W hb => hv0.below hb
      have hact := hG.act HT.out (by omega)
      have HI : Hid (∀ k, k < L.length → ((playN (newNt m L) V (i + 1)).C k).inn = if isPlug (V i) = true ∧ (k : Int) = (V i).a then (V i).b == 1 else ((playN (newNt m L) V i).C k).inn) := hG.inn (by omega)
      clear hrow hG hv0
      generalize V i = v at hv hact HV HI
      obtain ⟨vk, va, vb, vc, vd, vs, vpc, vpi, vpo, vpn, vpcap, ⟨xo, xq, xa, xn, xc⟩⟩ := v
      obtain ⟨c0, c1, c2, c3, c4, c5, c6, c7, c8, c9, c10, c11⟩ := hv
      simp only at c0 c1 c2 c3 c4 c5 c6 c7 c8 c9 c10 c11 hact
      have gl := World.block_lt_of_cell? _ _ c0
      have ge : off + i * 12 + 0 = off + i * 12 := rfl
      go_wp2_with (fail)
      refine hact.mono ?_
      rintro e w5 ⟨rfl, hp5⟩
      have hbel5 := hp5.bel
      obtain ⟨d0, d1, d2, _⟩ := HV.out w5 hbel5
      simp only at d0 d1 d2
      have gl5 := World.block_lt_of_cell? _ _ d0
      have HP5 : Hid (PlayI w N g m L V (i + 1) i w5) := hp5
      have HS : Hid ((∀ k, k < L.length → ((playN (newNt m L) V (i + 1)).C k).inn = ((playN (newNt m L) V i).C k).inn) → PlayI w N g m L V (i + 1) (i + 1) w5) := fun he => hp5.same he hp5.gl (Below.refl _ _)
      clear hact c0 c1 c2 c3 c4 c5 c6 c7 c8 c9 c10 c11 gl hp5 hbel5
      cases k1 : (vk.toList == [112, 108, 117, 103])
      case false =>
       go_wp2_with (fail)
       go_roundw
       case rel =>
        refine ⟨i + 1, by omega, by go_num, HS.out fun k hk => ?_⟩
        rw [HI.out k hk, if_neg (fun e => by have e1 : (vk.toList == [112, 108, 117, 103]) = true := e.1; rw [k1] at e1; cases e1)]
       case measure => simp [intOf]; omega
      case true =>
       by_cases ha0 : 0 ≤ va
       case neg =>
        go_wp2_with (fail)
        go_roundw
        case rel =>
         refine ⟨i + 1, by omega, by go_num, HS.out fun k hk => ?_⟩
         rw [HI.out k hk, if_neg (fun e => by have e1 : (k : Int) = va := e.2; omega)]
        case measure => simp [intOf]; omega
       case pos =>
        by_cases han : va < (n : Int)
        case neg =>
         go_wp2_with (fail)
         go_roundw
         case rel =>
          refine ⟨i + 1, by omega, by go_num, HS.out fun k hk => ?_⟩
          have hln := HL.out
          rw [HI.out k hk, if_neg (fun e => by have e1 : (k : Int) = va := e.2; omega)]
         case measure => simp [intOf]; omega
        case pos =>
         obtain ⟨k, rfl⟩ : ∃ k : Nat, va = (k : Int) := ⟨va.toNat, by omega⟩
         have hkn : k < n := by omega
         have hg0 := HP5.out.gl
         have hcell := HP5.out.row.cell k (by rw [HL.out]; exact hkn)
         have hfz := HP5.out.row.fz k (by rw [HL.out]; exact hkn)
         rw [Nat.zero_add] at hcell hfz
         have HST : Hid (PlayI w N g m L V (i + 1) (i + 1) (w5.drew.setCell ⟨g, k, none⟩ (.bool (vb == 1)))) := by
          refine HP5.out.set (by rw [HL.out]; exact hkn) (fun x hx => ?_) (below_d w5)
          rw [HI.out x hx]
          by_cases e : x = k
          · rw [if_pos ⟨k1, by show (x : Int) = (k : Int); rw [e]⟩, if_pos e]
          · rw [if_neg (fun h => e (by have h2 : (x : Int) = (k : Int) := h.2; omega)), if_neg e]
         generalize ((playN (newNt m L) V i).C k).inn = old at hcell
         have F0 : w5.drew.cell? ⟨b, off + i * 12, none⟩ = some (.string vk) ∧ w5.drew.cell? ⟨b, off + i * 12 + 1, none⟩ = some (.int .i64 (k : Int)) ∧ w5.drew.cell? ⟨b, off + i * 12 + 2, none⟩ = some (.int .i64 vb) ∧ w5.drew.cell? ⟨g, k, none⟩ = some (.bool old) := ⟨d0, d1, d2, hcell⟩
         go_upto_region 12 with (fail)
         go_region
         all_goals
          go_wp2_with (fail)
          go_roundw
          case rel => exact ⟨i + 1, by omega, by go_num, HST.out⟩
          case measure => simp [intOf]; omega
end Rt
end Go.Proofs.YtieklnlbljejdaaGreatDoor

namespace Go.Proofs.YtieklnlbljejdaaGreatDoor
open Go.RowKit St
namespace Rt
theorem mask1023 (a : Int) : ∃ m : Nat, m ≤ 1023 ∧ bits .and .i64 a 1023 = (m : Int) := by
 have e : (BitVec.ofInt 64 a &&& BitVec.ofInt 64 1023).toNat ≤ 1023 := by
  rw [BitVec.toNat_and]
  exact Nat.and_le_right
 refine ⟨(BitVec.ofInt 64 a &&& BitVec.ofInt 64 1023).toNat, e, ?_⟩
 show IntKind.i64.wrap ((BitVec.ofInt 64 a &&& BitVec.ofInt 64 1023).toNat : Int) = _
 rw [IntKind.wrap_i64]
 omega
theorem assertErr7 (w : World) : (Instr.typeAssert (.iface 128 (.int .i64 7)) 28 128 true).run Tryz.prog w = .ok (.tuple #[.int .i64 7, .bool true]) w := by kernel_rfl
set_option maxRecDepth 100000 in
theorem number_seven (w : World) : Calls Tryz.prog 63 #[.iface 128 (.int .i64 7)] w fun e w' => e = .returned (.int .i64 7) ∧ w = w' := by
 have hta := assertErr7 w
 go_enter Tryz.func63, Tryz.ntmps63
 go_wp2_with (fail)
 go_ret
 exact ⟨rfl, rfl⟩
theorem playN_e (y : NtM) (V : Nat → AV) (x : Nat) : ∀ i, ((playN y V i).C x).e = (y.C x).e
 | 0 => rfl
 | i + 1 => ((actN_same (playN y V i) (V i)).2.2.2 x).trans (playN_e y V x i)
theorem cab_at {many : Int} {L : List Cab} (h : CabsOk many L) {k : Nat} (hk : k < L.length) : ∃ j0 p0 j1 p1 : Nat, ∃ x : Int, L[k] = ⟨(j0 : Int) + 1, p0, (j1 : Int) + 1, p1, x⟩ ∧ ((newNt many.toNat L).C k).e 0 = (j0, p0) ∧ ((newNt many.toNat L).C k).e 1 = (j1, p1) ∧ j0 < many.toNat ∧ p0 < 3 ∧ j1 < many.toNat ∧ p1 < 3 := by
 obtain ⟨_, ha, hb⟩ := h.c L[k] (List.getElem_mem hk)
 obtain ⟨a1, a2, a3, a4⟩ := endOk_iff ha
 obtain ⟨b1, b2, b3, b4⟩ := endOk_iff hb
 have hg : L.getD k ⟨1, 0, 1, 0, 1⟩ = L[k] := by
  rw [List.getD_eq_getElem?_getD, List.getElem?_eq_getElem hk]; rfl
 have he : ∀ d, ((newNt many.toNat L).C k).e d = (L[k]).at d := fun d => by
  show (L.getD k ⟨1, 0, 1, 0, 1⟩).at d = _
  rw [hg]
 generalize L[k] = c at *
 obtain ⟨ca, cpa, cb, cpb, cm⟩ := c
 simp only at a1 a2 a3 a4 b1 b2 b3 b4
 refine ⟨(ca - 1).toNat, cpa.toNat, (cb - 1).toNat, cpb.toNat, cm, ?_, he 0, he 1, by omega, by omega, by omega, by omega⟩
 congr 1 <;> omega
set_option maxRecDepth 100000 in
set_option maxHeartbeats 8000000 in
theorem drawn_any (many : Int) (a : Option Addr) (n cap : Nat) (L : List Cab) (a2 : Option Addr) (n2 cap2 : Nat) (V : Nat → AV) (E : Nat → List Opt) (which : Int) (w : World) (hL : CabR w a L) (hl : L.length = n) (hn : n ≤ maxLen) (hA : ActsR w a2 n2 V E) (hT : TabOk w) :
 Calls Tryz.prog 14 #[.int .i64 many, .slice a n cap, .slice a2 n2 cap2, .int .i64 which] w fun e w' => e = .returned (.bool true) ∧ Below w.heap.size w w' := by
 have hw := works_any w hT
 have hpl : ∀ W, Below w.heap.size w W → Calls Tryz.prog 43 #[.int .i64 many, .slice a n cap, .slice a2 n2 cap2] W fun e w' => PlayP W many L n2 V e w' := fun W hb =>
  played_any many a n cap L a2 n2 cap2 V E W (hL.below hb) hl hn (hA.below hb) (TabOk.below (w := w) hT hb)
 have HT : Hid (TabOk w) := hT
 have HL : Hid (L.length = n) := hl
 have HC : Hid (CabR w a L) := hL
 clear hL hA hT hl
 go_enter Tryz.func14, Tryz.ntmps14
 go_wp2_with (fail)
 refine hw.mono ?_
 rintro e w1 ⟨rfl, hb1⟩
 have hp := hpl w1 hb1
 have HB1 : Hid (Below w.heap.size w w1) := hb1
 clear hw hpl hb1
 go_wp2_with (fail)
 refine hp.mono ?_
 rintro e w2 hP
 clear hp
 rcases hP with ⟨rfl, hb2⟩ | ⟨h0, h40, N, g, rfl, hI⟩
 · have HB2 : Hid (Below w.heap.size w w2) := below_chain HB1.out hb2
   clear hb2
   go_wp2_with (fail)
   go_ret
   exact ⟨rfl, HB2.out⟩
 · have HB2 : Hid (Below w.heap.size w w2) := below_chain HB1.out hI.bel
   rw [HL.out]
   by_cases hz : n = 0
   · subst hz
     clear hI h0
     go_wp2_with (fail)
     go_ret
     exact ⟨rfl, HB2.out⟩
   · have hnz : ¬ (n : Int) = 0 := by omega
     have hn0 : 0 < n := by omega
     obtain ⟨q, hq, hqe⟩ := mask1023 which
     obtain ⟨k, hke⟩ : ∃ k, q % n = k := ⟨_, rfl⟩
     have hkn : k < n := by rw [← hke]; exact Nat.mod_lt _ hn0
     have hrem : ((q : Nat) : Int).tmod (n : Int) = (k : Int) := by rw [← hke]; exact Int.ofNat_tmod q n
     have hnm : (n : Int) ≤ 9 := by have := (netF_ok h0).l; rw [HL.out] at this; omega
     have hwr : IntKind.i64.wrap (k : Int) = (k : Int) := IntWalk.i64_in _ ⟨by omega, by omega⟩
     have hwq : IntKind.i64.wrap (q : Int) = (q : Int) := IntWalk.i64_in _ ⟨by omega, by omega⟩
     have hki : (k : Int) < (n : Int) := by omega
     have hk0 : (0 : Int) ≤ (k : Int) := by omega
     have hcell := hI.row.cell k (by rw [HL.out]; exact hkn)
     rw [Nat.zero_add] at hcell
     have gl := World.block_lt_of_cell? _ _ hcell
     obtain ⟨Y, hY⟩ : ∃ Y, playN (newNt many.toNat L) V n2 = Y := ⟨_, rfl⟩
     have hAt := hI.at_
     rw [hY] at hAt hcell
     have hT1 : TabOk w1 := TabOk.below (w := w) HT.out HB1.out
     have hplug := hAt.plug hT1 (by omega) (k : Int) false
     obtain ⟨hA0, hG0, hok0, hn1, hnc1⟩ := hAt
     have hcond : ¬ ((k : Int) < 0 ∨ (Y.nc : Int) ≤ (k : Int)) := by rw [hnc1, HL.out]; omega
     have hkt : ((k : Int)).toNat = k := Int.toNat_natCast k
     have hinn := (hG0.plug hok0 (k : Int) false).2 k
     rw [if_pos ⟨rfl, by rw [hnc1, HL.out]; exact hkn⟩] at hinn
     have hp2 : (Y.plug (k : Int) false).2 = if (Y.C k).inn = false then 7 else 0 := by
      unfold NtM.plug
      rw [if_neg hcond, hkt]
      split <;> rfl
     rw [hp2] at hplug
     have hes : ((Y.plug (k : Int) false).1.C k).e = ((newNt many.toNat L).C k).e := ((plug_same Y (k : Int) false).2.2.2 k).trans (by rw [← hY]; exact playN_e _ V k n2)
     obtain ⟨j0, p0, j1, p1, mt, hLk, he0, he1, hj0, hp0, hj1, hp1⟩ := cab_at (netF_ok h0) (k := k) (by rw [HL.out]; exact hkn)
     obtain ⟨Y2, hY2⟩ : ∃ Y2, (Y.plug (k : Int) false).1 = Y2 := ⟨_, rfl⟩
     rw [hY2] at hplug hes hinn
     obtain ⟨b, off, hab, hcab0⟩ : ∃ b off, a = some ⟨b, off, none⟩ ∧ ∀ W, Below w.heap.size w W → W.cell? ⟨b, off + k * 5, none⟩ = some (.int .i64 ((j0 : Int) + 1)) ∧ W.cell? ⟨b, off + k * 5 + 1, none⟩ = some (.int .i64 (p0 : Int)) ∧ W.cell? ⟨b, off + k * 5 + 2, none⟩ = some (.int .i64 ((j1 : Int) + 1)) ∧ W.cell? ⟨b, off + k * 5 + 3, none⟩ = some (.int .i64 (p1 : Int)) := by
      obtain ⟨b, off, hab, _⟩ := HC.out k (by rw [HL.out]; exact hkn)
      refine ⟨b, off, hab, fun W hW => ?_⟩
      obtain ⟨b', off', hab', x0, x1, x2, x3, _⟩ := (HC.out.below hW) k (by rw [HL.out]; exact hkn)
      rw [hab] at hab'
      obtain ⟨rfl, rfl, _⟩ : b = b' ∧ off = off' ∧ True := by
       have := Option.some.inj hab'
       exact ⟨congrArg Addr.block this, congrArg Addr.off this, trivial⟩
      rw [hLk] at x0 x1 x2 x3
      exact ⟨x0, x1, x2, x3⟩
     subst hab
     have HCab : Hid (∀ W, Below w.heap.size w W → W.cell? ⟨b, off + k * 5, none⟩ = some (.int .i64 ((j0 : Int) + 1)) ∧ W.cell? ⟨b, off + k * 5 + 1, none⟩ = some (.int .i64 (p0 : Int)) ∧ W.cell? ⟨b, off + k * 5 + 2, none⟩ = some (.int .i64 ((j1 : Int) + 1)) ∧ W.cell? ⟨b, off + k * 5 + 3, none⟩ = some (.int .i64 (p1 : Int))) := hcab0
     have HX : Hid (((Y2.C k).e 0 = (j0, p0) ∧ (Y2.C k).e 1 = (j1, p1)) ∧ (Y2.C k).inn = false) := ⟨⟨by rw [hes]; exact he0, by rw [hes]; exact he1⟩, hinn⟩
     clear hI hcab0 hes he0 he1 hinn hLk hp2 hcond hkt hA0 hG0 hok0 hn1 hnc1 hT1 hY hY2 hke hq
     generalize (Y.C k).inn = inn at hcell hplug
     cases inn
     case false =>
      have e7 : errV (if false = false then 7 else 0) = .iface 128 (.int .i64 7) := rfl
      rw [e7] at hplug
      clear h0
      go_wp2_with (fail)
      refine hplug.mono ?_
      rintro e w3 ⟨rfl, h3, _⟩
      have HB3 : Hid (Below w.heap.size w w3) := below_chain HB1.out h3.1.bel
      have hnu := number_seven w3
      clear hplug h3 e7
      go_wp2_with (fail)
      refine hnu.mono ?_
      rintro e w4 ⟨rfl, rfl⟩
      clear hnu
      go_wp2_with (fail)
      go_ret
      exact ⟨rfl, HB3.out⟩
     case true =>
      have e0 : errV (if true = false then 7 else 0) = .nilIface := rfl
      rw [e0] at hplug
      clear h0
      go_wp2_with (fail)
      refine hplug.mono ?_
      rintro e w3 ⟨rfl, ⟨hA3, hG3, hok3, hn3, hnc3⟩, _⟩
      have HB3 : Hid (Below w.heap.size w w3) := below_chain HB1.out hA3.bel
      obtain ⟨Rp, hLook⟩ := hA3.look
      have d0 := hG3.drawn hok3 (c := k) (d := 0) (by rw [hnc3, HL.out]; exact hkn) (by decide) HX.out.2
      have d1 := hG3.drawn hok3 (c := k) (d := 1) (by rw [hnc3, HL.out]; exact hkn) (by decide) HX.out.2
      rw [HX.out.1.1] at d0
      rw [HX.out.1.2] at d1
      obtain ⟨st, hst⟩ : ∃ st : Nat → Nat → Int, st = fun i p => ((Y2.R i).P p).L.st := ⟨_, rfl⟩
      obtain ⟨pe, hpe⟩ : ∃ pe : Nat → Nat → PeerM, pe = fun i p => ((Y2.R i).P p).pe := ⟨_, rfl⟩
      obtain ⟨on, hon⟩ : ∃ on : Nat → Nat → Nat, on = fun c d => ((Y2.C c).on d).length := ⟨_, rfl⟩
      rw [← hst, ← hpe, ← hon, hn3, hnc3, HL.out] at hLook
      have HLook : Hid (Look w3 N many.toNat n Rp st pe on) := hLook
      have HF0 : Hid (st j0 p0 = 1 ∧ (pe j0 p0).who = 0 ∧ (pe j0 p0).both = false ∧ on k 0 = 0) := by
       rw [hst, hpe, hon]
       exact ⟨d0.1, d0.2.1, d0.2.2.1, by show ((Y2.C k).on 0).length = 0; rw [d0.2.2.2]; rfl⟩
      have HF1 : Hid (st j1 p1 = 1 ∧ (pe j1 p1).who = 0 ∧ (pe j1 p1).both = false ∧ on k 1 = 0) := by
       rw [hst, hpe, hon]
       exact ⟨d1.1, d1.2.1, d1.2.2.1, by show ((Y2.C k).on 1).length = 0; rw [d1.2.2.2]; rfl⟩
      clear hplug e0 hA3 hG3 hok3 hn3 hnc3 hLook d0 d1 hst hpe hon hcell gl
      go_wp2_with (fail)
      go_loopw [13] (fun x wr => ∃ d : Nat, d ≤ 2 ∧ x = .int .i64 d ∧ Below w3.heap.size w3 wr) (fun x _ => 2 - (intOf x).toNat)
      case atStart => exact ⟨0, Nat.zero_le _, rfl, Below.refl _ _⟩
      case round =>
       obtain ⟨d, hd, rfl, hbd⟩ := hrel
       obtain ⟨V3, rfl⟩ : ∃ V3, V3 = wr := ⟨_, rfl⟩
       have HBd : Hid (Below w3.heap.size w3 V3) := hbd
       by_cases hlt : d < 2
       case neg =>
        have hge : ¬ (d : Int) < 2 := by omega
        clear hbd
        go_wp2_with (fail)
        go_ret
        exact ⟨rfl, below_chain HB3.out HBd.out⟩
       case pos =>
        obtain ⟨c0, c1, c2, c3⟩ := HCab.out V3 (below_chain HB3.out hbd)
        have bl := World.block_lt_of_cell? _ _ c0
        have ge : off + k * 5 + 0 = off + k * 5 := rfl
        have hr0 := HLook.out.router j0 hj0 V3 hbd
        have hr1 := HLook.out.router j1 hj1 V3 hbd
        have : d = 0 ∨ d = 1 := by omega
        rcases this with rfl | rfl
        · have hlk := HLook.out.link j0 p0 hj0 hp0 V3 hbd
          have hpe := HLook.out.peer j0 p0 hj0 hp0 V3 hbd
          have hon := fun W hW => HLook.out.on k 0 hkn (by decide) W (below_chain (w := w3) hbd hW)
          rw [HF0.out.1] at hlk
          rw [HF0.out.2.1, HF0.out.2.2.1] at hpe
          rw [HF0.out.2.2.2] at hon
          generalize (pe j0 p0).left = left at hpe
          clear hbd hr1
          go_wp2_with (fail)
          refine hr0.mono ?_
          rintro e w4 ⟨rfl, rfl⟩
          clear hr0
          go_wp2_with (fail)
          refine hlk.mono ?_
          rintro e w4 ⟨rfl, rfl⟩
          clear hlk
          go_wp2_with (fail)
          refine hpe.mono ?_
          rintro e w4 ⟨rfl, hb4⟩
          have ho := hon _ (below_chain hb4 (below_alloc w4 (.cells #[.int .i64 0, .bool false, .int .i64 left] 116)))
          have HB4 : Hid (Below w3.heap.size w3 (w4.alloc (.cells #[.int .i64 0, .bool false, .int .i64 left] 116))) := below_chain HBd.out (below_chain hb4 (below_alloc _ _))
          clear hpe hon hb4
          go_wp2_with (fail)
          refine ho.mono ?_
          rintro e w5 ⟨rfl, rfl⟩
          clear ho
          go_wp2_with (fail)
          go_roundw
          case rel => exact ⟨1, by omega, by go_num, HB4.out⟩
          case measure => simp [intOf]
        · have hlk := HLook.out.link j1 p1 hj1 hp1 V3 hbd
          have hpe := HLook.out.peer j1 p1 hj1 hp1 V3 hbd
          have hon := fun W hW => HLook.out.on k 1 hkn (by decide) W (below_chain (w := w3) hbd hW)
          rw [HF1.out.1] at hlk
          rw [HF1.out.2.1, HF1.out.2.2.1] at hpe
          rw [HF1.out.2.2.2] at hon
          generalize (pe j1 p1).left = left at hpe
          clear hbd
          go_wp2_with (fail)
          refine hr0.mono ?_
          rintro e w4 ⟨rfl, rfl⟩
          clear hr0
          go_wp2_with (fail)
          refine hr1.mono ?_
          rintro e w4 ⟨rfl, rfl⟩
          clear hr1
          go_wp2_with (fail)
          refine hlk.mono ?_
          rintro e w4 ⟨rfl, rfl⟩
          clear hlk
          go_wp2_with (fail)
          refine hpe.mono ?_
          rintro e w4 ⟨rfl, hb4⟩
          have ho := hon _ (below_chain hb4 (below_alloc w4 (.cells #[.int .i64 0, .bool false, .int .i64 left] 116)))
          have HB4 : Hid (Below w3.heap.size w3 (w4.alloc (.cells #[.int .i64 0, .bool false, .int .i64 left] 116))) := below_chain HBd.out (below_chain hb4 (below_alloc _ _))
          clear hpe hon hb4
          go_wp2_with (fail)
          refine ho.mono ?_
          rintro e w5 ⟨rfl, rfl⟩
          clear ho
          go_wp2_with (fail)
          go_roundw
          case rel => exact ⟨2, by omega, by go_num, HB4.out⟩
          case measure => simp [intOf]
end Rt
end Go.Proofs.YtieklnlbljejdaaGreatDoor
