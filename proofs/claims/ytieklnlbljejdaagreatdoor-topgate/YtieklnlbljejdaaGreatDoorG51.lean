/-
  WaysLight NtTop NtLook TopGateWalk
-/
import Derived.Test.YtieklnlbljejdaaGreatDoorG15
import Derived.Test.YtieklnlbljejdaaGreatDoorG22
import Derived.Test.YtieklnlbljejdaaGreatDoorG50
namespace Go.Proofs.YtieklnlbljejdaaGreatDoor
open Go.RowKit St
set_option maxRecDepth 100000 in
set_option maxHeartbeats 4000000 in
theorem sameHops_yes (a b : Option Addr) (n ca cb : Nat) (L : List HP) (w : World) (hS : HsR w a n L) (hT : HsR w b n L) (hn : n ≤ 1000) :
 Calls Tryz.prog 46 #[.slice a n ca, .slice b n cb] w fun e w' => e = .returned (.bool true) ∧ Below w.heap.size w w' := by
 have hl := hS.len
 go_enter Tryz.func46, Tryz.ntmps46
 go_wp2_with (fail)
 go_loopw [5] (fun i wr => ∃ k : Nat, k ≤ n ∧ i = .int .i64 k ∧ Below w.heap.size w wr) (fun i _ => n - (intOf i).toNat)
 case atStart => exact ⟨0, Nat.zero_le _, rfl, Below.refl _ _⟩
 case round =>
  obtain ⟨k, hk, rfl, hbel⟩ := hrel
  by_cases hlt : k < n
  · have hlt' : (k : Int) < (n : Int) := by omega
    have r1 := (hS.below hbel).row
    have r2 := (hT.below hbel).row
    rcases r1 with h1 | ⟨b1, o1, rfl, hc1⟩
    · omega
    rcases r2 with h1 | ⟨b2, o2, rfl, hc2⟩
    · omega
    have hg : L[k]? = some (L[k]'(by omega)) := List.getElem?_eq_getElem (by omega)
    obtain ⟨c0, c1, c2⟩ := hc1 k _ hg
    obtain ⟨d0, d1, d2⟩ := hc2 k _ hg
    generalize L[k]'(by omega) = p at c0 c1 c2 d0 d1 d2 hg
    obtain ⟨pd, pf, px⟩ := p
    simp only at c0 c1 c2 d0 d1 d2
    clear hc1 hc2 hg
    have HB : Hid _ := hbel
    clear hbel
    go_wp2_with (fail)
    go_quiet (fail)
    go_wp2_with (fail)
    go_roundw
    case rel => exact ⟨k + 1, by omega, by go_num, below_drewN HB.out _⟩
    case measure => simp [intOf]; omega
  · have hge : ¬ (k : Int) < (n : Int) := by omega
    go_wp2_with (fail)
    go_ret
    exact ⟨rfl, hbel⟩
end Go.Proofs.YtieklnlbljejdaaGreatDoor

namespace Go.Proofs.YtieklnlbljejdaaGreatDoor
open Go.RowKit St
namespace Rt
structure NetA (w0 w : World) (N : Nat) (X : Nat → Prop) (n : NtM) : Prop where
 ex : ∃ y, NetR w y n ∧ y.N = N ∧ (∀ b, y.all n.n b → w0.heap.size ≤ b) ∧ ∀ b, y.ext b ↔ X b
 bel : Below w0.heap.size w0 w
theorem NetA.of_new {w0 w w' : World} {many : Int} {L : List Cab} {X : Nat → Prop} {e : Ending} (h : NewP w many L X e w') (h0 : netF many L = 0) (hb : Below w0.heap.size w0 w) : ∃ N, e = .returned (.tuple #[.pointer (some ⟨N, 0, none⟩), .nilIface]) ∧ NetA w0 w' N X (newNt many.toNat L) := by
 obtain ⟨_, h2, h3⟩ := h
 obtain ⟨y, he, hR, ha, hx⟩ := h2 h0
 exact ⟨y.N, he, ⟨y, hR, rfl, fun b hb' => Nat.le_trans hb.size (ha b hb'), hx⟩, below_chain hb h3⟩
theorem NetA.no_new {w0 w w' : World} {many : Int} {L : List Cab} {X : Nat → Prop} {e : Ending} (h : NewP w many L X e w') (h0 : netF many L ≠ 0) (hb : Below w0.heap.size w0 w) : e = .returned (.tuple #[.pointer none, errV (netF many L)]) ∧ Below w0.heap.size w0 w' := by
 obtain ⟨h1, _, h3⟩ := h
 exact ⟨h1 h0, below_chain hb h3⟩
theorem NetA.still {w0 w w' : World} {N : Nat} {X : Nat → Prop} {n : NtM} (h : NetA w0 w N X n) (hb : Below w.heap.size w w') : NetA w0 w' N X n := by
 obtain ⟨⟨y, hR, hN, ha, hx⟩, hbel⟩ := h
 exact ⟨⟨y, hR.below hb, hN, ha, hx⟩, below_chain hbel hb⟩
theorem NetA.tab {w0 w : World} {N : Nat} {X : Nat → Prop} {n : NtM} (h : NetA w0 w N X n) (hT : TabOk w0) : TabOk w := hT.below h.bel
theorem NetA.went {w0 W w' : World} {y : Yt} {X : Nat → Prop} {n n' : NtM} (hR : NetR W y n) (ha : ∀ b, y.all n.n b → w0.heap.size ≤ b) (hx : ∀ b, y.ext b ↔ X b) (hb : Below w0.heap.size w0 W) (hn : n'.n = n.n) (h : WentN W w' y n' n.n) :
 NetA w0 w' y.N X n' ∧ ∀ b, X b → w'.heap[b]? = W.heap[b]? := by
 obtain ⟨⟨y', hR', hs, hm, he⟩, hK⟩ := h
 have hlt : ∀ b, X b → b < W.heap.size := fun b hb' => hR.lt (.inr ((hx b).2 hb'))
 have hnall : ∀ b, X b → ¬ y.all n.n b := fun b hb' e => by
  rcases e with e | ⟨j, hj, e⟩
  · exact hR.nx b ((hx b).2 hb') e
  · exact hR.awayFoot hj (.inr (.inl ((hx b).2 hb'))) e
 refine ⟨⟨⟨y', hR', hs.N, fun b hb' => ?_, fun b => (he b).trans (hx b)⟩, ?_⟩, fun b hb' => hK.block b (hlt b hb') (hnall b hb')⟩
 · rw [hn] at hb'
   rcases hm b hb' with e | e
   · exact ha b e
   · exact Nat.le_trans hb.size e
 · refine ⟨hK.os.trans hb.os, hK.tape.trans hb.tape, hK.output.trans hb.output, Nat.le_trans hb.size hK.size, fun b hb' => ?_⟩
   refine (hK.block b (Nat.lt_of_lt_of_le hb' hb.size) (fun e => ?_)).trans (hb.block b hb')
   have := ha b e
   omega
theorem NetA.call {w0 W : World} {N : Nat} {X : Nat → Prop} {n n' : NtM} {f : FuncId} {args : Array Value} {E : Ending → Prop} (h : NetA w0 W N X n) (hn : n'.n = n.n)
 (k : ∀ y, NetR W y n → y.N = N → Calls Tryz.prog f args W fun e w' => E e ∧ WentN W w' y n' n.n) : Calls Tryz.prog f args W fun e w' => E e ∧ NetA w0 w' N X n' ∧ ∀ b, X b → w'.heap[b]? = W.heap[b]? := by
 obtain ⟨⟨y, hR, hN, ha, hx⟩, hb⟩ := h
 refine (k y hR hN).mono ?_
 rintro e w' ⟨he, hw⟩
 have := NetA.went hR ha hx hb hn hw
 rw [hN] at this
 exact ⟨he, this⟩
def NtM.rounds (y : NtM) : Nat → NtM
 | 0 => y
 | k + 1 => (y.rounds k).round
def wkL : List Cab := [⟨1, 0, 2, 0, 3⟩]
def wk1 : NtM := ((newNt 2 wkL).plug 0 true).1
theorem wk_hops : hopsM ((wk1.rounds 6).R 1) = [⟨1, 3, 1⟩] := by kernel_rfl
theorem wk_plug : ((newNt 2 wkL).plug 0 true).2 = 0 := by kernel_rfl
theorem wk_ok0 : netF 2 wkL = 0 := by kernel_rfl
theorem rounds_n (y : NtM) : ∀ k, (y.rounds k).n = y.n
 | 0 => rfl
 | k + 1 => (round_same (y.rounds k)).1.trans (rounds_n y k)
theorem rounds_ok {y : NtM} {D : Nat} (h : NOk y D 0) (hD : D ≤ 100000000) : ∀ k, k ≤ 100 → NOk (y.rounds k) (D + 1300000 * k) 0
 | 0, _ => h
 | k + 1, hk => ((rounds_ok h hD k (by omega)).round (by omega)).mono (by omega) (Nat.le_refl _)
theorem wk_ok : NOk wk1 2 0 := (newNt_ok (netF_ok wk_ok0)).plug (by omega) 0 true
set_option maxRecDepth 100000 in
set_option maxHeartbeats 4000000 in
theorem works_any (w : World) (hT : TabOk w) : Calls Tryz.prog 42 #[] w fun e w' => e = .returned (.bool true) ∧ Below w.heap.size w w' := by
 obtain ⟨W0, hW0⟩ : ∃ W0, w.alloc (.cells #[.int .i64 1, .int .i64 0, .int .i64 2, .int .i64 0, .int .i64 3] 81) = W0 := ⟨_, rfl⟩
 have hb := below_alloc w (.cells #[.int .i64 1, .int .i64 0, .int .i64 2, .int .i64 0, .int .i64 3] 81)
 have hc := fun j => World.cell?_alloc_mark w #[.int .i64 1, .int .i64 0, .int .i64 2, .int .i64 0, .int .i64 3] 81 (0, 0) j
 rw [hW0] at hb
 rw [hW0] at hc
 have hL : CabR W0 (some ⟨w.heap.size, 0, none⟩) wkL := fun j hj => by
  obtain rfl : j = 0 := by simp [wkL] at hj; exact hj
  exact ⟨w.heap.size, 0, rfl, hc 0, hc 1, hc 2, hc 3, hc 4⟩
 have hnew : Calls Tryz.prog 36 #[.int .i64 2, .slice (some ⟨w.heap.size, 0, none⟩) 1 1] W0 fun e w' => ∃ N, e = .returned (.tuple #[.pointer (some ⟨N, 0, none⟩), .nilIface]) ∧ NetA w w' N (fun _ => False) (newNt 2 wkL) := by
  refine (new_net 2 (some ⟨w.heap.size, 0, none⟩) 1 wkL W0 hL (by decide) (TabOk.below (w := w) hT hb) (fun _ => False) (fun b hb' => hb'.elim)).mono ?_
  rintro e w' h
  exact NetA.of_new h wk_ok0 hb
 have hplug : ∀ W N, NetA w W N (fun _ => False) (newNt 2 wkL) → Calls Tryz.prog 57 #[.pointer (some ⟨N, 0, none⟩), .int .i64 0, .bool true] W fun e w' => e = .returned .nilIface ∧ NetA w w' N (fun _ => False) (wk1.rounds 0) := by
  intro W N hA
  refine (hA.call (E := fun e => e = .returned .nilIface) (n' := wk1) rfl fun y hR hN => ?_).mono (fun e w' h => ⟨h.1, h.2.1⟩)
  rw [← hN]
  refine (plug_net y (newNt 2 wkL) 0 0 true W hR (hA.tab hT) (newNt_ok (netF_ok wk_ok0)) (by omega)).mono ?_
  rintro e w' ⟨rfl, hw⟩
  rw [wk_plug]
  exact ⟨rfl, hw⟩
 have hround : ∀ W N k, k < 6 → NetA w W N (fun _ => False) (wk1.rounds k) → Calls Tryz.prog 54 #[.pointer (some ⟨N, 0, none⟩)] W fun e w' => e = .returned (.tuple #[]) ∧ NetA w w' N (fun _ => False) (wk1.rounds (k + 1)) := by
  intro W N k hk hA
  refine (hA.call (E := fun e => e = .returned (.tuple #[])) (n' := wk1.rounds (k + 1)) (round_same (wk1.rounds k)).1 fun y hR hN => ?_).mono (fun e w' h => ⟨h.1, h.2.1⟩)
  rw [← hN]
  exact round_net y (wk1.rounds k) (2 + 1300000 * k) W hR (hA.tab hT) (rounds_ok wk_ok (by omega) k (by omega)) (by omega)
 have hrouter : ∀ W N, NetA w W N (fun _ => False) (wk1.rounds 6) → Calls Tryz.prog 40 #[.pointer (some ⟨N, 0, none⟩), .int .i64 2] W fun e w' => ∃ R, e = .returned (.tuple #[.pointer (some ⟨R, 0, none⟩), .nilIface]) ∧ Below w.heap.size w w' ∧ Calls Tryz.prog 64 #[.pointer (some ⟨R, 0, none⟩)] w' fun e w2 => ∃ b c, e = .returned (.slice b 1 c) ∧ HsR w2 b 1 [⟨1, 3, 1⟩] ∧ Below w.heap.size w w2 := by
  intro W N hA
  obtain ⟨⟨y, hR, hN, ha, hx⟩, hbel⟩ := hA
  rw [← hN]
  have hn : (wk1.rounds 6).n = 2 := rounds_n wk1 6
  refine (router_yes y (wk1.rounds 6) 1 W hR (by rw [hn]; decide)).mono ?_
  rintro e w' ⟨rfl, rfl⟩
  refine ⟨(y.z 1).R, rfl, hbel, ?_⟩
  have hok := (rounds_ok wk_ok (by omega) 6 (by omega)).ok 1 (by rw [hn]; decide)
  refine (hopsR_any (y.z 1) ((wk1.rounds 6).R 1) W (hR.rt 1 (by rw [hn]; decide)) hok.rng).mono ?_
  rintro e w2 ⟨b, c, rfl, hH, hb2⟩
  rw [wk_hops] at hH ⊢
  exact ⟨b, c, rfl, hH, below_chain hbel hb2⟩
 have hsame : ∀ W b c W2, Below w.heap.size w W → HsR W b 1 [⟨1, 3, 1⟩] → W2 = W.alloc (.cells #[.int .i64 1, .int .i64 3, .int .i64 1] 98) → Calls Tryz.prog 46 #[.slice b 1 c, .slice (some ⟨W.heap.size, 0, none⟩) 1 1] W2 fun e w' => e = .returned (.bool true) ∧ Below w.heap.size w w' := by
  rintro W b c W2 hbW hH rfl
  have hb2 := below_alloc W (.cells #[.int .i64 1, .int .i64 3, .int .i64 1] 98)
  have hc2 := fun j => World.cell?_alloc_mark W #[.int .i64 1, .int .i64 3, .int .i64 1] 98 (0, 0) j
  refine (sameHops_yes b (some ⟨W.heap.size, 0, none⟩) 1 c 1 [⟨1, 3, 1⟩] _ (hH.below hb2) ⟨rfl, .inr ⟨W.heap.size, 0, rfl, fun j h hj => ?_⟩⟩ (by omega)).mono ?_
  · obtain ⟨l, v⟩ := List.getElem?_eq_some_iff.1 hj
    obtain rfl : j = 0 := by simp at l; exact l
    obtain rfl : _ = h := v
    exact ⟨hc2 0, hc2 1, hc2 2⟩
  · rintro e w' ⟨rfl, hb3⟩
    exact ⟨rfl, below_chain hbW (below_chain hb2 hb3)⟩
 have HW0 : Hid _ := hW0
 have HR : Hid (∀ W N k, k < 6 → NetA w W N (fun _ => False) (wk1.rounds k) → Calls Tryz.prog 54 #[.pointer (some ⟨N, 0, none⟩)] W fun e w' => e = .returned (.tuple #[]) ∧ NetA w w' N (fun _ => False) (wk1.rounds (k + 1))) := hround
 obtain ⟨Q, hQ⟩ : ∃ Q : Nat → NtM, Q = wk1.rounds := ⟨_, rfl⟩
 clear hW0 hb hc hL hround
 rw [← hQ] at hplug HR hrouter
 generalize newNt 2 wkL = z0 at hnew hplug
 clear hQ
 go_enter Tryz.func42, Tryz.ntmps42
 go_wp2_with (fail)
 try rw [HW0.out]
 go_wp2_with (fail)
 refine hnew.mono ?_
 rintro e w1 ⟨N, rfl, hA⟩
 have h1 := hplug w1 N hA
 clear hnew hplug hA
 go_wp2_with (fail)
 refine h1.mono ?_
 rintro e w2 ⟨rfl, hA⟩
 have HA : Hid _ := hA
 clear h1 hA
 go_wp2_with (fail)
 go_loopw [3] (fun x wr => ∃ k : Nat, k ≤ 6 ∧ x = .int .i64 k ∧ NetA w wr N (fun _ => False) (Q k)) (fun x _ => 6 - (intOf x).toNat)
 case atStart => exact ⟨0, Nat.zero_le _, rfl, HA.out⟩
 case round =>
  obtain ⟨k, hk, rfl, hAk⟩ := hrel
  obtain ⟨V, rfl⟩ : ∃ V, V = wr := ⟨_, rfl⟩
  by_cases hlt : k < 6
  · have hlt' : (k : Int) < 6 := by omega
    have hr := HR.out V N k hlt hAk
    clear hAk
    go_wp2_with (fail)
    refine hr.mono ?_
    rintro e w3 ⟨rfl, hA3⟩
    have HA3 : Hid _ := hA3
    clear hr hA3
    go_wp2_with (fail)
    go_roundw
    case rel => exact ⟨k + 1, by omega, by go_num, HA3.out⟩
    case measure => simp [intOf]; omega
  · have hge : ¬ (k : Int) < 6 := by omega
    obtain rfl : k = 6 := by omega
    have hr := hrouter V N hAk
    clear hAk hrouter
    go_wp2_with (fail)
    refine hr.mono ?_
    rintro e w3 ⟨R, rfl, hb3, hh⟩
    have HB3 : Hid _ := hb3
    clear hr hb3
    go_wp2_with (fail)
    refine hh.mono ?_
    rintro e w4 ⟨b, c, rfl, hH, hb4⟩
    obtain ⟨W5, hW5⟩ : ∃ W5, W5 = w4.alloc (.cells #[.int .i64 1, .int .i64 3, .int .i64 1] 98) := ⟨_, rfl⟩
    have hs := hsame w4 b c W5 hb4 hH hW5
    have HW5 : Hid _ := hW5.symm
    clear hh hH hb4 hsame hW5
    go_wp2_with (fail)
    try rw [HW5.out]
    go_wp2_with (fail)
    refine hs.mono ?_
    rintro e w6 ⟨rfl, hb6⟩
    have HB6 : Hid _ := hb6
    clear hs hb6
    go_wp2_with (fail)
    go_ret
    exact ⟨rfl, HB6.out⟩
theorem lightCables_any (a : Option Addr) (n cap : Nat) (w : World) (_hn : n ≤ maxLen) : Calls Tryz.prog 35 #[.slice a n cap] w fun e w' => e = .returned (.bool (decide (n ≤ 12))) ∧ w = w' := by
 by_cases h : n ≤ 12
 · have h' : (n : Int) ≤ 12 := by omega
   go_enter Tryz.func35, Tryz.ntmps35
   go_wp2_with (fail)
   go_ret
   exact ⟨by simp [h], rfl⟩
 · have h' : ¬ (n : Int) ≤ 12 := by omega
   go_enter Tryz.func35, Tryz.ntmps35
   go_wp2_with (fail)
   go_ret
   exact ⟨by simp, rfl⟩
end Rt
end Go.Proofs.YtieklnlbljejdaaGreatDoor

namespace Go.Proofs.YtieklnlbljejdaaGreatDoor
open Go.RowKit St
namespace Rt
structure Look (W : World) (N m nc : Nat) (Rp : Nat → Nat) (st : Nat → Nat → Int) (pe : Nat → Nat → PeerM) (on : Nat → Nat → Nat) : Prop where
 router : ∀ k : Nat, k < m → ∀ w, Below W.heap.size W w → Calls Tryz.prog 40 #[.pointer (some ⟨N, 0, none⟩), .int .i64 ((k : Int) + 1)] w fun e w' => e = .returned (.tuple #[.pointer (some ⟨Rp k, 0, none⟩), .nilIface]) ∧ w = w'
 link : ∀ k p : Nat, k < m → p < 3 → ∀ w, Below W.heap.size W w → Calls Tryz.prog 60 #[.pointer (some ⟨Rp k, 0, none⟩), .int .i64 (p : Int)] w fun e w' => e = .returned (.tuple #[.int .i64 (st k p), .nilIface]) ∧ w = w'
 peer : ∀ k p : Nat, k < m → p < 3 → ∀ w, Below W.heap.size W w → Calls Tryz.prog 61 #[.pointer (some ⟨Rp k, 0, none⟩), .int .i64 (p : Int)] w fun e w' => e = .returned (.tuple #[.agg #[.int .i64 (pe k p).who, .bool (pe k p).both, .int .i64 (pe k p).left], .nilIface]) ∧ Below w.heap.size w w'
 on : ∀ c d : Nat, c < nc → d < 2 → ∀ w, Below W.heap.size W w → Calls Tryz.prog 41 #[.pointer (some ⟨N, 0, none⟩), .int .i64 (c : Int), .int .i64 (d : Int)] w fun e w' => e = .returned (.tuple #[.int .i64 (on c d : Nat), .nilIface]) ∧ w = w'
theorem NetA.look {w0 W : World} {N : Nat} {X : Nat → Prop} {n : NtM} (h : NetA w0 W N X n) : ∃ Rp, Look W N n.n n.nc Rp (fun i p => ((n.R i).P p).L.st) (fun i p => ((n.R i).P p).pe) (fun c d => ((n.C c).on d).length) := by
 obtain ⟨⟨y, hR, rfl, _, _⟩, _⟩ := h
 refine ⟨fun i => (y.z i).R, ⟨fun k hk w hb => router_yes y n k w (hR.below hb) hk, fun k p hk hp w hb => ?_, fun k p hk hp w hb => ?_, fun c d hc hd w hb => on_yes y n c d w (hR.below hb) hc hd⟩⟩
 · have h1 := (hR.below hb).rt k hk
   exact link_yes (y.z k) (n.R k) p w h1 (by rw [(hR.rn k hk).1]; exact hp)
 · have h1 := (hR.below hb).rt k hk
   exact peer_yes (y.z k) (n.R k) p w h1 (by rw [(hR.rn k hk).1]; exact hp)
def AtI (w0 : World) (N : Nat) (X : Nat → Prop) (m nc i : Nat) (n : NtM) (w : World) : Prop := NetA w0 w N X n ∧ GN n ∧ NOk n (1300000 * i) 0 ∧ n.n = m ∧ n.nc = nc
theorem AtI.act {w0 : World} {N : Nat} {X : Nat → Prop} {m nc i : Nat} {n : NtM} {W : World} (h : AtI w0 N X m nc i n W) (hT : TabOk w0) (hi : i ≤ 300) (v : AV) :
 Calls Tryz.prog 59 #[.pointer (some ⟨N, 0, none⟩), .agg #[.string v.kind, .int .i64 v.a, .int .i64 v.b, .int .i64 v.c, .int .i64 v.d, .string v.s, .int .i64 v.pcode, .int .i64 v.pid, .slice v.po v.pn v.pcap, .int .i64 v.x.own, .int .i64 v.x.seq, .slice v.x.a v.x.n v.x.cap]] W fun e w' => e = .returned (.tuple #[]) ∧ AtI w0 N X m nc (i + 1) (actN n v) w' ∧ ∀ b, X b → w'.heap[b]? = W.heap[b]? := by
 obtain ⟨hA, hG, hok, hn, hc⟩ := h
 obtain ⟨s1, s2, _, _⟩ := actN_same n v
 refine (hA.call (E := fun e => e = .returned (.tuple #[])) (n' := actN n v) s1 fun y hR hN => ?_).mono ?_
 · rw [← hN]
   exact act_any y n (1300000 * i) v W hR (hA.tab hT) hok (by omega)
 · rintro e w' ⟨he, hA', hX⟩
   exact ⟨he, ⟨hA', (hG.act hok (by omega) v).1, (hok.act (by omega) v).mono (by omega) (Nat.le_refl _), s1.trans hn, s2.trans hc⟩, hX⟩
theorem spoil_same (y : NtM) (i d j : Int) (t : UInt8) : (y.spoil i d j t).1.n = y.n ∧ (y.spoil i d j t).1.nc = y.nc ∧ ∀ x, ((y.spoil i d j t).1.C x).e = (y.C x).e := by
 unfold NtM.spoil
 split
 · exact ⟨rfl, rfl, fun _ => rfl⟩
 · split
   · exact ⟨rfl, rfl, fun _ => rfl⟩
   · obtain ⟨g1, g2, g3, g4⟩ := gather_same (y.setC i.toNat { y.C i.toNat with on := upN (y.C i.toNat).on d.toNat (((y.C i.toNat).on d.toNat).set j.toNat (((y.C i.toNat).on d.toNat).getD j.toNat 0 ^^^ t)) })
     refine ⟨g1, g2, fun x => (g4 x).1.trans ?_⟩
     show ((if x = i.toNat then _ else y.C x) : CbM).e = _
     by_cases e : x = i.toNat
     · rw [if_pos e]; subst e; rfl
     · rw [if_neg e]
theorem AtI.spoil {w0 : World} {N : Nat} {X : Nat → Prop} {m nc i : Nat} {n : NtM} {W : World} (h : AtI w0 N X m nc i n W) (hi : i ≤ 300) (c d j : Int) (t : UInt8) :
 Calls Tryz.prog 58 #[.pointer (some ⟨N, 0, none⟩), .int .i64 c, .int .i64 d, .int .i64 j, .int .u8 (t.toNat : Int)] W fun e w' => (∃ v, e = .returned v) ∧ AtI w0 N X m nc (i + 1) (n.spoil c d j t).1 w' ∧ ∀ b, X b → w'.heap[b]? = W.heap[b]? := by
 obtain ⟨hA, hG, hok, hn, hc⟩ := h
 obtain ⟨s1, s2, _⟩ := spoil_same n c d j t
 refine (hA.call (E := fun e => ∃ v, e = .returned v) (n' := (n.spoil c d j t).1) s1 fun y hR hN => ?_).mono ?_
 · rw [← hN]
   refine (spoil_net y n (1300000 * i) c d j t W hR hok (by omega)).mono ?_
   rintro e w' ⟨rfl, hw⟩
   exact ⟨⟨_, rfl⟩, hw⟩
 · rintro e w' ⟨he, hA', hX⟩
   exact ⟨he, ⟨hA', (hG.spoil c d j t).1, (hok.spoil (by omega) c d j t).mono (by omega) (Nat.le_refl _), s1.trans hn, s2.trans hc⟩, hX⟩
theorem AtI.new {w0 w w' : World} {many : Int} {L : List Cab} {X : Nat → Prop} {e : Ending} (h : NewP w many L X e w') (h0 : netF many L = 0) (hb : Below w0.heap.size w0 w) : ∃ N, e = .returned (.tuple #[.pointer (some ⟨N, 0, none⟩), .nilIface]) ∧ AtI w0 N X many.toNat L.length 0 (newNt many.toNat L) w' := by
 obtain ⟨N, he, hA⟩ := NetA.of_new h h0 hb
 exact ⟨N, he, hA, newNt_gate _ _, newNt_ok (netF_ok h0), rfl, rfl⟩
theorem u8_wrap (d : Int) : ∃ t : UInt8, IntKind.u8.wrap d = (t.toNat : Int) := by
 have h0 : 0 ≤ d % 256 := Int.emod_nonneg _ (by decide)
 have h1 : d % 256 < 256 := Int.emod_lt_of_pos _ (by decide)
 refine ⟨UInt8.ofNat (d % 256).toNat, ?_⟩
 have : IntKind.u8.wrap d = d % 256 := by
  first
   | rfl
   | simp [IntKind.wrap, IntKind.bits, IntKind.signed]
 rw [this, UInt8.toNat_ofNat']
 omega
end Rt
end Go.Proofs.YtieklnlbljejdaaGreatDoor

namespace Go.Proofs.YtieklnlbljejdaaGreatDoor
open Go.RowKit St
namespace Rt
def GateRel (w : World) (m nc N i : Nat) (W : World) : Prop := ∃ n, AtI w N (fun _ => False) m nc i n W
theorem GateRel.still {w : World} {m nc N i : Nat} {W W' : World} (h : GateRel w m nc N i W) (hb : Below W.heap.size W W') : GateRel w m nc N i W' := by
 obtain ⟨n, h1, h2⟩ := h
 exact ⟨n, h1.still hb, h2⟩
theorem GateRel.bel {w : World} {m nc N i : Nat} {W : World} (h : GateRel w m nc N i W) : Below w.heap.size w W := by
 obtain ⟨n, h1, _⟩ := h
 exact h1.bel
theorem GateRel.act {w : World} {m nc N i : Nat} {W : World} (h : GateRel w m nc N i W) (hT : TabOk w) (hi : i ≤ 300) (v : AV) :
 Calls Tryz.prog 59 #[.pointer (some ⟨N, 0, none⟩), .agg #[.string v.kind, .int .i64 v.a, .int .i64 v.b, .int .i64 v.c, .int .i64 v.d, .string v.s, .int .i64 v.pcode, .int .i64 v.pid, .slice v.po v.pn v.pcap, .int .i64 v.x.own, .int .i64 v.x.seq, .slice v.x.a v.x.n v.x.cap]] W fun e w' => e = .returned (.tuple #[]) ∧ GateRel w m nc N (i + 1) w' := by
 obtain ⟨n, h1⟩ := h
 refine (h1.act hT hi v).mono ?_
 rintro e w' ⟨he, h2, _⟩
 exact ⟨he, _, h2⟩
theorem GateRel.spoil {w : World} {m nc N i : Nat} {W : World} (h : GateRel w m nc N i W) (hi : i ≤ 300) (c d j t : Int) :
 Calls Tryz.prog 58 #[.pointer (some ⟨N, 0, none⟩), .int .i64 c, .int .i64 d, .int .i64 j, .int .u8 (IntKind.u8.wrap t)] W fun e w' => (∃ v, e = .returned v) ∧ GateRel w m nc N (i + 1) w' := by
 obtain ⟨n, h1⟩ := h
 obtain ⟨x, hx⟩ := u8_wrap t
 rw [hx]
 refine (h1.spoil hi c d j x).mono ?_
 rintro e w' ⟨he, h2, _⟩
 exact ⟨he, _, h2⟩
theorem GateRel.look {w : World} {m nc N i : Nat} {W : World} (h : GateRel w m nc N i W) : ∃ Rp st pe on, Look W N m nc Rp st pe on ∧ (∀ k p : Nat, k < m → p < 3 → ((pe k p).who = 0 ∧ (pe k p).both = false ∨ (pe k p).who ≠ 0 ∧ st k p = 9) ∧ (pe k p).who ≠ (k : Int) + 1) ∧ ∀ c d : Nat, c < nc → d < 2 → on c d ≤ 2000 := by
 obtain ⟨n, hA, hG, hok, hn, hc⟩ := h
 subst hn
 subst hc
 obtain ⟨Rp, hL⟩ := hA.look
 refine ⟨Rp, _, _, _, hL, fun k p hk hp => ?_, hok.ol⟩
 obtain ⟨a, b, c⟩ := hG.port hok hk hp
 refine ⟨?_, c⟩
 by_cases e : ((n.R k).P p).pe.who = 0
 · refine .inl ⟨e, ?_⟩
   cases hb : ((n.R k).P p).pe.both
   · rfl
   · exact absurd e (b hb)
 · exact .inr ⟨e, a e⟩
set_option maxRecDepth 100000 in
set_option maxHeartbeats 8000000 in
theorem gate_any (many : Int) (a : Option Addr) (n cap : Nat) (L : List Cab) (a2 : Option Addr) (n2 cap2 : Nat) (V : Nat → AV) (E : Nat → List Opt) (w : World) (hL : CabR w a L) (hl : L.length = n) (hn : n ≤ maxLen) (hA : ActsR w a2 n2 V E) (hT : TabOk w) :
 Calls Tryz.prog 10 #[.int .i64 many, .slice a n cap, .slice a2 n2 cap2] w fun e w' => e = .returned (.bool true) ∧ Below w.heap.size w w' := by
 have hw := works_any w hT
 have hlc := fun W => lightCables_any a n cap W hn
 have hla : ∀ W, Below w.heap.size w W → Calls Tryz.prog 16 #[.slice a2 n2 cap2, .int .i64 40] W fun e w' => (∃ b : Bool, e = .returned (.bool b) ∧ (b = true → n2 ≤ 40)) ∧ Below w.heap.size w w' := by
  intro W hb
  refine (lightActs_all a2 n2 cap2 V E 40 W (hA.below hb) (by omega)).mono ?_
  rintro e w' ⟨⟨b, he, hb1⟩, hb2⟩
  exact ⟨⟨b, he, fun hx => by have := (hb1 hx).1; omega⟩, below_chain hb hb2⟩
 have hnew : ∀ W, n ≤ 12 → Below w.heap.size w W → Calls Tryz.prog 36 #[.int .i64 many, .slice a n cap] W fun e w' => NewP W many L (fun _ => False) e w' := by
  intro W h12 hb
  rw [← hl]
  exact new_net many a cap L W (hL.below hb) (by omega) (TabOk.below (w := w) hT hb) (fun _ => False) (fun b hb' => hb'.elim)
 have HA : Hid (ActsR w a2 n2 V E) := hA
 have HT : Hid (TabOk w) := hT
 have HL : Hid (L.length = n) := hl
 clear hL hA hT hl
 by_cases h12 : n ≤ 12
 case neg =>
  have hd : decide (n ≤ 12) = false := by simpa using h12
  rw [hd] at hlc
  go_enter Tryz.func10, Tryz.ntmps10
  go_wp2_with (fail)
  refine hw.mono ?_
  rintro e w1 ⟨rfl, hb1⟩
  have HB1 : Hid _ := hb1
  clear hw hb1 hla hnew
  go_wp2_with (fail)
  refine (hlc _).mono ?_
  rintro e w2 ⟨rfl, rfl⟩
  clear hlc
  go_wp2_with (fail)
  go_ret
  exact ⟨rfl, HB1.out⟩
 case pos =>
  have hd : decide (n ≤ 12) = true := by simpa using h12
  rw [hd] at hlc
  go_enter Tryz.func10, Tryz.ntmps10
  go_wp2_with (fail)
  refine hw.mono ?_
  rintro e w1 ⟨rfl, hb1⟩
  have hla1 := hla w1 hb1
  clear hw hla hb1
  go_wp2_with (fail)
  refine (hlc _).mono ?_
  rintro e w2 ⟨rfl, rfl⟩
  clear hlc
  go_wp2_with (fail)
  refine hla1.mono ?_
  rintro e w2 ⟨⟨b, rfl, hb40⟩, hb2⟩
  have hnw := hnew w2 h12 hb2
  have HB2 : Hid _ := hb2
  have HB40 : Hid (b = true → n2 ≤ 40) := hb40
  clear hla1 hnew hb2 hb40
  cases b
  case false =>
   go_wp2_with (fail)
   go_ret
   exact ⟨rfl, HB2.out⟩
  case true =>
   have h40 : n2 ≤ 40 := HB40.out rfl
   go_wp2_with (fail)
   refine hnw.mono ?_
   rintro e w3 hP
   clear hnw
   by_cases h0 : netF many L = 0
   case neg =>
    obtain ⟨rfl, hb3⟩ := NetA.no_new hP h0 HB2.out
    have HB3 : Hid _ := hb3
    have he : errV (netF many L) = .iface 128 (.int .i64 ((netF many L : Nat) : Int)) := errV_pos h0
    rw [he]
    clear hP hb3 h0 he
    go_wp2_with (fail)
    go_ret
    exact ⟨rfl, HB3.out⟩
   case pos =>
    obtain ⟨N, rfl, hG0⟩ := AtI.new hP h0 HB2.out
    have hm := (netF_ok h0).m
    obtain ⟨m, rfl⟩ : ∃ m : Nat, many = (m : Int) := ⟨many.toNat, by omega⟩
    have HG0 : Hid (GateRel w m n N 0 w3) := by
     show GateRel _ _ _ _ _ _
     rw [← HL.out]
     have h := hG0
     rw [Int.toNat_natCast] at h
     exact ⟨_, h⟩
    clear hP h0 hG0
    go_wp2_with (fail)
    go_loopw [10] (fun x wr => ∃ i : Nat, i ≤ n2 ∧ x = .int .i64 i ∧ GateRel w m n N i wr) (fun x _ => n2 - (intOf x).toNat)
    case atStart => exact ⟨0, Nat.zero_le _, rfl, HG0.out⟩
    case round =>
     obtain ⟨i, hi, rfl, hG⟩ := hrel
     obtain ⟨V0, rfl⟩ : ∃ V0, V0 = wr := ⟨_, rfl⟩
     by_cases hlt : i < n2
     case neg =>
      have hge : ¬ (i : Int) < (n2 : Int) := by omega
      have HB : Hid _ := hG.bel
      clear hG
      go_wp2_with (fail)
      go_ret
      exact ⟨rfl, HB.out⟩
     case pos =>
      have hlt' : (i : Int) < (n2 : Int) := by omega
      rcases HA.out.row with h1 | ⟨b, off, rfl, hrow⟩
      · omega
      have hv0 := hrow i hlt
      have hv := hv0.below hG.bel
      have HV : Hid (∀ W, Below w.heap.size w W → (V i).at_ W b (off + i * 12)) := fun W hb => hv0.below hb
      have hact := hG.act HT.out (by omega) (V i)
      have hsp := (hG.still (below_d V0)).spoil (by omega) (V i).a (V i).b (V i).c (V i).d
      have HG : Hid (GateRel w m n N i V0) := hG
      clear hrow hG hv0
      generalize V i = v at hv hact hsp HV
      obtain ⟨vk, va, vb, vc, vd, vs, vpc, vpi, vpo, vpn, vpcap, ⟨xo, xq, xa, xn, xc⟩⟩ := v
      obtain ⟨c0, c1, c2, c3, c4, c5, c6, c7, c8, c9, c10, c11⟩ := hv
      simp only at c0 c1 c2 c3 c4 c5 c6 c7 c8 c9 c10 c11 hact hsp
      have gl := World.block_lt_of_cell? _ _ c0
      have ge : off + i * 12 + 0 = off + i * 12 := rfl
      cases k1 : (vk.toList == [115, 112, 111, 105, 108])
      case true =>
       clear hact
       have F0 : V0.drew.cell? ⟨b, off + i * 12, none⟩ = some (.string vk) ∧ V0.drew.cell? ⟨b, off + i * 12 + 1, none⟩ = some (.int .i64 va) ∧ V0.drew.cell? ⟨b, off + i * 12 + 2, none⟩ = some (.int .i64 vb) ∧ V0.drew.cell? ⟨b, off + i * 12 + 3, none⟩ = some (.int .i64 vc) ∧ V0.drew.cell? ⟨b, off + i * 12 + 4, none⟩ = some (.int .i64 vd) := ⟨c0, c1, c2, c3, c4⟩
       have HF : Hid (∀ W, Below w.heap.size w W → W.cell? ⟨b, off + i * 12, none⟩ = some (.string vk) ∧ W.cell? ⟨b, off + i * 12 + 1, none⟩ = some (.int .i64 va) ∧ W.cell? ⟨b, off + i * 12 + 2, none⟩ = some (.int .i64 vb) ∧ W.cell? ⟨b, off + i * 12 + 3, none⟩ = some (.int .i64 vc) ∧ W.cell? ⟨b, off + i * 12 + 4, none⟩ = some (.int .i64 vd)) := fun W hb => by
        obtain ⟨d0, d1, d2, d3, d4, _⟩ := HV.out W hb
        exact ⟨d0, d1, d2, d3, d4⟩
       go_upto_region 13 with (fail)
       go_cut [] (fun wx => GateRel w m n N (i + 1) wx)
       case first =>
        go_region_held3 (fun x => x.cell? ⟨b, off + i * 12, none⟩ = some (.string vk) ∧ x.cell? ⟨b, off + i * 12 + 1, none⟩ = some (.int .i64 va) ∧ x.cell? ⟨b, off + i * 12 + 2, none⟩ = some (.int .i64 vb) ∧ x.cell? ⟨b, off + i * 12 + 3, none⟩ = some (.int .i64 vc) ∧ x.cell? ⟨b, off + i * 12 + 4, none⟩ = some (.int .i64 vd))
         (first | assumption | exact F0 | exact F1)
         (first | (go_at_call 58; refine hsp.mono ?_; rintro e w5 ⟨⟨ev, rfl⟩, hG1⟩; have F1 := HF.out w5 hG1.bel))
        all_goals
         have HG1 : Hid (GateRel w m n N (i + 1) w5) := hG1
         clear hG1
         go_wp2_with (fail)
         go_meet
         exact HG1.out
       case rest =>
        rename World => w5
        have hG1 : GateRel w m n N (i + 1) w5 := hcut
        clear hcut hsp F0 c0 c1 c2 c3 c4 c5 c6 c7 c8 c9 c10 c11
        have HG1 : Hid (GateRel w m n N (i + 1) w5) := hG1
        obtain ⟨Rp, st, pe, on, hLk, hF, hOn⟩ := hG1.look
        have HF : Hid (∀ k p : Nat, k < m → p < 3 → ((pe k p).who = 0 ∧ (pe k p).both = false ∨ (pe k p).who ≠ 0 ∧ st k p = 9) ∧ (pe k p).who ≠ (k : Int) + 1) := hF
        have HLk : Hid (Look w5 N m n Rp st pe on) := hLk
        have HOn : Hid (∀ c d : Nat, c < n → d < 2 → on c d ≤ 2000) := hOn
        clear hG1 hLk hF hOn
        go_wp2_with (fail)
        go_loopw [11] (fun x wr => ∃ k : Nat, k ≤ m ∧ x = .int .i64 ((k : Int) + 1) ∧ Below w5.heap.size w5 wr) (fun x _ => m + 1 - (intOf x).toNat)
        case atStart => exact ⟨0, Nat.zero_le _, rfl, Below.refl _ _⟩
        case round =>
         obtain ⟨k, hk, rfl, hbk⟩ := hrel
         obtain ⟨V1, rfl⟩ : ∃ V1, V1 = wr := ⟨_, rfl⟩
         by_cases hlt2 : k < m
         case neg =>
          have hge2 : ¬ (k : Int) + 1 ≤ (m : Int) := by omega
          have HBk : Hid _ := hbk
          clear hbk
          go_wp2_with (fail)
          go_loopw [19] (fun x wr => ∃ c : Nat, c ≤ n ∧ x = .int .i64 c ∧ Below w5.heap.size w5 wr) (fun x _ => n - (intOf x).toNat)
          case atStart => exact ⟨0, Nat.zero_le _, rfl, HBk.out⟩
          case round =>
           obtain ⟨c, hc, rfl, hbc⟩ := hrel
           obtain ⟨V2, rfl⟩ : ∃ V2, V2 = wr := ⟨_, rfl⟩
           by_cases hlt3 : c < n
           case neg =>
            have hge3 : ¬ (c : Int) < (n : Int) := by omega
            have HBc : Hid _ := hbc
            clear hbc
            go_wp2_with (fail)
            go_roundw
            case rel => exact ⟨i + 1, by omega, by go_num, HG1.out.still HBc.out⟩
            case measure => simp [intOf]; omega
           case pos =>
            have hlt3' : (c : Int) < (n : Int) := by omega
            have HBc : Hid _ := hbc
            clear hbc
            go_wp2_with (fail)
            go_loopw [20] (fun x wr => ∃ d : Nat, d ≤ 2 ∧ x = .int .i64 d ∧ Below w5.heap.size w5 wr) (fun x _ => 2 - (intOf x).toNat)
            case atStart => exact ⟨0, Nat.zero_le _, rfl, HBc.out⟩
            case round =>
             obtain ⟨d, hd2, rfl, hbd⟩ := hrel
             obtain ⟨V3, rfl⟩ : ∃ V3, V3 = wr := ⟨_, rfl⟩
             by_cases hlt4 : d < 2
             case neg =>
              have hge4 : ¬ (d : Int) < 2 := by omega
              have HBd : Hid _ := hbd
              clear hbd
              go_wp2_with (fail)
              go_roundw
              case rel => exact ⟨c + 1, by omega, by go_num, HBd.out⟩
              case measure => simp [intOf]; omega
             case pos =>
              have hlt4' : (d : Int) < 2 := by omega
              have hon := HLk.out.on c d hlt3 hlt4 V3 hbd
              have h2000 := HOn.out c d hlt3 hlt4
              generalize on c d = o at hon h2000
              have ho1 : ¬ ((o : Nat) : Int) < 0 := by omega
              have ho2 : ¬ (2000 : Int) < ((o : Nat) : Int) := by omega
              have HBd : Hid _ := hbd
              clear hbd
              go_wp2_with (fail)
              refine hon.mono ?_
              rintro e w6 ⟨rfl, rfl⟩
              clear hon
              go_wp2_with (fail)
              go_roundw
              case rel => exact ⟨d + 1, by omega, by go_num, HBd.out⟩
              case measure => simp [intOf]; omega
         case pos =>
          have hlt2' : (k : Int) + 1 ≤ (m : Int) := by omega
          have hr := HLk.out.router k hlt2 V1 hbk
          have HBk : Hid _ := hbk
          clear hbk
          go_wp2_with (fail)
          refine hr.mono ?_
          rintro e w6 ⟨rfl, rfl⟩
          clear hr
          go_wp2_with (fail)
          go_loopw [14] (fun x wr => ∃ p : Nat, p ≤ 3 ∧ x = .int .i64 p ∧ Below w5.heap.size w5 wr) (fun x _ => 3 - (intOf x).toNat)
          case atStart => exact ⟨0, Nat.zero_le _, rfl, HBk.out⟩
          case round =>
           obtain ⟨p, hp, rfl, hbp⟩ := hrel
           obtain ⟨V2, rfl⟩ : ∃ V2, V2 = wr := ⟨_, rfl⟩
           by_cases hlt3 : p < 3
           case neg =>
            have hge3 : ¬ (p : Int) < 3 := by omega
            have HBp : Hid _ := hbp
            clear hbp
            go_wp2_with (fail)
            go_roundw
            case rel => exact ⟨k + 1, by omega, by go_num, HBp.out⟩
            case measure => simp [intOf]; omega
           case pos =>
            have hlt3' : (p : Int) < 3 := by omega
            have hlk := HLk.out.link k p hlt2 hlt3 V2 hbp
            have hpe := HLk.out.peer k p hlt2 hlt3 V2 hbp
            obtain ⟨hq, hme⟩ := HF.out k p hlt2 hlt3
            generalize st k p = s at hlk hq
            generalize pe k p = q at hpe hq hme
            obtain ⟨who, both, left⟩ := q
            simp only at hpe hq hme
            have HBp : Hid _ := hbp
            clear hbp
            rcases hq with ⟨rfl, rfl⟩ | ⟨hw0, rfl⟩
            · have hme' : ¬ (0 : Int) = (k : Int) + 1 := by omega
              clear hme
              go_wp2_with (fail)
              refine hlk.mono ?_
              rintro e w6 ⟨rfl, rfl⟩
              clear hlk
              go_wp2_with (fail)
              refine hpe.mono ?_
              rintro e w6 ⟨rfl, hb6⟩
              have HB6 : Hid _ := below_chain HBp.out hb6
              clear hpe hb6
              go_wp2_with (fail)
              go_roundw
              case rel => exact ⟨p + 1, by omega, by go_num, below_chain HB6.out (below_alloc _ _)⟩
              case measure => simp [intOf]; omega
            · have hw1 : (who == 0) = false := by simpa using hw0
              have hm1 : (who == (k : Int) + 1) = false := by simpa using hme
              have hw2 : ¬ who = 0 := hw0
              have hm2 : ¬ who = (k : Int) + 1 := hme
              clear hw0 hme
              cases both
              all_goals
               go_wp2_with (fail)
               refine hlk.mono ?_
               rintro e w6 ⟨rfl, rfl⟩
               clear hlk
               go_wp2_with (fail)
               refine hpe.mono ?_
               rintro e w6 ⟨rfl, hb6⟩
               have HB6 : Hid _ := below_chain HBp.out hb6
               clear hpe hb6
               go_wp2_with (fail)
               go_roundw
               case rel => exact ⟨p + 1, by omega, by go_num, below_chain HB6.out (below_alloc _ _)⟩
               case measure => simp [intOf]; omega
      case false =>
       clear hsp
       go_wp2_with (fail)
       refine hact.mono ?_
       rintro e w5 ⟨rfl, hG1⟩
       clear hact c0 c1 c2 c3 c4 c5 c6 c7 c8 c9 c10 c11
       have HG1 : Hid (GateRel w m n N (i + 1) w5) := hG1
       obtain ⟨Rp, st, pe, on, hLk, hF, hOn⟩ := hG1.look
       have HF : Hid (∀ k p : Nat, k < m → p < 3 → ((pe k p).who = 0 ∧ (pe k p).both = false ∨ (pe k p).who ≠ 0 ∧ st k p = 9) ∧ (pe k p).who ≠ (k : Int) + 1) := hF
       have HLk : Hid (Look w5 N m n Rp st pe on) := hLk
       have HOn : Hid (∀ c d : Nat, c < n → d < 2 → on c d ≤ 2000) := hOn
       clear hG1 hLk hF hOn
       go_wp2_with (fail)
       go_loopw [11] (fun x wr => ∃ k : Nat, k ≤ m ∧ x = .int .i64 ((k : Int) + 1) ∧ Below w5.heap.size w5 wr) (fun x _ => m + 1 - (intOf x).toNat)
       case atStart => exact ⟨0, Nat.zero_le _, rfl, Below.refl _ _⟩
       case round =>
        obtain ⟨k, hk, rfl, hbk⟩ := hrel
        obtain ⟨V1, rfl⟩ : ∃ V1, V1 = wr := ⟨_, rfl⟩
        by_cases hlt2 : k < m
        case neg =>
         have hge2 : ¬ (k : Int) + 1 ≤ (m : Int) := by omega
         have HBk : Hid _ := hbk
         clear hbk
         go_wp2_with (fail)
         go_loopw [19] (fun x wr => ∃ c : Nat, c ≤ n ∧ x = .int .i64 c ∧ Below w5.heap.size w5 wr) (fun x _ => n - (intOf x).toNat)
         case atStart => exact ⟨0, Nat.zero_le _, rfl, HBk.out⟩
         case round =>
          obtain ⟨c, hc, rfl, hbc⟩ := hrel
          obtain ⟨V2, rfl⟩ : ∃ V2, V2 = wr := ⟨_, rfl⟩
          by_cases hlt3 : c < n
          case neg =>
           have hge3 : ¬ (c : Int) < (n : Int) := by omega
           have HBc : Hid _ := hbc
           clear hbc
           go_wp2_with (fail)
           go_roundw
           case rel => exact ⟨i + 1, by omega, by go_num, HG1.out.still HBc.out⟩
           case measure => simp [intOf]; omega
          case pos =>
           have hlt3' : (c : Int) < (n : Int) := by omega
           have HBc : Hid _ := hbc
           clear hbc
           go_wp2_with (fail)
           go_loopw [20] (fun x wr => ∃ d : Nat, d ≤ 2 ∧ x = .int .i64 d ∧ Below w5.heap.size w5 wr) (fun x _ => 2 - (intOf x).toNat)
           case atStart => exact ⟨0, Nat.zero_le _, rfl, HBc.out⟩
           case round =>
            obtain ⟨d, hd2, rfl, hbd⟩ := hrel
            obtain ⟨V3, rfl⟩ : ∃ V3, V3 = wr := ⟨_, rfl⟩
            by_cases hlt4 : d < 2
            case neg =>
             have hge4 : ¬ (d : Int) < 2 := by omega
             have HBd : Hid _ := hbd
             clear hbd
             go_wp2_with (fail)
             go_roundw
             case rel => exact ⟨c + 1, by omega, by go_num, HBd.out⟩
             case measure => simp [intOf]; omega
            case pos =>
             have hlt4' : (d : Int) < 2 := by omega
             have hon := HLk.out.on c d hlt3 hlt4 V3 hbd
             have h2000 := HOn.out c d hlt3 hlt4
             generalize on c d = o at hon h2000
             have ho1 : ¬ ((o : Nat) : Int) < 0 := by omega
             have ho2 : ¬ (2000 : Int) < ((o : Nat) : Int) := by omega
             have HBd : Hid _ := hbd
             clear hbd
             go_wp2_with (fail)
             refine hon.mono ?_
             rintro e w6 ⟨rfl, rfl⟩
             clear hon
             go_wp2_with (fail)
             go_roundw
             case rel => exact ⟨d + 1, by omega, by go_num, HBd.out⟩
             case measure => simp [intOf]; omega
        case pos =>
         have hlt2' : (k : Int) + 1 ≤ (m : Int) := by omega
         have hr := HLk.out.router k hlt2 V1 hbk
         have HBk : Hid _ := hbk
         clear hbk
         go_wp2_with (fail)
         refine hr.mono ?_
         rintro e w6 ⟨rfl, rfl⟩
         clear hr
         go_wp2_with (fail)
         go_loopw [14] (fun x wr => ∃ p : Nat, p ≤ 3 ∧ x = .int .i64 p ∧ Below w5.heap.size w5 wr) (fun x _ => 3 - (intOf x).toNat)
         case atStart => exact ⟨0, Nat.zero_le _, rfl, HBk.out⟩
         case round =>
          obtain ⟨p, hp, rfl, hbp⟩ := hrel
          obtain ⟨V2, rfl⟩ : ∃ V2, V2 = wr := ⟨_, rfl⟩
          by_cases hlt3 : p < 3
          case neg =>
           have hge3 : ¬ (p : Int) < 3 := by omega
           have HBp : Hid _ := hbp
           clear hbp
           go_wp2_with (fail)
           go_roundw
           case rel => exact ⟨k + 1, by omega, by go_num, HBp.out⟩
           case measure => simp [intOf]; omega
          case pos =>
           have hlt3' : (p : Int) < 3 := by omega
           have hlk := HLk.out.link k p hlt2 hlt3 V2 hbp
           have hpe := HLk.out.peer k p hlt2 hlt3 V2 hbp
           obtain ⟨hq, hme⟩ := HF.out k p hlt2 hlt3
           generalize st k p = s at hlk hq
           generalize pe k p = q at hpe hq hme
           obtain ⟨who, both, left⟩ := q
           simp only at hpe hq hme
           have HBp : Hid _ := hbp
           clear hbp
           rcases hq with ⟨rfl, rfl⟩ | ⟨hw0, rfl⟩
           · have hme' : ¬ (0 : Int) = (k : Int) + 1 := by omega
             clear hme
             go_wp2_with (fail)
             refine hlk.mono ?_
             rintro e w6 ⟨rfl, rfl⟩
             clear hlk
             go_wp2_with (fail)
             refine hpe.mono ?_
             rintro e w6 ⟨rfl, hb6⟩
             have HB6 : Hid _ := below_chain HBp.out hb6
             clear hpe hb6
             go_wp2_with (fail)
             go_roundw
             case rel => exact ⟨p + 1, by omega, by go_num, below_chain HB6.out (below_alloc _ _)⟩
             case measure => simp [intOf]; omega
           · have hw1 : (who == 0) = false := by simpa using hw0
             have hm1 : (who == (k : Int) + 1) = false := by simpa using hme
             have hw2 : ¬ who = 0 := hw0
             have hm2 : ¬ who = (k : Int) + 1 := hme
             clear hw0 hme
             cases both
             all_goals
              go_wp2_with (fail)
              refine hlk.mono ?_
              rintro e w6 ⟨rfl, rfl⟩
              clear hlk
              go_wp2_with (fail)
              refine hpe.mono ?_
              rintro e w6 ⟨rfl, hb6⟩
              have HB6 : Hid _ := below_chain HBp.out hb6
              clear hpe hb6
              go_wp2_with (fail)
              go_roundw
              case rel => exact ⟨p + 1, by omega, by go_num, below_chain HB6.out (below_alloc _ _)⟩
              case measure => simp [intOf]; omega
end Rt
end Go.Proofs.YtieklnlbljejdaaGreatDoor
