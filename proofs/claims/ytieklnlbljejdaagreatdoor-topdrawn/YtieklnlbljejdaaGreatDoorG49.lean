/-
  NtAct NtGate
-/
import Derived.Test.YtieklnlbljejdaaGreatDoorG15
import Derived.Test.YtieklnlbljejdaaGreatDoorG48
namespace Go.Proofs.YtieklnlbljejdaaGreatDoor
open Go.RowKit St
namespace Rt
def actN (y : NtM) (v : AV) : NtM :=
 if (v.kind.toList == [112, 108, 117, 103]) = true then (y.plug v.a (v.b == 1)).1
 else if (v.kind.toList == [116, 105, 99, 107]) = true then (y.tick v.a).1
 else if (v.kind.toList == [100, 101, 108, 105, 118, 101, 114]) = true then (y.deliver v.a v.b v.c).1
 else if (v.kind.toList == [114, 101, 115, 116, 97, 114, 116]) = true then (y.restart v.a).1
 else if (v.kind.toList == [115, 101, 110, 100]) = true then (y.send v.a v.b v.s.data.toList).1
 else if (v.kind.toList == [114, 111, 117, 110, 100]) = true then y.round
 else y
theorem plug_same (y : NtM) (i : Int) (up : Bool) : (y.plug i up).1.n = y.n ∧ (y.plug i up).1.nc = y.nc ∧ (y.plug i up).1.ms = y.ms ∧ ∀ x, ((y.plug i up).1.C x).e = (y.C x).e := by
 unfold NtM.plug
 split
 · exact ⟨rfl, rfl, rfl, fun _ => rfl⟩
 · split
   · exact ⟨rfl, rfl, rfl, fun _ => rfl⟩
   · obtain ⟨g1, g2, g3, g4⟩ := gather_same (y.plug1 i.toNat up)
     obtain ⟨p1, p2, p3, _, p5⟩ := plug1_same y i.toNat up
     exact ⟨g1.trans p1, g2.trans p2, g3.trans p3, fun x => (g4 x).1.trans (p5 x).1⟩
theorem restart_same (y : NtM) (i : Int) : (y.restart i).1.n = y.n ∧ (y.restart i).1.nc = y.nc ∧ (y.restart i).1.ms = y.ms ∧ ∀ x, ((y.restart i).1.C x).e = (y.C x).e := by
 unfold NtM.restart
 split
 · exact ⟨rfl, rfl, rfl, fun _ => rfl⟩
 · obtain ⟨a1, a2, a3, _, a5⟩ := plugs_same false (y.cabsIn (i - 1).toNat) y
   obtain ⟨b1, b2, b3, _, b5⟩ := plugs_same true (y.cabsIn (i - 1).toNat) ((y.plugs false (y.cabsIn (i - 1).toNat)).setR (i - 1).toNat (newRt i 3 (y.ms (i - 1).toNat)))
   obtain ⟨g1, g2, g3, g4⟩ := gather_same (((y.plugs false (y.cabsIn (i - 1).toNat)).setR (i - 1).toNat (newRt i 3 (y.ms (i - 1).toNat))).plugs true (y.cabsIn (i - 1).toNat))
   exact ⟨g1.trans (b1.trans a1), g2.trans (b2.trans a2), g3.trans (b3.trans a3), fun x => (g4 x).1.trans ((b5 x).trans (a5 x))⟩
theorem send_same (y : NtM) (f t : Int) (tx : List UInt8) : (y.send f t tx).1.n = y.n ∧ (y.send f t tx).1.nc = y.nc ∧ (y.send f t tx).1.ms = y.ms ∧ ∀ x, ((y.send f t tx).1.C x).e = (y.C x).e := by
 unfold NtM.send
 split
 · exact ⟨rfl, rfl, rfl, fun _ => rfl⟩
 · split
   · exact ⟨rfl, rfl, rfl, fun _ => rfl⟩
   · obtain ⟨g1, g2, g3, g4⟩ := gather_same (y.setR (f - 1).toNat (sendTo (y.R (f - 1).toNat) t tx).1)
     exact ⟨g1, g2, g3, fun x => (g4 x).1⟩
theorem actN_same (y : NtM) (v : AV) : (actN y v).n = y.n ∧ (actN y v).nc = y.nc ∧ (actN y v).ms = y.ms ∧ ∀ x, ((actN y v).C x).e = (y.C x).e := by
 unfold actN
 split
 · exact plug_same _ _ _
 · split
   · obtain ⟨a, b, c, d⟩ := tick_same y v.a; exact ⟨a, b, c, fun x => (d x).1⟩
   · split
     · obtain ⟨a, b, c, d⟩ := deliver_same y v.a v.b v.c; exact ⟨a, b, c, fun x => (d x).1⟩
     · split
       · exact restart_same _ _
       · split
         · exact send_same _ _ _ _
         · split
           · obtain ⟨a, b, c, d⟩ := round_same y; exact ⟨a, b, c, fun x => (d x).1⟩
           · exact ⟨rfl, rfl, rfl, fun _ => rfl⟩
theorem NOk.act {y : NtM} {D : Nat} (h : NOk y D 0) (hD : D ≤ 800000000) (v : AV) : NOk (actN y v) (D + 1300000) 0 := by
 unfold actN
 split
 · exact (h.plug (by omega) _ _).mono (by omega) (Nat.le_refl _)
 · split
   · exact (h.tick (by omega) _).mono (by omega) (Nat.le_refl _)
   · split
     · exact (h.deliver (by omega) _ _ _).mono (by omega) (Nat.le_refl _)
     · split
       · exact (h.restart (by omega) _).mono (by omega) (Nat.le_refl _)
       · split
         · exact (h.send (by omega) _ _ _).mono (by omega) (Nat.le_refl _)
         · split
           · exact h.round hD
           · exact h.mono (by omega) (Nat.le_refl _)
theorem NetR.from {w W : World} {y : Yt} {n n' : NtM} {f : FuncId} {args : Array Value} {ev : Value} (hb : Below w.heap.size w W) (hc : Calls Tryz.prog f args W fun e w' => e = .returned ev ∧ WentN W w' y n' n.n) : Calls Tryz.prog f args W fun e w' => (∃ v, e = .returned v) ∧ WentN w w' y n' n.n := by
 refine hc.mono ?_
 rintro e w' ⟨rfl, hw⟩
 exact ⟨⟨_, rfl⟩, WentN.first hb hw⟩
set_option maxRecDepth 100000 in
set_option maxHeartbeats 4000000 in
theorem act_any (y : Yt) (n : NtM) (D : Nat) (v : AV) (w : World) (h : NetR w y n) (hT : TabOk w) (hok : NOk n D 0) (hD : D ≤ 800000000) :
 Calls Tryz.prog 59 #[.pointer (some ⟨y.N, 0, none⟩), .agg #[.string v.kind, .int .i64 v.a, .int .i64 v.b, .int .i64 v.c, .int .i64 v.d, .string v.s, .int .i64 v.pcode, .int .i64 v.pid, .slice v.po v.pn v.pcap, .int .i64 v.x.own, .int .i64 v.x.seq, .slice v.x.a v.x.n v.x.cap]] w fun e w' => e = .returned (.tuple #[]) ∧ WentN w w' y (actN n v) n.n := by
 obtain ⟨vk, va, vb, vc, vd, vs, vpc, vpi, vpo, vpn, vpcap, ⟨xo, xq, xa, xn, xc⟩⟩ := v
 have hb := below_alloc w (.cells #[.string vk, .int .i64 va, .int .i64 vb, .int .i64 vc, .int .i64 vd, .string vs, .int .i64 vpc, .int .i64 vpi, .slice vpo vpn vpcap, .int .i64 xo, .int .i64 xq, .slice xa xn xc] 42)
 have hB : Blk (w.alloc (.cells #[.string vk, .int .i64 va, .int .i64 vb, .int .i64 vc, .int .i64 vd, .string vs, .int .i64 vpc, .int .i64 vpi, .slice vpo vpn vpcap, .int .i64 xo, .int .i64 xq, .slice xa xn xc] 42)) w.heap.size #[.string vk, .int .i64 va, .int .i64 vb, .int .i64 vc, .int .i64 vd, .string vs, .int .i64 vpc, .int .i64 vpi, .slice vpo vpn vpcap, .int .i64 xo, .int .i64 xq, .slice xa xn xc] 42 := Blk.new w _ _
 obtain ⟨W0, hW0⟩ : ∃ W0, w.alloc (.cells #[.string vk, .int .i64 va, .int .i64 vb, .int .i64 vc, .int .i64 vd, .string vs, .int .i64 vpc, .int .i64 vpi, .slice vpo vpn vpcap, .int .i64 xo, .int .i64 xq, .slice xa xn xc] 42) = W0 := ⟨_, rfl⟩
 obtain ⟨X, hX⟩ : ∃ X, w.heap.size = X := ⟨_, rfl⟩
 rw [hW0] at hb hB
 rw [hX] at hB
 have R0 := h.below hb
 have T0 : TabOk W0 := TabOk.below (w := w) hT hb
 have c0 : W0.cell? ⟨X, 0, none⟩ = some (.string vk) := hB.cell 0
 have c1 : W0.cell? ⟨X, 1, none⟩ = some (.int .i64 va) := hB.cell 1
 have c2 : W0.cell? ⟨X, 2, none⟩ = some (.int .i64 vb) := hB.cell 2
 have c3 : W0.cell? ⟨X, 3, none⟩ = some (.int .i64 vc) := hB.cell 3
 have c5 : W0.cell? ⟨X, 5, none⟩ = some (.string vs) := hB.cell 5
 have xl := hB.lt
 have HW0 : Hid _ := hW0
 have HX : Hid _ := hX
 have q1 := NetR.from hb (plug_net y n D va (vb == 1) W0 R0 T0 hok (by omega))
 have q2 := NetR.from hb (tick_net y n D va W0 R0 T0 hok (by omega))
 have q3 := NetR.from hb (deliver_net y n D va vb vc W0 R0 T0 hok (by omega))
 have q4 := NetR.from hb (restart_net y n D va W0 R0 T0 hok (by omega))
 have q5 := NetR.from hb (send_net y n D va vb vs W0 R0 hok (by omega))
 have q6 := NetR.from hb (round_net y n D W0 R0 T0 hok hD)
 have q7 : WentN w W0 y n n.n := WentN.still h hb
 obtain ⟨G, hG⟩ : ∃ G, actN n ⟨vk, va, vb, vc, vd, vs, vpc, vpi, vpo, vpn, vpcap, ⟨xo, xq, xa, xn, xc⟩⟩ = G := ⟨_, rfl⟩
 rw [hG]
 have HG : Hid (G = if (vk.toList == [112, 108, 117, 103]) = true then (n.plug va (vb == 1)).1
  else if (vk.toList == [116, 105, 99, 107]) = true then (n.tick va).1
  else if (vk.toList == [100, 101, 108, 105, 118, 101, 114]) = true then (n.deliver va vb vc).1
  else if (vk.toList == [114, 101, 115, 116, 97, 114, 116]) = true then (n.restart va).1
  else if (vk.toList == [115, 101, 110, 100]) = true then (n.send va vb vs.data.toList).1
  else if (vk.toList == [114, 111, 117, 110, 100]) = true then n.round
  else n) := hG.symm
 clear h hT hok R0 T0 hb hB hW0 hX hG
 cases k1 : (vk.toList == [112, 108, 117, 103])
 case true =>
  have hq := q1
  clear q1 q2 q3 q4 q5 q6 q7
  have HE : Hid (∀ x, WentN w x y _ n.n → WentN w x y G n.n) := fun x hx => by
   rw [HG.out, if_pos k1]
   exact hx
  go_enter Tryz.func59, Tryz.ntmps59
  go_wp2_with (fail)
  try rw [HW0.out]
  try rw [HX.out]
  go_wp2_with (fail)
  refine hq.mono ?_
  rintro e w6 ⟨⟨ev, rfl⟩, hw⟩
  have HW : Hid _ := HE.out _ hw
  clear hq hw HE
  go_wp2_with (fail)
  first | go_end0 | refine bodyPost_ret (results_none rfl _ _ _) rfl ?_
  exact ⟨rfl, HW.out⟩
 case false =>
  cases k2 : (vk.toList == [116, 105, 99, 107])
  case true =>
   have hq := q2
   clear q1 q2 q3 q4 q5 q6 q7
   have HE : Hid (∀ x, WentN w x y _ n.n → WentN w x y G n.n) := fun x hx => by
    rw [HG.out, if_neg (by rw [k1]; simp), if_pos k2]
    exact hx
   go_enter Tryz.func59, Tryz.ntmps59
   go_wp2_with (fail)
   try rw [HW0.out]
   try rw [HX.out]
   go_wp2_with (fail)
   refine hq.mono ?_
   rintro e w6 ⟨⟨ev, rfl⟩, hw⟩
   have HW : Hid _ := HE.out _ hw
   clear hq hw HE
   go_wp2_with (fail)
   first | go_end0 | refine bodyPost_ret (results_none rfl _ _ _) rfl ?_
   exact ⟨rfl, HW.out⟩
  case false =>
   cases k3 : (vk.toList == [100, 101, 108, 105, 118, 101, 114])
   case true =>
    have hq := q3
    clear q1 q2 q3 q4 q5 q6 q7
    have HE : Hid (∀ x, WentN w x y _ n.n → WentN w x y G n.n) := fun x hx => by
     rw [HG.out, if_neg (by rw [k1]; simp), if_neg (by rw [k2]; simp), if_pos k3]
     exact hx
    go_enter Tryz.func59, Tryz.ntmps59
    go_wp2_with (fail)
    try rw [HW0.out]
    try rw [HX.out]
    go_wp2_with (fail)
    refine hq.mono ?_
    rintro e w6 ⟨⟨ev, rfl⟩, hw⟩
    have HW : Hid _ := HE.out _ hw
    clear hq hw HE
    go_wp2_with (fail)
    first | go_end0 | refine bodyPost_ret (results_none rfl _ _ _) rfl ?_
    exact ⟨rfl, HW.out⟩
   case false =>
    cases k4 : (vk.toList == [114, 101, 115, 116, 97, 114, 116])
    case true =>
     have hq := q4
     clear q1 q2 q3 q4 q5 q6 q7
     have HE : Hid (∀ x, WentN w x y _ n.n → WentN w x y G n.n) := fun x hx => by
      rw [HG.out, if_neg (by rw [k1]; simp), if_neg (by rw [k2]; simp), if_neg (by rw [k3]; simp), if_pos k4]
      exact hx
     go_enter Tryz.func59, Tryz.ntmps59
     go_wp2_with (fail)
     try rw [HW0.out]
     try rw [HX.out]
     go_wp2_with (fail)
     refine hq.mono ?_
     rintro e w6 ⟨⟨ev, rfl⟩, hw⟩
     have HW : Hid _ := HE.out _ hw
     clear hq hw HE
     go_wp2_with (fail)
     first | go_end0 | refine bodyPost_ret (results_none rfl _ _ _) rfl ?_
     exact ⟨rfl, HW.out⟩
    case false =>
     cases k5 : (vk.toList == [115, 101, 110, 100])
     case true =>
      have hq := q5
      clear q1 q2 q3 q4 q5 q6 q7
      have HE : Hid (∀ x, WentN w x y _ n.n → WentN w x y G n.n) := fun x hx => by
       rw [HG.out, if_neg (by rw [k1]; simp), if_neg (by rw [k2]; simp), if_neg (by rw [k3]; simp), if_neg (by rw [k4]; simp), if_pos k5]
       exact hx
      go_enter Tryz.func59, Tryz.ntmps59
      go_wp2_with (fail)
      try rw [HW0.out]
      try rw [HX.out]
      go_wp2_with (fail)
      refine hq.mono ?_
      rintro e w6 ⟨⟨ev, rfl⟩, hw⟩
      have HW : Hid _ := HE.out _ hw
      clear hq hw HE
      go_wp2_with (fail)
      first | go_end0 | refine bodyPost_ret (results_none rfl _ _ _) rfl ?_
      exact ⟨rfl, HW.out⟩
     case false =>
      cases k6 : (vk.toList == [114, 111, 117, 110, 100])
      case true =>
       have hq := q6
       clear q1 q2 q3 q4 q5 q6 q7
       have HE : Hid (∀ x, WentN w x y _ n.n → WentN w x y G n.n) := fun x hx => by
        rw [HG.out, if_neg (by rw [k1]; simp), if_neg (by rw [k2]; simp), if_neg (by rw [k3]; simp), if_neg (by rw [k4]; simp), if_neg (by rw [k5]; simp), if_pos k6]
        exact hx
       go_enter Tryz.func59, Tryz.ntmps59
       go_wp2_with (fail)
       try rw [HW0.out]
       try rw [HX.out]
       go_wp2_with (fail)
       refine hq.mono ?_
       rintro e w6 ⟨⟨ev, rfl⟩, hw⟩
       have HW : Hid _ := HE.out _ hw
       clear hq hw HE
       go_wp2_with (fail)
       first | go_end0 | refine bodyPost_ret (results_none rfl _ _ _) rfl ?_
       exact ⟨rfl, HW.out⟩
      case false =>
       have HW : Hid (WentN w W0 y G n.n) := by
        show WentN _ _ _ _ _
        rw [HG.out, if_neg (by rw [k1]; simp), if_neg (by rw [k2]; simp), if_neg (by rw [k3]; simp), if_neg (by rw [k4]; simp), if_neg (by rw [k5]; simp), if_neg (by rw [k6]; simp)]
        exact q7
       clear q1 q2 q3 q4 q5 q6 q7
       go_enter Tryz.func59, Tryz.ntmps59
       go_wp2_with (fail)
       try rw [HW0.out]
       try rw [HX.out]
       go_wp2_with (fail)
       first | go_end0 | refine bodyPost_ret (results_none rfl _ _ _) rfl ?_
       exact ⟨rfl, HW.out⟩
end Rt
end Go.Proofs.YtieklnlbljejdaaGreatDoor

namespace Go.Proofs.YtieklnlbljejdaaGreatDoor
open Go.RowKit St
namespace Rt
theorem actS_st (c : UInt8) (s : LS) : (actS c s).st = s.st := by
 unfold actS
 repeat' split
 all_goals rfl
theorem runS_st : ∀ (L : List UInt8) (s : LS), (runS L s).st = s.st
 | [], _ => rfl
 | c :: r, s => by
   show (runS r (actS c s)).st = s.st
   rw [runS_st r, actS_st]
theorem next_st (s : LS) (nx : Int) : (s.next nx).st = nx := by
 unfold LS.next
 split <;> rfl
theorem comeS_st (s : LS) (ev : Int) : (comeS s ev).st = (stepI s.st ev).2.1 := by
 unfold comeS
 rw [runS_st, next_st]
def upB (s : Int) : Bool := s == 3 || (decide (5 ≤ s) && decide (s ≤ 9))
theorem upB_nat {s : Int} (h : upB s = true) : ∃ k : Nat, s = k ∧ k < 10 := by
 refine ⟨s.toNat, ?_⟩
 simp only [upB, Bool.or_eq_true, beq_iff_eq, Bool.and_eq_true, decide_eq_true_eq] at h
 omega
theorem up_tab : ((List.range 12).all fun e => (List.range 10).all fun s => !(decide (4 ≤ e) && upB (s : Int) && ((stepR s e).2.2 == 0)) || upB (stepR s e).2.1) = true := by decide +kernel
theorem up_step {e s : Nat} (he : e < 12) (h4 : 4 ≤ e) (hs : s < 10) (hu : upB (s : Int) = true) (h0 : (stepR s e).2.2 = 0) : upB (stepR s e).2.1 = true := by
 have h1 := List.all_eq_true.1 (List.all_eq_true.1 up_tab e (List.mem_range.2 he)) s (List.mem_range.2 hs)
 have b4 : decide (4 ≤ e) = true := by simpa using h4
 have b7 : ((stepR s e).2.2 == 0) = true := by simpa using h0
 rw [b4, hu, b7] at h1
 simpa using h1
theorem ev_up {s : LS} (e : Nat) (he : e < 12) (h4 : 4 ≤ e) (a : APkt) (h : upB s.st = true) : upB (evP s e a).1.st = true := by
 obtain ⟨k, hk, hk10⟩ := upB_nat h
 by_cases h0 : (stepI s.st e).2.2 = 0
 · rw [evP_ok a h0]
   show upB (comeS s e).st = true
   rw [comeS_st]
   rw [hk] at h h0 ⊢
   rw [stepI_in k e hk10 he] at h0 ⊢
   exact up_step he h4 hk10 h h0
 · rw [evP_no a h0]; exact h
theorem tell_st (s : LS) (code : Int) (os : List Opt) : (s.tell code os).st = s.st := by
 unfold LS.tell
 split <;> rfl
theorem sized_st (s : LS) (os : List Opt) : (s.sized os).st = s.st := by
 unfold LS.sized
 split <;> rfl
theorem take_up {s : LS} (p : APkt) (h : upB s.st = true) : upB (takeP s p).1.st = true := by
 unfold takeP
 split
 · exact h
 · split
   · unfold reqP
     split
     · split
       · rw [sized_st]; exact ev_up 6 (by decide) (by decide) _ h
       · exact ev_up 6 (by decide) (by decide) _ h
     · exact ev_up 7 (by decide) (by decide) _ h
   · split
     · exact ev_up 10 (by decide) (by decide) _ h
     · split
       · exact ev_up 11 (by decide) (by decide) _ h
       · unfold ansP
         split
         · exact h
         · split
           · split
             · exact h
             · exact ev_up 8 (by decide) (by decide) _ h
           · exact ev_up 9 (by decide) (by decide) _ (by rw [tell_st]; exact h)
theorem up_tick_tab : ((List.range 10).all fun s => !(upB (s : Int) && decide (4 ≤ s) && decide (s ≤ 8)) || (upB (stepR s 4).2.1 && upB (stepR s 5).2.1)) = true := by decide +kernel
theorem tickS_up {s : LS} (h : upB s.st = true) : upB (tickS s).st = true := by
 obtain ⟨k, hk, hk10⟩ := upB_nat h
 unfold tickS
 split
 · exact h
 · rename_i hr
   have hr' : 4 ≤ k ∧ k ≤ 8 := by
    rw [hk] at hr
    simp at hr
    omega
   have h1 := List.all_eq_true.1 up_tick_tab k (List.mem_range.2 hk10)
   rw [← hk, h] at h1
   simp [hr'.1, hr'.2] at h1
   split
   · exact h
   · split
     · rw [comeS_st]
       show upB (stepI s.st 4).2.1 = true
       rw [hk, show (4 : Int) = ((4 : Nat) : Int) from rfl, stepI_in k 4 hk10 (by decide)]
       exact h1.1
     · rw [comeS_st]
       show upB (stepI s.st 5).2.1 = true
       rw [hk, show (5 : Int) = ((5 : Nat) : Int) from rfl, stepI_in k 5 hk10 (by decide)]
       exact h1.2
theorem do_down_tab : ((List.range 10).all fun s => !(upB (s : Int)) || ((stepR s 1).2.2 == 0 && (stepR s 1).2.1 == 1)) = true := by decide +kernel
theorem do_down {s : LS} (h : upB s.st = true) : (doP s 1).2.2 = 0 ∧ (doP s 1).1.st = 1 := by
 obtain ⟨k, hk, hk10⟩ := upB_nat h
 have h1 := List.all_eq_true.1 do_down_tab k (List.mem_range.2 hk10)
 rw [← hk, h] at h1
 simp at h1
 have e0 : (stepI s.st 1).2.2 = 0 := by
  rw [hk, show (1 : Int) = ((1 : Nat) : Int) from rfl, stepI_in k 1 hk10 (by decide)]; exact h1.1
 have e : doP s 1 = (comeS s 1, comeO s 1 (0, 0, []), 0) := by
  unfold doP
  rw [if_pos (by simp), evP_ok _ e0]
 rw [e]
 refine ⟨rfl, ?_⟩
 show (comeS s 1).st = 1
 rw [comeS_st, hk, show (1 : Int) = ((1 : Nat) : Int) from rfl, stepI_in k 1 hk10 (by decide)]
 exact h1.2
theorem do_up {s : LS} (h : s.st = 1) : (doP s 0).2.2 = 0 ∧ upB (doP s 0).1.st = true := by
 have e0 : (stepI s.st 0).2.2 = 0 := by rw [h]; decide +kernel
 have e : doP s 0 = (comeS s 0, comeO s 0 (0, 0, []), 0) := by
  unfold doP
  rw [if_pos (by simp), evP_ok _ e0]
 rw [e]
 refine ⟨rfl, ?_⟩
 show upB (comeS s 0).st = true
 rw [comeS_st, h]
 decide +kernel
theorem tickL_up {s : LS} (h : upB s.st = true) : upB (tickL s).1.st = true := by
 have h1 := tickS_up h
 unfold tickL
 split
 · exact (do_up (do_down h1).2).2
 · exact h1
theorem tickL_one {s : LS} (h : s.st = 1) : (tickL s).1 = s := by
 have e1 : tickS s = s := by unfold tickS; simp [h]
 unfold tickL
 rw [e1]
 simp [h]
structure EndG (up : Bool) (p : PtM) : Prop where
 st : if up = true then upB p.L.st = true else p.L.st = 1
 gate : p.pe.who ≠ 0 → p.L.st = 9
theorem EndG.congr {up : Bool} {p q : PtM} (h : EndG up p) (hL : q.L = p.L) (hp : q.pe = p.pe) : EndG up q := ⟨by rw [hL]; exact h.st, by rw [hL, hp]; exact h.gate⟩
theorem put_L (p : PtM) (c : UInt8) (s : List UInt8) : (p.put c s).L = p.L := by
 unfold PtM.put
 repeat' split
 all_goals rfl
theorem say_L : ∀ (l : List APkt) (p : PtM), (p.say l).L = p.L
 | [], _ => rfl
 | q :: r, p => by
   show ((if packF q.1 q.2.1 q.2.2 = 0 then p.put 76 (packB q.1 q.2.1 q.2.2) else p).say r).L = _
   rw [say_L r]
   split
   · exact put_L _ _ _
   · rfl
theorem putAll_L : ∀ (l : List (Int × PS)) (p : PtM), (p.putAll l).L = p.L ∧ (p.putAll l).pe = p.pe
 | [], _ => ⟨rfl, rfl⟩
 | q :: r, p => by
   obtain ⟨h1, h2⟩ := putAll_L r (p.put 83 (stB q.1 q.2.1 q.2.2))
   exact ⟨h1.trans (put_L _ _ _), h2.trans (put_pe _ _ _)⟩
def AlkP (r r' : RtM) (p : Nat) : Prop := (r'.P p).L = (r.P p).L ∧ (r'.P p).pe = (r.P p).pe
theorem AlkP.refl (r : RtM) (p : Nat) : AlkP r r p := ⟨rfl, rfl⟩
theorem AlkP.trans {a b c : RtM} {p : Nat} (h : AlkP a b p) (g : AlkP b c p) : AlkP a c p := ⟨g.1.trans h.1, g.2.trans h.2⟩
theorem AlkP.of_P {r r' : RtM} (h : r'.P = r.P) (p : Nat) : AlkP r r' p := by unfold AlkP; rw [h]; exact ⟨rfl, rfl⟩
theorem AlkP.setP (r : RtM) (i : Nat) (q : PtM) (hL : q.L = (r.P i).L) (hp : q.pe = (r.P i).pe) (p : Nat) : AlkP r (r.setP i q) p := by
 show (updP r.P i q p).L = _ ∧ (updP r.P i q p).pe = _
 by_cases e : p = i
 · subst e; rw [updP_same]; exact ⟨hL, hp⟩
 · rw [updP_other _ _ e]; exact ⟨rfl, rfl⟩
theorem AlkP.setP_other (r : RtM) {i : Nat} (q : PtM) {p : Nat} (h : p ≠ i) : AlkP r (r.setP i q) p := by
 show (updP r.P i q p).L = _ ∧ (updP r.P i q p).pe = _
 rw [updP_other _ _ h]; exact ⟨rfl, rfl⟩
theorem AlkP.meet_other (r : RtM) {i : Nat} (q : PeerM) {p : Nat} (h : p ≠ i) : AlkP r (r.meet i q) p := by
 unfold AlkP
 rw [(meet_same r i q).2.2.2, updP_other _ _ h]; exact ⟨rfl, rfl⟩
theorem meet_at (r : RtM) (i : Nat) (q : PeerM) : ((r.meet i q).P i).L = (r.P i).L ∧ ((r.meet i q).P i).pe = q := by
 rw [(meet_same r i q).2.2.2, updP_same]; exact ⟨rfl, rfl⟩
theorem AlkP.send (r : RtM) (t : Msg) (p : Nat) : AlkP r (r.send t) p := by
 unfold RtM.send
 split
 · exact AlkP.of_P rfl p
 · split
   · exact AlkP.of_P rfl p
   · exact AlkP.setP _ _ _ (put_L _ _ _) (put_pe _ _ _) p
theorem AlkP.state (r : RtM) (i : Nat) (l : List UInt8) (p : Nat) : AlkP r (stateM r i l) p := by
 unfold stateM
 simp only
 split
 · exact AlkP.refl r p
 · split
   · exact AlkP.of_P (behind_same _ _).2.2.2 p
   · split
     · exact AlkP.setP _ i _ (put_L _ _ _) (put_pe _ _ _) p
     · exact AlkP.of_P rfl p
theorem rest_L (r : RtM) (i : Nat) (c : UInt8) (s : List UInt8) (p : Nat) : ((restM r i c s).P p).L = (r.P p).L ∧ (p ≠ i → AlkP r (restM r i c s) p) := by
 unfold restM
 split
 · split
   · refine ⟨?_, fun h => AlkP.meet_other r _ h⟩
     by_cases e : p = i
     · subst e; exact (meet_at r p _).1
     · exact (AlkP.meet_other r _ e).1
   · exact ⟨rfl, fun _ => AlkP.refl r p⟩
 · split
   · exact ⟨(AlkP.state r i s p).1, fun _ => AlkP.state r i s p⟩
   · split
     · have h : AlkP r (heardM r i s) p := by
        unfold heardM
        simp only
        split <;> exact AlkP.of_P rfl p
       exact ⟨h.1, fun _ => h⟩
     · split
       · have h : AlkP r (msgM r s) p := by
          unfold msgM
          split
          · exact AlkP.send _ _ p
          · exact AlkP.refl r p
         exact ⟨h.1, fun _ => h⟩
       · exact ⟨rfl, fun _ => AlkP.refl r p⟩
def UpG (p : PtM) : Prop := upB p.L.st = true ∧ (p.pe.who ≠ 0 → p.L.st = 9)
theorem EndG.up {p : PtM} : EndG true p ↔ UpG p := ⟨fun h => ⟨by simpa using h.st, h.gate⟩, fun h => ⟨by simpa using h.1, h.2⟩⟩
theorem UpG.congr {p q : PtM} (h : UpG p) (hL : q.L = p.L) (hp : q.pe = p.pe) : UpG q := by
 unfold UpG
 rw [hL, hp]; exact h
theorem packet_up {p : PtM} (s : List UInt8) (h : upB p.L.st = true) : upB (p.packet s).L.st = true := by
 unfold PtM.packet
 simp only
 split
 · rw [say_L]; exact take_up _ h
 · exact h
theorem take_gate {r : RtM} (i : Nat) (c : UInt8) (s : List UInt8) (h : UpG (r.P i)) : UpG ((r.take i c s).P i) ∧ ∀ p, p ≠ i → AlkP r (r.take i c s) p := by
 have h1 : upB ((linkM r i c s).P i).L.st = true := by
  unfold linkM
  split
  · show upB (updP r.P i _ i).L.st = true
    rw [updP_same]; exact packet_up s h.1
  · exact h.1
 have h2 : ∀ p, p ≠ i → AlkP r (linkM r i c s) p := fun p hp => by
  unfold linkM
  split
  · exact AlkP.setP_other r _ hp
  · exact AlkP.refl r p
 rw [take_eq]
 split
 · obtain ⟨a, b⟩ := meet_at (linkM r i c s) i nobody
   refine ⟨⟨by rw [a]; exact h1, fun e => absurd (by rw [b]; rfl) e⟩, fun p hp => (h2 p hp).trans (AlkP.meet_other _ _ hp)⟩
 · rename_i h9
   have h9' : ((linkM r i c s).P i).L.st = 9 := by simpa using h9
   obtain ⟨a, _⟩ := rest_L (linkM r i c s) i c s i
   exact ⟨⟨by rw [a]; exact h1, fun _ => by rw [a]; exact h9'⟩, fun p hp => (h2 p hp).trans ((rest_L _ i c s p).2 hp)⟩
theorem takes_gate : ∀ (l : List (List UInt8)) {r : RtM} (i : Nat), UpG (r.P i) → UpG ((r.takes i l).P i) ∧ ∀ p, p ≠ i → AlkP r (r.takes i l) p
 | [], r, i, h => ⟨h, fun p _ => AlkP.refl r p⟩
 | t :: l, r, i, h => by
   show UpG (((take1 r i t).takes i l).P i) ∧ ∀ p, p ≠ i → AlkP r ((take1 r i t).takes i l) p
   have h1 : UpG ((take1 r i t).P i) ∧ ∀ p, p ≠ i → AlkP r (take1 r i t) p := by
    cases t with
    | nil => exact ⟨h, fun p _ => AlkP.refl r p⟩
    | cons c s => exact take_gate i c s h
   obtain ⟨a, b⟩ := takes_gate l i h1.1
   exact ⟨a, fun p hp => (h1.2 p hp).trans (b p hp)⟩
theorem recv_gate {r : RtM} (i : Nat) (l : List UInt8) (h : UpG (r.P i)) : UpG ((r.recv i l).P i) ∧ ∀ p, p ≠ i → AlkP r (r.recv i l) p := by
 unfold RtM.recv
 simp only
 have h1 : ∀ p, AlkP r (r.setP i { r.P i with rd := (allR (r.P i).rd l).2.2 }) p := fun p => AlkP.setP r i { r.P i with rd := (allR (r.P i).rd l).2.2 } rfl rfl p
 obtain ⟨a, b⟩ := takes_gate (allR (r.P i).rd l).1 (r := r.setP i { r.P i with rd := (allR (r.P i).rd l).2.2 }) i (h.congr (h1 i).1 (h1 i).2)
 exact ⟨a, fun p hp => (h1 p).trans (b p hp)⟩
theorem recv_nil (r : RtM) (i p : Nat) : AlkP r (r.recv i []) p := AlkP.setP r i _ rfl rfl p
theorem tickPt_L (p : PtM) : p.tick.L = (tickL p.L).1 := by
 unfold PtM.tick
 rw [say_L]
theorem tick_gate {r : RtM} {up : Bool} (i : Nat) (h : EndG up (r.P i)) : EndG up ((r.tickP i).P i) ∧ ∀ p, p ≠ i → AlkP r (r.tickP i) p := by
 have e1 : ((tickR r i).P i).L = (tickL (r.P i).L).1 := by
  show (updP r.P i (r.P i).tick i).L = _
  rw [updP_same, tickPt_L]
 have h1 : if up = true then upB ((tickR r i).P i).L.st = true else ((tickR r i).P i).L.st = 1 := by
  rw [e1]
  have := h.st
  split
  · rename_i hu; rw [if_pos hu] at this; exact tickL_up this
  · rename_i hu; rw [if_neg hu] at this; rw [tickL_one this]; exact this
 have h2 : ∀ p, p ≠ i → AlkP r (tickR r i) p := fun p hp => AlkP.setP_other r _ hp
 rw [tickP_eq]
 split
 · obtain ⟨a, b⟩ := meet_at (tickR r i) i nobody
   exact ⟨⟨by rw [a]; exact h1, fun e => absurd (by rw [b]; rfl) e⟩, fun p hp => (h2 p hp).trans (AlkP.meet_other _ _ hp)⟩
 · rename_i h9
   have h9' : ((tickR r i).P i).L.st = 9 := by simpa using h9
   have ht : ∀ (x : RtM) (p : Nat), AlkP x (tellM x i) p := fun x p => by
    unfold tellM
    simp only
    refine AlkP.setP x i _ ?_ ?_ p
    · split
      · exact (putAll_L _ _).1.trans (put_L _ _ _)
      · exact put_L _ _ _
    · split
      · exact (putAll_L _ _).2.trans (put_pe _ _ _)
      · exact put_pe _ _ _
   obtain ⟨a, b⟩ := meet_at (tickR r i) i (peerTick ((tickR r i).P i).pe)
   obtain ⟨c, d⟩ := ht ((tickR r i).meet i (peerTick ((tickR r i).P i).pe)) i
   exact ⟨⟨by rw [c, a]; exact h1, fun _ => by rw [c, a]; exact h9'⟩, fun p hp => (h2 p hp).trans ((AlkP.meet_other _ _ hp).trans (ht _ p))⟩
theorem ticks_gate {r : RtM} {U : Nat → Bool} : ∀ q, (∀ p, p < q → EndG (U p) (r.P p)) → (∀ p, p < q → EndG (U p) ((r.ticks q).P p)) ∧ ∀ p, q ≤ p → AlkP r (r.ticks q) p
 | 0, _ => ⟨fun p hp => absurd hp (by omega), fun p _ => AlkP.refl r p⟩
 | q + 1, h => by
   obtain ⟨a, b⟩ := ticks_gate (U := U) q (fun p hp => h p (by omega))
   have hq := b q (Nat.le_refl q)
   obtain ⟨c, d⟩ := tick_gate (r := r.ticks q) q ((h q (by omega)).congr hq.1 hq.2)
   refine ⟨fun p hp => ?_, fun p hp => (b p (by omega)).trans (d p (by omega))⟩
   by_cases e : p = q
   · subst e; exact c
   · have := d p e
     exact (a p (by omega)).congr this.1 this.2
theorem plug_gate {r : RtM} {up : Bool} (i : Nat) (h : EndG (!up) (r.P i)) : EndG up ((r.plug i up).1.P i) ∧ (r.plug i up).2 = 0 ∧ ∀ p, p ≠ i → AlkP r (r.plug i up).1 p := by
 have h1 : (doP (r.P i).L (if up = true then 0 else 1)).2.2 = 0 ∧ (if up = true then upB (doP (r.P i).L (if up = true then 0 else 1)).1.st = true else (doP (r.P i).L (if up = true then 0 else 1)).1.st = 1) := by
  cases up
  · exact do_down (EndG.up.1 h).1
  · exact do_up (by simpa using h.st)
 have e : (r.P i).plug up = (({ r.P i with L := (doP (r.P i).L (if up = true then 0 else 1)).1, rd := ([], false, false) } : PtM).say (doP (r.P i).L (if up = true then 0 else 1)).2.1, 0) := by
  unfold PtM.plug
  simp only
  rw [if_neg (by simp [h1.1])]
 unfold RtM.plug
 rw [e]
 simp only
 rw [if_neg (by simp)]
 obtain ⟨x, hx⟩ : ∃ x, ({ r.P i with L := (doP (r.P i).L (if up = true then 0 else 1)).1, rd := ([], false, false) } : PtM).say (doP (r.P i).L (if up = true then 0 else 1)).2.1 = x := ⟨_, rfl⟩
 have hxL : x.L = (doP (r.P i).L (if up = true then 0 else 1)).1 := by rw [← hx, say_L]
 rw [hx]
 obtain ⟨a, b⟩ := meet_at (r.setP i x) i nobody
 have c : ((r.setP i x).P i) = x := by show updP r.P i x i = x; exact updP_same _ _ _
 refine ⟨⟨by rw [a, c, hxL]; exact h1.2, fun e => absurd (by rw [b]; rfl) e⟩, rfl, fun p hp => (AlkP.setP_other r _ hp).trans (AlkP.meet_other _ _ hp)⟩
end Rt
end Go.Proofs.YtieklnlbljejdaaGreatDoor
