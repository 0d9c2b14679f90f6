/-
  RtTick RtFace RtNew RtNew2
-/
import Derived.Test.YtieklnlbljejdaaGreatDoorG19
import Derived.Test.YtieklnlbljejdaaGreatDoorG23
import Derived.Test.YtieklnlbljejdaaGreatDoorG33
namespace Go.Proofs.YtieklnlbljejdaaGreatDoor
open Go.RowKit St
namespace Rt
theorem tick_peer (q : PeerM) (w : World) (h : 0 ≤ q.left ∧ q.left ≤ 4) : Calls Tryz.prog 84 #[.agg #[.int .i64 q.who, .bool q.both, .int .i64 q.left]] w fun e w' =>
 e = .returned (.agg #[.int .i64 (peerTick q).who, .bool (peerTick q).both, .int .i64 (peerTick q).left]) ∧ Below w.heap.size w w' := by
 have h1 := Go.Proofs.YtieklnlbljejdaaGreatDoor.tick_any q.who q.left q.both w h.1 (by omega)
 have e : Go.Proofs.YtieklnlbljejdaaGreatDoor.tickP (q.who, q.both, q.left) = ((peerTick q).who, (peerTick q).both, (peerTick q).left) := by
  unfold Go.Proofs.YtieklnlbljejdaaGreatDoor.tickP peerTick
  by_cases hl : q.left ≤ 1
  · simp [hl, nobody]
  · simp [hl]
 rw [e] at h1
 exact h1
theorem tickPt_all (p : PtM) : p.tick.m = p.m ∧ p.tick.pe = p.pe ∧ p.tick.out.length ≤ p.out.length + 1512 := by
 unfold PtM.tick
 have h1 := say_m (tickL p.L).2 { p with L := (tickL p.L).1 }
 have h2 := say_len (tickL p.L).2 { p with L := (tickL p.L).1 }
 have h3 := tickL_len p.L
 refine ⟨h1.1, h1.2, ?_⟩
 have h4 : ({ p with L := (tickL p.L).1 } : PtM).out.length = p.out.length := rfl
 omega
theorem putAll_m : ∀ (l : List (Int × PS)) (p : PtM), (p.putAll l).m = p.m ∧ (p.putAll l).pe = p.pe
 | [], _ => ⟨rfl, rfl⟩
 | x :: l, p => by
   have h := putAll_m l (p.put 83 (stB x.1 x.2.1 x.2.2))
   exact ⟨h.1.trans (put_m _ _ _), h.2.trans (put_pe _ _ _)⟩
theorem owedL_len (F : Int → Option PS) : (owedL F).length ≤ 6 := by
 unfold owedL
 have := List.length_filterMap_le (fun (j : Nat) => (F ((j : Int) + 1)).map fun q => ((j : Int) + 1, q)) (List.range 6)
 simpa using this
theorem ROk.tell {r : RtM} (h : ROk r) (i : Nat) : ROk (tellM r i) := by
 unfold tellM
 simp only
 refine h.setP i _ ?_ (fun hi => ?_)
 · split
   · exact (putAll_m _ _).1.trans (put_m _ _ _)
   · exact put_m _ _ _
 · have hp := h.pe i hi
   split
   · rw [(putAll_m _ _).2, put_pe]; exact hp
   · rw [put_pe]; exact hp
theorem Fit.tell {r : RtM} {k : Nat} (h : Fit r k) (i : Nat) : Fit (tellM r i) (k + 1) := by
 unfold tellM
 simp only
 have h1 := put_len (r.P i) 72 [pku8 r.id, pku8 (r.P i).pe.who]
 refine h.grow i _ ?_
 split
 · have h2 := putAll_len (owedL (r.O i)) ((r.P i).put 72 [pku8 r.id, pku8 (r.P i).pe.who])
   have h3 := owedL_len (r.O i)
   omega
 · omega
def tickR (r : RtM) (i : Nat) : RtM := r.setP i (r.P i).tick
theorem tickP_eq (r : RtM) (i : Nat) : r.tickP i = if ((tickR r i).P i).L.st ≠ 9 then (tickR r i).meet i nobody else tellM ((tickR r i).meet i (peerTick ((tickR r i).P i).pe)) i := rfl
theorem ROk.tickR {r : RtM} (h : ROk r) (i : Nat) : ROk (Rt.tickR r i) := h.setP i _ (tickPt_all _).1 (fun hi => by rw [(tickPt_all _).2.1]; exact h.pe i hi)
theorem Fit.tickR {r : RtM} {k : Nat} (h : Fit r k) (i : Nat) : Fit (Rt.tickR r i) (k + 1) := h.grow i _ (Nat.le_trans (tickPt_all _).2.2 (by omega))
theorem tickP_all {r : RtM} {k i : Nat} (h : ROk r) (hf : Fit r k) (hi : i < r.n) : (r.tickP i).n = r.n ∧ ROk (r.tickP i) ∧ Fit (r.tickP i) (k + 2) := by
 rw [tickP_eq]
 have h1 := h.tickR i
 have f1 := hf.tickR i
 split
 · exact ⟨meet_n _ _ _, h1.meet i (PeOk.nobody h1.id.1), (f1.meet i _).mono (by omega)⟩
 · have hq := (h1.pe i hi).tick h1.id.1
   exact ⟨meet_n _ _ _, (h1.meet i hq).tell i, (f1.meet i _).tell i⟩
theorem ticks_all {r : RtM} {k : Nat} (h : ROk r) (hf : Fit r k) : ∀ q, q ≤ r.n → (r.ticks q).n = r.n ∧ ROk (r.ticks q) ∧ Fit (r.ticks q) (k + 2 * q)
 | 0, _ => ⟨rfl, h, hf⟩
 | q + 1, hq => by
   have ih := ticks_all h hf q (by omega)
   have := tickP_all (i := q) ih.2.1 ih.2.2 (by rw [ih.1]; omega)
   exact ⟨this.1.trans ih.1, this.2.1, this.2.2.mono (by omega)⟩
set_option maxRecDepth 100000 in
set_option maxHeartbeats 2000000 in
theorem tickR_any (z : Zt) (r : RtM) (k : Nat) (w : World) (h : RtR w z r) (hTab : TabOk w) (hok : ROk r) (hf : Fit r k) (hk : k ≤ 90000) :
 Calls Tryz.prog 25 #[.pointer (some ⟨z.R, 0, none⟩)] w fun e w' => e = .returned (.tuple #[]) ∧ WentR w w' z r.tick r.n := by
 have c1 := h.c1
 have cl := h.lt
 have hn3 := h.n3
 obtain ⟨n, hn⟩ : ∃ n, r.n = n := ⟨_, rfl⟩
 have H0 : Hid (WentR w w z (r.ticks 0) r.n) := WentR.refl h
 have HTab : Hid (∀ wr rr, WentR w wr z rr r.n → TabOk wr) := fun wr rr hw => hw.tab h rfl hTab
 have HAll : Hid (∀ q, q ≤ r.n → (r.ticks q).n = r.n ∧ ROk (r.ticks q) ∧ Fit (r.ticks q) (k + 2 * q)) := ticks_all hok hf
 have HEnd : Hid (r.tick = r.ticks r.n) := rfl
 rw [hn] at c1 hn3 H0 HTab HAll HEnd ⊢
 clear h hok hf hTab
 go_enter Tryz.func25, Tryz.ntmps25
 go_wp2_with (fail)
 go_loopw [8] (fun x wr => ∃ q : Nat, q ≤ n ∧ x = .int .i64 q ∧ WentR w wr z (r.ticks q) n) (fun x _ => n - (intOf x).toNat)
 case atStart => exact ⟨0, Nat.zero_le _, rfl, H0.out⟩
 case round =>
  obtain ⟨q, hq, rfl, hwq⟩ := hrel
  by_cases hlt : q < n
  · have hlt' : (q : Int) < (n : Int) := by omega
    have hq0 : (0 : Int) ≤ (q : Int) := by omega
    obtain ⟨a1, a2, a3⟩ := HAll.out q (by omega)
    have hT := HTab.out _ _ hwq
    have d1 := hwq.c1
    have dl := hwq.lt
    rw [a1] at d1
    have HS : Hid (r.ticks (q + 1) = (r.ticks q).tickP q) := rfl
    obtain ⟨rq, hrq⟩ : ∃ rq, r.ticks q = rq := ⟨_, rfl⟩
    rw [hrq] at hwq HS a1 a2 a3
    have hiq : q < rq.n := by omega
    have htk : Calls Tryz.prog 82 #[.pointer (some ⟨z.g, q * 71, none⟩)] wr fun e w' => e = .returned (.tuple #[]) ∧ WentR w w' z (tickR rq q) n := by
     refine hwq.call fun z1 R1 hl => ?_
     rw [← hl.g]
     refine (tick_port z1.g (q * 71) (z1.B q) (z1.v q) (rq.P q) wr (R1.pt q hiq) hT (by have := a3.out q hiq; omega)).mono ?_
     rintro e w1 ⟨rfl, hw⟩
     have := R1.port hiq hw
     rw [a1] at this
     exact ⟨rfl, this⟩
    have hok1 := a2.tickR q
    have hf1 := a3.tickR q
    have hnr : (tickR rq q).n = n := a1
    obtain ⟨r1, hr1⟩ : ∃ r1, tickR rq q = r1 := ⟨_, rfl⟩
    have HE : Hid (rq.tickP q = if (r1.P q).L.st ≠ 9 then r1.meet q nobody else tellM (r1.meet q (peerTick (r1.P q).pe)) q) := by
     show _ = _
     rw [← hr1]
     exact tickP_eq rq q
    rw [hr1] at htk hok1 hf1 hnr
    have HOk1 : Hid _ := hok1
    have HF1 : Hid _ := hf1
    clear hrq a2 a3 hwq hT hr1 hok1 hf1
    go_wp2_with (fail)
    refine htk.mono ?_
    rintro e W1 ⟨rfl, hW1⟩
    have hi1 : q < r1.n := by omega
    obtain ⟨v1, hv1⟩ := hW1.pt hi1
    have hop := opened_any z.g (q * 71) (z.B q) v1 (r1.P q) W1 hv1
    have e1 := hW1.c1
    have el := hW1.lt
    have gl := hW1.glt
    rw [hnr] at e1
    have g7 := hv1.c67
    have g8 := hv1.c68
    have g9 := hv1.c69
    clear htk hv1 d1 dl
    go_wp2_with (fail)
    refine hop.mono ?_
    rintro e W2 ⟨rfl, rfl⟩
    clear hop
    cases q9 : ((r1.P q).L.st == 9) with
    | false =>
      have hne : (r1.P q).L.st ≠ 9 := by simpa using q9
      have hm : Calls Tryz.prog 74 #[.pointer (some ⟨z.R, 0, none⟩), .int .i64 (q : Int), .agg #[.int .i64 0, .bool false, .int .i64 0]] W1 fun e w' => e = .returned (.tuple #[]) ∧ WentR w w' z (r.ticks (q + 1)) n := by
       rw [HS.out, HE.out, if_pos hne]
       refine hW1.call fun z1 R1 hl => ?_
       rw [← hl.R, ← hnr]
       exact meet_any z1 r1 q nobody W1 R1 HOk1.out hi1 (PeOk.nobody HOk1.out.id.1)
      clear hW1 hne
      go_wp2_with (fail)
      refine hm.mono ?_
      rintro e W3 ⟨rfl, hW3⟩
      have HW3 : Hid _ := hW3
      clear hm hW3
      go_wp2_with (fail)
      go_roundw
      case rel => exact ⟨q + 1, by omega, by go_num, HW3.out⟩
      case measure => simp [intOf]; omega
    | true =>
      have h9 : (r1.P q).L.st = 9 := by simpa using q9
      have HE2 : Hid (r.ticks (q + 1) = tellM (r1.meet q (peerTick (r1.P q).pe)) q) := by
       show _ = _
       rw [HS.out, HE.out, if_neg (by simp [h9])]
      have hpq := HOk1.out.pe q hi1
      have htp := tick_peer (r1.P q).pe W1 hpq.left
      have hme : Hid (∀ W, Below W1.heap.size W1 W → Calls Tryz.prog 74 #[.pointer (some ⟨z.R, 0, none⟩), .int .i64 (q : Int), .agg #[.int .i64 (peerTick (r1.P q).pe).who, .bool (peerTick (r1.P q).pe).both, .int .i64 (peerTick (r1.P q).pe).left]] W fun e w' => e = .returned (.tuple #[]) ∧ WentR w w' z (r1.meet q (peerTick (r1.P q).pe)) n) := by
       intro W hW
       refine (hW1.below hnr hW).call fun z1 R1 hl => ?_
       rw [← hl.R, ← hnr]
       exact meet_any z1 r1 q _ W R1 HOk1.out hi1 (hpq.tick HOk1.out.id.1)
      have hte : Hid (∀ W, WentR w W z (r1.meet q (peerTick (r1.P q).pe)) n → Calls Tryz.prog 85 #[.pointer (some ⟨z.R, 0, none⟩), .int .i64 (q : Int)] W fun e w' => e = .returned (.tuple #[]) ∧ WentR w w' z (r.ticks (q + 1)) n) := by
       intro W hW
       rw [HE2.out]
       refine hW.call fun z1 R1 hl => ?_
       have hn2 : (r1.meet q (peerTick (r1.P q).pe)).n = n := (meet_n _ _ _).trans hnr
       rw [← hl.R, ← hn2]
       have hok2 := HOk1.out.meet q (hpq.tick HOk1.out.id.1)
       exact tell_any z1 _ q W R1 hok2 (by omega) (by have := (HF1.out.meet q (peerTick (r1.P q).pe)).out q (by omega); omega)
      generalize (r1.P q).pe.who = p1 at g7 htp
      generalize (r1.P q).pe.both = p2 at g8 htp
      generalize (r1.P q).pe.left = p3 at g9 htp
      generalize (peerTick (r1.P q).pe).who = t1 at htp hme
      generalize (peerTick (r1.P q).pe).both = t2 at htp hme
      generalize (peerTick (r1.P q).pe).left = t3 at htp hme
      clear hW1 h9 hpq HE2
      go_wp2_with (fail)
      refine htp.mono ?_
      rintro e W2 ⟨rfl, b2⟩
      have hm2 := hme.out _ b2
      clear htp hme
      go_wp2_with (fail)
      refine hm2.mono ?_
      rintro e W3 ⟨rfl, hW3⟩
      have ht3 := hte.out _ hW3
      clear hm2 hte hW3
      go_wp2_with (fail)
      refine ht3.mono ?_
      rintro e W4 ⟨rfl, hW4⟩
      have HW4 : Hid _ := hW4
      clear ht3 hW4
      go_wp2_with (fail)
      go_roundw
      case rel => exact ⟨q + 1, by omega, by go_num, HW4.out⟩
      case measure => simp [intOf]; omega
  · have hge : ¬ (q : Int) < (n : Int) := by omega
    have hqn : q = n := by omega
    have HW : Hid (WentR w wr z r.tick n) := by
     show WentR _ _ _ _ _
     rw [HEnd.out, ← hqn]
     rw [← hqn] at hwq
     exact hwq
    clear hwq hqn
    go_wp2_with (fail)
    first | go_end0 | refine bodyPost_ret (results_none rfl _ _ _) rfl ?_
    exact ⟨rfl, HW.out⟩
end Rt
end Go.Proofs.YtieklnlbljejdaaGreatDoor

namespace Go.Proofs.YtieklnlbljejdaaGreatDoor
open Go.RowKit St
namespace Rt
theorem plugPt_all (p : PtM) (up : Bool) : ((p.plug up).1.m = p.m ∧ (p.plug up).1.pe = p.pe) ∧ ((p.plug up).2 ≠ 0 → (p.plug up).1 = p) := by
 unfold PtM.plug
 generalize doP p.L (if up = true then 0 else 1) = e
 simp only
 by_cases h : e.2.2 = 0
 · rw [if_neg (by simp [h])]
   exact ⟨say_m _ _, fun e => absurd rfl e⟩
 · rw [if_pos h]
   exact ⟨⟨rfl, rfl⟩, fun _ => rfl⟩
set_option maxRecDepth 100000 in
set_option maxHeartbeats 2000000 in
theorem sendR_any (z : Zt) (r : RtM) (k : Nat) (t : Int) (tx : ByteArray) (w : World) (h : RtR w z r) (hok : ROk r) (hf : Fit r k) (hk : k ≤ 100000) :
 Calls Tryz.prog 27 #[.pointer (some ⟨z.R, 0, none⟩), .int .i64 t, .string tx] w fun e w' => e = .returned (errV (sendTo r t tx.data.toList).2) ∧ WentR w w' z (sendTo r t tx.data.toList).1 r.n := by
 have hl : tx.data.toList.length = tx.size := by simp
 by_cases h1 : t < 1
 · have hE : sendTo r t tx.data.toList = (r, 1) := by unfold sendTo; rw [if_pos (.inl h1)]
   rw [hE]
   have HW : Hid _ := WentR.refl h
   clear h hok hf
   go_enter Tryz.func27, Tryz.ntmps27
   go_wp2_with (fail)
   go_ret
   exact ⟨rfl, HW.out⟩
 · by_cases h2 : 6 < t
   · have hE : sendTo r t tx.data.toList = (r, 1) := by unfold sendTo; rw [if_pos (.inr (.inl h2))]
     rw [hE]
     have HW : Hid _ := WentR.refl h
     clear h hok hf
     go_enter Tryz.func27, Tryz.ntmps27
     go_wp2_with (fail)
     go_ret
     exact ⟨rfl, HW.out⟩
   · by_cases h3 : (20 : Int) < (tx.size : Int)
     · have hE : sendTo r t tx.data.toList = (r, 1) := by unfold sendTo; rw [if_pos (.inr (.inr (by omega)))]
       rw [hE]
       have HW : Hid _ := WentR.refl h
       clear h hok hf
       go_enter Tryz.func27, Tryz.ntmps27
       go_wp2_with (fail)
       go_ret
       exact ⟨rfl, HW.out⟩
     · have hE : sendTo r t tx.data.toList = (r.send (t, 8, tx.data.toList), 0) := by unfold sendTo; rw [if_neg (by omega)]
       rw [hE]
       have hs := sendOn_any z r k t 8 tx w h hok hf hk (by omega) (by omega) (by omega)
       clear h hok hf
       go_enter Tryz.func27, Tryz.ntmps27
       go_wp2_with (fail)
       refine hs.mono ?_
       rintro e w1 ⟨rfl, hw⟩
       clear hs
       go_wp2_with (fail)
       go_ret
       exact ⟨rfl, hw⟩
set_option maxRecDepth 100000 in
set_option maxHeartbeats 2000000 in
theorem plugR_any (up : Bool) (z : Zt) (r : RtM) (i k : Nat) (w : World) (h : RtR w z r) (hTab : TabOk w) (hok : ROk r) (hf : Fit r k) (hk : k ≤ 100000) (hi : i < r.n) :
 Calls Tryz.prog 20 #[.pointer (some ⟨z.R, 0, none⟩), .int .i64 (i : Int), .bool up] w fun e w' => e = .returned (errV (r.plug i up).2) ∧ WentR w w' z (r.plug i up).1 r.n := by
 have hh := hasR_any z r i w h
 rw [hasB_yes hi] at hh
 have hi' : (i : Int) < (r.n : Int) := by omega
 have hi0 : (0 : Int) ≤ (i : Int) := by omega
 have c1 := h.c1
 have cl := h.lt
 have gl := h.glt
 have hpl := plug_port up z.g (i * 71) (z.B i) (z.v i) (r.P i) w (h.pt i hi) hTab (by have := hf.out i hi; omega)
 have hE : r.plug i up = if ((r.P i).plug up).2 ≠ 0 then (r, ((r.P i).plug up).2) else ((r.setP i ((r.P i).plug up).1).meet i nobody, 0) := rfl
 have hpm := (plugPt_all (r.P i) up).1
 have hbad := (plugPt_all (r.P i) up).2
 have hself : r.setP i (r.P i) = r := by
  have : updP r.P i (r.P i) = r.P := by
   funext x
   unfold updP
   by_cases e : x = i
   · simp [e]
   · simp [e]
  show ({ r with P := updP r.P i (r.P i) } : RtM) = r
  rw [this]
 obtain ⟨p1, hp1⟩ : ∃ p1, ((r.P i).plug up).1 = p1 := ⟨_, rfl⟩
 obtain ⟨f, hfe⟩ : ∃ f, ((r.P i).plug up).2 = f := ⟨_, rfl⟩
 rw [hp1, hfe] at hpl hE
 rw [hp1] at hpm hbad
 rw [hfe] at hbad
 have HR : Hid _ := h
 have hok1 : Hid (ROk (r.setP i p1)) := hok.setP i _ hpm.1 (fun hi => by rw [hpm.2]; exact hok.pe i hi)
 clear h hok hf hTab
 by_cases h0 : f = 0
 · subst h0
   rw [if_neg (by simp)] at hE
   rw [hE]
   have e0 : errV 0 = .nilIface := rfl
   rw [e0] at hpl ⊢
   go_enter Tryz.func20, Tryz.ntmps20
   go_wp2_with (fail)
   refine hh.mono ?_
   rintro e w0 ⟨rfl, rfl⟩
   clear hh
   go_wp2_with (fail)
   refine hpl.mono ?_
   rintro e w1 ⟨rfl, hw1⟩
   have hW1 := HR.out.port hi hw1
   have hm : Calls Tryz.prog 74 #[.pointer (some ⟨z.R, 0, none⟩), .int .i64 (i : Int), .agg #[.int .i64 0, .bool false, .int .i64 0]] w1 fun e w' => e = .returned (.tuple #[]) ∧ WentR w w' z ((r.setP i p1).meet i nobody) r.n := by
    refine hW1.call fun z1 R1 hl => ?_
    rw [← hl.R]
    exact meet_any z1 _ i nobody w1 R1 hok1.out hi (PeOk.nobody hok1.out.id.1)
   clear hpl hw1 hW1
   go_wp2_with (fail)
   refine hm.mono ?_
   rintro e w2 ⟨rfl, hw2⟩
   clear hm
   go_wp2_with (fail)
   go_ret
   exact ⟨rfl, hw2⟩
 · rw [if_pos h0] at hE
   rw [hE]
   have hb := hbad h0
   have ee : errV f = .iface 128 (.int .i64 (f : Int)) := by simp only [errV]; rw [if_neg h0]
   rw [ee] at hpl ⊢
   go_enter Tryz.func20, Tryz.ntmps20
   go_wp2_with (fail)
   refine hh.mono ?_
   rintro e w0 ⟨rfl, rfl⟩
   clear hh
   go_wp2_with (fail)
   refine hpl.mono ?_
   rintro e w1 ⟨rfl, hw1⟩
   have hW1 := HR.out.port hi hw1
   rw [hb, hself] at hW1
   clear hpl hw1
   go_wp2_with (fail)
   go_ret
   exact ⟨rfl, hW1⟩
set_option maxRecDepth 100000 in
set_option maxHeartbeats 2000000 in
theorem inbox_any (z : Zt) (r : RtM) (w : World) (h : RtR w z r) :
 Calls Tryz.prog 32 #[.pointer (some ⟨z.R, 0, none⟩)] w fun e w' => e = .returned z.iv ∧ Row w' 3 z.iv r.inb.length (msgC r.inb) ∧ WentR w w' z { r with inb := [] } r.n := by
 have c3 := h.c3
 have cl := h.lt
 have f3 := h.blk.frozen 3
 have HR : Hid _ := h
 clear h
 go_enter Tryz.func32, Tryz.ntmps32
 go_wp2_with (fail)
 go_ret
 refine ⟨rfl, HR.out.ib.keep (by simp) (fun k hk => Below.heap_setCell _ _ _ k (by show k ≠ z.R; exact (HR.out.sI k hk).1)), ?_⟩
 exact HR.out.own (.slice none 0 0) [] r.drop (by simp) rfl rfl rfl (fun k _ h1 _ => Below.heap_setCell _ _ _ k h1) (HR.out.blk.set 3 _) (Row.nil _ 3) (fun k hk => by simp [Value.ownBlock] at hk)
set_option maxRecDepth 100000 in
set_option maxHeartbeats 2000000 in
theorem outR_any (z : Zt) (r : RtM) (i : Nat) (w : World) (h : RtR w z r) (hi : i < r.n) :
 Calls Tryz.prog 29 #[.pointer (some ⟨z.R, 0, none⟩), .int .i64 (i : Int)] w fun e w' => e = .returned (.tuple #[.string ⟨(r.P i).out.toArray⟩, .nilIface]) ∧ WentR w w' z (r.out i) r.n := by
 have hh := hasR_any z r i w h
 rw [hasB_yes hi] at hh
 have hi' : (i : Int) < (r.n : Int) := by omega
 have hi0 : (0 : Int) ≤ (i : Int) := by omega
 have c1 := h.c1
 have cl := h.lt
 have gl := h.glt
 have hp := h.pt i hi
 have g70 := hp.c70
 have f70 := hp.fz 70 (by decide)
 have hcv := Row.back hp.ou 140 9 5 Tryz.underlying140 Tryz.underlying5 Tryz.underlying9
 have hW : WentP w (w.setCell ⟨z.g, i * 71 + 70, none⟩ (.slice none 0 0)) z.g (i * 71) (z.B i) (z.v i) { r.P i with out := [] } := by
  obtain ⟨F, hC, hF⟩ := hp.cel
  have hk := (KeptC.refl w z.g (i * 71) 71).set (i * 71 + 70) (by omega) (by omega) (.slice none 0 0)
  refine ⟨⟨.slice none 0 0, ⟨⟨F, (hC.set 70 (by decide) (.slice none 0 0)).congr (ptF_out (r.P i) (z.B i) (z.v i) (.slice none 0 0) F []), hF⟩, hp.lk.keep (hk.block _ hp.lk.lt (fun e => hp.gB e.symm)), Row.nil _ 1, by simp, hp.ok, hp.gB, by simp [Value.ownBlock], by simp [Value.ownBlock], ⟨hp.nz.1, hp.nz.2.1, by simp [Value.ownBlock]⟩⟩, fun k hk => by simp [Value.ownBlock] at hk⟩, ⟨hk.os, hk.tape, hk.output, hk.size, fun j hj h1 _ _ => hk.block j hj h1, hk.cell, hk.fz⟩⟩
 have HW : Hid (WentR w (w.setCell ⟨z.g, i * 71 + 70, none⟩ (.slice none 0 0)) z (r.out i) r.n) := h.port hi hW
 generalize (r.P i).out = L at hcv ⊢
 generalize z.v i = v at g70 hcv
 clear h hp hW
 go_enter Tryz.func29, Tryz.ntmps29
 go_wp2_with (fail)
 refine hh.mono ?_
 rintro e w0 ⟨rfl, rfl⟩
 clear hh
 go_wp2_with (fail)
 go_ret2
 exact ⟨rfl, HW.out⟩
end Rt
end Go.Proofs.YtieklnlbljejdaaGreatDoor

namespace Go.Proofs.YtieklnlbljejdaaGreatDoor
open Go.RowKit St
namespace Rt
def newP (m mg : Int) : PtM := ⟨m, ⟨255, mg, 255, mg, 0, 0, 1, 255, 0, 0, 0⟩, ([], false, false), nobody, []⟩
set_option maxRecDepth 100000 in
set_option maxHeartbeats 2000000 in
theorem newPort_any (m mg : Int) (w : World) (hT : TabOk w) (hm : 1 ≤ m ∧ m ≤ 20) (hg : 1 ≤ mg ∧ mg ≤ 255) :
 Calls Tryz.prog 68 #[.int .i64 m, .int .i64 mg] w fun e w' => ∃ B, e = .returned (.tuple #[.agg (rowOf 71 (ptF (newP m mg) B (.slice none 0 0) zRd)), .nilIface]) ∧ Lk w' B ((newP m mg).L.c (.slice none 0 0)) ∧ w.heap.size < B ∧ Below w.heap.size w w' := by
 have hz := zeroPt
 have hsz := sizePt
 obtain ⟨Zp, hZp⟩ : ∃ Zp, rowOf 71 zPt = Zp := ⟨_, rfl⟩
 have hZs : Zp.size = 71 := by rw [← hZp]; exact rowOf_size _ _
 rw [hZp] at hz
 have hZne : ¬ Zp = #[] := fun e => by rw [e] at hZs; simp at hZs
 have ba := below_alloc w (.cells Zp 142)
 have hB0 : Blk (w.alloc (.cells Zp 142)) w.heap.size Zp 142 := Blk.new w _ _
 have hT0 := hT.below ba
 have hln := lnew_in 255 mg (w.alloc (.cells Zp 142)) (by omega) (by omega) (by omega) (by omega)
 obtain ⟨W0, hW0⟩ : ∃ W0, w.alloc (.cells Zp 142) = W0 := ⟨_, rfl⟩
 obtain ⟨N, hN⟩ : ∃ N, w.heap.size = N := ⟨_, rfl⟩
 have hNs : N < W0.heap.size := by rw [← hW0, ← hN]; simp
 rw [hW0] at ba hB0 hln hT0
 rw [hN] at hB0
 have g1 : ¬ m < 1 := by omega
 have g2 : ¬ 20 < m := by omega
 have HW0 : Hid _ := hW0
 have HN : Hid _ := hN
 have HB0 : Hid _ := hB0
 have HZ : Hid _ := hZp
 clear hW0 hN hB0 hZp
 go_enter Tryz.func68, Tryz.ntmps68
 go_wp2_with (fail)
 rw [HW0.out, HN.out]
 refine hln.mono ?_
 rintro e w1 ⟨B, rfl, hL, hBg, b1⟩
 have hdo := odo_open B 255 mg 255 mg 0 0 255 0 0 0 (.slice none 0 0) w1 (hT0.below b1) hL
 clear hln hL
 go_wp2_with (fail)
 refine hdo.mono ?_
 rintro e w2 ⟨rfl, hL2, hg2⟩
 obtain ⟨D, hD⟩ : ∃ D, (Zp.setIfInBounds 0 (Value.int .i64 m)).setIfInBounds 1 (Value.pointer (some ⟨B, 0, none⟩)) = D := ⟨_, rfl⟩
 have hDs : D.size = 71 := by rw [← hD]; simp [hZs]
 have hDe : Hid (D = rowOf 71 (ptF (newP m mg) B (.slice none 0 0) zRd)) := by
  show _ = _
  rw [← hD, ← HZ.out]
  apply Array.ext_getElem?
  intro j
  by_cases hj : j < 71
  · rw [rowOf_at 71 _ j hj, Array.getElem?_setIfInBounds, Array.getElem?_setIfInBounds, rowOf_at 71 _ j hj]
    simp only [Array.size_setIfInBounds, rowOf_size]
    by_cases e1 : j = 1
    · subst e1; simp [ptF]
    · by_cases e0 : j = 0
      · subst e0; simp [ptF, newP]
      · rw [if_neg (fun e => e1 e.symm), if_neg (fun e => e0 e.symm)]
        congr 1
        unfold zPt ptF
        simp only [e0, e1, if_false]
        rfl
  · rw [Array.getElem?_eq_none (by simp [rowOf_size]; omega), Array.getElem?_eq_none (by rw [rowOf_size]; omega)]
 have hone : D.all (·.oneCell') = true := by rw [hDe.out]; exact ptF_one RdF.zero rfl
 have hNB : N ≠ B := by omega
 have hBk : Blk w2 N Zp 142 := by
  have h1 := Blk.below HB0.out b1
  exact h1.keep (hg2.block N h1.lt (fun e => hNB (Option.some.inj e)))
 have hR : Blk (w2.setRow N D) N D 142 := hBk.setRow
 have hL3 : Lk (w2.setRow N D) B ((newP m mg).L.c (.slice none 0 0)) := hL2.keep (by simp only [World.setRow]; rw [Array.getElem?_modify, if_neg hNB])
 have l6 := run_loadVar_row (P := Tryz.prog) (w2.setRow N D) N 142 142 D (0, 0) _ hR Tryz.underlying142 rfl (by rw [hDs]; exact hsz)
 have hbel : Hid (Below w.heap.size w (w2.setRow N D)) := by
  have h1 := below_chain ba b1
  have h2 : Below w.heap.size w w2 := ⟨hg2.os.trans h1.os, hg2.tape.trans h1.tape, hg2.output.trans h1.output, Nat.le_trans h1.size hg2.size, fun j hj => (hg2.block j (Nat.lt_of_lt_of_le hj h1.size) (fun e => by have e2 : j = B := Option.some.inj e; have := HN.out; omega)).trans (h1.block j hj)⟩
  exact Go.Proofs.YtieklnlbljejdaaGreatDoor.below_setRow h2 (by have := HN.out; omega) D
 have HL3 : Hid _ := hL3
 clear hdo hL2 hg2 hL3 hR
 go_wp2_with (first
  | (rw [hD]; refine wpList_store_blk0 _ rfl (.tmp 4) (.tmp 29) 142 rfl rfl N Zp D rfl rfl hBk (by rw [hZs, hDs]) (by rw [hDs]; exact hsz) hone ?_)
  | (refine wpList_store_blk0 _ rfl (.tmp 4) (.tmp 29) 142 rfl rfl N Zp D rfl rfl hBk (by rw [hZs, hDs]) (by rw [hDs]; exact hsz) hone ?_))
 refine bodyPost_ret (v := .tuple #[.agg D, .nilIface]) (by simp [results, Tryz.results68, asAddr, l6]) rfl ?_
 exact ⟨B, by rw [hDe.out], HL3.out, by have := HN.out; omega, hbel.out⟩
end Rt
end Go.Proofs.YtieklnlbljejdaaGreatDoor

namespace Go.Proofs.YtieklnlbljejdaaGreatDoor
open Go.RowKit St
namespace Rt
theorem foldl_set_at : ∀ (l : List Value) (k : Nat) (base : Array Value) (j : Nat), k + l.length ≤ base.size → ((l.zipIdx k).foldl (fun cs (x : Value × Nat) => cs.setIfInBounds x.2 x.1) base)[j]? = if k ≤ j ∧ j < k + l.length then l[j - k]? else base[j]?
 | [], k, base, j, _ => by
   rw [if_neg (by simp)]
   rfl
 | x :: l, k, base, j, h => by
   have h' : k + 1 + l.length ≤ base.size := by simp at h; omega
   rw [List.zipIdx_cons, List.foldl_cons, foldl_set_at l (k + 1) (base.setIfInBounds k x) j (by rw [Array.size_setIfInBounds]; exact h')]
   by_cases h1 : k + 1 ≤ j ∧ j < k + 1 + l.length
   · rw [if_pos h1, if_pos (by simp; omega), show j - k = (j - (k + 1)) + 1 by omega, List.getElem?_cons_succ]
   · rw [if_neg h1, Array.getElem?_setIfInBounds]
     by_cases h2 : k = j
     · subst h2
       rw [if_pos rfl, if_pos (by omega), if_pos (by simp)]
       simp
     · rw [if_neg h2, if_neg (by simp; omega)]
theorem foldl_fill (D base : Array Value) (h : base.size = D.size) (n : Nat) (hn : D.size = n) : Array.foldl (fun cs (x : Value × Nat) => cs.setIfInBounds x.2 x.1) base D.zipIdx 0 n = D := by
 have hs : D.zipIdx.size = n := by rw [Array.size_zipIdx, hn]
 rw [← hs, ← Array.foldl_toList, Array.toList_zipIdx]
 apply Array.ext_getElem?
 intro j
 rw [foldl_set_at D.toList 0 base j (by simp; omega)]
 by_cases hj : j < D.size
 · rw [if_pos (by simp; omega)]
   simp
 · rw [if_neg (by simp; omega), Array.getElem?_eq_none (by omega), Array.getElem?_eq_none (by omega)]
theorem infoPort : (Tryz.prog.info? 142).map (fun i => (i.zero, i.size, i.bytes)) = some (some (.agg (rowOf 71 zPt)), 71, 144) := by kernel_rfl
def newC (id : Int) (ms : Nat → Int) (B : Nat → Nat) : Nat → List Value
 | 0 => []
 | q + 1 => newC id ms B q ++ (rowOf 71 (ptF (newP (ms q) (8 * id + q + 1)) (B q) (.slice none 0 0) zRd)).toList
theorem newC_length (id : Int) (ms : Nat → Int) (B : Nat → Nat) : ∀ q, (newC id ms B q).length = q * 71
 | 0 => rfl
 | q + 1 => by
   unfold newC
   rw [List.length_append, newC_length id ms B q, Array.length_toList, rowOf_size]
   omega
theorem newC_at (id : Int) (ms : Nat → Int) (B : Nat → Nat) : ∀ (q i j : Nat), i < q → j < 71 → (newC id ms B q)[i * 71 + j]? = some (ptF (newP (ms i) (8 * id + i + 1)) (B i) (.slice none 0 0) zRd j)
 | 0, i, j, h, _ => by omega
 | q + 1, i, j, h, hj => by
   unfold newC
   have hl := newC_length id ms B q
   by_cases e : i = q
   · subst e
     rw [List.getElem?_append_right (by omega), hl, show i * 71 + j - i * 71 = j by omega]
     simpa using rowOf_at 71 (ptF (newP (ms i) (8 * id + i + 1)) (B i) (.slice none 0 0) zRd) j hj
   · rw [List.getElem?_append_left (by omega)]
     exact newC_at id ms B q i j (by omega) hj
end Rt
end Go.Proofs.YtieklnlbljejdaaGreatDoor
