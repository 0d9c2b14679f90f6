/-
  RtMeet RtHops RtOwed RtHeard
-/
import Derived.Test.YtieklnlbljejdaaGreatDoorG25
import Derived.Test.YtieklnlbljejdaaGreatDoorG26
import Derived.Test.YtieklnlbljejdaaGreatDoorG28
namespace Go.Proofs.YtieklnlbljejdaaGreatDoor
open Go.RowKit St
namespace Rt
theorem change_n (r : RtM) : r.change.n = r.n := by
 unfold RtM.change RtM.behind
 split
 · rfl
 · split <;> rfl
theorem behind_id (r : RtM) (s : Int) : (r.behind s).id = r.id := by
 unfold RtM.behind
 split <;> rfl
theorem behind_n (r : RtM) (s : Int) : (r.behind s).n = r.n := by
 unfold RtM.behind
 split <;> rfl
theorem change_id (r : RtM) : r.change.id = r.id := by
 unfold RtM.change
 split
 · rfl
 · exact behind_id r _
theorem meet_n (r : RtM) (i : Nat) (q : PeerM) : (r.meet i q).n = r.n := by
 unfold RtM.meet
 simp only
 split
 · rfl
 · split
   · exact change_n _
   · exact change_n _
theorem meet_id (r : RtM) (i : Nat) (q : PeerM) : (r.meet i q).id = r.id := by
 unfold RtM.meet
 simp only
 split
 · rfl
 · split
   · exact change_id _
   · exact change_id _
section
variable {w W : World} {z : Zt} {r : RtM} {n N : Nat} {C : Array Value} {t : TypeId}
theorem part_all (h : Beside w W z r n N C t) (i : Nat) (hi : i < r.n) :
 Calls Tryz.prog 124 #[.pointer (some ⟨z.Bb, 0, none⟩), .int .i64 (i : Int)] W fun e w' => e = .returned (.tuple #[]) ∧ Beside w w' z { r with O := fun x => if x = i then fun _ => none else r.O x } n N C t := by
 have hn := h.nn
 subst hn
 refine h.call rfl fun z1 R1 hl => ?_
 rw [← hl.Bb]
 exact part_any z1 r i W R1 hi
theorem change_all (h : Beside w W z r n N C t) (hok : ROk r) :
 Calls Tryz.prog 125 #[.pointer (some ⟨z.R, 0, none⟩)] W fun e w' => e = .returned (.tuple #[]) ∧ Beside w w' z r.change n N C t := by
 have hn := h.nn
 subst hn
 refine h.call (change_n r) fun z1 R1 hl => ?_
 rw [← hl.R]
 exact change_any z1 r W R1 hok
theorem meet_all (h : Beside w W z r n N C t) (i : Nat) (hi : i < n) :
 Calls Tryz.prog 126 #[.pointer (some ⟨z.Bb, 0, none⟩), .int .i64 (i : Int)] W fun e w' => e = .returned .nilIface ∧ WentR w w' z { r with O := fun x => if x = i then overF (r.O i) r.K else r.O x } n := by
 have hn := h.nn
 subst hn
 refine h.went.call fun z1 R1 hl => ?_
 rw [← hl.Bb]
 exact meetB_any z1 r i W R1 hi
end
set_option maxRecDepth 100000 in
set_option maxHeartbeats 4000000 in
theorem meet_any (z : Zt) (r : RtM) (i : Nat) (q : PeerM) (w : World) (h : RtR w z r) (hok : ROk r) (hi : i < r.n) (hq : PeOk r.id q) :
 Calls Tryz.prog 74 #[.pointer (some ⟨z.R, 0, none⟩), .int .i64 (i : Int), .agg #[.int .i64 q.who, .bool q.both, .int .i64 q.left]] w fun e w' => e = .returned (.tuple #[]) ∧ WentR w w' z (r.meet i q) r.n := by
 have hi' : (i : Int) < (r.n : Int) := by omega
 have hi0 : (0 : Int) ≤ (i : Int) := by omega
 have hzp := zeroPeer
 obtain ⟨p, hp⟩ : ∃ p, r.P i = p := ⟨_, rfl⟩
 have ba := below_alloc w (.cells #[.int .i64 q.who, .bool q.both, .int .i64 q.left] 116)
 have bb := below_chain ba (below_alloc (w.alloc (.cells #[.int .i64 q.who, .bool q.both, .int .i64 q.left] 116)) (.cells #[.int .i64 p.pe.who, .bool p.pe.both, .int .i64 p.pe.left] 116))
 have R1 := h.below ba
 have c1 := R1.c1
 have cl := R1.lt
 have g1 := (R1.pt i hi).c67
 have g2 := (R1.pt i hi).c68
 have g3 := (R1.pt i hi).c69
 have gl := R1.glt
 rw [hp] at g1 g2 g3
 have R2 := h.below bb
 have hB5 : Blk ((w.alloc (.cells #[.int .i64 q.who, .bool q.both, .int .i64 q.left] 116)).alloc (.cells #[.int .i64 p.pe.who, .bool p.pe.both, .int .i64 p.pe.left] 116)) w.heap.size #[.int .i64 q.who, .bool q.both, .int .i64 q.left] 116 := (Blk.new w _ _).below (below_alloc _ _)
 have hB6 : Blk ((w.alloc (.cells #[.int .i64 q.who, .bool q.both, .int .i64 q.left] 116)).alloc (.cells #[.int .i64 p.pe.who, .bool p.pe.both, .int .i64 p.pe.left] 116)) (w.heap.size + 1) #[.int .i64 p.pe.who, .bool p.pe.both, .int .i64 p.pe.left] 116 := Blk.newN _ _ _ _ (by simp)
 have HR : Hid _ := h
 have HOk : Hid _ := hok
 have HP : Hid _ := hp
 clear hok R1 hp
 go_enter Tryz.func74, Tryz.ntmps74
 go_wp2_with (fail)
 obtain ⟨W1, hW1⟩ : ∃ W1, (w.alloc (.cells #[.int .i64 q.who, .bool q.both, .int .i64 q.left] 116)).alloc (.cells #[.int .i64 p.pe.who, .bool p.pe.both, .int .i64 p.pe.left] 116) = W1 := ⟨_, rfl⟩
 rw [hW1] at bb R2 hB5 hB6
 rw [hW1]
 have hNl : ¬ z.mine r.n w.heap.size := h.not_mine (Nat.le_refl _)
 have hgN : z.g < w.heap.size := h.glt
 obtain ⟨N, hN⟩ : ∃ N, w.heap.size = N := ⟨_, rfl⟩
 rw [hN] at hB5 hB6 hNl hgN
 rw [hN]
 have Rd := R2.below (below_d W1)
 have hPe := (Rd.pt i hi).peer q
 have hW := Rd.port hi hPe
 have hBs : Beside W1 (((W1.drew.setCell ⟨z.g, i * 71 + 67, none⟩ (.int .i64 q.who)).setCell ⟨z.g, i * 71 + 68, none⟩ (.bool q.both)).setCell ⟨z.g, i * 71 + 69, none⟩ (.int .i64 q.left)) z (r.setP i { p with pe := q }) r.n N #[.int .i64 q.who, .bool q.both, .int .i64 q.left] 116 := by
  rw [HP.out] at hW
  exact ⟨WentR.first R2 rfl (below_d W1) (fun _ => hW), ((hB5.drew.other (by omega) _).other (by omega) _).other (by omega) _, rfl, hB5.lt, hNl⟩
 have hB6' : Blk (((W1.drew.setCell ⟨z.g, i * 71 + 67, none⟩ (.int .i64 q.who)).setCell ⟨z.g, i * 71 + 68, none⟩ (.bool q.both)).setCell ⟨z.g, i * 71 + 69, none⟩ (.int .i64 q.left)) (N + 1) #[.int .i64 p.pe.who, .bool p.pe.both, .int .i64 p.pe.left] 116 := ((hB6.drew.other (by omega) _).other (by omega) _).other (by omega) _
 have e1 := Rd.c1
 have eg := Rd.glt
 have el := Rd.lt
 have y0 : W1.drew.cell? ⟨N, 0, none⟩ = some (.int .i64 q.who) := hB5.cell 0
 have y1 : W1.drew.cell? ⟨N, 1, none⟩ = some (.bool q.both) := hB5.cell 1
 have y2 : W1.drew.cell? ⟨N, 2, none⟩ = some (.int .i64 q.left) := hB5.cell 2
 have x7 := (Rd.pt i hi).c67
 have x8 := (Rd.pt i hi).c68
 have x9 := (Rd.pt i hi).c69
 have f7 := (Rd.pt i hi).fz 67 (by decide)
 have f8 := (Rd.pt i hi).fz 68 (by decide)
 have f9 := (Rd.pt i hi).fz 69 (by decide)
 rw [HP.out] at x7 x8 x9
 have hS : ((W1.setCell ⟨z.g, i * 71 + 67, none⟩ (.int .i64 q.who)).drew.cell? ⟨z.g, i * 71 + 67 + 1, none⟩ = some (.bool p.pe.both) ∧ (W1.setCell ⟨z.g, i * 71 + 67, none⟩ (.int .i64 q.who)).drew.frozen? ⟨z.g, i * 71 + 67 + 1, none⟩ = false) ∧ (((W1.setCell ⟨z.g, i * 71 + 67, none⟩ (.int .i64 q.who)).setCell ⟨z.g, i * 71 + 67 + 1, none⟩ (.bool q.both)).drew.cell? ⟨z.g, i * 71 + 67 + 2, none⟩ = some (.int .i64 p.pe.left) ∧ ((W1.setCell ⟨z.g, i * 71 + 67, none⟩ (.int .i64 q.who)).setCell ⟨z.g, i * 71 + 67 + 1, none⟩ (.bool q.both)).drew.frozen? ⟨z.g, i * 71 + 67 + 2, none⟩ = false) := by
  obtain ⟨F, hC, _⟩ := (Rd.pt i hi).cel
  rw [HP.out] at hC
  have h1 := hC.set 67 (by decide) (.int .i64 q.who)
  have h2 := h1.set 68 (by decide) (.bool q.both)
  exact ⟨⟨h1.cell 68 (by decide), h1.fz 68 (by decide)⟩, h2.cell 69 (by decide), h2.fz 69 (by decide)⟩
 obtain ⟨⟨s1, s2⟩, s3, s4⟩ := hS
 clear x8 x9 f8 f9
 have HBB : Hid _ := bb
 have HR2 : Hid _ := R2
 have HBs : Hid _ := hBs
 have HQ : Hid _ := hq
 clear h hq hW1 Rd hPe hW hBs bb R2 hB5 hB6 ba c1 cl g1 g2 g3 gl
 go_region
 obtain ⟨W2, hW2⟩ : ∃ W2, (((W1.setCell ⟨z.g, i * 71 + 67, none⟩ (.int .i64 q.who)).setCell ⟨z.g, i * 71 + 67 + 1, none⟩ (.bool q.both)).setCell ⟨z.g, i * 71 + 67 + 2, none⟩ (.int .i64 q.left)).drew = W2 := ⟨_, rfl⟩
 rw [hW2]
 have hB2 : Beside W1 W2 z (r.setP i { p with pe := q }) r.n N #[.int .i64 q.who, .bool q.both, .int .i64 q.left] 116 := by rw [← hW2]; exact HBs.out
 have hB6 : Blk W2 (N + 1) #[.int .i64 p.pe.who, .bool p.pe.both, .int .i64 p.pe.left] 116 := by rw [← hW2]; exact hB6'
 have y0 : W2.cell? ⟨N, 0, none⟩ = some (.int .i64 q.who) := hB2.blk.cell 0
 have y1 : W2.cell? ⟨N, 1, none⟩ = some (.bool q.both) := hB2.blk.cell 1
 have u0 : W2.cell? ⟨N + 1, 0, none⟩ = some (.int .i64 p.pe.who) := hB6.cell 0
 have u1 : W2.cell? ⟨N + 1, 1, none⟩ = some (.bool p.pe.both) := hB6.cell 1
 have nl := hB2.blk.lt
 have nl6 := hB6.lt
 have d2 := hB2.went.c2
 have dl := hB2.went.lt
 have HB2 : Hid _ := hB2
 have HM : Hid (r.meet i q = if q.who = p.pe.who ∧ q.both = p.pe.both then r.setP i { p with pe := q } else if q.both = true then { (({ r.setP i { p with pe := q } with O := fun x => if x = i then fun _ => none else r.O x } : RtM).change) with O := fun x => if x = i then overF ((({ r.setP i { p with pe := q } with O := fun x => if x = i then fun _ => none else r.O x } : RtM).change).O i) (({ r.setP i { p with pe := q } with O := fun x => if x = i then fun _ => none else r.O x } : RtM).change).K else (({ r.setP i { p with pe := q } with O := fun x => if x = i then fun _ => none else r.O x } : RtM).change).O x } else ({ r.setP i { p with pe := q } with O := fun x => if x = i then fun _ => none else r.O x } : RtM).change) := by
  show _ = _
  unfold RtM.meet
  rw [HP.out]
  rfl
 obtain ⟨r1, hr1⟩ : ∃ r1, r.setP i { p with pe := q } = r1 := ⟨_, rfl⟩
 have hok1 : ROk r1 := by rw [← hr1]; exact HOk.out.setP i _ (by rw [HP.out]) (fun _ => HQ.out)
 have hn1 : r1.n = r.n := by rw [← hr1]; rfl
 have hO1 : r1.O = r.O := by rw [← hr1]; rfl
 rw [hr1] at HB2 HM
 rw [← hO1] at HM
 have HF : Hid (∀ W rr, WentR W1 W z rr r.n → WentR w W z rr r.n) := fun W rr hw => WentR.first HR.out rfl HBB.out (fun _ => hw)
 have HOk1 : Hid _ := hok1
 have HN1 : Hid _ := hn1
 clear hW2 hB2 hB6 hB6' hr1 hok1 hn1 hO1 HBs HP HQ HOk s1 s2 s3 s4 x7 f7 e1 eg el HR2 HBB HR hgN hNl hzp
 by_cases hs : q.who = p.pe.who ∧ q.both = p.pe.both
 · have q1 : (q.who == p.pe.who) = true := by simp [hs.1]
   have q2 : (q.both == p.pe.both) = true := by simp [hs.2]
   have HE : Hid (WentR w W2 z (r.meet i q) r.n) := by
    show WentR _ _ _ _ _
    rw [HM.out, if_pos hs]
    exact HF.out _ _ HB2.out.went
   clear hs HM HF HB2
   go_wp2_with (fail)
   first | go_end0 | refine bodyPost_ret (results_none rfl _ _ _) rfl ?_
   exact ⟨rfl, HE.out⟩
 · obtain ⟨r2, hr2⟩ : ∃ r2 : RtM, ({ r1 with O := fun x => if x = i then fun _ => none else r1.O x } : RtM) = r2 := ⟨_, rfl⟩
   have hp2 : Calls Tryz.prog 124 #[.pointer (some ⟨z.Bb, 0, none⟩), .int .i64 (i : Int)] W2 fun e w' => e = .returned (.tuple #[]) ∧ Beside W1 w' z r2 r.n N #[.int .i64 q.who, .bool q.both, .int .i64 q.left] 116 := by
    refine (part_all HB2.out i (by rw [HN1.out]; exact hi)).mono ?_
    rintro e w3 ⟨rfl, hw⟩
    exact ⟨rfl, by rw [← hr2]; exact hw⟩
   have hch : Hid (∀ W, Beside W1 W z r2 r.n N #[.int .i64 q.who, .bool q.both, .int .i64 q.left] 116 → Calls Tryz.prog 125 #[.pointer (some ⟨z.R, 0, none⟩)] W fun e w' => e = .returned (.tuple #[]) ∧ Beside W1 w' z r2.change r.n N #[.int .i64 q.who, .bool q.both, .int .i64 q.left] 116) := by
    intro W hW
    have hok2 : ROk r2 := by rw [← hr2]; exact HOk1.out.congrO _
    exact change_all hW hok2
   have hmt : Hid (∀ W, Beside W1 W z r2.change r.n N #[.int .i64 q.who, .bool q.both, .int .i64 q.left] 116 → Calls Tryz.prog 126 #[.pointer (some ⟨z.Bb, 0, none⟩), .int .i64 (i : Int)] W fun e w' => e = .returned .nilIface ∧ WentR W1 w' z { r2.change with O := fun x => if x = i then overF (r2.change.O i) r2.change.K else r2.change.O x } r.n) := by
    intro W hW
    exact meet_all hW i hi
   rw [if_neg hs, hr2] at HM
   have HNE : Hid ((q.who == p.pe.who) = false ∨ (q.who == p.pe.who) = true ∧ (q.both == p.pe.both) = false) := by
    show _ ∨ _
    cases h1 : (q.who == p.pe.who)
    · exact .inl rfl
    · refine .inr ⟨rfl, ?_⟩
      cases h2 : (q.both == p.pe.both)
      · rfl
      · exact absurd ⟨by simpa using h1, by simpa using h2⟩ hs
   clear hs hr2 HOk1 HN1
   rcases HNE.out with q1 | ⟨q1, q2⟩
   all_goals
    clear HNE
    go_wp2_with (fail)
    refine hp2.mono ?_
    rintro e W3 ⟨rfl, hB3⟩
    have hc3 := hch.out _ hB3
    clear hp2 hch hB3 HB2 y0 y1 u0 u1 nl nl6 d2 dl
    go_wp2_with (fail)
    refine hc3.mono ?_
    rintro e W4 ⟨rfl, hB4⟩
    have y1 : W4.cell? ⟨N, 1, none⟩ = some (.bool q.both) := hB4.blk.cell 1
    have nl := hB4.blk.lt
    have d2 := hB4.went.c2
    have dl := hB4.went.lt
    clear hc3
    cases hb : q.both with
    | false =>
      rw [hb] at y1
      have HE : Hid (WentR w W4 z (r.meet i q) r.n) := by
       show WentR _ _ _ _ _
       rw [HM.out, hb, if_neg (by simp)]
       exact HF.out _ _ hB4.went
      clear HM HF hmt hB4
      go_wp2_with (fail)
      first | go_end0 | refine bodyPost_ret (results_none rfl _ _ _) rfl ?_
      exact ⟨rfl, HE.out⟩
    | true =>
      rw [hb] at y1
      have hm5 := hmt.out _ hB4
      have HE : Hid (∀ W, WentR W1 W z { r2.change with O := fun x => if x = i then overF (r2.change.O i) r2.change.K else r2.change.O x } r.n → WentR w W z (r.meet i q) r.n) := by
       intro W hw
       rw [HM.out, hb, if_pos rfl]
       exact HF.out _ _ hw
      clear HM HF hmt hB4
      go_wp2_with (fail)
      refine hm5.mono ?_
      rintro e W5 ⟨rfl, hw5⟩
      have hw6 := HE.out _ hw5
      clear hm5 hw5
      go_wp2_with (fail)
      first | go_end0 | refine bodyPost_ret (results_none rfl _ _ _) rfl ?_
      exact ⟨rfl, hw6⟩
end Rt
end Go.Proofs.YtieklnlbljejdaaGreatDoor

namespace Go.Proofs.YtieklnlbljejdaaGreatDoor
open Go.RowKit St
namespace Rt
theorem hopsL_length (C : Grid) (r : Nat) : (hopsL C r).length ≤ 7 := lstF_length _ _
set_option maxRecDepth 100000 in
set_option maxHeartbeats 4000000 in
theorem hopsR_any (z : Zt) (r : RtM) (w : World) (h : RtR w z r) (hK : KOk r.K) :
 Calls Tryz.prog 64 #[.pointer (some ⟨z.R, 0, none⟩)] w fun e w' => ∃ b c, e = .returned (.slice b (hopsM r).length c) ∧ HsR w' b (hopsM r).length (hopsM r) ∧ Below w.heap.size w w' := by
 have R0 := h.below (below_d w)
 have hid : r.id = ((r.id.toNat : Nat) : Int) := by have := h.id; omega
 have hst : Calls Tryz.prog 110 #[.pointer (some ⟨z.Bb, 0, none⟩)] w.drew fun e w' => ∃ a n cap, e = .returned (.slice a n cap) ∧ (∀ W, Below w'.heap.size w' W → Calls Tryz.prog 116 #[.slice a n cap, .int .i64 r.id] W fun e w2 => ∃ b c, e = .returned (.slice b (hopsM r).length c) ∧ HsR w2 b (hopsM r).length (hopsM r) ∧ Below w.heap.size w w2 ∧ (w2.cell? ⟨z.R, 0, none⟩ = some (.int .i64 r.id) ∧ w2.cell? ⟨z.R, 2, none⟩ = some (.pointer (some ⟨z.Bb, 0, none⟩)))) ∧ (w'.cell? ⟨z.R, 0, none⟩ = some (.int .i64 r.id) ∧ w'.cell? ⟨z.R, 2, none⟩ = some (.pointer (some ⟨z.Bb, 0, none⟩))) := by
  refine (states_base z.Bb z.fm 6 r.K r.O w.drew R0.bs).mono ?_
  rintro e w1 ⟨a, n, cap, S, E, rfl, hS, hL, h6, _, b1⟩
  have R1 := R0.below b1
  refine ⟨a, n, cap, rfl, fun W hW => ?_, R1.c0, R1.c2⟩
  have hh := hops_any a n cap S E r.id.toNat W (hS.below hW) (by omega) hL.ok (by have := h.id; omega) (by have := h.id; omega)
  rw [← hid] at hh
  rw [Lists.grid hL hK] at hh
  refine hh.mono ?_
  rintro e w2 ⟨b, c, rfl, hH, b2⟩
  have R2 := (R1.below hW).below b2
  exact ⟨b, c, rfl, hH, below_chain (below_chain (below_chain (below_d w) b1) hW) b2, R2.c0, R2.c2⟩
 have F0 := And.intro R0.c0 R0.c2
 generalize hopsM r = L at hst ⊢
 generalize z.R = RR at hst F0 ⊢
 generalize z.Bb = Bb at hst F0
 generalize r.id = id at hst F0
 clear h R0 hid
 have F0 : w.drew.cell? ⟨RR, 0, none⟩ = some (.int .i64 id) ∧ w.drew.cell? ⟨RR, 2, none⟩ = some (.pointer (some ⟨Bb, 0, none⟩)) := F0
 go_enter Tryz.func64, Tryz.ntmps64
 go_wp2_with (fail)
 go_region_held3 (fun x => x.cell? ⟨RR, 0, none⟩ = some (.int .i64 id) ∧ x.cell? ⟨RR, 2, none⟩ = some (.pointer (some ⟨Bb, 0, none⟩)))
  (first | assumption | exact F0 | exact F1 | exact F2)
  (first
    | (go_at_call 110; refine hst.mono ?_; rintro e w1 ⟨a, n, cap, rfl, hh, F1⟩)
    | (go_at_call 116; refine (hh _ (Below.refl _ _)).mono ?_; rintro e w2 ⟨b, c, rfl, hH, b2, F2⟩))
 all_goals
  have HH : Hid _ := hH
  clear hst hh F0 F1 F2 hH
  go_wp2_with (fail)
  go_ret
  first | exact ⟨b, c, rfl, HH.out, b2⟩ | exact ⟨b, ⟨c, rfl, HH.out, b2⟩⟩
def onP (r : RtM) (t h : Int) : Option Nat := if 1 ≤ h then (toH (hopsM r) t).bind fun x => bestP r.P x.nxt r.n else none
end Rt
end Go.Proofs.YtieklnlbljejdaaGreatDoor

namespace Go.Proofs.YtieklnlbljejdaaGreatDoor
open Go.RowKit St
namespace Rt
def owedFrom (F : Int → Option PS) (j m : Nat) : List (Int × PS) := (List.range' j m).filterMap fun (j : Nat) => (F ((j : Int) + 1)).map fun q => ((j : Int) + 1, q)
theorem owedL_from (F : Int → Option PS) : owedL F = owedFrom F 0 6 := by unfold owedL owedFrom; rw [List.range_eq_range']
theorem owedFrom_list {F : Int → Option PS} {n : Nat} {S : Nat → SV} {E : Nat → List Opt} (h : Lists F n S E) : ∀ (m j k : Nat), j + m = 6 → k ≤ n → (∀ i, i < k → (S i).own ≤ j) → (∀ i, k ≤ i → i < n → (j : Int) < (S i).own) → owedFrom F j m = (List.range' k (n - k)).map fun i => ((S i).own, ((S i).seq, E i))
 | 0, j, k, hj, hk, h1, h2 => by
   have : n - k = 0 := by
    by_cases e : k < n
    · have h3 := h2 k (Nat.le_refl _) e
      have h4 := (stF_zero (h.ok k e)).1
      omega
    · omega
   rw [this]
   rfl
 | m + 1, j, k, hj, hk, h1, h2 => by
   have e : owedFrom F j (m + 1) = (match F ((j : Int) + 1) with | none => owedFrom F (j + 1) m | some q => ((j : Int) + 1, q) :: owedFrom F (j + 1) m) := by
    unfold owedFrom
    rw [List.range'_succ, List.filterMap_cons]
    cases F ((j : Int) + 1) <;> simp
   rw [e]
   cases hF : F ((j : Int) + 1) with
   | none =>
     simp only
     refine owedFrom_list h m (j + 1) k (by omega) hk (fun i hi => by have := h1 i hi; omega) (fun i h3 h4 => ?_)
     have h5 := h2 i h3 h4
     have h6 : (S i).own ≠ (j : Int) + 1 := fun e => by
      have := (h.at_ i h4).2
      rw [e, hF] at this
      cases this
     omega
   | some q =>
     simp only
     obtain ⟨i, hi, ho⟩ := h.all ((j : Int) + 1) ⟨by omega, by omega⟩ (by rw [hF]; rfl)
     have hki : k ≤ i := by
      by_cases e : i < k
      · have := h1 i e; omega
      · omega
     have hik : i = k := by
      by_cases e : i = k
      · exact e
      · have h3 := h.ris k i (by omega) hi
        have h4 := h2 k (Nat.le_refl _) (by omega)
        omega
     subst hik
     have hq := (h.at_ i hi).2
     rw [ho, hF] at hq
     have hq2 := Option.some.inj hq
     have en : n - i = (n - (i + 1)) + 1 := by omega
     rw [en, List.range'_succ, List.map_cons, ho, ← hq2]
     congr 1
     refine owedFrom_list h m (j + 1) (i + 1) (by omega) (by omega) (fun x hx => ?_) (fun x h3 h4 => ?_)
     · by_cases e : x = i
       · subst e; omega
       · have := h1 x (by omega); omega
     · have := h.ris i x (by omega) h4
       omega
theorem owed_list {F : Int → Option PS} {n : Nat} {S : Nat → SV} {E : Nat → List Opt} (h : Lists F n S E) : owedL F = (List.range n).map fun i => ((S i).own, ((S i).seq, E i)) := by
 rw [owedL_from, owedFrom_list h 6 0 0 rfl (Nat.zero_le _) (fun i hi => by omega) (fun i _ hi => by have := (stF_zero (h.ok i hi)).1; omega), List.range_eq_range']
 rfl
theorem owed_new (B : Nat) (m : FM) (k : Nat) (K : Int → Option PS) (O : Nat → Int → Option PS) (p : Nat) (w : World) (h : BR w B m k K O) (hp : p < m.bs.length) :
 Calls Tryz.prog 151 #[.pointer (some ⟨B, 0, none⟩), .int .i64 (p : Int)] w fun e w' => ∃ a n cap S E, e = .returned (.slice a n cap) ∧ StsR w' a n S E ∧ Lists (O p) n S E ∧ n ≤ 6 ∧ (∀ j, Value.ownBlock (.slice a n cap) = some j → w.heap.size < j) ∧ (∀ i, i < n → ∀ j, Value.ownBlock (.slice (S i).a (S i).n (S i).cap) = some j → w.heap.size < j) ∧ Below w.heap.size w w' := by
 obtain ⟨kn, ow, hF, hT, hO⟩ := h.ex
 refine (owed_yes B m k kn ow (esOf (O p)) p w hF hp (hO p hp).fine).mono ?_
 rintro e w1 ⟨v, ts, rfl, hR⟩
 obtain ⟨a, cap, rfl, h1, h2, h3, h4⟩ := hR.lists (hO p hp)
 refine ⟨a, ts.length, cap, _, _, rfl, h1, h2, h3, h4, fun i hi j hj => ?_, hR.bel⟩
 have hm : ts.getD i SV.zero ∈ ts := by
  have : ts.getD i SV.zero = ts[i] := by simp [List.getD, hi]
  rw [this]
  exact List.getElem_mem hi
 exact ((hR.el _ hm).new j hj).1
end Rt
end Go.Proofs.YtieklnlbljejdaaGreatDoor

namespace Go.Proofs.YtieklnlbljejdaaGreatDoor
open Go.RowKit St
namespace Rt
theorem parseR_ok {l : List UInt8} {own seq : Int} {os : List Opt} (h : parseR l = (own, seq, os, 0)) : stF own seq os = 0 := by
 unfold parseR at h
 split at h
 · simp at h
 · split at h
   · rename_i h2
     simp only [Prod.mk.injEq, and_true] at h
     obtain ⟨rfl, rfl, rfl⟩ := h
     exact h2
   · simp at h
theorem heardB_any (z : Zt) (r : RtM) (i : Nat) (own seq : Int) (a : Option Addr) (n cap : Nat) (es : List Opt) (w : World) (h : RtR w z r) (hi : i < r.n) (ho : OptR w a n es) (hf : stF own seq es = 0) :
 Calls Tryz.prog 191 #[.pointer (some ⟨z.Bb, 0, none⟩), .int .i64 (i : Int), .agg #[.int .i64 own, .int .i64 seq, .slice a n cap]] w fun e w' => e = .returned .nilIface ∧ WentR w w' z { r with O := fun x => if x = i ∧ 0 ≤ newF r.K own seq es then delF (r.O i) own else r.O x } r.n := by
 refine (heard_base z.Bb z.fm 6 r.K r.O i own seq a n cap es w h.bs (inR_small (by have := (stF_zero hf).1; omega)) (by rw [h.bl]; exact hi) ho hf (fun _ => newS_three _ _ _ _)).mono ?_
 rintro e w1 ⟨rfl, hB, hk⟩
 exact ⟨rfl, h.base hB hk⟩
def heardM (r : RtM) (i : Nat) (l : List UInt8) : RtM :=
 let q := St.parseR l
 if q.2.2.2 = 0 then { r with O := fun x => if x = i ∧ 0 ≤ newF r.K q.1 q.2.1 q.2.2.1 then delF (r.O i) q.1 else r.O x } else r
set_option maxRecDepth 100000 in
set_option maxHeartbeats 4000000 in
theorem takeHeard_any (s : ByteArray) (z : Zt) (r : RtM) (i : Nat) (w : World) (h : RtR w z r) (hi : i < r.n) (hs : s.size ≤ 1000) :
 Calls Tryz.prog 136 #[.pointer (some ⟨z.R, 0, none⟩), .int .i64 (i : Int), .string s] w fun e w' => e = .returned (.tuple #[]) ∧ WentR w w' z (heardM r i s.data.toList) r.n := by
 have hp := parse_any2 s w (by unfold maxLen; omega)
 have HR : Hid _ := h
 clear h
 go_enter Tryz.func136, Tryz.ntmps136
 go_wp2_with (fail)
 refine hp.mono ?_
 rintro e w1 ⟨a, n, cap, f, own, seq, os, rfl, ho, hle, hR, b1, hnil⟩
 clear hp
 by_cases hf : f = 0
 · subst hf
   have e0 : errV 0 = .nilIface := rfl
   rw [e0]
   have hst := parseR_ok hR
   have hE : heardM r i s.data.toList = { r with O := fun x => if x = i ∧ 0 ≤ newF r.K own seq os then delF (r.O i) own else r.O x } := by
    unfold heardM
    rw [hR]
    rfl
   have ba := below_alloc w1 (.cells #[.int .i64 own, .int .i64 seq, .slice a n cap] 40)
   have hA := fun j => World.cell?_alloc_mark w1 #[.int .i64 own, .int .i64 seq, .slice a n cap] 40 (0, 0) j
   have b2 := below_chain b1 (below_chain ba (below_d _))
   have R2 := HR.out.below b2
   have hh := heardB_any z r i own seq a n cap os _ R2 hi (ho.below (below_chain ba (below_d _))) hst
   have hh2 : Calls Tryz.prog 191 #[.pointer (some ⟨z.Bb, 0, none⟩), .int .i64 (i : Int), .agg #[.int .i64 own, .int .i64 seq, .slice a n cap]] (w1.alloc (.cells #[.int .i64 own, .int .i64 seq, .slice a n cap] 40)).drew fun e w' => e = .returned .nilIface ∧ WentR w w' z (heardM r i s.data.toList) r.n := by
    refine hh.mono ?_
    rintro e w3 ⟨rfl, hw⟩
    exact ⟨rfl, by rw [hE]; exact WentR.first HR.out rfl b2 (fun _ => hw)⟩
   have c2 := R2.c2
   have cl := R2.lt
   obtain ⟨W2, hW2⟩ : ∃ W2, w1.alloc (.cells #[.int .i64 own, .int .i64 seq, .slice a n cap] 40) = W2 := ⟨_, rfl⟩
   obtain ⟨Z, hZ⟩ : ∃ Z, w1.heap.size = Z := ⟨_, rfl⟩
   rw [hW2] at hh2 c2 cl
   have d0 : W2.drew.cell? ⟨Z, 0, none⟩ = some (.int .i64 own) := by rw [← hW2, ← hZ]; exact hA 0
   have d1 : W2.drew.cell? ⟨Z, 1, none⟩ = some (.int .i64 seq) := by rw [← hW2, ← hZ]; exact hA 1
   have d2 : W2.drew.cell? ⟨Z, 2, none⟩ = some (.slice a n cap) := by rw [← hW2, ← hZ]; exact hA 2
   have zl : Z < W2.drew.heap.size := World.block_lt_of_cell? _ _ d0
   obtain ⟨T, hT⟩ : ∃ T : World → Prop, (fun x => WentR w x z (heardM r i s.data.toList) r.n) = T := ⟨_, rfl⟩
   have hT' : ∀ x, WentR w x z (heardM r i s.data.toList) r.n = T x := fun x => congrFun hT x
   simp only [hT'] at hh2
   have HT : Hid _ := hT'
   clear hh hA ba b2 R2 ho hR hst hE hle hnil b1 hT hT'
   go_wp2_with (fail)
   try rw [hW2]
   try rw [hZ]
   clear hW2 hZ
   go_region_with (go_at_call 191; refine hh2.mono ?_; rintro e w3 ⟨rfl, hW⟩)
   all_goals
    clear hh2
    go_wp2_with (fail)
    first | go_end0 | refine bodyPost_ret (results_none rfl _ _ _) rfl ?_
    exact ⟨rfl, by rw [HT.out]; exact hW⟩
 · have ee : errV f = .iface 128 (.int .i64 (f : Int)) := by simp only [errV]; rw [if_neg hf]
   rw [ee]
   have hE : heardM r i s.data.toList = r := by
    unfold heardM
    rw [hR]
    simp only
    rw [if_neg hf]
   have HW : Hid (WentR w (w1.alloc (.cells #[.int .i64 own, .int .i64 seq, .slice a n cap] 40)) z (heardM r i s.data.toList) r.n) := by
    show WentR _ _ _ _ _
    rw [hE]
    exact WentR.still HR.out (below_chain b1 (below_alloc _ _))
   clear hR ho hf ee hE
   go_wp2_with (fail)
   first | go_end0 | refine bodyPost_ret (results_none rfl _ _ _) rfl ?_
   exact ⟨rfl, HW.out⟩
end Rt
end Go.Proofs.YtieklnlbljejdaaGreatDoor
