/-
  RtPlug RtPkt RtMem RtOk RtGrid
-/
import Derived.Test.YtieklnlbljejdaaGreatDoorG18
import Derived.Test.YtieklnlbljejdaaGreatDoorG23
import Derived.Test.YtieklnlbljejdaaGreatDoorG24
import Derived.Test.YtieklnlbljejdaaGreatDoorG25
namespace Go.Proofs.YtieklnlbljejdaaGreatDoor
open Go.RowKit St
namespace Rt
theorem tickL_len (L : LS) : (tickL L).2.length ≤ 12 := by
 unfold tickL
 have h1 := tickO_len L
 have h2 := doP_len (tickS L) 1
 have h3 := doP_len (doP (tickS L) 1).1 0
 split
 · simp only [List.length_append]; omega
 · simp only; omega
set_option maxRecDepth 100000 in
set_option maxHeartbeats 2000000 in
theorem tick_port (g o B : Nat) (v : Value) (p : PtM) (w : World) (h : PtR w g o B v p) (hT : TabOk w) (hn : p.out.length ≤ 800000000) :
 Calls Tryz.prog 82 #[.pointer (some ⟨g, o, none⟩)] w fun e w' => e = .returned (.tuple #[]) ∧ WentP w w' g o B v p.tick := by
 have hk := PtG.tick h hT
 have c1 := h.c1
 have hl := h.lt
 have hlen := tickL_len p.L
 clear h
 go_enter Tryz.func82, Tryz.ntmps82
 go_wp2_with (fail)
 refine hk.mono ?_
 rintro e w1 ⟨rfl, hG⟩
 have hst := hG.state
 obtain ⟨d1, dl⟩ := hG.ptr
 clear hk c1 hl
 go_wp2_with (fail)
 refine hst.mono ?_
 rintro e w2 ⟨rfl, rfl⟩
 clear hst
 cases h3 : ((tickS p.L).st == 3)
 · have e3 : (tickS p.L).st ≠ 3 := by simpa using h3
   have et : tickL p.L = (tickS p.L, tickO p.L) := by unfold tickL; rw [if_neg e3]
   have ep : p.tick = ({ p with L := tickS p.L } : PtM).say (tickO p.L) := by unfold PtM.tick; rw [et]
   rw [et] at hlen
   have hs := hG.say (by simp only at hlen; omega) hn
   rw [← ep] at hs
   have HE : Hid _ := ep
   clear et ep e3 hG
   go_wp2_with (fail)
   refine hs.mono ?_
   rintro e w3 ⟨rfl, hW⟩
   clear hs
   go_wp2_with (fail)
   first | go_end0 | refine bodyPost_ret (results_none rfl _ _ _) rfl ?_
   exact ⟨rfl, hW⟩
 · have e3 : (tickS p.L).st = 3 := by simpa using h3
   have l1 := tickO_len p.L
   have l2 := doP_len (tickS p.L) 1
   have hd1 := hG.do_ hT (by omega) 1
   have et : tickL p.L = ((doP (doP (tickS p.L) 1).1 0).1, tickO p.L ++ (doP (tickS p.L) 1).2.1 ++ (doP (doP (tickS p.L) 1).1 0).2.1) := by unfold tickL; rw [if_pos e3]
   have ep : p.tick = ({ p with L := (doP (doP (tickS p.L) 1).1 0).1 } : PtM).say (tickO p.L ++ (doP (tickS p.L) 1).2.1 ++ (doP (doP (tickS p.L) 1).1 0).2.1) := by unfold PtM.tick; rw [et]
   rw [et] at hlen
   have HE : Hid _ := ep
   clear et ep e3 hG
   go_wp2_with (fail)
   refine hd1.mono ?_
   rintro e w3 ⟨rfl, hG1⟩
   have hd2 := hG1.do_ hT (by simp only [List.length_append]; omega) 0
   obtain ⟨f1, fl⟩ := hG1.ptr
   clear hd1 hG1
   go_wp2_with (fail)
   refine hd2.mono ?_
   rintro e w4 ⟨rfl, hG2⟩
   have hs := hG2.say (Nat.le_trans (show _ ≤ 12 from hlen) (by decide)) hn
   clear hd2 hG2
   go_wp2_with (fail)
   refine hs.mono ?_
   rintro e w5 ⟨rfl, hW⟩
   clear hs
   go_wp2_with (fail)
   first | go_end0 | refine bodyPost_ret (results_none rfl _ _ _) rfl ?_
   refine ⟨rfl, ?_⟩
   rw [HE.out]
   exact hW
set_option maxRecDepth 100000 in
theorem do_err (ev : Int) (hev : ev = 0 ∨ ev = 1) (B : Nat) (X : Nat → Prop) (s : LS) (v : Value) (ps : List PV) (w : World) (hT : TabOk w) (h : Rep w B X s v ps) (hf : (doP s ev).2.2 ≠ 0) :
 Calls Tryz.prog 120 #[.pointer (some ⟨B, 0, none⟩), .int .i64 ev] w fun e w' => e = .returned (.iface 128 (.int .i64 ((doP s ev).2.2 : Int))) ∧ Below w.heap.size w w' := by
 have hz := zeroPacket
 have ed : doP s ev = evP s ev (0, 0, []) := by unfold doP; rw [if_pos (by omega)]
 rw [ed] at hf ⊢
 have hst : (stepI s.st ev).2.2 ≠ 0 := fun e => hf (by rw [evP_ok _ e])
 rw [evP_no _ hst]
 obtain ⟨D, nx, f, hR⟩ : ∃ D nx f, stepI s.st ev = (D, nx, f) := ⟨_, _, _, rfl⟩
 rw [hR] at hst ⊢
 have hc := come_no B X s v ps ⟨0, 0, none, 0, 0, []⟩ ev D nx f w hT h hR hst
 clear h hT hR hst hf ed
 rcases hev with rfl | rfl
 all_goals
  go_enter Tryz.func120, Tryz.ntmps120
  go_wp2_with (fail)
  refine hc.mono ?_
  rintro e w1 ⟨rfl, hW⟩
  clear hc
  go_wp2_with (fail)
  go_ret
  exact ⟨rfl, hW⟩
theorem ptF_rd (p : PtM) (B : Nat) (v : Value) (F G : Nat → Value) (r : RState) : ∀ j, j < 71 → (if 2 ≤ j ∧ j < 2 + 65 then G (j - 2) else ptF p B v F j) = ptF { p with rd := r } B v G j := by
 intro j hj
 by_cases e : 2 ≤ j ∧ j < 2 + 65
 · rw [if_pos e]
   unfold ptF
   rw [if_neg (by omega), if_neg (by omega), if_pos (by omega)]
 · rw [if_neg e]
   unfold ptF
   by_cases e0 : j = 0
   · simp [e0]
   · by_cases e1 : j = 1
     · simp [e1]
     · have e2 : ¬ j < 67 := by omega
       simp [e0, e1, e2]
theorem PtG.read {w w1 w2 : World} {g o B : Nat} {v : Value} {p : PtM} {out : List APkt} (h : PtG w w1 g o B v p out) (r : RState) (hr : Rd w2 g (o + 2) r.1 r.2.1 r.2.2) (hk : KeptC w1 w2 g (o + 2) 65) : PtG w w2 g o B v { p with rd := r } out := by
 obtain ⟨vl, qs, hQ, ho⟩ := h.ex
 obtain ⟨F, hC, hF⟩ := hQ.cel
 obtain ⟨G, hG, hGF⟩ := hr
 have hkg : Kept w1 w2 g none := ⟨hk.os, hk.tape, hk.output, hk.size, fun i hi hne _ => hk.block i hi hne⟩
 have hl := hC.lt (by decide)
 refine ⟨⟨vl, qs, ⟨⟨G, (hC.join hk hG).congr (ptF_rd p B v F G r), hGF⟩, hQ.rep.far hkg hQ.xg (fun e => hQ.gB e.symm), hQ.ou.keep hk.size (fun k hk2 => hk.block k (hQ.ou.lt k hk2) (fun e => hQ.vg (by rw [hk2, e]))), hQ.few, hQ.ok, hQ.gB, hQ.vg, hQ.vB, hQ.nz, hQ.xg, hQ.xv⟩, ho⟩, ?_⟩
 refine h.kept.trans (v' := v) ⟨hk.os, hk.tape, hk.output, hk.size, fun i hi h1 _ _ => hk.block i hi h1, fun j hj => hk.cell j (by omega), hk.fz⟩ (fun _ e => .inl e)
theorem PtG.rdC {w w1 : World} {g o B : Nat} {v : Value} {p : PtM} {out : List APkt} (h : PtG w w1 g o B v p out) : ∃ F, Cel w1 g (o + 2) 65 F ∧ RdF F p.rd.1 p.rd.2.1 p.rd.2.2 := by
 obtain ⟨vl, qs, hQ, ho⟩ := h.ex
 obtain ⟨F, hC, hF⟩ := hQ.cel
 refine ⟨F, (hC.sub 2 65 (by decide)).congr (fun j hj => ?_), hF⟩
 unfold ptF
 rw [if_neg (by omega), if_neg (by omega), if_pos (by omega), show 2 + j - 2 = j by omega]
set_option maxRecDepth 100000 in
set_option maxHeartbeats 2000000 in
theorem plug_port (up : Bool) (g o B : Nat) (v : Value) (p : PtM) (w : World) (h : PtR w g o B v p) (hT : TabOk w) (hn : p.out.length ≤ 800000000) :
 Calls Tryz.prog 73 #[.pointer (some ⟨g, o, none⟩), .bool up] w fun e w' => e = .returned (errV (p.plug up).2) ∧ WentP w w' g o B v (p.plug up).1 := by
 obtain ⟨ev, hev⟩ : ∃ ev : Int, (if up = true then (0 : Int) else 1) = ev := ⟨_, rfl⟩
 have hev01 : ev = 0 ∨ ev = 1 := by rw [← hev]; cases up <;> simp
 have c1 := h.c1
 have hl := h.lt
 by_cases hf : (doP p.L ev).2.2 = 0
 · have ep : p.plug up = (({ p with L := (doP p.L ev).1, rd := ([], false, false) } : PtM).say (doP p.L ev).2.1, 0) := by
    unfold PtM.plug
    rw [hev]
    simp only
    rw [if_neg (by simpa using hf)]
   rw [ep]
   have hd := h.begin.do_ hT (by simp) ev
   rw [hf] at hd
   have e0 : errV 0 = .nilIface := rfl
   rw [e0] at hd ⊢
   have hlen := doP_len p.L ev
   have hz := zeroRd.1
   have hZ := ZRd_size
   have HE : Hid _ := ep
   clear ep hf h
   cases up
   all_goals
    simp only [if_true, if_false, Bool.false_eq_true] at hev
    subst hev
    go_enter Tryz.func73, Tryz.ntmps73
    go_wp2_with (fail)
    refine hd.mono ?_
    rintro e w1 ⟨rfl, hG⟩
    obtain ⟨F, hC, hF⟩ := hG.rdC
    obtain ⟨k1, k2, k3⟩ := clear_rd hC
    have hs := (hG.read ([], false, false) ⟨zRd, k2, RdF.zero⟩ k3).say (by simp only [List.nil_append]; omega) hn
    obtain ⟨d1, dl⟩ := hG.ptr
    have dl2 : g < (w1.setCells g (o + 2) ZRd.toList).heap.size := Nat.lt_of_lt_of_le dl k3.size
    clear hd hG hC hF k2 k3
    go_wp2_with (fail)
    refine hs.mono ?_
    rintro e w3 ⟨rfl, hW⟩
    clear hs
    go_wp2_with (fail)
    go_ret
    exact ⟨rfl, hW⟩
 · have ep : p.plug up = (p, (doP p.L ev).2.2) := by
    unfold PtM.plug
    rw [hev]
    simp only
    rw [if_pos hf]
   rw [ep]
   have hd := do_err ev hev01 B _ p.L _ [] w hT (Rep.rest h.lk) hf
   have ee : errV (doP p.L ev).2.2 = .iface 128 (.int .i64 ((doP p.L ev).2.2 : Int)) := by simp only [errV]; rw [if_neg hf]
   simp only
   rw [ee]
   have HP : Hid _ := h
   clear ep hf h ee
   generalize (doP p.L ev).2.2 = f at hd ⊢
   cases up
   all_goals
    simp only [if_true, if_false, Bool.false_eq_true] at hev
    subst hev
    go_enter Tryz.func73, Tryz.ntmps73
    go_wp2_with (fail)
    refine hd.mono ?_
    rintro e w1 ⟨rfl, hb⟩
    clear hd
    go_wp2_with (fail)
    go_ret
    exact ⟨rfl, WentP.still HP.out hb⟩
end Rt
end Go.Proofs.YtieklnlbljejdaaGreatDoor

namespace Go.Proofs.YtieklnlbljejdaaGreatDoor
open Go.RowKit St
namespace Rt
theorem PtR.rest {w w1 : World} {g o B : Nat} {v : Value} {p : PtM} (h : PtR w g o B v p) (hb : Below w.heap.size w w1) : PtQ w1 g o B v p (fun k => k < w.heap.size) (.slice none 0 0) [] := by
 have h1 := h.below hb
 exact ⟨h1.cel, (Rep.rest h.lk).below hb, h1.ou, h.few, h.ok, h.gB, h.vg, h.vB, h.nz, h.lt, fun k hk => h.ou.lt k hk⟩
theorem PtR.take {w w1 : World} {g o B : Nat} {v : Value} {p : PtM} (h : PtR w g o B v p) (hb : Below w.heap.size w w1) (hT : TabOk w) (code id : Int) (a : Option Addr) (n cap : Nat) (os : List Opt) (ho : OptR w1 a n os) (hz : NilOk a cap) (hle : n ≤ cap) (hn : n ≤ 1000)
 (hnew : ∀ j, Value.ownBlock (.slice a n cap) = some j → w.heap.size ≤ j ∧ j < w1.heap.size) :
 Calls Tryz.prog 185 #[.pointer (some ⟨B, 0, none⟩), .agg #[.int .i64 code, .int .i64 id, .slice a n cap]] w1 fun e w' => e = .returned (errV (takeP p.L (code, id, os)).2.2) ∧ PtG w w' g o B v { p with L := (takeP p.L (code, id, os)).1 } (takeP p.L (code, id, os)).2.1 := by
 have hQ := h.rest hb
 have hpv : PvOk w1 (fun k => k < w.heap.size) (.slice none 0 0) ⟨code, id, a, n, cap, os⟩ := ⟨ho, hz, hle, hn, fun k hk => by
  have hk' : Value.ownBlock (.slice a n cap) = some k := optOwn_own hk
  obtain ⟨h1, h2⟩ := hnew k hk'
  exact ⟨by omega, by simp [Value.ownBlock], h2⟩⟩
 refine (take_all B _ p.L _ [] ⟨code, id, a, n, cap, os⟩ w1 (hT.below hb) hQ.nz.2.1 (by simp [Value.ownBlock]) hQ.rep hQ.ok.bd (by simp) hpv hQ.ok.m1 hQ.ok.m2).mono ?_
 rintro e w' ⟨rfl, hW⟩
 refine ⟨rfl, ?_⟩
 have h9 := PtG.went hQ rfl (KeptP.of_below o B v hb h.lt) hW (hQ.ok.takeP _)
 rw [List.map_nil, List.nil_append] at h9
 exact h9
set_option maxRecDepth 100000 in
set_option maxHeartbeats 2000000 in
theorem packet_port (s : ByteArray) (g o B : Nat) (v : Value) (p : PtM) (w : World) (h : PtR w g o B v p) (hT : TabOk w) (hs : s.size ≤ 1000) (hn : p.out.length ≤ 800000000) :
 Calls Tryz.prog 133 #[.pointer (some ⟨g, o, none⟩), .string s] w fun e w' => e = .returned (.tuple #[]) ∧ WentP w w' g o B v (p.packet s.data.toList) := by
 have hp := pkparse_any s w hs
 have HP : Hid _ := h
 clear h
 go_enter Tryz.func133, Tryz.ntmps133
 go_wp2_with (fail)
 refine hp.mono ?_
 rintro e w1 ⟨a, n, cap, f, code, id, os, rfl, ho, hle, hR, hb, hnew, hz⟩
 clear hp
 by_cases hf : f = 0
 · subst hf
   have e0 : errV 0 = .nilIface := rfl
   rw [e0]
   have hlo : os.length ≤ 1000 := by
    have h1 : pkParseR s.data.toList = (code, id, os, 0) := hR
    unfold pkParseR at h1
    split at h1
    · simp at h1
    · split at h1
      · rename_i h2
        have h3 : pkpairs (s.data.toList.drop 3) = os := (Prod.mk.inj (Prod.mk.inj (Prod.mk.inj h1).2).2).1
        rw [h3] at h2
        unfold packF at h2
        split at h2
        · simp at h2
        · split at h2
          · simp at h2
          · omega
      · simp at h1
   have hn1 : n ≤ 1000 := by have := ho.1; omega
   have ep : p.packet s.data.toList = ({ p with L := (takeP p.L (code, id, os)).1 } : PtM).say (takeP p.L (code, id, os)).2.1 := by
    unfold PtM.packet
    rw [hR]
    rfl
   have ba := below_alloc w1 (.cells #[.int .i64 code, .int .i64 id, .slice a n cap] 37)
   have hb2 := below_chain hb ba
   have hA := fun j => World.cell?_alloc_mark w1 #[.int .i64 code, .int .i64 id, .slice a n cap] 37 (0, 0) j
   have ht := HP.out.take (below_drew hb2) hT code id a n cap os (ho.below (below_drew ba)) hz hle hn1 (fun j hj => ⟨(hnew j hj).1, Nat.lt_of_lt_of_le (hnew j hj).2 ba.size⟩)
   have hlen := takeP_len p.L (code, id, os)
   obtain ⟨W2, hW2⟩ : ∃ W2, w1.alloc (.cells #[.int .i64 code, .int .i64 id, .slice a n cap] 37) = W2 := ⟨_, rfl⟩
   obtain ⟨Z, hZ⟩ : ∃ Z, w1.heap.size = Z := ⟨_, rfl⟩
   rw [hW2] at hb2 ht
   have d0 : W2.cell? ⟨Z, 0, none⟩ = some (.int .i64 code) := by rw [← hW2, ← hZ]; exact hA 0
   have d1' : W2.cell? ⟨Z, 1, none⟩ = some (.int .i64 id) := by rw [← hW2, ← hZ]; exact hA 1
   have d2 : W2.cell? ⟨Z, 2, none⟩ = some (.slice a n cap) := by rw [← hW2, ← hZ]; exact hA 2
   have zl : Z < W2.heap.size := World.block_lt_of_cell? W2 _ d0
   have d1 := (HP.out.below hb2).c1
   have dl := (HP.out.below hb2).lt
   have HE : Hid _ := ep
   have HW2 : Hid _ := hW2
   have HZ : Hid _ := hZ
   clear ep hR ho hnew hA hW2 hZ ba hb
   go_wp2_with (fail)
   rw [HW2.out, HZ.out]
   go_region_with (go_at_call 185; refine ht.mono ?_; rintro e w3 ⟨rfl, hG⟩)
   all_goals
    have hsy := hG.say (by omega) hn
    clear ht hG
    go_wp2_with (fail)
    refine hsy.mono ?_
    rintro e w4 ⟨rfl, hW⟩
    clear hsy
    go_wp2_with (fail)
    first | go_end0 | refine bodyPost_ret (results_none rfl _ _ _) rfl ?_
    refine ⟨rfl, ?_⟩
    rw [HE.out]
    exact hW
 · have ee : errV f = .iface 128 (.int .i64 (f : Int)) := by simp only [errV]; rw [if_neg hf]
   rw [ee]
   have ep : p.packet s.data.toList = p := by
    unfold PtM.packet
    rw [hR]
    simp only
    rw [if_neg hf]
   have HW : Hid (WentP w (w1.alloc (.cells #[.int .i64 code, .int .i64 id, .slice a n cap] 37)) g o B v (p.packet s.data.toList)) := by
    show WentP _ _ _ _ _ _ _
    rw [ep]
    exact WentP.still HP.out (below_chain hb (below_alloc _ _))
   clear ep hR ho hnew hf ee
   go_wp2_with (fail)
   first | go_end0 | refine bodyPost_ret (results_none rfl _ _ _) rfl ?_
   exact ⟨rfl, HW.out⟩
set_option maxRecDepth 100000 in
set_option maxHeartbeats 2000000 in
theorem putState_port (T : ByteArray) (c : UInt8) (own seq : Int) (a : Option Addr) (n cap : Nat) (es : List Opt) (g o B : Nat) (v : Value) (p : PtM) (w : World) (h : PtR w g o B v p) (hT : T.data.toList = [c]) (ho : OptR w a n es) (hf : stF own seq es = 0) (hn : p.out.length ≤ 800000000) :
 Calls Tryz.prog 152 #[.pointer (some ⟨g, o, none⟩), .string T, .agg #[.int .i64 own, .int .i64 seq, .slice a n cap]] w fun e w' => e = .returned (.tuple #[]) ∧ WentP w w' g o B v (p.put c (stB own seq es)) := by
 have hk := below_alloc w (.cells #[.int .i64 own, .int .i64 seq, .slice a n cap] 40)
 have hA := fun j => World.cell?_alloc_mark w #[.int .i64 own, .int .i64 seq, .slice a n cap] 40 (0, 0) j
 have hby := bytes_good own seq a n cap es _ (ho.below hk) hf
 have h6 := (stF_zero hf).2.2.1
 have hbl : (stB own seq es).length ≤ 100 := by
  have h1 : ∀ l : List Opt, (edB l).length = 2 * l.length := by
   intro l
   induction l with
   | nil => rfl
   | cons x l ih =>
     have e : edB (x :: l) = u8 x.1 :: u8 x.2 :: edB l := rfl
     rw [e]
     simp only [List.length_cons, ih]
     omega
  simp only [stB, List.length_cons, h1]
  omega
 obtain ⟨L, hL⟩ : ∃ L, stB own seq es = L := ⟨_, rfl⟩
 rw [hL] at hby hbl
 rw [hL]
 have HP : Hid _ := h
 clear h hL ho hf h6
 go_enter Tryz.func152, Tryz.ntmps152
 go_wp2_with (fail)
 refine hby.mono ?_
 rintro e w1 ⟨rfl, b1⟩
 have k1 := below_chain hk b1
 have hput := put_any g o B v p T ⟨L.toArray⟩ c w1 (HP.out.below k1) hT (by show L.toArray.size ≤ 1000; simp; omega) (by omega)
 have eL : (⟨L.toArray⟩ : ByteArray).data.toList = L := by simp
 rw [eL] at hput
 clear hby b1
 go_wp2_with (fail)
 refine hput.mono ?_
 rintro e w2 ⟨rfl, hW⟩
 clear hput
 go_wp2_with (fail)
 first | go_end0 | refine bodyPost_ret (results_none rfl _ _ _) rfl ?_
 exact ⟨rfl, WentP.trans (KeptP.of_below o B v k1 HP.out.lt) (fun _ e => .inl e) hW⟩
end Rt
end Go.Proofs.YtieklnlbljejdaaGreatDoor

namespace Go.Proofs.YtieklnlbljejdaaGreatDoor
open Go.RowKit St
namespace Rt
def msgC (l : List Msg) : List Value := l.flatMap fun t => [.int .i64 t.1, .int .i64 t.2.1, .string ⟨t.2.2.toArray⟩]
structure Zt where
 R : Nat
 g : Nat
 cap : Nat
 B : Nat → Nat
 v : Nat → Value
 Bb : Nat
 fm : FM
 iv : Value
def Zt.mine (z : Zt) (n k : Nat) : Prop := k = z.R ∨ k = z.g ∨ (∃ i, i < n ∧ (k = z.B i ∨ (z.v i).ownBlock = some k)) ∨ z.iv.ownBlock = some k
structure RtR (w : World) (z : Zt) (r : RtM) : Prop where
 n1 : 1 ≤ r.n
 n3 : r.n ≤ 3
 ncap : r.n ≤ z.cap
 id : 1 ≤ r.id ∧ r.id ≤ 6
 blk : Blk w z.R #[.int .i64 r.id, .slice (some ⟨z.g, 0, none⟩) r.n z.cap, .pointer (some ⟨z.Bb, 0, none⟩), z.iv, .int .i64 r.drop] 135
 pt : ∀ i, i < r.n → PtR w z.g (i * 71) (z.B i) (z.v i) (r.P i)
 ib : Row w 3 z.iv r.inb.length (msgC r.inb)
 bs : BR w z.Bb z.fm 6 r.K r.O
 bl : z.fm.bs.length = r.n
 no : ∀ k, z.mine r.n k → z.fm.no k
 nb : ¬ z.fm.no z.Bb ∧ ¬ z.fm.no z.fm.g ∧ ∀ b, (b = z.fm.bm ∨ b ∈ z.fm.bs) → ¬ z.fm.no b
 sR : z.R ≠ z.g ∧ z.R ≠ 0 ∧ ∀ i, i < r.n → z.B i ≠ z.R ∧ (z.v i).ownBlock ≠ some z.R
 sB : ∀ i j, i < r.n → j < r.n → i ≠ j → z.B i ≠ z.B j ∧ ∀ k, (z.v i).ownBlock = some k → (z.v j).ownBlock ≠ some k
 sV : ∀ i j, i < r.n → j < r.n → (z.v i).ownBlock ≠ some (z.B j)
 sI : ∀ k, z.iv.ownBlock = some k → k ≠ z.R ∧ k ≠ z.g ∧ ∀ i, i < r.n → k ≠ z.B i ∧ (z.v i).ownBlock ≠ some k
 nz0 : z.iv.ownBlock ≠ some 0 ∧ ∀ b, (b = z.fm.bm ∨ b ∈ z.fm.bs) → b ≠ 0
structure KeptZ (w w' : World) (z : Zt) (n : Nat) : Prop where
 os : w'.os = w.os
 tape : w'.tape = w.tape
 output : w'.output = w.output
 size : w.heap.size ≤ w'.heap.size
 block : ∀ k, k < w.heap.size → ¬ z.mine n k → k ≠ z.fm.bm → k ∉ z.fm.bs → w'.heap[k]? = w.heap[k]?
structure Zt.like (z z' : Zt) : Prop where
 R : z'.R = z.R
 g : z'.g = z.g
 cap : z'.cap = z.cap
 B : z'.B = z.B
 Bb : z'.Bb = z.Bb
 bm : z'.fm.bm = z.fm.bm
 fg : z'.fm.g = z.fm.g
 bs : z'.fm.bs = z.fm.bs
structure WentR (w w' : World) (z : Zt) (r : RtM) (n : Nat) : Prop where
 ex : ∃ z', RtR w' z' r ∧ z.like z' ∧ (∀ k, z'.mine n k → z.mine n k ∨ w.heap.size ≤ k) ∧ (∀ k, z.fm.no k → z'.fm.no k)
 kept : KeptZ w w' z n
def updW (v : Nat → Value) (i : Nat) (x : Value) : Nat → Value := fun j => if j = i then x else v j
theorem updW_same (v : Nat → Value) (i : Nat) (x : Value) : updW v i x i = x := by simp [updW]
theorem updW_other (v : Nat → Value) {i j : Nat} (x : Value) (h : j ≠ i) : updW v i x j = v j := by simp [updW, h]
theorem updP_same (P : Nat → PtM) (i : Nat) (p : PtM) : updP P i p i = p := by simp [updP]
theorem updP_other (P : Nat → PtM) {i j : Nat} (p : PtM) (h : j ≠ i) : updP P i p j = P j := by simp [updP, h]
theorem RtR.port {w w' : World} {z : Zt} {r : RtM} {i : Nat} {p : PtM} (h : RtR w z r) (hi : i < r.n) (hW : WentP w w' z.g (i * 71) (z.B i) (z.v i) p) : WentR w w' z (r.setP i p) r.n := by
 obtain ⟨⟨v', hP, hv⟩, hK⟩ := hW
 have hlt : ∀ k, z.mine r.n k → k < w.heap.size := fun k hk => h.bs.nob k (h.no k hk)
 have hgl := (h.pt i hi).lt
 have hin : ∀ k, k < w.heap.size → v'.ownBlock = some k → (z.v i).ownBlock = some k := fun k hk e => by
  rcases hv k e with e1 | e1
  · exact e1
  · omega
 have hmi : z.mine r.n z.g ∧ z.mine r.n (z.B i) ∧ ∀ k, (z.v i).ownBlock = some k → z.mine r.n k := ⟨.inr (.inl rfl), .inr (.inr (.inl ⟨i, hi, .inl rfl⟩)), fun k hk => .inr (.inr (.inl ⟨i, hi, .inr hk⟩))⟩
 have hoth : ∀ k, k < w.heap.size → ¬ z.mine r.n k → w'.heap[k]? = w.heap[k]? := fun k hk hm => hK.block k hk (fun e => hm (by rw [e]; exact hmi.1)) (fun e => hm (by rw [e]; exact hmi.2.1)) (fun e => hm (hmi.2.2 k e))
 have hbs := h.bs.still hK.size (fun j hj hn => hoth j hj (fun e => hn (h.no j e))) h.nb.1 h.nb.2.1 h.nb.2.2 (fun k => z.fm.no k ∨ (w.heap.size ≤ k ∧ k < w'.heap.size ∧ v'.ownBlock = some k)) (fun j hj => by
  rcases hj with e | e
  · exact .inl e
  · exact .inr e.1) (fun j hj => by
  rcases hj with e | e
  · exact Nat.lt_of_lt_of_le (h.bs.nob j e) hK.size
  · exact e.2.1)
 have hmlt : ∀ b, (b = z.fm.bm ∨ b ∈ z.fm.bs) → b < w.heap.size := h.bs.mlt
 have hBbl : z.Bb < w.heap.size := by obtain ⟨_, _, hF, _⟩ := h.bs.ex; exact hF.lt
 have hfgl : z.fm.g < w.heap.size := by obtain ⟨_, _, hF, _⟩ := h.bs.ex; exact hF.row.lt _ rfl
 refine ⟨⟨{ z with v := updW z.v i v', fm := { z.fm with no := fun k => z.fm.no k ∨ (w.heap.size ≤ k ∧ k < w'.heap.size ∧ v'.ownBlock = some k) } }, ⟨h.n1, h.n3, h.ncap, h.id, ?_, ?_, ?_, hbs, h.bl, ?_, ?_, ⟨h.sR.1, h.sR.2.1, ?_⟩, ?_, ?_, ?_, h.nz0⟩, ⟨rfl, rfl, rfl, rfl, rfl, rfl, rfl, rfl⟩, ?_, fun k hk => .inl hk⟩, ⟨hK.os, hK.tape, hK.output, hK.size, fun k hk hm _ _ => hoth k hk hm⟩⟩
 · exact h.blk.keep (hK.block z.R h.blk.lt h.sR.1 (fun e => (h.sR.2.2 i hi).1 e.symm) (h.sR.2.2 i hi).2)
 · intro j hj
   by_cases e : j = i
   · subst e
     show PtR w' z.g (j * 71) (z.B j) (updW z.v j v' j) (updP r.P j p j)
     rw [updW_same, updP_same]
     exact hP
   · show PtR w' z.g (j * 71) (z.B j) (updW z.v i v' j) (updP r.P i p j)
     rw [updW_other _ _ e, updP_other _ _ e]
     have hj0 := h.pt j hj
     obtain ⟨F, hC, hF⟩ := hj0.cel
     have hs := h.sB j i hj hi e
     refine ⟨⟨F, fun x hx => ⟨(hK.cell (j * 71 + x) ?_).trans (hC.cell x hx), (hK.fz _).trans (hC.fz x hx)⟩, hF⟩, hj0.lk.keep (hK.block (z.B j) hj0.lk.lt (fun e => hj0.gB e.symm) hs.1 (h.sV i j hi hj)), hj0.ou.keep hK.size (fun k hk => hK.block k (hj0.ou.lt k hk) (fun e => hj0.vg (by rw [hk, e])) (fun e => h.sV j i hj hi (by rw [hk, e])) (hs.2 k hk)), hj0.few, hj0.ok, hj0.gB, hj0.vg, hj0.vB, hj0.nz⟩
     rcases Nat.lt_or_gt_of_ne e with h1 | h1
     · exact .inl (by omega)
     · exact .inr (by omega)
 · exact h.ib.keep hK.size (fun k hk => hK.block k (h.ib.lt k hk) (h.sI k hk).2.1 ((h.sI k hk).2.2 i hi).1 ((h.sI k hk).2.2 i hi).2)
 · intro k hk
   rcases hk with e | e | ⟨j, hj, e | e⟩ | e
   · exact .inl (h.no k (.inl e))
   · exact .inl (h.no k (.inr (.inl e)))
   · exact .inl (h.no k (.inr (.inr (.inl ⟨j, hj, .inl e⟩))))
   · by_cases ej : j = i
     · subst ej
       have e' : v'.ownBlock = some k := by have := e; simp only [updW_same] at this; exact this
       rcases hv k e' with e1 | e1
       · exact .inl (h.no k (.inr (.inr (.inl ⟨j, hj, .inr e1⟩))))
       · exact .inr ⟨e1, hP.ou.lt k e', e'⟩
     · have e' : (z.v j).ownBlock = some k := by have := e; simp only [updW_other _ _ ej] at this; exact this
       exact .inl (h.no k (.inr (.inr (.inl ⟨j, hj, .inr e'⟩))))
   · exact .inl (h.no k (.inr (.inr (.inr e))))
 · refine ⟨fun e => ?_, fun e => ?_, fun b hb e => ?_⟩
   · rcases e with e | e
     · exact h.nb.1 e
     · have h8 : w.heap.size ≤ z.Bb := e.1
       omega
   · rcases e with e | e
     · exact h.nb.2.1 e
     · have h8 : w.heap.size ≤ z.fm.g := e.1
       omega
   · rcases e with e | e
     · exact h.nb.2.2 b hb e
     · have h9 := hmlt b hb
       omega
 · intro j hj
   refine ⟨(h.sR.2.2 j hj).1, ?_⟩
   by_cases ej : j = i
   · subst ej
     show (updW z.v j v' j).ownBlock ≠ _
     rw [updW_same]
     exact fun e => (h.sR.2.2 j hj).2 (hin _ h.blk.lt e)
   · show (updW z.v i v' j).ownBlock ≠ _
     rw [updW_other _ _ ej]
     exact (h.sR.2.2 j hj).2
 · intro a b ha hb hab
   refine ⟨(h.sB a b ha hb hab).1, fun k hk => ?_⟩
   show (updW z.v i v' b).ownBlock ≠ some k
   have hk' : (updW z.v i v' a).ownBlock = some k := hk
   by_cases ea : a = i
   · subst ea
     rw [updW_same] at hk'
     rw [updW_other _ _ (fun e => hab e.symm)]
     intro e
     have hkl := (h.pt b hb).ou.lt k e
     exact (h.sB a b ha hb hab).2 k (hin k hkl hk') e
   · rw [updW_other _ _ ea] at hk'
     by_cases eb : b = i
     · subst eb
       rw [updW_same]
       intro e
       have hkl := (h.pt a ha).ou.lt k hk'
       exact (h.sB a b ha hb hab).2 k hk' (hin k hkl e)
     · rw [updW_other _ _ eb]
       exact (h.sB a b ha hb hab).2 k hk'
 · intro a b ha hb
   show (updW z.v i v' a).ownBlock ≠ some (z.B b)
   by_cases ea : a = i
   · subst ea
     rw [updW_same]
     exact fun e => h.sV a b ha hb (hin _ (h.pt b hb).lk.lt e)
   · rw [updW_other _ _ ea]
     exact h.sV a b ha hb
 · intro k hk
   obtain ⟨h1, h2, h3⟩ := h.sI k hk
   refine ⟨h1, h2, fun j hj => ⟨(h3 j hj).1, ?_⟩⟩
   show (updW z.v i v' j).ownBlock ≠ some k
   by_cases ej : j = i
   · subst ej
     rw [updW_same]
     exact fun e => (h3 j hj).2 (hin k (h.ib.lt k hk) e)
   · rw [updW_other _ _ ej]
     exact (h3 j hj).2
 · intro k hk
   rcases hk with e | e | ⟨j, hj, e | e⟩ | e
   · exact .inl (.inl e)
   · exact .inl (.inr (.inl e))
   · exact .inl (.inr (.inr (.inl ⟨j, hj, .inl e⟩)))
   · by_cases ej : j = i
     · subst ej
       have e' : v'.ownBlock = some k := by have := e; simp only [updW_same] at this; exact this
       rcases hv k e' with e1 | e1
       · exact .inl (.inr (.inr (.inl ⟨j, hj, .inr e1⟩)))
       · exact .inr e1
     · have e' : (z.v j).ownBlock = some k := by have := e; simp only [updW_other _ _ ej] at this; exact this
       exact .inl (.inr (.inr (.inl ⟨j, hj, .inr e'⟩)))
   · exact .inl (.inr (.inr (.inr e)))
end Rt
end Go.Proofs.YtieklnlbljejdaaGreatDoor

namespace Go.Proofs.YtieklnlbljejdaaGreatDoor
open Go.RowKit St
namespace Rt
structure PeOk (id : Int) (q : PeerM) : Prop where
 who : 0 ≤ q.who ∧ q.who ≤ 6
 me : q.who ≠ id
 both : q.both = true → 1 ≤ q.who
 left : 0 ≤ q.left ∧ q.left ≤ 4
def KOk (K : Int → Option PS) : Prop := ∀ x, (K x).isSome = true → 1 ≤ x ∧ x ≤ 6
theorem KOk.upd {K : Int → Option PS} (h : KOk K) {k : Int} (hk : 1 ≤ k ∧ k ≤ 6) (q : PS) : KOk (updF K k q) := fun x hx => by
 unfold updF at hx
 split at hx
 · omega
 · exact h x hx
structure ROk (r : RtM) : Prop where
 id : 1 ≤ r.id ∧ r.id ≤ 6
 m : ∀ i, i < r.n → 1 ≤ (r.P i).m ∧ (r.P i).m ≤ 20
 pe : ∀ i, i < r.n → PeOk r.id (r.P i).pe
 own : ∃ q, r.K r.id = some q ∧ stF r.id q.1 q.2 = 0
 rng : KOk r.K
theorem PeOk.nobody {id : Int} (h : 1 ≤ id) : PeOk id Rt.nobody := ⟨⟨by decide, by decide⟩, fun e => (by have e2 : (0 : Int) = id := e; omega), fun e => absurd e (by decide), ⟨by decide, by decide⟩⟩
theorem PeOk.tick {id : Int} {q : PeerM} (hi : 1 ≤ id) (h : PeOk id q) : PeOk id (peerTick q) := by
 unfold peerTick
 split
 · exact PeOk.nobody hi
 · exact ⟨h.who, h.me, h.both, by have := h.left; simp; omega⟩
theorem PeOk.hear {id f s : Int} (hi : 1 ≤ id) (hf : 1 ≤ f ∧ f ≤ 6) : PeOk id (peerHear id f s) := by
 unfold peerHear
 split
 · exact PeOk.nobody hi
 · rename_i h
   exact ⟨by simp; omega, by simpa using h, fun _ => by simp; omega, by simp⟩
def bestC (P : Nat → PtM) (n : Int) (k : Nat) : Prop := (P k).pe.both = true ∧ (P k).pe.who = n ∧ (match bestP P n k with | none => true | some b => decide ((P k).m < (P b).m)) = true
instance (P : Nat → PtM) (n : Int) (k : Nat) : Decidable (bestC P n k) := by unfold bestC; infer_instance
theorem bestP_yes {P : Nat → PtM} {n : Int} {k : Nat} (h : bestC P n k) : bestP P n (k + 1) = some k := by
 unfold bestP
 exact if_pos h
theorem bestP_no {P : Nat → PtM} {n : Int} {k : Nat} (h : ¬ bestC P n k) : bestP P n (k + 1) = bestP P n k := by
 have : bestP P n (k + 1) = if bestC P n k then some k else bestP P n k := by
  rw [bestP]
  by_cases hc : bestC P n k
  · rw [if_pos hc]; exact if_pos hc
  · rw [if_neg hc]; exact if_neg hc
 rw [this, if_neg h]
theorem bestP_some {P : Nat → PtM} {n : Int} : ∀ {k b : Nat}, bestP P n k = some b → b < k ∧ (P b).pe.both = true ∧ (P b).pe.who = n
 | 0, b, h => by simp [bestP] at h
 | k + 1, b, h => by
   by_cases hc : bestC P n k
   · rw [bestP_yes hc] at h
     have := Option.some.inj h
     subst this
     exact ⟨by omega, hc.1, hc.2.1⟩
   · rw [bestP_no hc] at h
     have := bestP_some h
     exact ⟨by omega, this.2⟩
def edgesFrom (r : RtM) (j n : Nat) : List Opt := (List.range' j n).filterMap fun (j : Nat) => (bestP r.P ((j : Int) + 1) r.n).map fun b => ((j : Int) + 1, (r.P b).m)
theorem edgesM_from (r : RtM) : edgesM r = edgesFrom r 0 6 := by unfold edgesM edgesFrom; rw [List.range_eq_range']
theorem edgesFrom_ok {r : RtM} (h : ROk r) : ∀ (n j : Nat) (ah : Int), ah ≤ j → j + n ≤ 6 → edgF r.id ah (edgesFrom r j n) = 0 ∧ (edgesFrom r j n).length ≤ n
 | 0, j, ah, _, _ => by simp [edgesFrom, edgF]
 | n + 1, j, ah, h1, h2 => by
   have ih := edgesFrom_ok h n (j + 1) ((j : Int) + 1) (by omega) (by omega)
   have ih2 := edgesFrom_ok h n (j + 1) ah (by omega) (by omega)
   have e : edgesFrom r j (n + 1) = (match bestP r.P ((j : Int) + 1) r.n with | none => edgesFrom r (j + 1) n | some b => ((j : Int) + 1, (r.P b).m) :: edgesFrom r (j + 1) n) := by
    unfold edgesFrom
    rw [List.range'_succ, List.filterMap_cons]
    cases bestP r.P ((j : Int) + 1) r.n <;> simp
   cases hb : bestP r.P ((j : Int) + 1) r.n with
   | none =>
     rw [hb] at e
     simp only at e
     rw [e]
     exact ⟨ih2.1, by omega⟩
   | some b =>
     rw [hb] at e
     simp only at e
     rw [e]
     obtain ⟨hbn, hbb, hbw⟩ := bestP_some hb
     have hm := h.m b hbn
     have hpe := h.pe b hbn
     have hme := hpe.me
     rw [hbw] at hme
     refine ⟨?_, by simp; omega⟩
     unfold edgF
     rw [if_neg (by simp only; omega)]
     simp only
     first
      | exact ih.1
      | (rw [if_neg (by omega)]; exact ih.1)
      | (rw [if_neg (by omega), if_neg (by omega)]; exact ih.1)
theorem edges_ok {r : RtM} (h : ROk r) {seq : Int} (hs : 1 ≤ seq ∧ seq ≤ 1000000) : stF r.id seq (edgesM r) = 0 := by
 have he := edgesFrom_ok h 6 0 0 (by omega) (by omega)
 rw [← edgesM_from] at he
 have hid := h.id
 unfold stF
 rw [if_neg (by omega), if_neg (by omega)]
 exact he.1
theorem ROk.setP {r : RtM} (h : ROk r) (i : Nat) (p : PtM) (hm : p.m = (r.P i).m) (hp : i < r.n → PeOk r.id p.pe) : ROk (r.setP i p) := by
 refine ⟨h.id, fun j hj => ?_, fun j hj => ?_, h.own, h.rng⟩
 · show 1 ≤ (updP r.P i p j).m ∧ (updP r.P i p j).m ≤ 20
   by_cases e : j = i
   · subst e; simp only [updP, if_true]; rw [hm]; exact h.m j hj
   · simp only [updP, if_neg e]; exact h.m j hj
 · show PeOk r.id (updP r.P i p j).pe
   by_cases e : j = i
   · subst e; simp only [updP, if_true]; exact hp hj
   · simp only [updP, if_neg e]; exact h.pe j hj
theorem ROk.behind {r : RtM} (h : ROk r) {seq : Int} (hs : 0 ≤ seq) : ROk (r.behind seq) := by
 unfold RtM.behind
 split
 · refine ⟨h.id, h.m, h.pe, ⟨(seq + 1, edgesM r), by simp [RtM.setOwn, updF], edges_ok h (by omega)⟩, h.rng.upd h.id _⟩
 · exact h
theorem ROk.seq {r : RtM} (h : ROk r) : 1 ≤ seqK r.K r.id ∧ seqK r.K r.id ≤ 1000000 := by
 obtain ⟨q, hq, hs⟩ := h.own
 have := (stF_zero hs).2.1
 unfold seqK
 rw [hq]
 exact this
theorem ROk.change {r : RtM} (h : ROk r) : ROk r.change := by
 unfold RtM.change
 split
 · exact h
 · exact h.behind (by have := h.seq; omega)
theorem ROk.congrO {r : RtM} (h : ROk r) (O' : Nat → Int → Option PS) : ROk { r with O := O' } := ⟨h.id, h.m, h.pe, h.own, h.rng⟩
theorem ROk.meet {r : RtM} (h : ROk r) (i : Nat) {q : PeerM} (hq : PeOk r.id q) : ROk (r.meet i q) := by
 have h1 : ROk (r.setP i { r.P i with pe := q }) := h.setP i _ rfl (fun _ => hq)
 unfold RtM.meet
 simp only
 split
 · exact h1
 · split
   · exact (h1.congrO _).change.congrO _
   · exact (h1.congrO _).change
end Rt
end Go.Proofs.YtieklnlbljejdaaGreatDoor

namespace Go.Proofs.YtieklnlbljejdaaGreatDoor
open Go.RowKit St
namespace Rt
theorem putE_cons (C : Grid) (o : Nat) (e : Opt) (es : List Opt) : putE C o (e :: es) = putE (updG C o e.1.toNat e.2) o es := rfl
theorem putE_at (o : Nat) (own : Int) (x y : Nat) : ∀ (es : List Opt) (ah : Int) (C : Grid), edgF own ah es = 0 → putE C o es x y = if x = o then ((es.find? fun e => e.1 == (y : Int)).map (·.2)).getD (C x y) else C x y
 | [], _, C, _ => by
   show C x y = _
   split <;> simp
 | e :: es, ah, C, h => by
   unfold edgF at h
   split at h
   · simp at h
   · rename_i h1
     split at h
     · simp at h
     · rw [putE_cons, putE_at o own x y es e.1 _ h]
       by_cases hx : x = o
       · rw [if_pos hx, if_pos hx, List.find?_cons]
         by_cases hy : e.1 = (y : Int)
         · have e1 : (e.1 == (y : Int)) = true := by simp [hy]
           rw [e1]
           have hn : es.find? (fun e => e.1 == (y : Int)) = none := by
            rw [List.find?_eq_none]
            intro f hf
            have := edgF_gt own es e.1 h f hf
            simp
            omega
           rw [hn]
           simp only [Option.map_none, Option.getD_none, Option.map_some, Option.getD_some, updG]
           rw [if_pos ⟨hx, by omega⟩]
         · have e1 : (e.1 == (y : Int)) = false := by simp [hy]
           rw [e1]
           have : updG C o e.1.toNat e.2 x y = C x y := by
            simp only [updG]
            rw [if_neg (by omega)]
           rw [this]
       · rw [if_neg hx, if_neg hx]
         simp only [updG]
         rw [if_neg (by omega)]
where
 edgF_gt (own : Int) : ∀ (es : List Opt) (ah : Int), edgF own ah es = 0 → ∀ f ∈ es, ah < f.1
  | [], _, _, f, hf => by simp at hf
  | e :: es, ah, h, f, hf => by
    unfold edgF at h
    split at h
    · simp at h
    · split at h
      · simp at h
      · rcases List.mem_cons.1 hf with rfl | hf
        · omega
        · have := edgF_gt own es e.1 h f hf
          omega
def gAt (es : List Opt) (y : Nat) : Int := ((es.find? fun e => e.1 == (y : Int)).map (·.2)).getD 0
theorem tellF_at {K : Int → Option PS} {n : Nat} {S : Nat → SV} {E : Nat → List Opt} (h : Lists K n S E) (x y : Nat) : ∀ k, k ≤ n → (∀ j, j < k → (S j).own = (x : Int) → tellF S E k x y = gAt (E j) y) ∧ ((∀ j, j < k → (S j).own ≠ (x : Int)) → tellF S E k x y = 0)
 | 0, _ => ⟨fun j hj => by omega, fun _ => rfl⟩
 | k + 1, hk => by
   have ih := tellF_at h x y k (by omega)
   have hst := h.ok k (by omega)
   obtain ⟨ho, _, _, he⟩ := stF_zero hst
   have e1 : tellF S E (k + 1) x y = if x = (S k).own.toNat then (((E k).find? fun e => e.1 == (y : Int)).map (·.2)).getD (tellF S E k x y) else tellF S E k x y := putE_at (S k).own.toNat (S k).own x y (E k) 0 (tellF S E k) he
   rw [e1]
   by_cases hx : x = (S k).own.toNat
   · rw [if_pos hx]
     have hz : tellF S E k x y = 0 := ih.2 (fun j hj e => by
      have := h.ris j k hj (by omega)
      omega)
     rw [hz]
     refine ⟨fun j hj hs => ?_, fun hn => absurd (by omega) (hn k (by omega))⟩
     by_cases hjk : j = k
     · subst hjk; rfl
     · have := h.ris j k (by omega) (by omega)
       omega
   · rw [if_neg hx]
     refine ⟨fun j hj hs => ?_, fun hn => ih.2 (fun j hj => hn j (by omega))⟩
     by_cases hjk : j = k
     · subst hjk; omega
     · exact ih.1 j (by omega) hs
theorem Lists.grid {K : Int → Option PS} {n : Nat} {S : Nat → SV} {E : Nat → List Opt} (h : Lists K n S E) (hK : KOk K) : tellF S E n = gridK K := by
 funext x y
 have ha := tellF_at h x y n (Nat.le_refl _)
 unfold gridK
 cases hk : K (x : Int) with
 | none =>
   simp only
   refine ha.2 (fun j hj e => ?_)
   have := (h.at_ j hj).2
   rw [e, hk] at this
   cases this
 | some q =>
   simp only
   have hr := hK x (by rw [hk]; rfl)
   obtain ⟨j, hj, ho⟩ := h.all x ⟨by omega, by omega⟩ (by rw [hk]; rfl)
   rw [ha.1 j hj ho]
   have := (h.at_ j hj).2
   rw [ho, hk] at this
   have := (Prod.mk.inj (Option.some.inj this)).2
   unfold gAt
   rw [← this]
end Rt
end Go.Proofs.YtieklnlbljejdaaGreatDoor
