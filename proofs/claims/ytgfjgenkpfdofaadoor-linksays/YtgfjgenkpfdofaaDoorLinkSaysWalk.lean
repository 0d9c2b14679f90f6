/-
  'LinkSays' returns true at all numbers and acts, and changes nothing that was there.
-/
import Derived.Test.YtgfjgenkpfdofaaDoorLinkJoint
import Derived.Deep.DeepCutAuto
import Derived.Deep.CutBlock
import Derived.BigQuiet
namespace Go.Proofs.YtgfjgenkpfdofaaDoor
open Go.RowKit St
namespace linkSays
theorem kept_blk {w x : World} {B Y : Nat} {C : Array Value} {t : TypeId} (k : Kept w x B none) (h : Blk w Y C t) (hne : Y ≠ B) : Blk x Y C t := h.keep (k.block Y h.lt hne (by simp))
theorem tab_of {w W : World} (hT : TabOk w) (b : Below w.heap.size w W) : TabOk W := hT.below b
theorem OptR_lt {w : World} {a : Option Addr} {n k : Nat} {os : List Opt} (h : OptR w a n os) (hk : optOwn a n = some k) : k < w.heap.size := by
  unfold optOwn at hk
  split at hk
  · cases hk
  · rename_i h0
    rcases h.2 with h1 | ⟨b, off, rfl, hc⟩
    · exact absurd h1 h0
    · have : b = k := by simpa using hk
      subst this
      exact World.block_lt_of_cell? w _ (hc 0 (by have := h.1; omega)).1
set_option maxRecDepth 100000 in
set_option maxHeartbeats 8000000 in
theorem walk (size magic : Int) (a : Option Addr) (n cap : Nat) (V : Nat → AV) (E : Nat → List Opt) (w : World) (hT : TabOk w) (h : ActsR w a n V E) :
    Calls Tryd.prog 3 #[.int .i64 size, .int .i64 magic, .slice a n cap] w fun e w' => e = .returned (.bool true) ∧ Below w.heap.size w w' := by
  have h0 := links_any w hT
  go_enter Tryd.func3, Tryd.ntmps3
  go_wp2_with (fail)
  refine h0.mono ?_
  rintro e w1 ⟨rfl, b1⟩
  clear h0
  have hl := lightActs_all a n cap V E 60 w1 (h.below b1) (by decide)
  go_wp2_with (fail)
  refine hl.mono ?_
  rintro e w2 ⟨⟨b, rfl, hb⟩, b2⟩
  have hb2 := below_chain b1 b2
  clear hl b1 b2
  cases b
  · clear hb
    go_wp2_with (fail)
    go_ret
    exact ⟨rfl, hb2⟩
  obtain ⟨hn60, hn9⟩ := hb rfl
  clear hb
  by_cases hbad : size < 40 ∨ 255 < size ∨ magic < 1 ∨ 255 < magic
  · have hn1 := lnew_out size magic w2 hbad
    go_wp2_with (fail)
    refine hn1.mono ?_
    rintro e w3 ⟨rfl, b3⟩
    have hn2 := rnew_out size magic w3 hbad
    have hs := same_ok 1 w3
    have e1 : errV 1 = .iface 61 (.int .i64 1) := rfl
    rw [e1] at hs
    clear hn1 hbad
    go_wp2_with (fail)
    refine hn2.mono ?_
    rintro e w4 ⟨rfl, rfl⟩
    clear hn2
    go_wp2_with (fail)
    refine hs.mono ?_
    rintro e w4 ⟨rfl, rfl⟩
    clear hs
    go_wp2_with (fail)
    go_ret
    exact ⟨rfl, below_chain hb2 b3⟩
  have g1 : ¬ size < 40 := fun e => hbad (.inl e)
  have g2 : ¬ 255 < size := fun e => hbad (.inr (.inl e))
  have g3 : ¬ magic < 1 := fun e => hbad (.inr (.inr (.inl e)))
  have g4 : ¬ 255 < magic := fun e => hbad (.inr (.inr (.inr e)))
  have hn1 := lnew_in size magic w2 g1 g2 g3 g4
  go_wp2_with (fail)
  refine hn1.mono ?_
  rintro e w3 ⟨B, rfl, hLk, hBs, b3⟩
  have hn2 := rnew_in size magic w3 (by omega) (by omega) (by omega) (by omega)
  clear hn1
  go_wp2_with (fail)
  refine hn2.mono ?_
  rintro e w4 ⟨M, rfl, hBk, hMs, b4⟩
  clear hn2
  have hB0 : B ≠ 0 := by have := hT.lt; have := hb2.size; omega
  have HT0 : Hid (∃ s ak, Both w w4 B M s ak) := by
    refine ⟨freshL size magic, .slice none 0 0, ⟨?_, hBk, ⟨⟨none, 0, 0, rfl, OptR.nil _ _, fun _ => rfl, Nat.le_refl _, Nat.zero_le _⟩, fun k hk => by simp [Value.ownBlock] at hk⟩, fun k hk => by simp [Value.ownBlock] at hk, freshL_ok (by omega) (by omega), ?_, ?_, ?_, below_chain hb2 (below_chain b3 b4)⟩⟩
    · have : Lk w3 B ((freshL size magic).c (.slice none 0 0)) := hLk
      exact this.below b4
    · have := hLk.lt; omega
    · exact Nat.le_trans hb2.size hBs
    · exact Nat.le_trans hb2.size (Nat.le_trans b3.size hMs)
  clear hLk hBk hBs hMs b3 b4 hb2 g1 g2 g3 g4 hbad
  have HH : Hid _ := h
  have H9 : Hid _ := hn9
  have HTab : Hid _ := hT
  clear h hn9 hT
  go_wp2_with (fail)
  go_loopw [12] (fun i wr => ∃ (k : Nat) (s : LS) (ak : Value), k ≤ n ∧ i = .int .i64 k ∧ Both w wr B M s ak) (fun i _ => n - (intOf i).toNat)
  case atStart =>
    obtain ⟨s, ak, hh⟩ := HT0.out
    exact ⟨0, s, ak, Nat.zero_le _, rfl, hh⟩
  case round =>
    clear HT0
    obtain ⟨k, s, ak, hk, rfl, hTw⟩ := hrel
    by_cases hlt : k < n
    · have hlt' : (k : Int) < (n : Int) := by omega
      obtain ⟨pos, hpo, hpz, hpc⟩ := HH.out.pk k hlt
      obtain ⟨_, hp12, _⟩ := H9.out k hlt
      have hrow := HH.out.row
      rcases hrow with h1 | ⟨ab, off, rfl, hcs⟩
      · omega
      have hat := (hcs k hlt).below hTw.bel
      obtain ⟨v, hv⟩ : ∃ v, V k = v := ⟨_, rfl⟩
      rw [hv] at hat hpo hpz hpc hp12
      clear hv hcs
      obtain ⟨vk, va, vb, vc, vd, vs, vpc, vpi, vpo, vpn, vpcap, vx⟩ := v
      obtain ⟨xo, xq, xa, xn, xc⟩ := vx
      simp only at hpo hpz hpc hp12
      obtain ⟨c0, c1, c2, c3, c4, c5, c6, c7, c8, c9, c10, c11⟩ := hat
      simp only at c0 c1 c2 c3 c4 c5 c6 c7 c8 c9 c10 c11
      have HTw : Hid _ := hTw
      have HPO : Hid (OptR w vpo vpn pos) := hpo
      have HPZ : Hid _ := hpz
      have HPC : Hid _ := hpc
      clear hTw hpo hpz hpc
      go_upto_block 2 with fail
      obtain ⟨W5, hW5⟩ : ∃ W5, wr.alloc (.cells #[.string vk, .int .i64 va, .int .i64 vb, .int .i64 vc, .int .i64 vd, .string vs, .int .i64 vpc, .int .i64 vpi, .slice vpo vpn vpcap, .int .i64 xo, .int .i64 xq, .slice xa xn xc] 41) = W5 := ⟨_, rfl⟩
      have hX5 : Blk W5 wr.heap.size #[.string vk, .int .i64 va, .int .i64 vb, .int .i64 vc, .int .i64 vd, .string vs, .int .i64 vpc, .int .i64 vpi, .slice vpo vpn vpcap, .int .i64 xo, .int .i64 xq, .slice xa xn xc] 41 := by rw [← hW5]; exact Blk.new _ _ _
      have k5 : Below wr.heap.size wr W5 := by rw [← hW5]; exact below_alloc _ _
      rw [hW5]
      have HT5 : Hid (Both w W5 B M s ak) := HTw.out.below k5
      have hBl := HTw.out.l.lt
      have hMl := HTw.out.m.lt
      obtain ⟨X, hXe⟩ : ∃ X, wr.heap.size = X := ⟨_, rfl⟩
      rw [hXe] at hX5 hBl hMl
      rw [hXe]
      have xB : X ≠ B := by omega
      have xM : X ≠ M := by omega
      clear hW5 c0 c1 c2 c3 c4 c5 c6 c7 c8 c9 c10 c11
      clear hXe k5 hMl hBl
      obtain ⟨st, hst⟩ : ∃ st : Nat, s.st = st := ⟨s.st.toNat, by have := HTw.out.ok.st; omega⟩
      have hst10 : st < 10 := by have := HTw.out.ok.st; omega
      have HST : Hid (s.st = st) := hst
      clear hst HTw
      go_cut [14] (fun v wx => v = .bool true ∧ ∃ s7 ak7 v1 v2 q1 q2, Fork w wx B M s7 ak7 v1 v2 q1 q2)
      case first =>
        have c0 : W5.cell? ⟨X, 0, none⟩ = some (.string vk) := hX5.cell 0
        have c1 : W5.cell? ⟨X, 1, none⟩ = some (.int .i64 va) := hX5.cell 1
        have c6 : W5.cell? ⟨X, 6, none⟩ = some (.int .i64 vpc) := hX5.cell 6
        have c7 : W5.cell? ⟨X, 7, none⟩ = some (.int .i64 vpi) := hX5.cell 7
        have c8 : W5.cell? ⟨X, 8, none⟩ = some (.slice vpo vpn vpcap) := hX5.cell 8
        have xl := hX5.lt
        cases hk1 : (vk.toList == [100, 111])
        case true =>
          have HD : Hid (Both w W5.drew B M s ak) := HT5.out.below (below_drew (Below.refl _ _))
          have hc := do_all va B _ s _ [] W5.drew (tab_of HTab.out HD.out.bel) HD.out.rl HD.out.ok.bd (by simp)
          have hX5d : Blk W5.drew X #[.string vk, .int .i64 va, .int .i64 vb, .int .i64 vc, .int .i64 vd, .string vs, .int .i64 vpc, .int .i64 vpi, .slice vpo vpn vpcap, .int .i64 xo, .int .i64 xq, .slice xa xn xc] 41 := hX5
          have F0 : W5.drew.cell? ⟨X, 0, none⟩ = some (.string vk) ∧ W5.drew.cell? ⟨X, 1, none⟩ = some (.int .i64 va) := ⟨c0, c1⟩
          go_upto_region 23 with fail
          go_region_held3 (fun x => x.cell? ⟨X, 0, none⟩ = some (.string vk) ∧ x.cell? ⟨X, 1, none⟩ = some (.int .i64 va))
            (first | assumption | exact F0 | exact F1 | exact F2)
            (first
              | (go_at_call 9; refine hc.mono ?_; rintro e w6 ⟨rfl, hW6⟩; have X6 := kept_blk hW6.kept hX5d xB; have F1 : w6.cell? ⟨X, 0, none⟩ = some (.string vk) ∧ w6.cell? ⟨X, 1, none⟩ = some (.int .i64 va) := ⟨X6.cell 0, X6.cell 1⟩)
              | (go_at_call 10; refine (rdo_all va M _ s ak st w6 (HD.out.rm hW6) HD.out.ok.bd HST.out hst10).mono ?_; rintro e w7 ⟨rfl, hW7⟩; have X7 := kept_blk hW7.kept X6 xM; have F2 : w7.cell? ⟨X, 0, none⟩ = some (.string vk) ∧ w7.cell? ⟨X, 1, none⟩ = some (.int .i64 va) := ⟨X7.cell 0, X7.cell 1⟩)
              | (go_at_call 8; refine (same_ok _ _).mono ?_; rintro e w77 ⟨rfl, rfl⟩))
          all_goals
            have HF7 : Hid _ := HD.out.fork hW6 hW7 (HD.out.ok.doP va) (doP_len s va)
            clear F0 F1 F2 hc hW6 hW7 X6 X7
            go_wp2_with (fail)
            go_meet
            obtain ⟨ak7, v1, v2, q1, q2, hF⟩ := HF7.out
            exact ⟨rfl, _, ak7, v1, v2, q1, q2, hF⟩
        case false =>
          cases hk2 : (vk.toList == [116, 105, 99, 107])
          case true =>
            have hwt := HT5.out.ok.wt
            have hc := tick_rep B _ s _ [] W5 (tab_of HTab.out HT5.out.bel) hB0 (by simp [Value.ownBlock]) HT5.out.rl HT5.out.ok.bd (by simp) (by omega) (by omega)
            go_wp2_with (fail)
            refine hc.mono ?_
            rintro e w6 ⟨rfl, hW6⟩
            have hc2 := rtick_all M _ s ak st w6 (HT5.out.rm hW6) HT5.out.ok.bd HST.out hst10 (by omega) (by omega)
            clear hc
            go_wp2_with (fail)
            refine hc2.mono ?_
            rintro e w7 ⟨rfl, hW7⟩
            have HF7 : Hid _ := HT5.out.fork hW6 hW7 HT5.out.ok.tick (tickO_len s)
            clear hc2 hW6 hW7
            go_wp2_with (fail)
            go_meet
            obtain ⟨ak7, v1, v2, q1, q2, hF⟩ := HF7.out
            exact ⟨rfl, _, ak7, v1, v2, q1, q2, hF⟩
          case false =>
            cases ha1 : (va == 1)
            case false =>
              go_upto_region 21 with fail
              obtain ⟨W8, hW8⟩ : ∃ W8, W5.alloc (.cells #[.int .i64 vpc, .int .i64 vpi, .slice vpo vpn vpcap] 36) = W8 := ⟨_, rfl⟩
              have hPB : Blk W8 W5.heap.size #[.int .i64 vpc, .int .i64 vpi, .slice vpo vpn vpcap] 36 := by rw [← hW8]; exact Blk.new _ _ _
              have k8 : Below W5.heap.size W5 W8 := by rw [← hW8]; exact below_alloc _ _
              rw [hW8]
              clear hW8
              have PB : Blk W8 W5.heap.size #[.int .i64 vpc, .int .i64 vpi, .slice vpo vpn vpcap] 36 := hPB
              obtain ⟨P, hPe⟩ : ∃ P, W5.heap.size = P := ⟨_, rfl⟩
              have pB : P ≠ B := by have := HT5.out.l.lt; omega
              have pM : P ≠ M := by have := HT5.out.m.lt; omega
              rw [hPe] at PB
              rw [hPe]
              clear hPe hPB
              have HD : Hid (Both w W8.drew B M s ak) := HT5.out.below (below_drew k8)
              have PO : OptR W8.drew vpo vpn pos := HPO.out.below HD.out.bel
              have hpv : PvOk W8.drew (fun j => j = B ∨ j = M) (.slice none 0 0) ⟨vpc, vpi, vpo, vpn, vpcap, pos⟩ := ⟨PO, HPZ.out, HPC.out, by show vpn ≤ 1000; omega, fun j hj => ⟨fun e => by have := OptR_lt HPO.out hj; have := HD.out.bB; have := HD.out.bM; omega, by simp [Value.ownBlock], OptR_lt PO hj⟩⟩
              have hc := take_all B _ s _ [] ⟨vpc, vpi, vpo, vpn, vpcap, pos⟩ W8.drew (tab_of HTab.out HD.out.bel) hB0 (by simp [Value.ownBlock]) HD.out.rl HD.out.ok.bd (by simp) hpv HD.out.ok.m1 HD.out.ok.m2
              have hab : PV.abs ⟨vpc, vpi, vpo, vpn, vpcap, pos⟩ = (vpc, vpi, pos) := rfl
              rw [hab] at hc
              have hPd : Blk W8.drew P #[.int .i64 vpc, .int .i64 vpi, .slice vpo vpn vpcap] 36 := PB
              have e0 : W8.cell? ⟨P, 0, none⟩ = some (.int .i64 vpc) := PB.cell 0
              have e1 : W8.cell? ⟨P, 1, none⟩ = some (.int .i64 vpi) := PB.cell 1
              have e2 : W8.cell? ⟨P, 2, none⟩ = some (.slice vpo vpn vpcap) := PB.cell 2
              have pl := PB.lt
              have F0 : W8.drew.cell? ⟨P, 0, none⟩ = some (.int .i64 vpc) ∧ W8.drew.cell? ⟨P, 1, none⟩ = some (.int .i64 vpi) ∧ W8.drew.cell? ⟨P, 2, none⟩ = some (.slice vpo vpn vpcap) := ⟨e0, e1, e2⟩
              have HV : Hid _ := hpv
              clear hab hpv k8 c0 c1 c6 c7 c8 xl hX5 
              go_upto_region 21 with fail
              go_region_held3 (fun x => x.cell? ⟨P, 0, none⟩ = some (.int .i64 vpc) ∧ x.cell? ⟨P, 1, none⟩ = some (.int .i64 vpi) ∧ x.cell? ⟨P, 2, none⟩ = some (.slice vpo vpn vpcap))
                (first | assumption | exact F0 | exact F1 | exact F2)
                (first
                  | (go_at_call 13; refine hc.mono ?_; rintro e w6 ⟨rfl, hW6⟩; have X6 := kept_blk hW6.kept hPd pB; have F1 : w6.cell? ⟨P, 0, none⟩ = some (.int .i64 vpc) ∧ w6.cell? ⟨P, 1, none⟩ = some (.int .i64 vpi) ∧ w6.cell? ⟨P, 2, none⟩ = some (.slice vpo vpn vpcap) := ⟨X6.cell 0, X6.cell 1, X6.cell 2⟩)
                  | (go_at_call 14; refine (rtake_all M _ s ak st vpc vpi vpo vpn vpcap pos w6 (HD.out.rm hW6) HD.out.ok.bd HST.out hst10 (PO.keptO (fun j hj => hW6.kept.block j (OptR_lt PO hj) (fun e => (HV.out.far j hj).1 (.inl e)) (by simp [Value.ownBlock]))) HV.out.few (fun j hj => ⟨fun e => (HV.out.far j hj).1 (.inr e), Nat.lt_of_lt_of_le (OptR_lt PO hj) hW6.kept.size⟩) HD.out.ok.m1 HD.out.ok.m2).mono ?_; rintro e w7 ⟨rfl, hW7⟩; have X7 := kept_blk hW7.kept X6 pM; have F2 : w7.cell? ⟨P, 0, none⟩ = some (.int .i64 vpc) ∧ w7.cell? ⟨P, 1, none⟩ = some (.int .i64 vpi) ∧ w7.cell? ⟨P, 2, none⟩ = some (.slice vpo vpn vpcap) := ⟨X7.cell 0, X7.cell 1, X7.cell 2⟩)
                  | (go_at_call 8; refine (same_ok _ _).mono ?_; rintro e w77 ⟨rfl, rfl⟩))
              all_goals
                have HF7 : Hid _ := HD.out.fork hW6 hW7 (HD.out.ok.takeP _) (takeP_len s _)
                clear F0 F1 F2 hc hW6 hW7 X6 X7
                go_wp2_with (fail)
                go_meet
                obtain ⟨ak7, v1, v2, q1, q2, hF⟩ := HF7.out
                exact ⟨rfl, _, ak7, v1, v2, q1, q2, hF⟩
            case true =>
              cases hp2 : (vpc == 2)
              case false =>
                have m3 : W5.cell? ⟨M, 3, none⟩ = some (.int .i64 s.ow) := HT5.out.m.cell 3
                have ml := HT5.out.m.lt
                go_upto_region 21 with fail
                obtain ⟨W8, hW8⟩ : ∃ W8, W5.alloc (.cells #[.int .i64 vpc, .int .i64 s.ow, .slice vpo vpn vpcap] 36) = W8 := ⟨_, rfl⟩
                have hPB : Blk W8 W5.heap.size #[.int .i64 vpc, .int .i64 s.ow, .slice vpo vpn vpcap] 36 := by rw [← hW8]; exact Blk.new _ _ _
                have k8 : Below W5.heap.size W5 W8 := by rw [← hW8]; exact below_alloc _ _
                rw [hW8]
                clear hW8
                have PB : Blk W8 W5.heap.size #[.int .i64 vpc, .int .i64 s.ow, .slice vpo vpn vpcap] 36 := hPB
                obtain ⟨P, hPe⟩ : ∃ P, W5.heap.size = P := ⟨_, rfl⟩
                have pB : P ≠ B := by have := HT5.out.l.lt; omega
                have pM : P ≠ M := by have := HT5.out.m.lt; omega
                rw [hPe] at PB
                rw [hPe]
                clear hPe hPB
                have HD : Hid (Both w W8.drew B M s ak) := HT5.out.below (below_drew k8)
                have PO : OptR W8.drew vpo vpn pos := HPO.out.below HD.out.bel
                have hpv : PvOk W8.drew (fun j => j = B ∨ j = M) (.slice none 0 0) ⟨vpc, s.ow, vpo, vpn, vpcap, pos⟩ := ⟨PO, HPZ.out, HPC.out, by show vpn ≤ 1000; omega, fun j hj => ⟨fun e => by have := OptR_lt HPO.out hj; have := HD.out.bB; have := HD.out.bM; omega, by simp [Value.ownBlock], OptR_lt PO hj⟩⟩
                have hc := take_all B _ s _ [] ⟨vpc, s.ow, vpo, vpn, vpcap, pos⟩ W8.drew (tab_of HTab.out HD.out.bel) hB0 (by simp [Value.ownBlock]) HD.out.rl HD.out.ok.bd (by simp) hpv HD.out.ok.m1 HD.out.ok.m2
                have hab : PV.abs ⟨vpc, s.ow, vpo, vpn, vpcap, pos⟩ = (vpc, s.ow, pos) := rfl
                rw [hab] at hc
                have hPd : Blk W8.drew P #[.int .i64 vpc, .int .i64 s.ow, .slice vpo vpn vpcap] 36 := PB
                have e0 : W8.cell? ⟨P, 0, none⟩ = some (.int .i64 vpc) := PB.cell 0
                have e1 : W8.cell? ⟨P, 1, none⟩ = some (.int .i64 s.ow) := PB.cell 1
                have e2 : W8.cell? ⟨P, 2, none⟩ = some (.slice vpo vpn vpcap) := PB.cell 2
                have pl := PB.lt
                have F0 : W8.drew.cell? ⟨P, 0, none⟩ = some (.int .i64 vpc) ∧ W8.drew.cell? ⟨P, 1, none⟩ = some (.int .i64 s.ow) ∧ W8.drew.cell? ⟨P, 2, none⟩ = some (.slice vpo vpn vpcap) := ⟨e0, e1, e2⟩
                have HV : Hid _ := hpv
                clear hab hpv k8 c0 c1 c6 c7 c8 xl hX5 m3 ml
                go_upto_region 21 with fail
                go_region_held3 (fun x => x.cell? ⟨P, 0, none⟩ = some (.int .i64 vpc) ∧ x.cell? ⟨P, 1, none⟩ = some (.int .i64 s.ow) ∧ x.cell? ⟨P, 2, none⟩ = some (.slice vpo vpn vpcap))
                  (first | assumption | exact F0 | exact F1 | exact F2)
                  (first
                    | (go_at_call 13; refine hc.mono ?_; rintro e w6 ⟨rfl, hW6⟩; have X6 := kept_blk hW6.kept hPd pB; have F1 : w6.cell? ⟨P, 0, none⟩ = some (.int .i64 vpc) ∧ w6.cell? ⟨P, 1, none⟩ = some (.int .i64 s.ow) ∧ w6.cell? ⟨P, 2, none⟩ = some (.slice vpo vpn vpcap) := ⟨X6.cell 0, X6.cell 1, X6.cell 2⟩)
                    | (go_at_call 14; refine (rtake_all M _ s ak st vpc s.ow vpo vpn vpcap pos w6 (HD.out.rm hW6) HD.out.ok.bd HST.out hst10 (PO.keptO (fun j hj => hW6.kept.block j (OptR_lt PO hj) (fun e => (HV.out.far j hj).1 (.inl e)) (by simp [Value.ownBlock]))) HV.out.few (fun j hj => ⟨fun e => (HV.out.far j hj).1 (.inr e), Nat.lt_of_lt_of_le (OptR_lt PO hj) hW6.kept.size⟩) HD.out.ok.m1 HD.out.ok.m2).mono ?_; rintro e w7 ⟨rfl, hW7⟩; have X7 := kept_blk hW7.kept X6 pM; have F2 : w7.cell? ⟨P, 0, none⟩ = some (.int .i64 vpc) ∧ w7.cell? ⟨P, 1, none⟩ = some (.int .i64 s.ow) ∧ w7.cell? ⟨P, 2, none⟩ = some (.slice vpo vpn vpcap) := ⟨X7.cell 0, X7.cell 1, X7.cell 2⟩)
                    | (go_at_call 8; refine (same_ok _ _).mono ?_; rintro e w77 ⟨rfl, rfl⟩))
                all_goals
                  have HF7 : Hid _ := HD.out.fork hW6 hW7 (HD.out.ok.takeP _) (takeP_len s _)
                  clear F0 F1 F2 hc hW6 hW7 X6 X7
                  go_wp2_with (fail)
                  go_meet
                  obtain ⟨ak7, v1, v2, q1, q2, hF⟩ := HF7.out
                  exact ⟨rfl, _, ak7, v1, v2, q1, q2, hF⟩
              case true =>
                have m3 : W5.cell? ⟨M, 3, none⟩ = some (.int .i64 s.ow) := HT5.out.m.cell 3
                obtain ⟨qa, qn, qc, hqe, hqo, hqz, hql, hqf⟩ := HT5.out.a.ex
                have m8 : W5.cell? ⟨M, 8, none⟩ = some (.slice qa qn qc) := by rw [← hqe]; exact HT5.out.m.cell 8
                have ml := HT5.out.m.lt
                have hv2 : vpc = 2 := by simpa using hp2
                subst hv2
                have HQX : Hid (∀ j, optOwn qa qn = some j → ¬ (j = B ∨ j = M)) := fun j hj => HT5.out.x j (by rw [hqe]; exact optOwn_own hj)
                have HQO : Hid (OptR W5 qa qn (asksL s.qs s.qm)) := hqo
                have HQZ : Hid _ := hqz
                have HQL : Hid _ := hql
                clear hqe hqo hqz hql hp2
                go_upto_region 21 with fail
                obtain ⟨W8, hW8⟩ : ∃ W8, W5.alloc (.cells #[.int .i64 2, .int .i64 s.ow, .slice qa qn qc] 36) = W8 := ⟨_, rfl⟩
                have hPB : Blk W8 W5.heap.size #[.int .i64 2, .int .i64 s.ow, .slice qa qn qc] 36 := by rw [← hW8]; exact Blk.new _ _ _
                have k8 : Below W5.heap.size W5 W8 := by rw [← hW8]; exact below_alloc _ _
                rw [hW8]
                clear hW8
                have PB : Blk W8 W5.heap.size #[.int .i64 2, .int .i64 s.ow, .slice qa qn qc] 36 := hPB
                obtain ⟨P, hPe⟩ : ∃ P, W5.heap.size = P := ⟨_, rfl⟩
                have pB : P ≠ B := by have := HT5.out.l.lt; omega
                have pM : P ≠ M := by have := HT5.out.m.lt; omega
                rw [hPe] at PB
                rw [hPe]
                clear hPe hPB
                have HD : Hid (Both w W8.drew B M s ak) := HT5.out.below (below_drew k8)
                have PO : OptR W8.drew qa qn (asksL s.qs s.qm) := HQO.out.below (below_drew k8)
                have hpv : PvOk W8.drew (fun j => j = B ∨ j = M) (.slice none 0 0) ⟨2, s.ow, qa, qn, qc, (asksL s.qs s.qm)⟩ := ⟨PO, HQZ.out, HQL.out, hqf, fun j hj => ⟨HQX.out j hj, by simp [Value.ownBlock], OptR_lt PO hj⟩⟩
                have hc := take_all B _ s _ [] ⟨2, s.ow, qa, qn, qc, (asksL s.qs s.qm)⟩ W8.drew (tab_of HTab.out HD.out.bel) hB0 (by simp [Value.ownBlock]) HD.out.rl HD.out.ok.bd (by simp) hpv HD.out.ok.m1 HD.out.ok.m2
                have hab : PV.abs ⟨2, s.ow, qa, qn, qc, (asksL s.qs s.qm)⟩ = (2, s.ow, (asksL s.qs s.qm)) := rfl
                rw [hab] at hc
                have hPd : Blk W8.drew P #[.int .i64 2, .int .i64 s.ow, .slice qa qn qc] 36 := PB
                have e0 : W8.cell? ⟨P, 0, none⟩ = some (.int .i64 2) := PB.cell 0
                have e1 : W8.cell? ⟨P, 1, none⟩ = some (.int .i64 s.ow) := PB.cell 1
                have e2 : W8.cell? ⟨P, 2, none⟩ = some (.slice qa qn qc) := PB.cell 2
                have pl := PB.lt
                have F0 : W8.drew.cell? ⟨P, 0, none⟩ = some (.int .i64 2) ∧ W8.drew.cell? ⟨P, 1, none⟩ = some (.int .i64 s.ow) ∧ W8.drew.cell? ⟨P, 2, none⟩ = some (.slice qa qn qc) := ⟨e0, e1, e2⟩
                have HV : Hid _ := hpv
                clear hab hpv k8 c0 c1 c6 c7 c8 xl hX5 m3 m8 ml
                go_upto_region 21 with fail
                go_region_held3 (fun x => x.cell? ⟨P, 0, none⟩ = some (.int .i64 2) ∧ x.cell? ⟨P, 1, none⟩ = some (.int .i64 s.ow) ∧ x.cell? ⟨P, 2, none⟩ = some (.slice qa qn qc))
                  (first | assumption | exact F0 | exact F1 | exact F2)
                  (first
                    | (go_at_call 13; refine hc.mono ?_; rintro e w6 ⟨rfl, hW6⟩; have X6 := kept_blk hW6.kept hPd pB; have F1 : w6.cell? ⟨P, 0, none⟩ = some (.int .i64 2) ∧ w6.cell? ⟨P, 1, none⟩ = some (.int .i64 s.ow) ∧ w6.cell? ⟨P, 2, none⟩ = some (.slice qa qn qc) := ⟨X6.cell 0, X6.cell 1, X6.cell 2⟩)
                    | (go_at_call 14; refine (rtake_all M _ s ak st 2 s.ow qa qn qc (asksL s.qs s.qm) w6 (HD.out.rm hW6) HD.out.ok.bd HST.out hst10 (PO.keptO (fun j hj => hW6.kept.block j (OptR_lt PO hj) (fun e => (HV.out.far j hj).1 (.inl e)) (by simp [Value.ownBlock]))) HV.out.few (fun j hj => ⟨fun e => (HV.out.far j hj).1 (.inr e), Nat.lt_of_lt_of_le (OptR_lt PO hj) hW6.kept.size⟩) HD.out.ok.m1 HD.out.ok.m2).mono ?_; rintro e w7 ⟨rfl, hW7⟩; have X7 := kept_blk hW7.kept X6 pM; have F2 : w7.cell? ⟨P, 0, none⟩ = some (.int .i64 2) ∧ w7.cell? ⟨P, 1, none⟩ = some (.int .i64 s.ow) ∧ w7.cell? ⟨P, 2, none⟩ = some (.slice qa qn qc) := ⟨X7.cell 0, X7.cell 1, X7.cell 2⟩)
                    | (go_at_call 8; refine (same_ok _ _).mono ?_; rintro e w77 ⟨rfl, rfl⟩))
                all_goals
                  have HF7 : Hid _ := HD.out.fork hW6 hW7 (HD.out.ok.takeP _) (takeP_len s _)
                  clear F0 F1 F2 hc hW6 hW7 X6 X7
                  go_wp2_with (fail)
                  go_meet
                  obtain ⟨ak7, v1, v2, q1, q2, hF⟩ := HF7.out
                  exact ⟨rfl, _, ak7, v1, v2, q1, q2, hF⟩
      case rest =>
        obtain ⟨rfl, s7, ak7, v1, v2, q1, q2, hF7⟩ := hcut
        have HF7 : Hid _ := hF7
        clear hF7 HT5 hX5
        obtain ⟨XX, hLL⟩ := HF7.out.l
        have r0 : wc.cell? ⟨M, 0, none⟩ = some (.int .i64 s7.st) := HF7.out.m.blk.cell 0
        have r9 : wc.cell? ⟨M, 9, none⟩ = some (.int .i64 s7.sz) := HF7.out.m.blk.cell 9
        have r10 : wc.cell? ⟨M, 10, none⟩ = some v2 := HF7.out.m.blk.cell 10
        have rl := HF7.out.m.blk.lt
        have hst := state_rep B XX s7 v1 q1 wc.drew (hLL.below (below_drew (Below.refl _ _)))
        have hsz := size_rep B XX s7 v1 q1 wc.drew (hLL.below (below_drew (Below.refl _ _)))
        have HFd : Hid (Fork w wc.drew B M s7 ak7 v1 v2 q1 q2) := ⟨⟨XX, hLL.below (below_drew (Below.refl _ _))⟩, HF7.out.m.below (below_drew (Below.refl _ _)), HF7.out.same, HF7.out.few, HF7.out.ok, HF7.out.ne, HF7.out.bB, HF7.out.bM, below_drew HF7.out.bel⟩
        have hout := HFd.out.out
        have q1' : (s7.st != s7.st) = false := by simp
        have q2' : (s7.sz != s7.sz) = false := by simp
        have F0 : wc.drew.cell? ⟨M, 0, none⟩ = some (.int .i64 s7.st) ∧ wc.drew.cell? ⟨M, 9, none⟩ = some (.int .i64 s7.sz) ∧ wc.drew.cell? ⟨M, 10, none⟩ = some v2 := ⟨r0, r9, r10⟩
        clear hLL HF7
        go_upto_region 27 with fail
        go_region_held3 (fun x => x.cell? ⟨M, 0, none⟩ = some (.int .i64 s7.st) ∧ x.cell? ⟨M, 9, none⟩ = some (.int .i64 s7.sz) ∧ x.cell? ⟨M, 10, none⟩ = some v2)
          (first | assumption | exact F0 | exact F1 | exact F2)
          (first
            | (go_at_call 15; refine hst.mono ?_; rintro e wz ⟨rfl, rfl⟩)
            | (go_at_call 16; refine hsz.mono ?_; rintro e wz ⟨rfl, rfl⟩)
            | (go_at_call 18; refine hout.mono ?_; rintro e w8 ⟨rfl, hL8, hM8, b8, hsp⟩; have F1 : w8.cell? ⟨M, 0, none⟩ = some (.int .i64 s7.st) ∧ w8.cell? ⟨M, 9, none⟩ = some (.int .i64 s7.sz) ∧ w8.cell? ⟨M, 10, none⟩ = some v2 := ⟨hM8.blk.cell 0, hM8.blk.cell 9, hM8.blk.cell 10⟩)
            | (go_at_call 17; refine hsp.mono ?_; rintro e w9 ⟨rfl, b9⟩; have hM9 := hM8.below b9; have F2 : w9.cell? ⟨M, 0, none⟩ = some (.int .i64 s7.st) ∧ w9.cell? ⟨M, 9, none⟩ = some (.int .i64 s7.sz) ∧ w9.cell? ⟨M, 10, none⟩ = some v2 := ⟨hM9.blk.cell 0, hM9.blk.cell 9, hM9.blk.cell 10⟩))
        all_goals
          have u10 : w9.cell? ⟨M, 10, none⟩ = some v2 := hM9.blk.cell 10
          have uf : ∀ j, w9.frozen? ⟨M, j, none⟩ = false := hM9.blk.frozen
          have ul := hM9.blk.lt
          have HB9 : Hid (Both w (w9.setCell ⟨M, 10, none⟩ (.slice none 0 0)) B M s7 ak7) := both_again (hL8.below b9) hM9 HFd.out.ok HFd.out.ne HFd.out.bB HFd.out.bM (below_chain b8 b9)
          clear F0 F1 F2 hst hsz hout hsp hL8 hM8 hM9 HFd b8 b9 r0 r9 r10 rl
          go_wp2_with (fail)
          go_roundw
          case rel => exact ⟨k + 1, s7, ak7, by omega, by go_num, HB9.out⟩
          case measure => simp [intOf]; omega
    · have hge : ¬ (k : Int) < (n : Int) := by omega
      have HB : Hid _ := hTw.bel
      clear hTw
      go_wp2_with (fail)
      go_ret
      exact ⟨rfl, HB.out⟩
end linkSays
end Go.Proofs.YtgfjgenkpfdofaaDoor
