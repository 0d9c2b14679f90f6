/-
  The document's end of a link: an event.
-/
import Derived.Test.YtgfjgenkpfdofaaDoorRLink
import Derived.Deep.DeepCutAuto
namespace Go.Proofs.YtgfjgenkpfdofaaDoor
open Go.RowKit

theorem stepR_f : ∀ e, e < 12 → ∀ s, s < 10 → (stepR s e).2.2 = 0 ∨ (stepR s e).2.2 = 7 := by decide +kernel
theorem stepR_nx : ∀ e, e < 12 → ∀ s, s < 10 → 0 ≤ (stepR s e).2.1 ∧ (stepR s e).2.1 ≤ 9 := by decide +kernel
set_option maxRecDepth 100000 in
set_option maxHeartbeats 4000000 in
theorem revent_no (B : Nat) (X : Nat → Prop) (s : LS) (ak v : Value) (ps : List PV) (st e : Nat) (c0 i0 c : Int) (a0 a : Option Addr) (n0 cap0 n cap : Nat) (w : World) (h : RRep w B X s ak v ps) (hs : s.st = st) (hst : st < 10) (he : e < 12) (hf : (stepR st e).2.2 ≠ 0) :
    Calls Tryd.prog 22 #[.pointer (some ⟨B, 0, none⟩), .int .i64 e, .agg #[.int .i64 c0, .int .i64 i0, .slice a0 n0 cap0], .int .i64 c, .slice a n cap] w fun x w' => x = .returned (.int .i64 7) ∧ Below w.heap.size w w' := by
  have hk := below_alloc w (.cells #[.int .i64 c0, .int .i64 i0, .slice a0 n0 cap0] 36)
  have hT := turn_any st e (w.alloc (.cells #[.int .i64 c0, .int .i64 i0, .slice a0 n0 cap0] 36)) hst he
  rw [if_neg hf] at hT
  have hl := h.blk.lt
  have c0' : w.cell? ⟨B, 0, none⟩ = some (.int .i64 st) := by rw [← hs]; exact h.blk.cell 0
  clear h hs
  go_enter Tryd.func22, Tryd.ntmps22
  go_wp2_with (fail)
  refine hT.mono ?_
  rintro x w1 ⟨rfl, b1⟩
  clear hT
  go_wp2_with (fail)
  go_ret
  exact ⟨rfl, below_chain hk b1⟩

/-- What an event leaves at the document's end. -/
structure RWent (w w' : World) (B : Nat) (X : Nat → Prop) (s' : LS) (out : List APkt) : Prop where
  more : ∃ ak' v' qs, RRep w' B X s' ak' v' qs ∧ qs.map PV.abs = out ∧ (∀ g, v'.ownBlock = some g → w.heap.size ≤ g)
  kept : Kept w w' B none

set_option maxRecDepth 100000 in
set_option maxHeartbeats 16000000 in
theorem revent_yes (B : Nat) (X : Nat → Prop) (s : LS) (ak : Value) (st e : Nat) (S : ByteArray) (nx : Int) (c0 i0 c : Int) (a0 a : Option Addr) (n0 cap0 n cap : Nat) (os : List Opt) (w : World) (h : RRep w B X s ak (.slice none 0 0) []) (hb : Bd s 100) (hs : s.st = st) (hst : st < 10) (he : e < 12)
    (hR : stepR st e = (S.data.toList, nx, 0)) (hS : S.size ≤ 4) (ho : OptR w a n os) (hnn : n ≤ 1000) (hfar : ∀ k, optOwn a n = some k → k ≠ B ∧ k < w.heap.size) :
    Calls Tryd.prog 22 #[.pointer (some ⟨B, 0, none⟩), .int .i64 e, .agg #[.int .i64 c0, .int .i64 i0, .slice a0 n0 cap0], .int .i64 c, .slice a n cap] w fun x w' => x = .returned (.int .i64 0) ∧ RWent w w' B X (runS S.data.toList (s.next nx)) (runO S.data.toList (s.next nx) (c, i0, os)) := by
  have hk := below_alloc w (.cells #[.int .i64 c0, .int .i64 i0, .slice a0 n0 cap0] 36)
  have hA := fun j => World.cell?_alloc_mark w #[.int .i64 c0, .int .i64 i0, .slice a0 n0 cap0] 36 (0, 0) j
  have hT := turn_any st e (w.alloc (.cells #[.int .i64 c0, .int .i64 i0, .slice a0 n0 cap0] 36)) hst he
  have hx0 := stepR_nx e he st hst
  have eS : (⟨S.data.toList.toArray⟩ : ByteArray) = S := by simp
  rw [hR, if_pos rfl] at hT
  rw [hR] at hx0
  simp only at hT hx0
  rw [eS] at hT
  have hlB := h.blk.lt
  have c0' : w.cell? ⟨B, 0, none⟩ = some (.int .i64 st) := by rw [← hs]; exact h.blk.cell 0
  obtain ⟨sF, hsF⟩ : ∃ sF, runS S.data.toList (s.next nx) = sF := ⟨_, rfl⟩
  obtain ⟨oF, hoF⟩ : ∃ oF, runO S.data.toList (s.next nx) (c, i0, os) = oF := ⟨_, rfl⟩
  rw [hsF, hoF]
  have HsF : Hid _ := hsF
  have HoF : Hid _ := hoF
  have HFR : Hid (∀ k, optOwn a n = some k → k ≠ B ∧ k < w.heap.size) := hfar
  clear hsF hoF hs hR eS hfar
  go_enter Tryd.func22, Tryd.ntmps22
  go_wp2_with (fail)
  refine hT.mono ?_
  rintro x W1 ⟨rfl, b1⟩
  clear hT
  obtain ⟨Z, hZ⟩ : ∃ Z, w.heap.size = Z := ⟨_, rfl⟩
  have hb1 : Below w.heap.size w W1 := below_chain hk b1
  have d1 : W1.cell? ⟨Z, 1, none⟩ = some (.int .i64 i0) := by
    rw [← hZ]
    exact (b1.cell (p := ⟨w.heap.size, 1, none⟩) (by simp)).trans (hA 1)
  have h1 : RRep W1 B X s ak (.slice none 0 0) [] := h.below hb1
  have ho1 : OptR W1 a n os := ho.below hb1
  have hk1 := Kept.of_below B none hb1
  rw [hZ]
  have HZ : Hid (w.heap.size = Z) := hZ
  have hBZ : B < Z := by omega
  clear hZ hA hk h c0' ho hb1 b1 hlB
  have hlB := h1.blk.lt
  have c0 : W1.cell? ⟨B, 0, none⟩ = some (.int .i64 s.st) := h1.blk.cell 0
  have c4 : W1.cell? ⟨B, 4, none⟩ = some (.int .i64 s.fs) := h1.blk.cell 4
  have c5 : W1.cell? ⟨B, 5, none⟩ = some (.int .i64 s.fm) := h1.blk.cell 5
  have c6 : W1.cell? ⟨B, 6, none⟩ = some (.int .i64 s.ns) := h1.blk.cell 6
  have c7 : W1.cell? ⟨B, 7, none⟩ = some (.int .i64 s.nm) := h1.blk.cell 7
  have c9 : W1.cell? ⟨B, 9, none⟩ = some (.int .i64 s.sz) := h1.blk.cell 9
  have fz : ∀ j, W1.frozen? ⟨B, j, none⟩ = false := h1.blk.frozen
  have tail : ∀ (W2 : World) (s2 : LS), RRep W2 B X s2 ak (.slice none 0 0) [] → Kept W1 W2 B none → s.next nx = s2 → Bd s2 100 → RMid w W2 B X S 0 a n (c, i0, os) sF oF s2 ak (.slice none 0 0) [] := by
    intro W2 s2 hR2 hK2 hs2 hb2
    have keepZ : ∀ j, W2.cell? ⟨Z, j, none⟩ = W1.cell? ⟨Z, j, none⟩ := fun j => World.cell?_of_block (a := ⟨Z, j, none⟩) (hK2.block Z (World.block_lt_of_cell? W1 _ d1) (by omega) (by simp))
    exact ⟨hR2, ⟨hb2.o1, hb2.o2, by have := hb2.l1; omega, by have := hb2.l2; omega⟩, by rw [← HsF.out, hs2]; rfl, by rw [← HoF.out, hs2]; rfl, ho1.keptO (fun j hj => by
      obtain ⟨f1, f2⟩ := HFR.out j hj
      exact hK2.block j (Nat.lt_of_lt_of_le f2 hk1.size) f1 (by simp)), hk1.trans hK2 (fun i e => .inl e), fun g hg => by simp [Value.ownBlock] at hg, by rw [HZ.out]; exact (keepZ 1).trans d1, Nat.le_refl _⟩
  have HT : Hid _ := tail
  clear tail HsF HoF
  have M0 : Hid (∀ V : World, V = (if nx ≤ 3 then (((W1.setCell ⟨B, 6, none⟩ (.int .i64 s.fs)).setCell ⟨B, 7, none⟩ (.int .i64 s.fm)).setCell ⟨B, 9, none⟩ (.int .i64 255)) else W1) → V.cell? ⟨B, 0, none⟩ = some (.int .i64 s.st) ∧ V.frozen? ⟨B, 0, none⟩ = false ∧ B < V.heap.size ∧ ∃ s2 : LS, RMid w (V.setCell ⟨B, 0, none⟩ (.int .i64 nx)) B X S 0 a n (c, i0, os) sF oF s2 ak (.slice none 0 0) []) := by
    intro V hV
    by_cases hx : nx ≤ 3
    · rw [if_pos hx] at hV
      subst hV
      have r1 := ((h1.setC 6 (.int .i64 s.fs) { s with ns := s.fs } rfl ⟨rfl, rfl⟩).setC 7 (.int .i64 s.fm) { s with ns := s.fs, nm := s.fm } rfl ⟨rfl, rfl⟩).setC 9 (.int .i64 255) { s with ns := s.fs, nm := s.fm, sz := 255 } rfl ⟨rfl, rfl⟩
      refine ⟨r1.blk.cell 0, r1.blk.frozen 0, r1.blk.lt, { s with st := nx, ns := s.fs, nm := s.fm, sz := 255 }, HT.out _ _ (r1.setC 0 _ _ rfl ⟨rfl, rfl⟩) (kept_set (kept_set (kept_set (kept_set (Kept.refl _ B _) 6 _) 7 _) 9 _) 0 _) (by simp [LS.next, hx]) ⟨hb.o1, hb.o2, hb.l1, hb.l2⟩⟩
    · rw [if_neg hx] at hV
      subst hV
      refine ⟨h1.blk.cell 0, h1.blk.frozen 0, h1.blk.lt, { s with st := nx }, HT.out _ _ (h1.setC 0 _ _ rfl ⟨rfl, rfl⟩) (kept_set (Kept.refl _ B _) 0 _) (by simp [LS.next, hx]) ⟨hb.o1, hb.o2, hb.l1, hb.l2⟩⟩
  clear HT h1 hk1 ho1
  obtain ⟨ip, hip, hp0, hp1, hp2⟩ := info_parts infoPack
  obtain ⟨io, hio, hq0, hq1, hq2⟩ := info_parts infoOpt
  have hBw : B < w.heap.size := by rw [HZ.out]; exact hBZ
  have hnx : ¬ nx < 0 := by omega
  go_upto_if 26 with fail
  go_cut [] (fun (V : World) => V = (if nx ≤ 3 then (((W1.setCell ⟨B, 6, none⟩ (.int .i64 s.fs)).setCell ⟨B, 7, none⟩ (.int .i64 s.fm)).setCell ⟨B, 9, none⟩ (.int .i64 255)) else W1))
  case first =>
    by_cases hx : nx ≤ 3
    · go_wp2_with (fail)
      go_meet
      case rel => rw [if_pos hx]
    · go_wp2_with (fail)
      go_meet
      case rel => rw [if_neg (by omega)]
  case rest =>
    obtain ⟨x0, xf, xl, s2, M1⟩ := M0.out _ hcut
    clear M0 hcut c0 c4 c5 c6 c7 c9 fz hlB d1
    go_wp2_with (fail)
    obtain ⟨W2, hW2⟩ : ∃ W2, wc.setCell ⟨B, 0, none⟩ (.int .i64 nx) = W2 := ⟨_, rfl⟩
    rw [hW2] at M1 ⊢
    have HM : Hid _ := M1
    clear hW2 M1 x0 xf xl
    go_loopw [13] (fun i wr => ∃ (k : Nat) (sk : LS) (akk vk : Value) (qs : List PV), k ≤ S.size ∧ i = .int .i64 k ∧ RMid w wr B X S k a n (c, i0, os) sF oF sk akk vk qs) (fun i _ => S.size - (intOf i).toNat)
    case atStart => exact ⟨0, _, _, _, [], Nat.zero_le _, rfl, HM.out⟩
    case round =>
      clear HM
      obtain ⟨k, sk, akk, vk, qs, hk, rfl, hM⟩ := hrel
      by_cases hlt : k < S.size
      · have hlt' : (k : Int) < (S.size : Int) := by omega
        have hk0 : (0 : Int) ≤ (k : Int) := by omega
        have HD : Hid (S.data.toList.drop k = S[k] :: S.data.toList.drop (k + 1)) := by
          show _ = _
          rw [List.drop_eq_getElem_cons (by simpa using hlt)]; rfl
        have z1 : wr.cell? ⟨B, 1, none⟩ = some (.int .i64 sk.lf) := hM.rep.blk.cell 1
        have z2 : wr.cell? ⟨B, 2, none⟩ = some (.int .i64 sk.wt) := hM.rep.blk.cell 2
        have z3 : wr.cell? ⟨B, 3, none⟩ = some (.int .i64 sk.ow) := hM.rep.blk.cell 3
        have z6 : wr.cell? ⟨B, 6, none⟩ = some (.int .i64 sk.ns) := hM.rep.blk.cell 6
        have z7 : wr.cell? ⟨B, 7, none⟩ = some (.int .i64 sk.nm) := hM.rep.blk.cell 7
        have z8 : wr.cell? ⟨B, 8, none⟩ = some akk := hM.rep.blk.cell 8
        have z10 : wr.cell? ⟨B, 10, none⟩ = some vk := hM.rep.blk.cell 10
        have zf : ∀ j, wr.frozen? ⟨B, j, none⟩ = false := hM.rep.blk.frozen
        have zl := hM.rep.blk.lt
        have o1 := hM.bd.o1
        have o2 := hM.bd.o2
        have l1 : -200 ≤ sk.lf := by have := hM.bd.l1; omega
        have l2 : sk.lf ≤ 200 := by have := hM.bd.l2; omega
        have nb : ∀ j : UInt8, S[k] ≠ j → ((S[k].toNat : Int) == (j.toNat : Int)) = false := fun j hj => by
          rw [beq_eq_false_iff_ne]
          intro e
          exact hj (UInt8.toNat_inj.mp (by omega))
        by_cases c105 : S[k] = 105
        · have hck : S[k] = 105 := c105
          clear nb c105
          have HDc : Hid (S.data.toList.drop k = (105 : UInt8) :: S.data.toList.drop (k + 1)) := by
            have h9 := HD.out
            rw [hck] at h9
            exact h9
          have q105 : ((S[k].toNat : Int) == 105) = true := by rw [hck]; rfl
          have q122 : ((S[k].toNat : Int) == 122) = false := by rw [hck]; rfl
          have q114 : ((S[k].toNat : Int) == 114) = false := by rw [hck]; rfl
          have q116 : ((S[k].toNat : Int) == 116) = false := by rw [hck]; rfl
          have q97 : ((S[k].toNat : Int) == 97) = false := by rw [hck]; rfl
          have q110 : ((S[k].toNat : Int) == 110) = false := by rw [hck]; rfl
          have q107 : ((S[k].toNat : Int) == 107) = false := by rw [hck]; rfl
          have HM2 : Hid (RMid w (wr.setCell ⟨B, 1, none⟩ (.int .i64 4)) B X S (k + 1) a n (c, i0, os) sF oF (actS 105 sk) akk vk (qs ++ [])) := by
            refine rmid_step hM hBw HFR.out HDc.out ?_ rfl (fun _ e => .inl e) (kept_set (Kept.refl _ B _) 1 _)
            rw [List.append_nil]
            exact hM.rep.setC 1 _ _ rfl ⟨rfl, rfl⟩
          clear hM HD hck
          go_wp2_with (fail)
          go_roundw
          case rel => exact ⟨k + 1, _, _, _, _, by omega, by go_num, HM2.out⟩
          case measure => simp [intOf]; omega
        · by_cases c122 : S[k] = 122
          · have hck : S[k] = 122 := c122
            clear nb c105 c122
            have HDc : Hid (S.data.toList.drop k = (122 : UInt8) :: S.data.toList.drop (k + 1)) := by
              have h9 := HD.out
              rw [hck] at h9
              exact h9
            have q105 : ((S[k].toNat : Int) == 105) = false := by rw [hck]; rfl
            have q122 : ((S[k].toNat : Int) == 122) = true := by rw [hck]; rfl
            have q114 : ((S[k].toNat : Int) == 114) = false := by rw [hck]; rfl
            have q116 : ((S[k].toNat : Int) == 116) = false := by rw [hck]; rfl
            have q97 : ((S[k].toNat : Int) == 97) = false := by rw [hck]; rfl
            have q110 : ((S[k].toNat : Int) == 110) = false := by rw [hck]; rfl
            have q107 : ((S[k].toNat : Int) == 107) = false := by rw [hck]; rfl
            have HM2 : Hid (RMid w ((wr.setCell ⟨B, 1, none⟩ (.int .i64 0)).setCell ⟨B, 2, none⟩ (.int .i64 3)) B X S (k + 1) a n (c, i0, os) sF oF (actS 122 sk) akk vk (qs ++ [])) := by
              refine rmid_step hM hBw HFR.out HDc.out ?_ rfl (fun _ e => .inl e) (kept_set (kept_set (Kept.refl _ B _) 1 _) 2 _)
              rw [List.append_nil]
              exact (hM.rep.setC 1 _ { sk with lf := 0 } rfl ⟨rfl, rfl⟩).setC 2 _ _ rfl ⟨rfl, rfl⟩
            clear hM HD hck
            go_wp2_with (fail)
            go_roundw
            case rel => exact ⟨k + 1, _, _, _, _, by omega, by go_num, HM2.out⟩
            case measure => simp [intOf]; omega
          · by_cases c114 : S[k] = 114
            · have hck : S[k] = 114 := c114
              clear nb c105 c122 c114
              have HDc : Hid (S.data.toList.drop k = (114 : UInt8) :: S.data.toList.drop (k + 1)) := by
                have h9 := HD.out
                rw [hck] at h9
                exact h9
              have q105 : ((S[k].toNat : Int) == 105) = false := by rw [hck]; rfl
              have q122 : ((S[k].toNat : Int) == 122) = false := by rw [hck]; rfl
              have q114 : ((S[k].toNat : Int) == 114) = true := by rw [hck]; rfl
              have q116 : ((S[k].toNat : Int) == 116) = false := by rw [hck]; rfl
              have q97 : ((S[k].toNat : Int) == 97) = false := by rw [hck]; rfl
              have q110 : ((S[k].toNat : Int) == 110) = false := by rw [hck]; rfl
              have q107 : ((S[k].toNat : Int) == 107) = false := by rw [hck]; rfl
              have R1 := ((hM.rep.setC 3 (.int .i64 ((sk.ow + 1) % 256)) { sk with ow := (sk.ow + 1) % 256 } rfl ⟨rfl, rfl⟩).setC 1 (.int .i64 (sk.lf - 1)) { sk with ow := (sk.ow + 1) % 256, lf := sk.lf - 1 } rfl ⟨rfl, rfl⟩).setC 2 (.int .i64 3) sk.asked rfl ⟨rfl, rfl⟩
              have K1 : Kept wr _ B vk.ownBlock := kept_set (kept_set (kept_set (Kept.refl wr B vk.ownBlock) 3 (.int .i64 ((sk.ow + 1) % 256))) 1 (.int .i64 (sk.lf - 1))) 2 (.int .i64 3)
              have hd1 := hM.d1
              rw [HZ.out] at hd1
              have hlZ : Z < wr.heap.size := World.block_lt_of_cell? wr _ hd1
              go_wp2_with (fail)
              refine (rasks_any sk.ns sk.nm _).mono ?_
              rintro e V ⟨u, rfl, hMd⟩
              obtain ⟨ua, uc, rfl, un, ul⟩ := hMd.shape
              have R2 := R1.below hMd.below
              have K2 := K1.trans (Kept.of_below B vk.ownBlock hMd.below) (fun i e => .inl e)
              have A2 : AskOk V B vk (.slice ua (asksL sk.ns sk.nm).length uc) (asksL sk.ns sk.nm) := ⟨⟨ua, _, uc, rfl, hMd.opts.2, un, ul, asksL_few _ _⟩, fun j hj => by
                have j1 := hMd.new j hj
                refine ⟨fun e => by have := R1.blk.lt; omega, fun e => by have := R1.row.lt j e; omega, hMd.row.lt j hj⟩⟩
              have R3 := R2.setA _ A2 (fun j hj e => by have j1 := hMd.new j hj; have j2 := R1.old j e; omega)
              have K3 := kept_set K2 8 (.slice ua (asksL sk.ns sk.nm).length uc)
              have hnew := hMd.new
              have v8 : V.cell? ⟨B, 8, none⟩ = some akk := R2.blk.cell 8
              have vf : ∀ j, V.frozen? ⟨B, j, none⟩ = false := R2.blk.frozen
              have vl := R2.blk.lt
              obtain ⟨NA, hNA⟩ : ∃ NA, (asksL sk.ns sk.nm).length = NA := ⟨_, rfl⟩
              rw [hNA] at A2 R3 K3 ul hnew ⊢
              have HNA : Hid ((asksL sk.ns sk.nm).length = NA) := hNA
              have H1b : Hid (∀ k, X k → k < (((wr.setCell ⟨B, 3, none⟩ (.int .i64 ((sk.ow + 1) % 256))).setCell ⟨B, 1, none⟩ (.int .i64 (sk.lf - 1))).setCell ⟨B, 2, none⟩ (.int .i64 3)).heap.size) := R1.old
              have H1c : Hid (∀ k, vk.ownBlock = some k → k < (((wr.setCell ⟨B, 3, none⟩ (.int .i64 ((sk.ow + 1) % 256))).setCell ⟨B, 1, none⟩ (.int .i64 (sk.lf - 1))).setCell ⟨B, 2, none⟩ (.int .i64 3)).heap.size) := R1.row.lt
              have HNW : Hid _ := hnew
              clear hMd R1 R2 K1 K2 hNA hnew
              go_wp2_with (fail)
              obtain ⟨W, hW⟩ : ∃ W, V.setCell ⟨B, 8, none⟩ (.slice ua NA uc) = W := ⟨_, rfl⟩
              rw [hW] at R3 K3
              rw [hW]
              have HK : Hid (Kept wr W B vk.ownBlock) := K3
              have HR : Hid _ := R3
              have HA : Hid (AskOk W B vk (.slice ua NA uc) (asksL sk.ns sk.nm)) := R3.ask
              have y10 : W.cell? ⟨B, 10, none⟩ = some vk := HR.out.blk.cell 10
              have y3 : W.cell? ⟨B, 3, none⟩ = some (.int .i64 ((sk.ow + 1) % 256)) := HR.out.blk.cell 3
              have y8 : W.cell? ⟨B, 8, none⟩ = some (.slice ua NA uc) := HR.out.blk.cell 8
              have yf : ∀ j, W.frozen? ⟨B, j, none⟩ = false := HR.out.blk.frozen
              have yl := HR.out.blk.lt
              obtain ⟨nn, hnn2⟩ : ∃ nn, qs.length = nn := ⟨_, rfl⟩
              have HN : Hid (qs.length = nn) := hnn2
              have rowW : Row W 3 vk nn (pvC qs) := by rw [← hnn2]; exact HR.out.row
              have hnb : nn ≤ 100 := by have := hM.few; omega
              have HMM : Hid _ := hM
              have HOW : Hid (vk.ownBlock ≠ some B) := HR.out.ne
              clear hM R3 K3 A2 hW hnn2 z1 z2 z3 z6 z7 z8 z10 zf zl hd1 v8 vf vl
              go_region_law ((refine step_append_row (by rfl) (.tmp 101) (.tmp 111) 46 (by rfl) 36 ip (.agg #[.int .i64 0, .int .i64 0, .slice none 0 0]) 3 40 Tryd.underlying46 hip hp0 hp1 hp2 (by rfl) (by decide) vk nn (pvC qs) (by rfl) ((rowW.alloc _).drew) _ 1 1 [.int .i64 1, .int .i64 ((sk.ow + 1) % 256), .slice ua NA uc] (by rfl) (by rfl) (by decide) (cells_threeD _ _ _ _ _ _ rfl) (one_pack _ _ _ _ _) (by unfold maxLen; omega) (by omega) ?_; intro g' cap' x1 hr1 hg1 hown1; have yb := blk_far2 HR.out.blk hg1 HOW.out; have w10 : x1.cell? ⟨B, 10, none⟩ = some vk := yb.cell 10; have wf : ∀ j, x1.frozen? ⟨B, j, none⟩ = false := yb.frozen; have wl := yb.lt; clear yb))
              all_goals
                have PX : PvOk W X vk ⟨1, (sk.ow + 1) % 256, ua, NA, uc, asksL sk.ns sk.nm⟩ := by
                  obtain ⟨a', n', cap', e1, ho', hz', hl', hf'⟩ := HA.out.ex
                  simp at e1
                  obtain ⟨rfl, rfl, rfl⟩ := e1
                  refine ⟨ho', hz', hl', hf', fun j hj0 => ?_⟩
                  have hj : Value.ownBlock (.slice ua NA uc) = some j := optOwn_own hj0
                  refine ⟨fun e => ?_, (HA.out.far j hj).2.1, (HA.out.far j hj).2.2⟩
                  have j1 := HNW.out j hj
                  have j2 := H1b.out j e
                  omega
                obtain ⟨RP, KP, VP⟩ := RRep.push HR.out (below_drew (below_alloc _ _)) hg1 ⟨1, (sk.ow + 1) % 256, ua, NA, uc, asksL sk.ns sk.nm⟩ (PX.kept HR.out.self (Kept.of_below B _ (below_drew (below_alloc _ _))) (fun _ e => .inl e)) g' cap' (by rw [HN.out]; exact hr1) hown1
                rw [HN.out] at RP KP VP
                have HM2 : Hid _ := rmid_step HMM.out hBw HFR.out HDc.out RP rfl (fun g hg => by
                  rcases VP g hg with e | e
                  · exact .inl e
                  · exact .inr (Nat.le_trans HK.out.size e)) (HK.out.trans KP (fun i e => .inl e))
                clear RP KP VP hr1 hg1 hown1 HMM PX
                go_wp2_with (fail)
                go_roundw
                case rel => exact ⟨k + 1, _, _, _, _, by omega, by go_num, HM2.out⟩
                case measure => simp [intOf]; omega
            · by_cases c116 : S[k] = 116
              · have hck : S[k] = 116 := c116
                clear nb c105 c122 c114 c116
                have HDc : Hid (S.data.toList.drop k = (116 : UInt8) :: S.data.toList.drop (k + 1)) := by
                  have h9 := HD.out
                  rw [hck] at h9
                  exact h9
                have q105 : ((S[k].toNat : Int) == 105) = false := by rw [hck]; rfl
                have q122 : ((S[k].toNat : Int) == 122) = false := by rw [hck]; rfl
                have q114 : ((S[k].toNat : Int) == 114) = false := by rw [hck]; rfl
                have q116 : ((S[k].toNat : Int) == 116) = true := by rw [hck]; rfl
                have q97 : ((S[k].toNat : Int) == 97) = false := by rw [hck]; rfl
                have q110 : ((S[k].toNat : Int) == 110) = false := by rw [hck]; rfl
                have q107 : ((S[k].toNat : Int) == 107) = false := by rw [hck]; rfl
                have R1 := ((hM.rep.setC 3 (.int .i64 ((sk.ow + 1) % 256)) { sk with ow := (sk.ow + 1) % 256 } rfl ⟨rfl, rfl⟩).setC 1 (.int .i64 (sk.lf - 1)) { sk with ow := (sk.ow + 1) % 256, lf := sk.lf - 1 } rfl ⟨rfl, rfl⟩).setC 2 (.int .i64 3) sk.asked rfl ⟨rfl, rfl⟩
                have K1 : Kept wr _ B vk.ownBlock := kept_set (kept_set (kept_set (Kept.refl wr B vk.ownBlock) 3 (.int .i64 ((sk.ow + 1) % 256))) 1 (.int .i64 (sk.lf - 1))) 2 (.int .i64 3)
                have hd1 := hM.d1
                rw [HZ.out] at hd1
                have hlZ : Z < wr.heap.size := World.block_lt_of_cell? wr _ hd1
                go_wp2_with (fail)
                obtain ⟨W, hW⟩ : ∃ W, ((wr.setCell ⟨B, 3, none⟩ (.int .i64 ((sk.ow + 1) % 256))).setCell ⟨B, 1, none⟩ (.int .i64 (sk.lf - 1))).setCell ⟨B, 2, none⟩ (.int .i64 3) = W := ⟨_, rfl⟩
                rw [hW] at R1 K1
                rw [hW]
                have HK : Hid (Kept wr W B vk.ownBlock) := K1
                have HR : Hid _ := R1
                have y10 : W.cell? ⟨B, 10, none⟩ = some vk := HR.out.blk.cell 10
                have y3 : W.cell? ⟨B, 3, none⟩ = some (.int .i64 ((sk.ow + 1) % 256)) := HR.out.blk.cell 3
                have yf : ∀ j, W.frozen? ⟨B, j, none⟩ = false := HR.out.blk.frozen
                have yl := HR.out.blk.lt
                have ylz : Z < W.heap.size := Nat.lt_of_lt_of_le hlZ HK.out.size
                obtain ⟨nn, hnn2⟩ : ∃ nn, qs.length = nn := ⟨_, rfl⟩
                have HN : Hid (qs.length = nn) := hnn2
                have rowW : Row W 3 vk nn (pvC qs) := by rw [← hnn2]; exact HR.out.row
                have hnb : nn ≤ 100 := by have := hM.few; omega
                have HMM : Hid _ := hM
                have HOW : Hid (vk.ownBlock ≠ some B) := HR.out.ne
                clear hM R1 K1 hW hnn2 z1 z2 z3 z6 z7 z8 z10 zf zl hd1
                go_region_law ((refine step_append_row (by rfl) (.tmp 119) (.tmp 125) 46 (by rfl) 36 ip (.agg #[.int .i64 0, .int .i64 0, .slice none 0 0]) 3 40 Tryd.underlying46 hip hp0 hp1 hp2 (by rfl) (by decide) vk nn (pvC qs) (by rfl) ((rowW.alloc _).drew) _ 1 1 [.int .i64 5, .int .i64 ((sk.ow + 1) % 256), .slice none 0 0] (by rfl) (by rfl) (by decide) (cells_threeD _ _ _ _ _ _ rfl) (one_pack _ _ _ _ _) (by unfold maxLen; omega) (by omega) ?_; intro g' cap' x1 hr1 hg1 hown1; have yb := blk_far2 HR.out.blk hg1 HOW.out; have w10 : x1.cell? ⟨B, 10, none⟩ = some vk := yb.cell 10; have wf : ∀ j, x1.frozen? ⟨B, j, none⟩ = false := yb.frozen; have wl := yb.lt; clear yb))
                all_goals
                  obtain ⟨RP, KP, VP⟩ := RRep.push HR.out (below_drew (below_alloc _ _)) hg1 ⟨5, ((sk.ow + 1) % 256), none, 0, 0, []⟩ (pv_none _ _ _ _ _) g' cap' (by rw [HN.out]; exact hr1) hown1
                  rw [HN.out] at RP KP VP
                  have HM2 : Hid _ := rmid_step HMM.out hBw HFR.out HDc.out RP rfl (fun g hg => by
                    rcases VP g hg with e | e
                    · exact .inl e
                    · exact .inr (Nat.le_trans HK.out.size e)) (HK.out.trans KP (fun i e => .inl e))
                  clear RP KP VP hr1 hg1 hown1 HMM
                  go_wp2_with (fail)
                  go_roundw
                  case rel => exact ⟨k + 1, _, _, _, _, by omega, by go_num, HM2.out⟩
                  case measure => simp [intOf]; omega
              · by_cases c97 : S[k] = 97
                · have hck : S[k] = 97 := c97
                  clear nb c105 c122 c114 c116 c97
                  have HDc : Hid (S.data.toList.drop k = (97 : UInt8) :: S.data.toList.drop (k + 1)) := by
                    have h9 := HD.out
                    rw [hck] at h9
                    exact h9
                  have q105 : ((S[k].toNat : Int) == 105) = false := by rw [hck]; rfl
                  have q122 : ((S[k].toNat : Int) == 122) = false := by rw [hck]; rfl
                  have q114 : ((S[k].toNat : Int) == 114) = false := by rw [hck]; rfl
                  have q116 : ((S[k].toNat : Int) == 116) = false := by rw [hck]; rfl
                  have q97 : ((S[k].toNat : Int) == 97) = true := by rw [hck]; rfl
                  have q110 : ((S[k].toNat : Int) == 110) = false := by rw [hck]; rfl
                  have q107 : ((S[k].toNat : Int) == 107) = false := by rw [hck]; rfl
                  have hd1 := hM.d1
                  rw [HZ.out] at hd1
                  have hlZ : Z < wr.heap.size := World.block_lt_of_cell? wr _ hd1
                  obtain ⟨nn, hnn2⟩ : ∃ nn, qs.length = nn := ⟨_, rfl⟩
                  have HN : Hid (qs.length = nn) := hnn2
                  have rowW : Row wr 3 vk nn (pvC qs) := by rw [← hnn2]; exact hM.rep.row
                  have hnb : nn ≤ 100 := by have := hM.few; omega
                  have HMM : Hid _ := hM
                  have HOW : Hid (vk.ownBlock ≠ some B) := hM.rep.ne
                  have hop : OptR wr.drew a n os := hM.opt.below (below_drew (Below.refl _ _))
                  have hblk := hM.rep.blk
                  have hvl : ∀ g, vk.ownBlock = some g → g < wr.heap.size := hM.rep.row.lt
                  clear hM hnn2 z1 z2 z3 z6 z7 z8
                  go_wp2_with (fail)
                  have F0 : wr.drew.cell? ⟨Z, 1, none⟩ = some (.int .i64 i0) := hd1
                  have HNZ : Hid (vk.ownBlock ≠ some Z) := by
                    intro e
                    have h8 := HMM.out.new Z e
                    rw [HZ.out] at h8
                    omega
                  refine wp_region_held_drew (S := fun x => x.cell? ⟨Z, 1, none⟩ = some (.int .i64 i0)) (by kernel_rfl) F0 (fun hHeld => ?_)
                  refine rt_yes 0 (some 132) rfl rfl (by kernel_rfl) (by kernel_rfl) (by kernel_rfl) (fun _ _ _ h => h) (by rfl) (v := ?_) ?_ (by assumption) ?_
                  rotate_left
                  · intro wS hSw
                    (try dsimp only at hSw)
                    go_simp
                    try with_reducible rfl
                  simp only [Act.put, List.setIfInBounds_toArray, List.set_cons_zero, List.set_cons_succ]
                  refine rt_yes 1 (some 133) rfl rfl (by kernel_rfl) (by kernel_rfl) (by kernel_rfl) (fun _ _ _ h => h) (by rfl) (v := ?_) ?_ (by assumption) ?_
                  rotate_left
                  · intro wS hSw
                    (try dsimp only at hSw)
                    go_simp
                    try with_reducible rfl
                  simp only [Act.put, List.setIfInBounds_toArray, List.set_cons_zero, List.set_cons_succ]
                  refine rt_yes 2 (some 134) rfl rfl (by kernel_rfl) (by kernel_rfl) (by kernel_rfl) (fun _ _ _ h => h) (by rfl) (v := ?_) ?_ (by assumption) ?_
                  rotate_left
                  · intro wS hSw
                    (try dsimp only at hSw)
                    go_simp
                    try with_reducible rfl
                  simp only [Act.put, List.setIfInBounds_toArray, List.set_cons_zero, List.set_cons_succ]
                  refine rt_yes 3 (some 135) rfl rfl (by kernel_rfl) (by kernel_rfl) (by kernel_rfl) (fun _ _ _ h => h) (by rfl) (v := ?_) ?_ (by assumption) ?_
                  rotate_left
                  · intro wS hSw
                    (try dsimp only at hSw)
                    go_simp
                    try with_reducible rfl
                  simp only [Act.put, List.setIfInBounds_toArray, List.set_cons_zero, List.set_cons_succ]
                  refine rt_yes 5 (some 137) rfl rfl (by kernel_rfl) (by kernel_rfl) (by kernel_rfl) (fun _ _ _ h => h) (by rfl) (v := ?_) ?_ (by assumption) ?_
                  rotate_left
                  · intro wS hSw
                    (try dsimp only at hSw)
                    go_simp
                    try with_reducible rfl
                  simp only [Act.put, List.setIfInBounds_toArray, List.set_cons_zero, List.set_cons_succ]
                  refine rt_yes 6 (some 138) rfl rfl (by kernel_rfl) (by kernel_rfl) (by kernel_rfl) (fun _ _ _ h => h) (by rfl) (v := ?_) ?_ (by assumption) ?_
                  rotate_left
                  · intro wS hSw
                    (try dsimp only at hSw)
                    go_simp
                    try with_reducible rfl
                  simp only [Act.put, List.setIfInBounds_toArray, List.set_cons_zero, List.set_cons_succ]
                  refine rt_yes 7 (some 139) rfl rfl (by kernel_rfl) (by kernel_rfl) (by kernel_rfl) (fun _ _ _ h => h) (by rfl) (v := ?_) ?_ (by assumption) ?_
                  rotate_left
                  · intro wS hSw
                    (try dsimp only at hSw)
                    go_simp
                    try with_reducible rfl
                  simp only [Act.put, List.setIfInBounds_toArray, List.set_cons_zero, List.set_cons_succ]
                  refine rt_yes 8 (some 140) rfl rfl (by kernel_rfl) (by kernel_rfl) (by kernel_rfl) (fun _ _ _ h => h) (by rfl) (v := ?_) ?_ (by assumption) ?_
                  rotate_left
                  · intro wS hSw
                    (try dsimp only at hSw)
                    go_simp
                    try with_reducible rfl
                  simp only [Act.put, List.setIfInBounds_toArray, List.set_cons_zero, List.set_cons_succ]
                  refine wpAnyH_ready (rs := [4, 9]) (by kernel_rfl) (by simp) ?_
                  refine AllReadyH.cons (o := _) rfl (fun K hK => ?_) (AllReadyH.cons (o := _) rfl (fun K hK => ?_) AllReadyH.nil)
                  · go_simp
                    (try go_wp2_with (fail))
                    refine hK.out _ _ (by exact F0) (fun hHeld => ?_)
                    clear hK K
                    refine wpAnyH_ready (rs := [9]) (by kernel_rfl) (by simp) ?_
                    refine AllReadyH.cons (o := _) rfl (fun K hK => ?_) AllReadyH.nil
                    refine step_append_opts (by rfl) _ (.tmp 140) 34 (by rfl) 69 io (.agg #[.int .i64 0, .int .i64 0]) Tryd.underlying34 hio hq0 hq1 hq2 (by rfl) (by rfl) a n cap os (by rfl) hop hnn ?_
                    intro b m c' x0 hr0 hg0 hn0 hm0
                    subst hm0
                    have yb0 := hblk.keep (hg0.block B zl (by simp))
                    have w10 : x0.cell? ⟨B, 10, none⟩ = some vk := yb0.cell 10
                    have wl0 := yb0.lt
                    have w1 : x0.cell? ⟨Z, 1, none⟩ = some (.int .i64 i0) := (World.cell?_of_block (a := ⟨Z, 1, none⟩) (hg0.block Z hlZ (by simp))).trans hd1
                    have wlz : Z < x0.heap.size := World.block_lt_of_cell? x0 _ w1
                    have F2 : ∀ o : Obj, (x0.alloc o).cell? ⟨Z, 1, none⟩ = some (.int .i64 i0) := fun o => (World.cell?_alloc_lt _ _ _ wlz).trans w1
                    have G2 : ∀ o : Obj, (x0.alloc o).cell? ⟨B, 10, none⟩ = some vk := fun o => (World.cell?_alloc_lt _ _ _ wl0).trans w10
                    have rowX : Row x0 3 vk nn (pvC qs) := rowW.keep hg0.size (fun k hk => hg0.block k (hvl k hk) (by simp))
                    refine hK.out _ _ (by exact w1) (fun hHeld => ?_)
                    clear hK K
                    refine rt_yes 10 (some 142) rfl rfl (by kernel_rfl) (by kernel_rfl) (by kernel_rfl) (fun _ _ _ h => h) (by rfl) (v := ?_) ?_ (by assumption) ?_
                    rotate_left
                    · intro wS hSw
                      (try dsimp only at hSw)
                      go_simp
                      try with_reducible rfl
                    simp only [Act.put, List.setIfInBounds_toArray]
                    refine wpAnyH_ready (rs := [11]) (by kernel_rfl) (by simp) ?_
                    refine AllReadyH.cons (o := _) rfl (fun K hK => ?_) AllReadyH.nil
                    go_simp
                    (try go_wp2_with (fail))
                    refine hK.out _ _ (by exact F2 _) (fun hHeld => ?_)
                    clear hK K
                    refine wpAnyH_ready (rs := [12]) (by kernel_rfl) (by simp) ?_
                    refine AllReadyH.cons (o := _) rfl (fun K hK => ?_) AllReadyH.nil
                    refine step_append_row (by rfl) (.tmp 136) (.tmp 143) 46 (by rfl) 36 ip (.agg #[.int .i64 0, .int .i64 0, .slice none 0 0]) 3 40 Tryd.underlying46 hip hp0 hp1 hp2 (by rfl) (by decide) vk nn (pvC qs) (by rfl) (rowX.alloc _) _ 1 1 [.int .i64 c, .int .i64 i0, .slice b m c'] (by rfl) (by rfl) (by decide) (cells_threeN _ _ _ _ _ _ rfl) (one_pack _ _ _ _ _) (by unfold maxLen; omega) (by omega) ?_
                    intro g' cap' x1 hr1 hg1 hown1
                    have yb := blk_far3 yb0 hg1 HOW.out
                    have v10 : x1.cell? ⟨B, 10, none⟩ = some vk := yb.cell 10
                    have vf : ∀ j, x1.frozen? ⟨B, j, none⟩ = false := yb.frozen
                    have vl := yb.lt
                    clear yb
                    have F3 : x1.cell? ⟨Z, 1, none⟩ = some (.int .i64 i0) := (World.cell?_of_block (a := ⟨Z, 1, none⟩) (hg1.block Z (by simp; omega) (fun e => HNZ.out e.symm))).trans (F2 _)
                    refine hK.out _ _ (by exact F3) (fun hHeld => ?_)
                    clear hK K
                    refine rt_yes 13 (some 145) rfl rfl (by kernel_rfl) (by kernel_rfl) (by kernel_rfl) (fun _ _ _ h => h) (by rfl) (v := ?_) ?_ (by assumption) ?_
                    rotate_left
                    · intro wS hSw
                      (try dsimp only at hSw)
                      go_simp
                      try with_reducible rfl
                    simp only [Act.put, List.setIfInBounds_toArray]
                    refine rt_yes 14 (some 146) rfl rfl (by kernel_rfl) (by kernel_rfl) (by kernel_rfl) (fun _ _ _ h => h) (by rfl) (v := ?_) ?_ (by assumption) ?_
                    rotate_left
                    · intro wS hSw
                      (try dsimp only at hSw)
                      go_simp
                      try with_reducible rfl
                    simp only [Act.put]
                    refine wpAnyH_ready (rs := [15]) (by kernel_rfl) (by simp) ?_
                    refine AllReadyH.cons (o := _) rfl (fun K hK => ?_) AllReadyH.nil
                    go_simp
                    (try go_wp2_with (fail))
                    refine hK.out _ _ (by exact (World.cell?_of_block (a := ⟨Z, 1, none⟩) (Below.heap_setCell _ _ _ Z (by show Z ≠ B; omega))).trans F3) (fun hHeld => ?_)
                    clear hK K
                    refine wpAnyH_done (by kernel_rfl) ?_ _
                    have bx : Below wr.heap.size wr x0 := below_grown0 (below_drew (Below.refl _ _)) hg0
                    have RX : RRep x0 B X sk akk vk qs := HMM.out.rep.below bx
                    have PX : PvOk (x0.alloc (.cells #[.int .i64 c, .int .i64 i0, .slice b m c'] 36)) X vk ⟨c, i0, b, m, c', os⟩ := (pv_row HMM.out.rep hr0 hn0 hnn c i0).kept HMM.out.rep.self (Kept.of_below B _ (below_alloc _ _)) (fun _ e => .inl e)
                    obtain ⟨RP, KP, VP⟩ := RRep.push RX (below_alloc _ _) hg1 ⟨c, i0, b, m, c', os⟩ PX g' cap' (by rw [HN.out]; exact hr1) hown1
                    rw [HN.out] at RP KP VP
                    have HM2 : Hid _ := rmid_step HMM.out hBw HFR.out HDc.out RP rfl (fun g hg => by
                      rcases VP g hg with e | e
                      · exact .inl e
                      · exact .inr (Nat.le_trans bx.size e)) ((Kept.of_below B _ bx).trans KP (fun i e => .inl e))
                    clear RP KP VP hr1 hg1 hown1 HMM RX PX bx hr0 hg0 hn0 rowX hop
                    go_wp2_with (fail)
                    go_roundw
                    case rel => exact ⟨k + 1, _, _, _, _, by omega, by go_num, HM2.out⟩
                    case measure => simp [intOf]; omega
                  · refine step_append_opts (by rfl) _ (.tmp 140) 34 (by rfl) 69 io (.agg #[.int .i64 0, .int .i64 0]) Tryd.underlying34 hio hq0 hq1 hq2 (by rfl) (by rfl) a n cap os (by rfl) hop hnn ?_
                    intro b m c' x0 hr0 hg0 hn0 hm0
                    subst hm0
                    have yb0 := hblk.keep (hg0.block B zl (by simp))
                    have w10 : x0.cell? ⟨B, 10, none⟩ = some vk := yb0.cell 10
                    have wl0 := yb0.lt
                    have w1 : x0.cell? ⟨Z, 1, none⟩ = some (.int .i64 i0) := (World.cell?_of_block (a := ⟨Z, 1, none⟩) (hg0.block Z hlZ (by simp))).trans hd1
                    have wlz : Z < x0.heap.size := World.block_lt_of_cell? x0 _ w1
                    have F2 : ∀ o : Obj, (x0.alloc o).cell? ⟨Z, 1, none⟩ = some (.int .i64 i0) := fun o => (World.cell?_alloc_lt _ _ _ wlz).trans w1
                    have G2 : ∀ o : Obj, (x0.alloc o).cell? ⟨B, 10, none⟩ = some vk := fun o => (World.cell?_alloc_lt _ _ _ wl0).trans w10
                    have rowX : Row x0 3 vk nn (pvC qs) := rowW.keep hg0.size (fun k hk => hg0.block k (hvl k hk) (by simp))
                    refine hK.out _ _ (by exact w1) (fun hHeld => ?_)
                    clear hK K
                    refine rt_yes 10 (some 142) rfl rfl (by kernel_rfl) (by kernel_rfl) (by kernel_rfl) (fun _ _ _ h => h) (by rfl) (v := ?_) ?_ (by assumption) ?_
                    rotate_left
                    · intro wS hSw
                      (try dsimp only at hSw)
                      go_simp
                      try with_reducible rfl
                    simp only [Act.put, List.setIfInBounds_toArray]
                    refine wpAnyH_ready (rs := [4, 11]) (by kernel_rfl) (by simp) ?_
                    refine AllReadyH.cons (o := _) rfl (fun K hK => ?_) (AllReadyH.cons (o := _) rfl (fun K hK => ?_) AllReadyH.nil)
                    · go_simp
                      (try go_wp2_with (fail))
                      refine hK.out _ _ (by exact w1) (fun hHeld => ?_)
                      clear hK K
                      refine wpAnyH_ready (rs := [11]) (by kernel_rfl) (by simp) ?_
                      refine AllReadyH.cons (o := _) rfl (fun K hK => ?_) AllReadyH.nil
                      go_simp
                      (try go_wp2_with (fail))
                      refine hK.out _ _ (by exact F2 _) (fun hHeld => ?_)
                      clear hK K
                      refine wpAnyH_ready (rs := [12]) (by kernel_rfl) (by simp) ?_
                      refine AllReadyH.cons (o := _) rfl (fun K hK => ?_) AllReadyH.nil
                      refine step_append_row (by rfl) (.tmp 136) (.tmp 143) 46 (by rfl) 36 ip (.agg #[.int .i64 0, .int .i64 0, .slice none 0 0]) 3 40 Tryd.underlying46 hip hp0 hp1 hp2 (by rfl) (by decide) vk nn (pvC qs) (by rfl) (rowX.alloc _) _ 1 1 [.int .i64 c, .int .i64 i0, .slice b m c'] (by rfl) (by rfl) (by decide) (cells_threeN _ _ _ _ _ _ rfl) (one_pack _ _ _ _ _) (by unfold maxLen; omega) (by omega) ?_
                      intro g' cap' x1 hr1 hg1 hown1
                      have yb := blk_far3 yb0 hg1 HOW.out
                      have v10 : x1.cell? ⟨B, 10, none⟩ = some vk := yb.cell 10
                      have vf : ∀ j, x1.frozen? ⟨B, j, none⟩ = false := yb.frozen
                      have vl := yb.lt
                      clear yb
                      have F3 : x1.cell? ⟨Z, 1, none⟩ = some (.int .i64 i0) := (World.cell?_of_block (a := ⟨Z, 1, none⟩) (hg1.block Z (by simp; omega) (fun e => HNZ.out e.symm))).trans (F2 _)
                      refine hK.out _ _ (by exact F3) (fun hHeld => ?_)
                      clear hK K
                      refine rt_yes 13 (some 145) rfl rfl (by kernel_rfl) (by kernel_rfl) (by kernel_rfl) (fun _ _ _ h => h) (by rfl) (v := ?_) ?_ (by assumption) ?_
                      rotate_left
                      · intro wS hSw
                        (try dsimp only at hSw)
                        go_simp
                        try with_reducible rfl
                      simp only [Act.put, List.setIfInBounds_toArray]
                      refine rt_yes 14 (some 146) rfl rfl (by kernel_rfl) (by kernel_rfl) (by kernel_rfl) (fun _ _ _ h => h) (by rfl) (v := ?_) ?_ (by assumption) ?_
                      rotate_left
                      · intro wS hSw
                        (try dsimp only at hSw)
                        go_simp
                        try with_reducible rfl
                      simp only [Act.put]
                      refine wpAnyH_ready (rs := [15]) (by kernel_rfl) (by simp) ?_
                      refine AllReadyH.cons (o := _) rfl (fun K hK => ?_) AllReadyH.nil
                      go_simp
                      (try go_wp2_with (fail))
                      refine hK.out _ _ (by exact (World.cell?_of_block (a := ⟨Z, 1, none⟩) (Below.heap_setCell _ _ _ Z (by show Z ≠ B; omega))).trans F3) (fun hHeld => ?_)
                      clear hK K
                      refine wpAnyH_done (by kernel_rfl) ?_ _
                      have bx : Below wr.heap.size wr x0 := below_grown0 (below_drew (Below.refl _ _)) hg0
                      have RX : RRep x0 B X sk akk vk qs := HMM.out.rep.below bx
                      have PX : PvOk (x0.alloc (.cells #[.int .i64 c, .int .i64 i0, .slice b m c'] 36)) X vk ⟨c, i0, b, m, c', os⟩ := (pv_row HMM.out.rep hr0 hn0 hnn c i0).kept HMM.out.rep.self (Kept.of_below B _ (below_alloc _ _)) (fun _ e => .inl e)
                      obtain ⟨RP, KP, VP⟩ := RRep.push RX (below_alloc _ _) hg1 ⟨c, i0, b, m, c', os⟩ PX g' cap' (by rw [HN.out]; exact hr1) hown1
                      rw [HN.out] at RP KP VP
                      have HM2 : Hid _ := rmid_step HMM.out hBw HFR.out HDc.out RP rfl (fun g hg => by
                        rcases VP g hg with e | e
                        · exact .inl e
                        · exact .inr (Nat.le_trans bx.size e)) ((Kept.of_below B _ bx).trans KP (fun i e => .inl e))
                      clear RP KP VP hr1 hg1 hown1 HMM RX PX bx hr0 hg0 hn0 rowX hop
                      go_wp2_with (fail)
                      go_roundw
                      case rel => exact ⟨k + 1, _, _, _, _, by omega, by go_num, HM2.out⟩
                      case measure => simp [intOf]; omega
                    · go_simp
                      (try go_wp2_with (fail))
                      refine hK.out _ _ (by exact F2 _) (fun hHeld => ?_)
                      clear hK K
                      refine wpAnyH_ready (rs := [4]) (by kernel_rfl) (by simp) ?_
                      refine AllReadyH.cons (o := _) rfl (fun K hK => ?_) AllReadyH.nil
                      go_simp
                      (try go_wp2_with (fail))
                      refine hK.out _ _ (by exact F2 _) (fun hHeld => ?_)
                      clear hK K
                      refine wpAnyH_ready (rs := [12]) (by kernel_rfl) (by simp) ?_
                      refine AllReadyH.cons (o := _) rfl (fun K hK => ?_) AllReadyH.nil
                      refine step_append_row (by rfl) (.tmp 136) (.tmp 143) 46 (by rfl) 36 ip (.agg #[.int .i64 0, .int .i64 0, .slice none 0 0]) 3 40 Tryd.underlying46 hip hp0 hp1 hp2 (by rfl) (by decide) vk nn (pvC qs) (by rfl) (rowX.alloc _) _ 1 1 [.int .i64 c, .int .i64 i0, .slice b m c'] (by rfl) (by rfl) (by decide) (cells_threeN _ _ _ _ _ _ rfl) (one_pack _ _ _ _ _) (by unfold maxLen; omega) (by omega) ?_
                      intro g' cap' x1 hr1 hg1 hown1
                      have yb := blk_far3 yb0 hg1 HOW.out
                      have v10 : x1.cell? ⟨B, 10, none⟩ = some vk := yb.cell 10
                      have vf : ∀ j, x1.frozen? ⟨B, j, none⟩ = false := yb.frozen
                      have vl := yb.lt
                      clear yb
                      have F3 : x1.cell? ⟨Z, 1, none⟩ = some (.int .i64 i0) := (World.cell?_of_block (a := ⟨Z, 1, none⟩) (hg1.block Z (by simp; omega) (fun e => HNZ.out e.symm))).trans (F2 _)
                      refine hK.out _ _ (by exact F3) (fun hHeld => ?_)
                      clear hK K
                      refine rt_yes 13 (some 145) rfl rfl (by kernel_rfl) (by kernel_rfl) (by kernel_rfl) (fun _ _ _ h => h) (by rfl) (v := ?_) ?_ (by assumption) ?_
                      rotate_left
                      · intro wS hSw
                        (try dsimp only at hSw)
                        go_simp
                        try with_reducible rfl
                      simp only [Act.put, List.setIfInBounds_toArray]
                      refine rt_yes 14 (some 146) rfl rfl (by kernel_rfl) (by kernel_rfl) (by kernel_rfl) (fun _ _ _ h => h) (by rfl) (v := ?_) ?_ (by assumption) ?_
                      rotate_left
                      · intro wS hSw
                        (try dsimp only at hSw)
                        go_simp
                        try with_reducible rfl
                      simp only [Act.put]
                      refine wpAnyH_ready (rs := [15]) (by kernel_rfl) (by simp) ?_
                      refine AllReadyH.cons (o := _) rfl (fun K hK => ?_) AllReadyH.nil
                      go_simp
                      (try go_wp2_with (fail))
                      refine hK.out _ _ (by exact (World.cell?_of_block (a := ⟨Z, 1, none⟩) (Below.heap_setCell _ _ _ Z (by show Z ≠ B; omega))).trans F3) (fun hHeld => ?_)
                      clear hK K
                      refine wpAnyH_done (by kernel_rfl) ?_ _
                      have bx : Below wr.heap.size wr x0 := below_grown0 (below_drew (Below.refl _ _)) hg0
                      have RX : RRep x0 B X sk akk vk qs := HMM.out.rep.below bx
                      have PX : PvOk (x0.alloc (.cells #[.int .i64 c, .int .i64 i0, .slice b m c'] 36)) X vk ⟨c, i0, b, m, c', os⟩ := (pv_row HMM.out.rep hr0 hn0 hnn c i0).kept HMM.out.rep.self (Kept.of_below B _ (below_alloc _ _)) (fun _ e => .inl e)
                      obtain ⟨RP, KP, VP⟩ := RRep.push RX (below_alloc _ _) hg1 ⟨c, i0, b, m, c', os⟩ PX g' cap' (by rw [HN.out]; exact hr1) hown1
                      rw [HN.out] at RP KP VP
                      have HM2 : Hid _ := rmid_step HMM.out hBw HFR.out HDc.out RP rfl (fun g hg => by
                        rcases VP g hg with e | e
                        · exact .inl e
                        · exact .inr (Nat.le_trans bx.size e)) ((Kept.of_below B _ bx).trans KP (fun i e => .inl e))
                      clear RP KP VP hr1 hg1 hown1 HMM RX PX bx hr0 hg0 hn0 rowX hop
                      go_wp2_with (fail)
                      go_roundw
                      case rel => exact ⟨k + 1, _, _, _, _, by omega, by go_num, HM2.out⟩
                      case measure => simp [intOf]; omega
                · by_cases c110 : S[k] = 110
                  · have hck : S[k] = 110 := c110
                    clear nb c105 c122 c114 c116 c97 c110
                    have HDc : Hid (S.data.toList.drop k = (110 : UInt8) :: S.data.toList.drop (k + 1)) := by
                      have h9 := HD.out
                      rw [hck] at h9
                      exact h9
                    have q105 : ((S[k].toNat : Int) == 105) = false := by rw [hck]; rfl
                    have q122 : ((S[k].toNat : Int) == 122) = false := by rw [hck]; rfl
                    have q114 : ((S[k].toNat : Int) == 114) = false := by rw [hck]; rfl
                    have q116 : ((S[k].toNat : Int) == 116) = false := by rw [hck]; rfl
                    have q97 : ((S[k].toNat : Int) == 97) = false := by rw [hck]; rfl
                    have q110 : ((S[k].toNat : Int) == 110) = true := by rw [hck]; rfl
                    have q107 : ((S[k].toNat : Int) == 107) = false := by rw [hck]; rfl
                    have hd1 := hM.d1
                    rw [HZ.out] at hd1
                    have hlZ : Z < wr.heap.size := World.block_lt_of_cell? wr _ hd1
                    obtain ⟨nn, hnn2⟩ : ∃ nn, qs.length = nn := ⟨_, rfl⟩
                    have HN : Hid (qs.length = nn) := hnn2
                    have rowW : Row wr 3 vk nn (pvC qs) := by rw [← hnn2]; exact hM.rep.row
                    have hnb : nn ≤ 100 := by have := hM.few; omega
                    have HMM : Hid _ := hM
                    have HOW : Hid (vk.ownBlock ≠ some B) := hM.rep.ne
                    have hop : OptR wr.drew a n os := hM.opt.below (below_drew (Below.refl _ _))
                    have hblk := hM.rep.blk
                    have hvl : ∀ g, vk.ownBlock = some g → g < wr.heap.size := hM.rep.row.lt
                    clear hM hnn2 z1 z2 z3 z6 z7 z8
                    go_wp2_with (fail)
                    have F0 : wr.drew.cell? ⟨Z, 1, none⟩ = some (.int .i64 i0) := hd1
                    have HNZ : Hid (vk.ownBlock ≠ some Z) := by
                      intro e
                      have h8 := HMM.out.new Z e
                      rw [HZ.out] at h8
                      omega
                    refine wp_region_held_drew (S := fun x => x.cell? ⟨Z, 1, none⟩ = some (.int .i64 i0)) (by kernel_rfl) F0 (fun hHeld => ?_)
                    refine rt_yes 0 (some 132) rfl rfl (by kernel_rfl) (by kernel_rfl) (by kernel_rfl) (fun _ _ _ h => h) (by rfl) (v := ?_) ?_ (by assumption) ?_
                    rotate_left
                    · intro wS hSw
                      (try dsimp only at hSw)
                      go_simp
                      try with_reducible rfl
                    simp only [Act.put, List.setIfInBounds_toArray, List.set_cons_zero, List.set_cons_succ]
                    refine rt_yes 1 (some 133) rfl rfl (by kernel_rfl) (by kernel_rfl) (by kernel_rfl) (fun _ _ _ h => h) (by rfl) (v := ?_) ?_ (by assumption) ?_
                    rotate_left
                    · intro wS hSw
                      (try dsimp only at hSw)
                      go_simp
                      try with_reducible rfl
                    simp only [Act.put, List.setIfInBounds_toArray, List.set_cons_zero, List.set_cons_succ]
                    refine rt_yes 2 (some 134) rfl rfl (by kernel_rfl) (by kernel_rfl) (by kernel_rfl) (fun _ _ _ h => h) (by rfl) (v := ?_) ?_ (by assumption) ?_
                    rotate_left
                    · intro wS hSw
                      (try dsimp only at hSw)
                      go_simp
                      try with_reducible rfl
                    simp only [Act.put, List.setIfInBounds_toArray, List.set_cons_zero, List.set_cons_succ]
                    refine rt_yes 3 (some 135) rfl rfl (by kernel_rfl) (by kernel_rfl) (by kernel_rfl) (fun _ _ _ h => h) (by rfl) (v := ?_) ?_ (by assumption) ?_
                    rotate_left
                    · intro wS hSw
                      (try dsimp only at hSw)
                      go_simp
                      try with_reducible rfl
                    simp only [Act.put, List.setIfInBounds_toArray, List.set_cons_zero, List.set_cons_succ]
                    refine rt_yes 5 (some 137) rfl rfl (by kernel_rfl) (by kernel_rfl) (by kernel_rfl) (fun _ _ _ h => h) (by rfl) (v := ?_) ?_ (by assumption) ?_
                    rotate_left
                    · intro wS hSw
                      (try dsimp only at hSw)
                      go_simp
                      try with_reducible rfl
                    simp only [Act.put, List.setIfInBounds_toArray, List.set_cons_zero, List.set_cons_succ]
                    refine rt_yes 6 (some 138) rfl rfl (by kernel_rfl) (by kernel_rfl) (by kernel_rfl) (fun _ _ _ h => h) (by rfl) (v := ?_) ?_ (by assumption) ?_
                    rotate_left
                    · intro wS hSw
                      (try dsimp only at hSw)
                      go_simp
                      try with_reducible rfl
                    simp only [Act.put, List.setIfInBounds_toArray, List.set_cons_zero, List.set_cons_succ]
                    refine rt_yes 7 (some 139) rfl rfl (by kernel_rfl) (by kernel_rfl) (by kernel_rfl) (fun _ _ _ h => h) (by rfl) (v := ?_) ?_ (by assumption) ?_
                    rotate_left
                    · intro wS hSw
                      (try dsimp only at hSw)
                      go_simp
                      try with_reducible rfl
                    simp only [Act.put, List.setIfInBounds_toArray, List.set_cons_zero, List.set_cons_succ]
                    refine rt_yes 8 (some 140) rfl rfl (by kernel_rfl) (by kernel_rfl) (by kernel_rfl) (fun _ _ _ h => h) (by rfl) (v := ?_) ?_ (by assumption) ?_
                    rotate_left
                    · intro wS hSw
                      (try dsimp only at hSw)
                      go_simp
                      try with_reducible rfl
                    simp only [Act.put, List.setIfInBounds_toArray, List.set_cons_zero, List.set_cons_succ]
                    refine wpAnyH_ready (rs := [4, 9]) (by kernel_rfl) (by simp) ?_
                    refine AllReadyH.cons (o := _) rfl (fun K hK => ?_) (AllReadyH.cons (o := _) rfl (fun K hK => ?_) AllReadyH.nil)
                    · go_simp
                      (try go_wp2_with (fail))
                      refine hK.out _ _ (by exact F0) (fun hHeld => ?_)
                      clear hK K
                      refine wpAnyH_ready (rs := [9]) (by kernel_rfl) (by simp) ?_
                      refine AllReadyH.cons (o := _) rfl (fun K hK => ?_) AllReadyH.nil
                      refine step_append_opts (by rfl) _ (.tmp 140) 34 (by rfl) 69 io (.agg #[.int .i64 0, .int .i64 0]) Tryd.underlying34 hio hq0 hq1 hq2 (by rfl) (by rfl) a n cap os (by rfl) hop hnn ?_
                      intro b m c' x0 hr0 hg0 hn0 hm0
                      subst hm0
                      have yb0 := hblk.keep (hg0.block B zl (by simp))
                      have w10 : x0.cell? ⟨B, 10, none⟩ = some vk := yb0.cell 10
                      have wl0 := yb0.lt
                      have w1 : x0.cell? ⟨Z, 1, none⟩ = some (.int .i64 i0) := (World.cell?_of_block (a := ⟨Z, 1, none⟩) (hg0.block Z hlZ (by simp))).trans hd1
                      have wlz : Z < x0.heap.size := World.block_lt_of_cell? x0 _ w1
                      have F2 : ∀ o : Obj, (x0.alloc o).cell? ⟨Z, 1, none⟩ = some (.int .i64 i0) := fun o => (World.cell?_alloc_lt _ _ _ wlz).trans w1
                      have G2 : ∀ o : Obj, (x0.alloc o).cell? ⟨B, 10, none⟩ = some vk := fun o => (World.cell?_alloc_lt _ _ _ wl0).trans w10
                      have rowX : Row x0 3 vk nn (pvC qs) := rowW.keep hg0.size (fun k hk => hg0.block k (hvl k hk) (by simp))
                      refine hK.out _ _ (by exact w1) (fun hHeld => ?_)
                      clear hK K
                      refine rt_yes 10 (some 142) rfl rfl (by kernel_rfl) (by kernel_rfl) (by kernel_rfl) (fun _ _ _ h => h) (by rfl) (v := ?_) ?_ (by assumption) ?_
                      rotate_left
                      · intro wS hSw
                        (try dsimp only at hSw)
                        go_simp
                        try with_reducible rfl
                      simp only [Act.put, List.setIfInBounds_toArray]
                      refine wpAnyH_ready (rs := [11]) (by kernel_rfl) (by simp) ?_
                      refine AllReadyH.cons (o := _) rfl (fun K hK => ?_) AllReadyH.nil
                      go_simp
                      (try go_wp2_with (fail))
                      refine hK.out _ _ (by exact F2 _) (fun hHeld => ?_)
                      clear hK K
                      refine wpAnyH_ready (rs := [12]) (by kernel_rfl) (by simp) ?_
                      refine AllReadyH.cons (o := _) rfl (fun K hK => ?_) AllReadyH.nil
                      refine step_append_row (by rfl) (.tmp 136) (.tmp 143) 46 (by rfl) 36 ip (.agg #[.int .i64 0, .int .i64 0, .slice none 0 0]) 3 40 Tryd.underlying46 hip hp0 hp1 hp2 (by rfl) (by decide) vk nn (pvC qs) (by rfl) (rowX.alloc _) _ 1 1 [.int .i64 c, .int .i64 i0, .slice b m c'] (by rfl) (by rfl) (by decide) (cells_threeN _ _ _ _ _ _ rfl) (one_pack _ _ _ _ _) (by unfold maxLen; omega) (by omega) ?_
                      intro g' cap' x1 hr1 hg1 hown1
                      have yb := blk_far3 yb0 hg1 HOW.out
                      have v10 : x1.cell? ⟨B, 10, none⟩ = some vk := yb.cell 10
                      have vf : ∀ j, x1.frozen? ⟨B, j, none⟩ = false := yb.frozen
                      have vl := yb.lt
                      clear yb
                      have F3 : x1.cell? ⟨Z, 1, none⟩ = some (.int .i64 i0) := (World.cell?_of_block (a := ⟨Z, 1, none⟩) (hg1.block Z (by simp; omega) (fun e => HNZ.out e.symm))).trans (F2 _)
                      refine hK.out _ _ (by exact F3) (fun hHeld => ?_)
                      clear hK K
                      refine rt_yes 13 (some 145) rfl rfl (by kernel_rfl) (by kernel_rfl) (by kernel_rfl) (fun _ _ _ h => h) (by rfl) (v := ?_) ?_ (by assumption) ?_
                      rotate_left
                      · intro wS hSw
                        (try dsimp only at hSw)
                        go_simp
                        try with_reducible rfl
                      simp only [Act.put, List.setIfInBounds_toArray]
                      refine rt_yes 14 (some 146) rfl rfl (by kernel_rfl) (by kernel_rfl) (by kernel_rfl) (fun _ _ _ h => h) (by rfl) (v := ?_) ?_ (by assumption) ?_
                      rotate_left
                      · intro wS hSw
                        (try dsimp only at hSw)
                        go_simp
                        try with_reducible rfl
                      simp only [Act.put]
                      refine wpAnyH_ready (rs := [15]) (by kernel_rfl) (by simp) ?_
                      refine AllReadyH.cons (o := _) rfl (fun K hK => ?_) AllReadyH.nil
                      go_simp
                      (try go_wp2_with (fail))
                      refine hK.out _ _ (by exact (World.cell?_of_block (a := ⟨Z, 1, none⟩) (Below.heap_setCell _ _ _ Z (by show Z ≠ B; omega))).trans F3) (fun hHeld => ?_)
                      clear hK K
                      refine wpAnyH_done (by kernel_rfl) ?_ _
                      have bx : Below wr.heap.size wr x0 := below_grown0 (below_drew (Below.refl _ _)) hg0
                      have RX : RRep x0 B X sk akk vk qs := HMM.out.rep.below bx
                      have PX : PvOk (x0.alloc (.cells #[.int .i64 c, .int .i64 i0, .slice b m c'] 36)) X vk ⟨c, i0, b, m, c', os⟩ := (pv_row HMM.out.rep hr0 hn0 hnn c i0).kept HMM.out.rep.self (Kept.of_below B _ (below_alloc _ _)) (fun _ e => .inl e)
                      obtain ⟨RP, KP, VP⟩ := RRep.push RX (below_alloc _ _) hg1 ⟨c, i0, b, m, c', os⟩ PX g' cap' (by rw [HN.out]; exact hr1) hown1
                      rw [HN.out] at RP KP VP
                      have HM2 : Hid _ := rmid_step HMM.out hBw HFR.out HDc.out RP rfl (fun g hg => by
                        rcases VP g hg with e | e
                        · exact .inl e
                        · exact .inr (Nat.le_trans bx.size e)) ((Kept.of_below B _ bx).trans KP (fun i e => .inl e))
                      clear RP KP VP hr1 hg1 hown1 HMM RX PX bx hr0 hg0 hn0 rowX hop
                      go_wp2_with (fail)
                      go_roundw
                      case rel => exact ⟨k + 1, _, _, _, _, by omega, by go_num, HM2.out⟩
                      case measure => simp [intOf]; omega
                    · refine step_append_opts (by rfl) _ (.tmp 140) 34 (by rfl) 69 io (.agg #[.int .i64 0, .int .i64 0]) Tryd.underlying34 hio hq0 hq1 hq2 (by rfl) (by rfl) a n cap os (by rfl) hop hnn ?_
                      intro b m c' x0 hr0 hg0 hn0 hm0
                      subst hm0
                      have yb0 := hblk.keep (hg0.block B zl (by simp))
                      have w10 : x0.cell? ⟨B, 10, none⟩ = some vk := yb0.cell 10
                      have wl0 := yb0.lt
                      have w1 : x0.cell? ⟨Z, 1, none⟩ = some (.int .i64 i0) := (World.cell?_of_block (a := ⟨Z, 1, none⟩) (hg0.block Z hlZ (by simp))).trans hd1
                      have wlz : Z < x0.heap.size := World.block_lt_of_cell? x0 _ w1
                      have F2 : ∀ o : Obj, (x0.alloc o).cell? ⟨Z, 1, none⟩ = some (.int .i64 i0) := fun o => (World.cell?_alloc_lt _ _ _ wlz).trans w1
                      have G2 : ∀ o : Obj, (x0.alloc o).cell? ⟨B, 10, none⟩ = some vk := fun o => (World.cell?_alloc_lt _ _ _ wl0).trans w10
                      have rowX : Row x0 3 vk nn (pvC qs) := rowW.keep hg0.size (fun k hk => hg0.block k (hvl k hk) (by simp))
                      refine hK.out _ _ (by exact w1) (fun hHeld => ?_)
                      clear hK K
                      refine rt_yes 10 (some 142) rfl rfl (by kernel_rfl) (by kernel_rfl) (by kernel_rfl) (fun _ _ _ h => h) (by rfl) (v := ?_) ?_ (by assumption) ?_
                      rotate_left
                      · intro wS hSw
                        (try dsimp only at hSw)
                        go_simp
                        try with_reducible rfl
                      simp only [Act.put, List.setIfInBounds_toArray]
                      refine wpAnyH_ready (rs := [4, 11]) (by kernel_rfl) (by simp) ?_
                      refine AllReadyH.cons (o := _) rfl (fun K hK => ?_) (AllReadyH.cons (o := _) rfl (fun K hK => ?_) AllReadyH.nil)
                      · go_simp
                        (try go_wp2_with (fail))
                        refine hK.out _ _ (by exact w1) (fun hHeld => ?_)
                        clear hK K
                        refine wpAnyH_ready (rs := [11]) (by kernel_rfl) (by simp) ?_
                        refine AllReadyH.cons (o := _) rfl (fun K hK => ?_) AllReadyH.nil
                        go_simp
                        (try go_wp2_with (fail))
                        refine hK.out _ _ (by exact F2 _) (fun hHeld => ?_)
                        clear hK K
                        refine wpAnyH_ready (rs := [12]) (by kernel_rfl) (by simp) ?_
                        refine AllReadyH.cons (o := _) rfl (fun K hK => ?_) AllReadyH.nil
                        refine step_append_row (by rfl) (.tmp 136) (.tmp 143) 46 (by rfl) 36 ip (.agg #[.int .i64 0, .int .i64 0, .slice none 0 0]) 3 40 Tryd.underlying46 hip hp0 hp1 hp2 (by rfl) (by decide) vk nn (pvC qs) (by rfl) (rowX.alloc _) _ 1 1 [.int .i64 c, .int .i64 i0, .slice b m c'] (by rfl) (by rfl) (by decide) (cells_threeN _ _ _ _ _ _ rfl) (one_pack _ _ _ _ _) (by unfold maxLen; omega) (by omega) ?_
                        intro g' cap' x1 hr1 hg1 hown1
                        have yb := blk_far3 yb0 hg1 HOW.out
                        have v10 : x1.cell? ⟨B, 10, none⟩ = some vk := yb.cell 10
                        have vf : ∀ j, x1.frozen? ⟨B, j, none⟩ = false := yb.frozen
                        have vl := yb.lt
                        clear yb
                        have F3 : x1.cell? ⟨Z, 1, none⟩ = some (.int .i64 i0) := (World.cell?_of_block (a := ⟨Z, 1, none⟩) (hg1.block Z (by simp; omega) (fun e => HNZ.out e.symm))).trans (F2 _)
                        refine hK.out _ _ (by exact F3) (fun hHeld => ?_)
                        clear hK K
                        refine rt_yes 13 (some 145) rfl rfl (by kernel_rfl) (by kernel_rfl) (by kernel_rfl) (fun _ _ _ h => h) (by rfl) (v := ?_) ?_ (by assumption) ?_
                        rotate_left
                        · intro wS hSw
                          (try dsimp only at hSw)
                          go_simp
                          try with_reducible rfl
                        simp only [Act.put, List.setIfInBounds_toArray]
                        refine rt_yes 14 (some 146) rfl rfl (by kernel_rfl) (by kernel_rfl) (by kernel_rfl) (fun _ _ _ h => h) (by rfl) (v := ?_) ?_ (by assumption) ?_
                        rotate_left
                        · intro wS hSw
                          (try dsimp only at hSw)
                          go_simp
                          try with_reducible rfl
                        simp only [Act.put]
                        refine wpAnyH_ready (rs := [15]) (by kernel_rfl) (by simp) ?_
                        refine AllReadyH.cons (o := _) rfl (fun K hK => ?_) AllReadyH.nil
                        go_simp
                        (try go_wp2_with (fail))
                        refine hK.out _ _ (by exact (World.cell?_of_block (a := ⟨Z, 1, none⟩) (Below.heap_setCell _ _ _ Z (by show Z ≠ B; omega))).trans F3) (fun hHeld => ?_)
                        clear hK K
                        refine wpAnyH_done (by kernel_rfl) ?_ _
                        have bx : Below wr.heap.size wr x0 := below_grown0 (below_drew (Below.refl _ _)) hg0
                        have RX : RRep x0 B X sk akk vk qs := HMM.out.rep.below bx
                        have PX : PvOk (x0.alloc (.cells #[.int .i64 c, .int .i64 i0, .slice b m c'] 36)) X vk ⟨c, i0, b, m, c', os⟩ := (pv_row HMM.out.rep hr0 hn0 hnn c i0).kept HMM.out.rep.self (Kept.of_below B _ (below_alloc _ _)) (fun _ e => .inl e)
                        obtain ⟨RP, KP, VP⟩ := RRep.push RX (below_alloc _ _) hg1 ⟨c, i0, b, m, c', os⟩ PX g' cap' (by rw [HN.out]; exact hr1) hown1
                        rw [HN.out] at RP KP VP
                        have HM2 : Hid _ := rmid_step HMM.out hBw HFR.out HDc.out RP rfl (fun g hg => by
                          rcases VP g hg with e | e
                          · exact .inl e
                          · exact .inr (Nat.le_trans bx.size e)) ((Kept.of_below B _ bx).trans KP (fun i e => .inl e))
                        clear RP KP VP hr1 hg1 hown1 HMM RX PX bx hr0 hg0 hn0 rowX hop
                        go_wp2_with (fail)
                        go_roundw
                        case rel => exact ⟨k + 1, _, _, _, _, by omega, by go_num, HM2.out⟩
                        case measure => simp [intOf]; omega
                      · go_simp
                        (try go_wp2_with (fail))
                        refine hK.out _ _ (by exact F2 _) (fun hHeld => ?_)
                        clear hK K
                        refine wpAnyH_ready (rs := [4]) (by kernel_rfl) (by simp) ?_
                        refine AllReadyH.cons (o := _) rfl (fun K hK => ?_) AllReadyH.nil
                        go_simp
                        (try go_wp2_with (fail))
                        refine hK.out _ _ (by exact F2 _) (fun hHeld => ?_)
                        clear hK K
                        refine wpAnyH_ready (rs := [12]) (by kernel_rfl) (by simp) ?_
                        refine AllReadyH.cons (o := _) rfl (fun K hK => ?_) AllReadyH.nil
                        refine step_append_row (by rfl) (.tmp 136) (.tmp 143) 46 (by rfl) 36 ip (.agg #[.int .i64 0, .int .i64 0, .slice none 0 0]) 3 40 Tryd.underlying46 hip hp0 hp1 hp2 (by rfl) (by decide) vk nn (pvC qs) (by rfl) (rowX.alloc _) _ 1 1 [.int .i64 c, .int .i64 i0, .slice b m c'] (by rfl) (by rfl) (by decide) (cells_threeN _ _ _ _ _ _ rfl) (one_pack _ _ _ _ _) (by unfold maxLen; omega) (by omega) ?_
                        intro g' cap' x1 hr1 hg1 hown1
                        have yb := blk_far3 yb0 hg1 HOW.out
                        have v10 : x1.cell? ⟨B, 10, none⟩ = some vk := yb.cell 10
                        have vf : ∀ j, x1.frozen? ⟨B, j, none⟩ = false := yb.frozen
                        have vl := yb.lt
                        clear yb
                        have F3 : x1.cell? ⟨Z, 1, none⟩ = some (.int .i64 i0) := (World.cell?_of_block (a := ⟨Z, 1, none⟩) (hg1.block Z (by simp; omega) (fun e => HNZ.out e.symm))).trans (F2 _)
                        refine hK.out _ _ (by exact F3) (fun hHeld => ?_)
                        clear hK K
                        refine rt_yes 13 (some 145) rfl rfl (by kernel_rfl) (by kernel_rfl) (by kernel_rfl) (fun _ _ _ h => h) (by rfl) (v := ?_) ?_ (by assumption) ?_
                        rotate_left
                        · intro wS hSw
                          (try dsimp only at hSw)
                          go_simp
                          try with_reducible rfl
                        simp only [Act.put, List.setIfInBounds_toArray]
                        refine rt_yes 14 (some 146) rfl rfl (by kernel_rfl) (by kernel_rfl) (by kernel_rfl) (fun _ _ _ h => h) (by rfl) (v := ?_) ?_ (by assumption) ?_
                        rotate_left
                        · intro wS hSw
                          (try dsimp only at hSw)
                          go_simp
                          try with_reducible rfl
                        simp only [Act.put]
                        refine wpAnyH_ready (rs := [15]) (by kernel_rfl) (by simp) ?_
                        refine AllReadyH.cons (o := _) rfl (fun K hK => ?_) AllReadyH.nil
                        go_simp
                        (try go_wp2_with (fail))
                        refine hK.out _ _ (by exact (World.cell?_of_block (a := ⟨Z, 1, none⟩) (Below.heap_setCell _ _ _ Z (by show Z ≠ B; omega))).trans F3) (fun hHeld => ?_)
                        clear hK K
                        refine wpAnyH_done (by kernel_rfl) ?_ _
                        have bx : Below wr.heap.size wr x0 := below_grown0 (below_drew (Below.refl _ _)) hg0
                        have RX : RRep x0 B X sk akk vk qs := HMM.out.rep.below bx
                        have PX : PvOk (x0.alloc (.cells #[.int .i64 c, .int .i64 i0, .slice b m c'] 36)) X vk ⟨c, i0, b, m, c', os⟩ := (pv_row HMM.out.rep hr0 hn0 hnn c i0).kept HMM.out.rep.self (Kept.of_below B _ (below_alloc _ _)) (fun _ e => .inl e)
                        obtain ⟨RP, KP, VP⟩ := RRep.push RX (below_alloc _ _) hg1 ⟨c, i0, b, m, c', os⟩ PX g' cap' (by rw [HN.out]; exact hr1) hown1
                        rw [HN.out] at RP KP VP
                        have HM2 : Hid _ := rmid_step HMM.out hBw HFR.out HDc.out RP rfl (fun g hg => by
                          rcases VP g hg with e | e
                          · exact .inl e
                          · exact .inr (Nat.le_trans bx.size e)) ((Kept.of_below B _ bx).trans KP (fun i e => .inl e))
                        clear RP KP VP hr1 hg1 hown1 HMM RX PX bx hr0 hg0 hn0 rowX hop
                        go_wp2_with (fail)
                        go_roundw
                        case rel => exact ⟨k + 1, _, _, _, _, by omega, by go_num, HM2.out⟩
                        case measure => simp [intOf]; omega
                  · by_cases c107 : S[k] = 107
                    · have hck : S[k] = 107 := c107
                      clear nb c105 c122 c114 c116 c97 c110 c107
                      have HDc : Hid (S.data.toList.drop k = (107 : UInt8) :: S.data.toList.drop (k + 1)) := by
                        have h9 := HD.out
                        rw [hck] at h9
                        exact h9
                      have q105 : ((S[k].toNat : Int) == 105) = false := by rw [hck]; rfl
                      have q122 : ((S[k].toNat : Int) == 122) = false := by rw [hck]; rfl
                      have q114 : ((S[k].toNat : Int) == 114) = false := by rw [hck]; rfl
                      have q116 : ((S[k].toNat : Int) == 116) = false := by rw [hck]; rfl
                      have q97 : ((S[k].toNat : Int) == 97) = false := by rw [hck]; rfl
                      have q110 : ((S[k].toNat : Int) == 110) = false := by rw [hck]; rfl
                      have q107 : ((S[k].toNat : Int) == 107) = true := by rw [hck]; rfl
                      have R1 := hM.rep
                      have K1 : Kept wr wr B vk.ownBlock := Kept.refl _ B _
                      have hd1 := hM.d1
                      rw [HZ.out] at hd1
                      have hlZ : Z < wr.heap.size := World.block_lt_of_cell? wr _ hd1
                      go_wp2_with (fail)
                      obtain ⟨W, hW⟩ : ∃ W, wr = W := ⟨_, rfl⟩
                      have e0 : W = wr := hW.symm
                      rw [hW]
                      have HK : Hid (Kept wr W B vk.ownBlock) := by rw [e0]; exact K1
                      have HR : Hid (RRep W B X sk akk vk qs) := by rw [e0]; exact R1
                      have y10 : W.cell? ⟨B, 10, none⟩ = some vk := HR.out.blk.cell 10
                      have y1 : W.cell? ⟨Z, 1, none⟩ = some (.int .i64 i0) := by rw [e0]; exact hd1
                      have yf : ∀ j, W.frozen? ⟨B, j, none⟩ = false := HR.out.blk.frozen
                      have yl := HR.out.blk.lt
                      have ylz : Z < W.heap.size := Nat.lt_of_lt_of_le hlZ HK.out.size
                      obtain ⟨nn, hnn2⟩ : ∃ nn, qs.length = nn := ⟨_, rfl⟩
                      have HN : Hid (qs.length = nn) := hnn2
                      have rowW : Row W 3 vk nn (pvC qs) := by rw [← hnn2]; exact HR.out.row
                      have hnb : nn ≤ 100 := by have := hM.few; omega
                      have HMM : Hid _ := hM
                      have HOW : Hid (vk.ownBlock ≠ some B) := HR.out.ne
                      clear hM R1 K1 hW hnn2 z1 z2 z3 z6 z7 z8 z10 zf zl hd1 e0
                      go_region_law ((refine step_append_row (by rfl) (.tmp 153) (.tmp 157) 46 (by rfl) 36 ip (.agg #[.int .i64 0, .int .i64 0, .slice none 0 0]) 3 40 Tryd.underlying46 hip hp0 hp1 hp2 (by rfl) (by decide) vk nn (pvC qs) (by rfl) ((rowW.alloc _).drew) _ 1 1 [.int .i64 6, .int .i64 i0, .slice none 0 0] (by rfl) (by rfl) (by decide) (cells_threeD _ _ _ _ _ _ rfl) (one_pack _ _ _ _ _) (by unfold maxLen; omega) (by omega) ?_; intro g' cap' x1 hr1 hg1 hown1; have yb := blk_far2 HR.out.blk hg1 HOW.out; have w10 : x1.cell? ⟨B, 10, none⟩ = some vk := yb.cell 10; have wf : ∀ j, x1.frozen? ⟨B, j, none⟩ = false := yb.frozen; have wl := yb.lt; clear yb))
                      all_goals
                        obtain ⟨RP, KP, VP⟩ := RRep.push HR.out (below_drew (below_alloc _ _)) hg1 ⟨6, i0, none, 0, 0, []⟩ (pv_none _ _ _ _ _) g' cap' (by rw [HN.out]; exact hr1) hown1
                        rw [HN.out] at RP KP VP
                        have HM2 : Hid _ := rmid_step HMM.out hBw HFR.out HDc.out RP rfl (fun g hg => by
                          rcases VP g hg with e | e
                          · exact .inl e
                          · exact .inr (Nat.le_trans HK.out.size e)) (HK.out.trans KP (fun i e => .inl e))
                        clear RP KP VP hr1 hg1 hown1 HMM
                        go_wp2_with (fail)
                        go_roundw
                        case rel => exact ⟨k + 1, _, _, _, _, by omega, by go_num, HM2.out⟩
                        case measure => simp [intOf]; omega
                    · have q105 : ((S[k].toNat : Int) == 105) = false := nb 105 c105
                      have q122 : ((S[k].toNat : Int) == 122) = false := nb 122 c122
                      have q114 : ((S[k].toNat : Int) == 114) = false := nb 114 c114
                      have q116 : ((S[k].toNat : Int) == 116) = false := nb 116 c116
                      have q97 : ((S[k].toNat : Int) == 97) = false := nb 97 c97
                      have q110 : ((S[k].toNat : Int) == 110) = false := nb 110 c110
                      have q107 : ((S[k].toNat : Int) == 107) = false := nb 107 c107
                      have HM2 : Hid (RMid w wr B X S (k + 1) a n (c, i0, os) sF oF (actS S[k] sk) akk vk (qs ++ [])) := by
                        refine rmid_step hM hBw HFR.out HD.out ?_ ?_ (fun _ e => .inl e) (Kept.refl _ B _)
                        · rw [List.append_nil, show actS S[k] sk = sk by simp [actS, c105, c122, c114, c116]]
                          exact hM.rep
                        · simp [actO, c114, c116, c97, c110, c107]
                      clear hM HD
                      go_wp2_with (fail)
                      go_roundw
                      case rel => exact ⟨k + 1, _, _, _, _, by omega, by go_num, HM2.out⟩
                      case measure => simp [intOf]; omega
      · have hdd : S.data.toList.drop k = [] := List.drop_eq_nil_of_le (by have : S.data.toList.length = S.size := by simp
                                                                           omega)
        have HF : Hid (RWent w wr B X sF oF) := by
          have h1 := hM.fin
          have h2 := hM.out
          rw [hdd] at h1 h2
          have h3 : sk = sF := h1
          subst h3
          refine ⟨⟨akk, vk, qs, hM.rep, by simpa [runO] using h2, fun g hg => Nat.le_of_lt (hM.new g hg)⟩, hM.kept⟩
        clear hM hdd
        go_wp2_with (fail)
        go_ret
        exact ⟨rfl, HF.out⟩
end Go.Proofs.YtgfjgenkpfdofaaDoor
