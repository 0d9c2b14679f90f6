/-
  'TopNewest' returns true at all states and ports, and changes nothing that was there.
-/
import Derived.Test.YtielnomhdahciaaFloodLight
import Derived.Test.YtielnomhdahciaaIntsIn
import Derived.Deep.DeepCutAuto
import Derived.BigQuiet
namespace Go.Proofs.Ytielnomhdahciaa
open Go.RowKit St
namespace topNewest

theorem and_mask (a : Int) : ∃ m : Nat, m ≤ 1023 ∧ bits .and .i64 a 1023 = (m : Int) := by
  have e : (BitVec.ofInt 64 a &&& BitVec.ofInt 64 1023).toNat ≤ 1023 := by
    rw [BitVec.toNat_and]
    exact Nat.and_le_right
  refine ⟨(BitVec.ofInt 64 a &&& BitVec.ofInt 64 1023).toNat, e, ?_⟩
  show IntKind.i64.wrap ((BitVec.ofInt 64 a &&& BitVec.ofInt 64 1023).toNat : Int) = _
  rw [IntKind.wrap_i64]
  omega
theorem below_drew {w a : World} {B : Nat} (h : Below B w a) : Below B w a.drew := below_drewN h 1
/-- The port of the i-th. -/
def pt (xs : List Int) (i : Nat) : Nat := ((bits .and .i64 (xs.getD i 0) 1023).toNat) % 3

theorem port_at (xs : List Int) (i : Nat) : ∃ q : Nat, bits .and .i64 (xs.getD i 0) 1023 = (q : Int) ∧ ((q : Nat) : Int).tmod 3 = ((pt xs i : Nat) : Int) ∧ pt xs i < 3 := by
  obtain ⟨q, hq, hqe⟩ := and_mask (xs.getD i 0)
  refine ⟨q, hqe, ?_, Nat.mod_lt _ (by decide)⟩
  unfold pt
  rw [hqe]
  exact Int.ofNat_tmod q 3
theorem cells {w : World} {a : Option Addr} {n : Nat} {S : Nat → SV} {E : Nat → List Opt} (h : StsR w a n S E) (hn : 0 < n) : ∃ sb off, a = some ⟨sb, off, none⟩ ∧ Hid (∀ W, Below w.heap.size w W → ∀ k, k < n → W.cell? ⟨sb, off + k * 3, none⟩ = some (.int .i64 (S k).own) ∧ W.cell? ⟨sb, off + k * 3 + 1, none⟩ = some (.int .i64 (S k).seq) ∧ W.cell? ⟨sb, off + k * 3 + 2, none⟩ = some (.slice (S k).a (S k).n (S k).cap)) := by
  rcases h.row with h1 | ⟨sb, off, rfl, hcs⟩
  · omega
  refine ⟨sb, off, rfl, fun W hW k hk => ?_⟩
  obtain ⟨c0, c1, c2⟩ := hcs k hk
  have l := World.block_lt_of_cell? w _ c0
  exact ⟨(hW.cell (p := ⟨sb, off + k * 3, none⟩) l).trans c0, (hW.cell (p := ⟨sb, off + k * 3 + 1, none⟩) l).trans c1, (hW.cell (p := ⟨sb, off + k * 3 + 2, none⟩) l).trans c2⟩
theorem ints {w : World} {a : Option Addr} {n : Nat} {xs : List Int} (h : IntsR w a n xs) (hn : 0 < n) : ∃ sb off, a = some ⟨sb, off, none⟩ ∧ Hid (∀ W, Below w.heap.size w W → ∀ k, k < n → W.cell? ⟨sb, off + k, none⟩ = some (.int .i64 (xs.getD k 0))) := by
  rcases h.2 with h1 | ⟨sb, off, rfl, hcs⟩
  · omega
  refine ⟨sb, off, rfl, fun W hW k hk => ?_⟩
  have hl := h.1
  have c0 := hcs k (by omega)
  have e : xs.getD k 0 = xs[k]'(by omega) := by rw [List.getD_eq_getElem?_getD, List.getElem?_eq_getElem (show k < xs.length by omega)]; rfl
  rw [e]
  exact (hW.cell (p := ⟨sb, off + k, none⟩) (World.block_lt_of_cell? w _ c0)).trans c0
def bI : Option Nat → Int
  | none => -1
  | some b => (b : Int)
def found (S : Nat → SV) (n : Int) (k : Nat) : Bool := decide (∃ j, j < k ∧ (S j).own = n)
theorem found_succ (S : Nat → SV) (n : Int) (k : Nat) : found S n (k + 1) = (found S n k || decide ((S k).own = n)) := by
  unfold found
  rw [← Bool.decide_or, decide_eq_decide]
  constructor
  · rintro ⟨j, h1, h2⟩
    by_cases e : j = k
    · subst e
      exact .inr h2
    · exact .inl ⟨j, by omega, h2⟩
  · rintro (⟨j, h1, h2⟩ | h2)
    · exact ⟨j, by omega, h2⟩
    · exact ⟨k, by omega, h2⟩
theorem found_all {F : Int → Option PS} {n : Nat} {S : Nat → SV} {E : Nat → List Opt} (h : Lists F n S E) (k : Int) (hk : inR k) : found S k n = (F k).isSome := by
  unfold found
  cases e : (F k).isSome with
  | true =>
    obtain ⟨j, h1, h2⟩ := h.all k hk e
    exact decide_eq_true ⟨j, h1, h2⟩
  | false =>
    refine decide_eq_false ?_
    rintro ⟨j, h1, h2⟩
    have := (h.at_ j h1).2
    rw [h2] at this
    rw [this] at e
    cases e
set_option maxRecDepth 100000 in
set_option maxHeartbeats 4000000 in
theorem walk (a pa : Option Addr) (n cap pn pcap : Nat) (S : Nat → SV) (E : Nat → List Opt) (xs : List Int) (w : World) (h : StsR w a n S E) (hi : IntsR w pa pn xs) :
    Calls Try.prog 4 #[.slice a n cap, .slice pa pn pcap] w fun e w' => e = .returned (.bool true) ∧ Below w.heap.size w w' := by
  have h0 := based_any w
  go_enter Try.func4, Try.ntmps4
  go_wp2_with (fail)
  refine h0.mono ?_
  rintro e w1 ⟨rfl, b1⟩
  clear h0
  have hl := lightList_any a n cap S E 20 w1 (h.below b1) (by decide)
  go_wp2_with (fail)
  refine hl.mono ?_
  rintro e w2 ⟨⟨b, rfl, hb⟩, b2⟩
  have hb2 := below_chain b1 b2
  clear hl b1 b2
  cases b
  · clear hb
    go_wp2_with (fail)
    go_ret
    exact ⟨rfl, hb2⟩
  obtain ⟨hn20, hok⟩ := hb rfl
  clear hb
  by_cases hpn : (pn : Int) < (n : Int)
  · go_wp2_with (fail)
    go_ret
    exact ⟨rfl, hb2⟩
  have hnew := new_base 3 w2 ⟨by decide, by decide⟩
  go_wp2_with (fail)
  refine hnew.mono ?_
  rintro e w3 ⟨rfl, m, hm, hB, hbel, g1, g2, g3⟩
  have hb3 := below_chain hb2 hbel
  have gm : w.heap.size ≤ m.bm ∧ (∀ x ∈ m.bs, w.heap.size ≤ x) := ⟨Nat.le_trans hb2.size g1, fun x hx => Nat.le_trans hb2.size (g3 x hx)⟩
  obtain ⟨B, hBe⟩ : ∃ B, w2.heap.size + 1 = B := ⟨_, rfl⟩
  rw [hBe] at hB
  rw [hBe]
  clear hnew hbel g1 g2 g3 hb2 hBe
  have HOK : Hid _ := hok
  clear hok
  go_wp2_with (fail)
  go_loopw [8] (fun i wr => ∃ k : Nat, k ≤ n ∧ i = .int .i64 k ∧ (∃ c, c ≤ 4 * k ∧ BR wr B m c (foldK S E k) (foldO S E (pt xs) k)) ∧ Below w.heap.size w wr) (fun i _ => n - (intOf i).toNat)
  case atStart => exact ⟨0, Nat.zero_le _, rfl, ⟨0, by omega, hB⟩, hb3⟩
  case round =>
    obtain ⟨k, hk, rfl, ⟨c, hc, hBr⟩, hbel⟩ := hrel
    clear hB hb3
    by_cases hlt : k < n
    · have hlt' : (k : Int) < (n : Int) := by omega
      have hw := h.below hbel
      obtain ⟨ho, hz, hx⟩ := hw.opt k hlt
      have hrow := h.row
      rcases hrow with h1 | ⟨sb, off, rfl, hcs⟩
      · omega
      have hints := hi.2
      rcases hints with h1 | ⟨pb, poff, rfl, hps⟩
      · omega
      have hlp : (k : Int) < (pn : Int) := by omega
      have hxl := hi.1
      have four : Hid (∀ W, Below w.heap.size w W → W.cell? ⟨sb, off + k * 3, none⟩ = some (.int .i64 (S k).own) ∧ W.cell? ⟨sb, off + k * 3 + 1, none⟩ = some (.int .i64 (S k).seq) ∧ W.cell? ⟨sb, off + k * 3 + 2, none⟩ = some (.slice (S k).a (S k).n (S k).cap) ∧ W.cell? ⟨pb, poff + k, none⟩ = some (.int .i64 (xs[k]'(by omega)))) := by
        intro W hW
        obtain ⟨c0, c1, c2⟩ := hcs k hlt
        have cp := hps k (by omega)
        have l := World.block_lt_of_cell? w _ c0
        exact ⟨(hW.cell (p := ⟨sb, off + k * 3, none⟩) l).trans c0, (hW.cell (p := ⟨sb, off + k * 3 + 1, none⟩) l).trans c1, (hW.cell (p := ⟨sb, off + k * 3 + 2, none⟩) l).trans c2, (hW.cell (p := ⟨pb, poff + k, none⟩) (World.block_lt_of_cell? w _ cp)).trans cp⟩
      have hpt : pt xs k = ((bits .and .i64 (xs[k]'(by omega)) 1023).toNat) % 3 := by
        unfold pt
        rw [List.getD_eq_getElem?_getD, List.getElem?_eq_getElem (show k < xs.length by omega)]
        rfl
      obtain ⟨q, hq, hqe⟩ := and_mask (xs[k]'(by omega))
      rw [hqe] at hpt
      generalize xs[k]'(by omega) = px at four hqe
      clear hps hcs hw
      have hstf := HOK.out k hlt
      have HK : Hid (foldK S E (k + 1) = takeK (foldK S E k) (S k).own (S k).seq (E k)) := rfl
      have HO : Hid (foldO S E (pt xs) (k + 1) = takeO (foldK S E k) (foldO S E (pt xs) k) (pt xs k) (S k).own (S k).seq (E k)) := rfl
      obtain ⟨s, hs⟩ : ∃ s, S k = s := ⟨_, rfl⟩
      obtain ⟨es, he⟩ : ∃ es, E k = es := ⟨_, rfl⟩
      rw [hs] at four ho hz hx hstf HK HO
      rw [he] at ho hstf HK HO
      clear hs he
      obtain ⟨so, sq, sa, sn, sc⟩ := s
      simp only at four ho hz hx hstf HK HO
      have hso := (stF_zero hstf).1
      have hp3 : pt xs k < m.bs.length := by rw [hm, hpt]; omega
      have HT : Hid (∀ W, Below wr.heap.size wr W → Calls Try.prog 16 #[.pointer (some ⟨B, 0, none⟩), .int .i64 ((pt xs k : Nat) : Int), .agg #[.int .i64 so, .int .i64 sq, .slice sa sn sc]] W fun e w' => e = .returned (.tuple #[.int .i64 (newF (foldK S E k) so sq es), .nilIface]) ∧ BR w' B m (c + 1 + m.bs.length) (foldK S E (k + 1)) (foldO S E (pt xs) (k + 1)) ∧ KeptM W w' m) := by
        intro W hW
        rw [HK.out, HO.out]
        exact take_base B m c _ _ (pt xs k) so sq sa sn sc es W (hBr.below hW) (by unfold inR; omega) hp3 (ho.below hW) hz (by omega) hstf (hS3 sq es)
      have hp2 : ((q : Nat) : Int).tmod 3 = ((pt xs k : Nat) : Int) := by
        rw [hpt]
        exact Int.ofNat_tmod q 3
      have KD : Below w.heap.size w wr.drew := below_drew hbel
      have KR : Below wr.heap.size wr wr.drew := below_drew (Below.refl _ _)
      have F0 := four.out _ KD
      clear HK HO hstf ho hz hBr hpt hp3
      have HB1 : Hid _ := hbel
      clear hbel
      have hc3 : Hid (c + 1 + m.bs.length ≤ 4 * (k + 1)) := by show _ ≤ _; omega
      go_upto_region 12 with fail
      go_region_held3 (fun x => x.cell? ⟨sb, off + k * 3, none⟩ = some (.int .i64 so) ∧ x.cell? ⟨sb, off + k * 3 + 1, none⟩ = some (.int .i64 sq) ∧ x.cell? ⟨sb, off + k * 3 + 2, none⟩ = some (.slice sa sn sc) ∧ x.cell? ⟨pb, poff + k, none⟩ = some (.int .i64 px))
        (first | assumption | exact F0 | exact F1)
        ((go_at_call 16; refine (HT.out _ KR).mono ?_; rintro e w5 ⟨rfl, hB5, M5⟩; have K5 := KeptM.below KD M5 gm.1 gm.2; have F1 := four.out _ K5))
      all_goals
        have HH : Hid _ := hB5
        have HH5 : Hid _ := K5
        clear F0 F1 hB5 M5 K5 hqe hp2
        go_wp2_with (fail)
        go_roundw
        case rel => exact ⟨k + 1, by omega, by go_num, ⟨_, hc3.out, HH.out⟩, HH5.out⟩
        case measure => simp [intOf]; omega
    · have hkn : k = n := by omega
      subst hkn
      have hge : ¬ (k : Int) < (k : Int) := by omega
      clear hlt
      obtain ⟨W0, rfl⟩ : ∃ W0, W0 = wr := ⟨_, rfl⟩
      have HB0 : Hid _ := hbel
      have HBR : Hid _ := hBr
      clear hbel hBr hk
      go_wp2_with (fail)
      go_loopw [11] (fun i wr => ∃ nn : Nat, 1 ≤ nn ∧ nn ≤ 7 ∧ i = .int .i64 nn ∧ Below W0.heap.size W0 wr) (fun i _ => 7 - (intOf i).toNat)
      case atStart => exact ⟨1, by omega, by omega, rfl, Below.refl _ _⟩
      case round =>
        obtain ⟨nn, hn1, hn7, rfl, hb1⟩ := hrel
        by_cases hlast : nn ≤ 6
        case neg =>
          have hl6 : ¬ (nn : Int) ≤ 6 := by omega
          go_wp2_with (fail)
          go_ret
          exact ⟨rfl, below_chain HB0.out hb1⟩
        have hl6 : (nn : Int) ≤ 6 := by omega
        obtain ⟨W1, rfl⟩ : ∃ W1, W1 = wr := ⟨_, rfl⟩
        have HB1 : Hid _ := hb1
        clear hb1
        go_wp2_with (fail)
        go_loopw [12, 13] (fun v i wr => ∃ q : Nat, q ≤ k ∧ i = .int .i64 q ∧ v = .int .i64 (bI (bst S E nn q)) ∧ Below W1.heap.size W1 wr) (fun _ i _ => k - (intOf i).toNat)
        case atStart => exact ⟨0, Nat.zero_le _, rfl, rfl, Below.refl _ _⟩
        case round =>
          obtain ⟨q, hq, rfl, rfl, hb2⟩ := hrel
          by_cases hlt : q < k
          · have hlt' : (q : Int) < (k : Int) := by omega
            obtain ⟨sb, off, rfl, HC⟩ := cells h (show 0 < k by omega)
            have HS : Hid (bst S E nn (q + 1) = if (S q).own = nn then (match bst S E nn q with | none => some q | some b => if 0 < newS (S q).seq (E q) (S b).seq (E b) then some q else some b) else bst S E nn q) := rfl
            have HB2 : Hid _ := hb2
            clear hb2
            have KW : Below w.heap.size w wr := below_chain HB0.out (below_chain HB1.out HB2.out)
            obtain ⟨c0, c1, c2⟩ := HC.out _ KW q hlt
            by_cases ho : (S q).own = (nn : Int)
            · have ho' : ((S q).own == (nn : Int)) = true := by simpa using ho
              cases hbst : bst S E nn q with
              | none =>
                have HS2 : Hid (bst S E nn (q + 1) = some q) := by show _ = _; rw [HS.out, if_pos ho, hbst]
                have hv : bI (none : Option Nat) = -1 := rfl
                rw [hv]
                clear hv
                go_upto_region 22 with fail
                go_quiet (fail)
                go_wp2_with (fail)
                go_roundw
                case rel => exact ⟨q + 1, by omega, by go_num, by rw [HS2.out]; rfl, below_drewN HB2.out _⟩
                case measure => simp [intOf]; omega
              | some b =>
                have hbl := bst_lt S E nn q b hbst
                have hbk : (b : Int) < (k : Int) := by omega
                have hbn : ¬ (b : Int) < 0 := by omega
                have hbn2 : decide ((b : Int) < 0) = false := by simp
                have HS2 : Hid (bst S E nn (q + 1) = if 0 < newS (S q).seq (E q) (S b).seq (E b) then some q else some b) := by show _ = _; rw [HS.out, if_pos ho, hbst]
                have hv : bI (some b) = (b : Int) := rfl
                rw [hv]
                clear hv
                have hqo := h.opt q hlt
                have hbo := h.opt b (by omega)
                have hq6 := (stF_zero (HOK.out q hlt)).2.2.1
                have HNW : Hid (∀ W, Below w.heap.size w W → Calls Try.prog 33 #[.agg #[.int .i64 (S q).own, .int .i64 (S q).seq, .slice (S q).a (S q).n (S q).cap], .agg #[.int .i64 (S b).own, .int .i64 (S b).seq, .slice (S b).a (S b).n (S b).cap]] W fun e w' => e = .returned (.int .i64 (newS (S q).seq (E q) (S b).seq (E b))) ∧ Below W.heap.size W w') :=
                  fun W hW => newer_any _ _ _ _ _ _ _ _ _ _ _ _ W (hqo.1.below hW) (hbo.1.below hW) (by have := hqo.1.1; omega)
                have HF : Hid (∀ W, Below w.heap.size w W → (W.cell? ⟨sb, off + q * 3, none⟩ = some (.int .i64 (S q).own) ∧ W.cell? ⟨sb, off + q * 3 + 1, none⟩ = some (.int .i64 (S q).seq) ∧ W.cell? ⟨sb, off + q * 3 + 2, none⟩ = some (.slice (S q).a (S q).n (S q).cap)) ∧ W.cell? ⟨sb, off + b * 3, none⟩ = some (.int .i64 (S b).own) ∧ W.cell? ⟨sb, off + b * 3 + 1, none⟩ = some (.int .i64 (S b).seq) ∧ W.cell? ⟨sb, off + b * 3 + 2, none⟩ = some (.slice (S b).a (S b).n (S b).cap)) :=
                  fun W hW => ⟨HC.out W hW q hlt, HC.out W hW b (by omega)⟩
                clear hqo hbo hq6 c0 c1 c2 hbst hbl
                generalize newS (S q).seq (E q) (S b).seq (E b) = r at HS2 HNW
                generalize (S b).own = bo at HF HNW
                generalize (S b).seq = bq at HF HNW
                generalize (S b).a = ba at HF HNW
                generalize (S b).n = bn at HF HNW
                generalize (S b).cap = bc at HF HNW
                generalize (S q).own = qo at HF HNW ho'
                generalize (S q).seq = qq at HF HNW
                generalize (S q).a = qa at HF HNW
                generalize (S q).n = qn at HF HNW
                generalize (S q).cap = qc at HF HNW
                have KD : Below w.heap.size w wr.drew := below_drew KW
                have F0 := HF.out _ KD
                clear KW
                by_cases hr : 0 < r
                · have HS3 : Hid (bst S E nn (q + 1) = some q) := by show _ = _; rw [HS2.out, if_pos hr]
                  go_upto_region 22 with fail
                  go_region_held3 (fun x => (x.cell? ⟨sb, off + q * 3, none⟩ = some (.int .i64 qo) ∧ x.cell? ⟨sb, off + q * 3 + 1, none⟩ = some (.int .i64 qq) ∧ x.cell? ⟨sb, off + q * 3 + 2, none⟩ = some (.slice qa qn qc)) ∧ x.cell? ⟨sb, off + b * 3, none⟩ = some (.int .i64 bo) ∧ x.cell? ⟨sb, off + b * 3 + 1, none⟩ = some (.int .i64 bq) ∧ x.cell? ⟨sb, off + b * 3 + 2, none⟩ = some (.slice ba bn bc))
                    (first | assumption | exact F0 | exact F1)
                    ((go_at_call 33; refine (HNW.out _ KD).mono ?_; rintro e w5 ⟨rfl, k5⟩; have F1 := HF.out _ (below_chain KD k5)))
                  all_goals
                    have HK5 : Hid _ := k5
                    clear F0 F1 k5
                    go_wp2_with (fail)
                    go_roundw
                    case rel => exact ⟨q + 1, by omega, by go_num, by rw [HS3.out]; rfl, below_chain (below_drew HB2.out) HK5.out⟩
                    case measure => simp [intOf]; omega
                · have HS3 : Hid (bst S E nn (q + 1) = some b) := by show _ = _; rw [HS2.out, if_neg hr]
                  go_upto_region 22 with fail
                  go_region_held3 (fun x => (x.cell? ⟨sb, off + q * 3, none⟩ = some (.int .i64 qo) ∧ x.cell? ⟨sb, off + q * 3 + 1, none⟩ = some (.int .i64 qq) ∧ x.cell? ⟨sb, off + q * 3 + 2, none⟩ = some (.slice qa qn qc)) ∧ x.cell? ⟨sb, off + b * 3, none⟩ = some (.int .i64 bo) ∧ x.cell? ⟨sb, off + b * 3 + 1, none⟩ = some (.int .i64 bq) ∧ x.cell? ⟨sb, off + b * 3 + 2, none⟩ = some (.slice ba bn bc))
                    (first | assumption | exact F0 | exact F1)
                    ((go_at_call 33; refine (HNW.out _ KD).mono ?_; rintro e w5 ⟨rfl, k5⟩; have F1 := HF.out _ (below_chain KD k5)))
                  all_goals
                    have HK5 : Hid _ := k5
                    clear F0 F1 k5
                    go_wp2_with (fail)
                    go_roundw
                    case rel => exact ⟨q + 1, by omega, by go_num, by rw [HS3.out]; rfl, below_chain (below_drew HB2.out) HK5.out⟩
                    case measure => simp [intOf]; omega
            · have ho' : ((S q).own == (nn : Int)) = false := by simpa using ho
              have HS2 : Hid (bst S E nn (q + 1) = bst S E nn q) := by show _ = _; rw [HS.out, if_neg ho]
              generalize bst S E nn q = r at HS2 ⊢
              go_upto_region 22 with fail
              go_quiet (fail)
              go_wp2_with (fail)
              go_roundw
              case rel => exact ⟨q + 1, by omega, by go_num, by rw [HS2.out], below_drewN HB2.out _⟩
              case measure => simp [intOf]; omega
          · have hqk : q = k := by omega
            subst hqk
            have hge2 : ¬ (q : Int) < (q : Int) := by omega
            have KW2 : Below W0.heap.size W0 wr := below_chain HB1.out hb2
            have hget := get_base B m c _ _ (nn : Int) wr (HBR.out.below KW2) (by unfold inR; omega)
            have HKW : Hid _ := KW2
            clear KW2 hb2
            have hKn := foldK_at S E nn q
            have hz3 := zeroState
            cases hbst : bst S E nn q with
            | none =>
              rw [hbst] at hKn
              have e1 : ownOf (foldK S E q) nn = 0 := by simp [ownOf, hKn]
              have e2 : seqAt (foldK S E q) nn = 0 := by simp [seqAt, hKn]
              have e3 : esOf (foldK S E q) nn = [] := by simp [esOf, hKn]
              rw [e1, e2, e3, hKn] at hget
              clear e1 e2 e3
              go_wp2_with (fail)
              refine hget.mono ?_
              rintro e w5 ⟨ga, gc, rfl, go, gz, g6, k5⟩
              have HK5 : Hid _ := k5
              clear hget go gz g6 k5
              have hv : bI (none : Option Nat) = -1 := rfl
              rw [hv]
              clear hv
              go_upto_region 25 with fail
              go_quiet (fail)
              go_wp2_with (fail)
              refine wp_loop_rounds 1 ?_
              rw [rounds_succ]
              go_wp2_with (fail)
              go_roundw
              case rel => exact ⟨nn + 1, by omega, by omega, by go_num, below_drewN ((below_chain HKW.out HK5.out).alloc (below_chain HKW.out HK5.out).size _) _⟩
              case measure => simp [intOf]; omega
            | some b =>
              obtain ⟨hbq, hbo⟩ := bst_lt S E nn q b hbst
              have hO := foldO_at S E (pt xs) nn q b hbst
              rw [hbst] at hKn
              have e1 : ownOf (foldK S E q) nn = nn := by simp [ownOf, hKn]
              have e2 : seqAt (foldK S E q) nn = (S b).seq := by simp [seqAt, hKn]
              have e3 : esOf (foldK S E q) nn = E b := by simp [esOf, hKn]
              rw [e1, e2, e3, hKn] at hget
              clear e1 e2 e3
              have HO : Hid _ := hO
              clear hO
              have hbq' : (b : Int) < (q : Int) := by omega
              have hbn : ¬ (b : Int) < 0 := by omega
              have hb0 : (0 : Int) ≤ (b : Int) := by omega
              obtain ⟨sb, off, rfl, HC⟩ := cells h (show 0 < q by omega)
              obtain ⟨pb, poff, rfl, HP⟩ := ints hi (show 0 < pn by omega)
              have hbopt := h.opt b hbq
              have hb6 := (stF_zero (HOK.out b hbq)).2.2.1
              have hv : bI (some b) = (b : Int) := rfl
              rw [hv]
              clear hv
              go_wp2_with (fail)
              refine hget.mono ?_
              rintro e w5 ⟨ga, gc, rfl, gop, gz, g6, k5⟩
              have HK5 : Hid _ := below_chain HKW.out k5
              clear hget gz g6 k5
              go_upto_region 25 with fail
              obtain ⟨W3, hW3⟩ : ∃ W3, w5.alloc (.cells #[.int .i64 (nn : Int), .int .i64 (S b).seq, .slice ga (E b).length gc] 35) = W3 := ⟨_, rfl⟩
              have hX : W3.heap[w5.heap.size]? = some (.cells #[.int .i64 (nn : Int), .int .i64 (S b).seq, .slice ga (E b).length gc] 35 (0, 0)) := by rw [← hW3]; exact heap_alloc_new w5 _
              have hb3 : Below w5.heap.size w5 W3 := by rw [← hW3]; exact below_alloc w5 _
              rw [hW3]
              clear hW3
              obtain ⟨X, hXe⟩ : ∃ X, w5.heap.size = X := ⟨_, rfl⟩
              rw [hXe] at hX
              rw [hXe]
              have HK3 : Hid (Below W0.heap.size W0 W3) := below_chain HK5.out hb3
              have HXl : Hid (X < W3.heap.size) := (Array.getElem?_eq_some_iff.1 hX).1
              have HSS : Hid (∀ W, Below W3.heap.size W3 W → Calls Try.prog 30 #[.agg #[.int .i64 (nn : Int), .int .i64 (S b).seq, .slice ga (E b).length gc], .agg #[.int .i64 (S b).own, .int .i64 (S b).seq, .slice (S b).a (S b).n (S b).cap]] W fun e w' => e = .returned (.bool true) ∧ Below W.heap.size W w') := by
                intro W hW
                have := sameState_any (nn : Int) (S b).seq (S b).own (S b).seq ga (S b).a (E b).length (S b).n gc (S b).cap (E b) (E b) W ((gop.below hb3).below hW) (hbopt.1.below (below_chain HB0.out (below_chain HK3.out hW))) (by omega) (by have := hbopt.1.1; omega)
                have e : decide ((nn : Int) = (S b).own ∧ (S b).seq = (S b).seq ∧ E b = E b) = true := by simp [hbo]
                rw [e] at this
                exact this
              have HF : Hid (∀ W, Below W3.heap.size W3 W → (W.cell? ⟨X, 0, none⟩ = some (.int .i64 (nn : Int)) ∧ W.cell? ⟨X, 1, none⟩ = some (.int .i64 (S b).seq) ∧ W.cell? ⟨X, 2, none⟩ = some (.slice ga (E b).length gc)) ∧ W.cell? ⟨sb, off + b * 3, none⟩ = some (.int .i64 (S b).own) ∧ W.cell? ⟨sb, off + b * 3 + 1, none⟩ = some (.int .i64 (S b).seq) ∧ W.cell? ⟨sb, off + b * 3 + 2, none⟩ = some (.slice (S b).a (S b).n (S b).cap)) := by
                intro W hW
                have hX2 := (hW.block X HXl.out).trans hX
                exact ⟨⟨cell_of_row W X 0 _ _ (0, 0) hX2, cell_of_row W X 1 _ _ (0, 0) hX2, cell_of_row W X 2 _ _ (0, 0) hX2⟩, HC.out W (below_chain HB0.out (below_chain HK3.out hW)) b hbq⟩
              clear hX hb3 hXe hbopt hb6 gop hKn
              generalize (E b).length = en at HSS HF ⊢
              generalize (S b).own = bo at HSS HF
              generalize (S b).seq = bq at HSS HF ⊢
              generalize (S b).a = ba at HSS HF
              generalize (S b).n = bn at HSS HF
              generalize (S b).cap = bc at HSS HF
              have KD : Below W3.heap.size W3 W3.drew := below_drew (Below.refl _ _)
              have F0 := HF.out _ KD
              go_region_held3 (fun x => (x.cell? ⟨X, 0, none⟩ = some (.int .i64 (nn : Int)) ∧ x.cell? ⟨X, 1, none⟩ = some (.int .i64 bq) ∧ x.cell? ⟨X, 2, none⟩ = some (.slice ga en gc)) ∧ x.cell? ⟨sb, off + b * 3, none⟩ = some (.int .i64 bo) ∧ x.cell? ⟨sb, off + b * 3 + 1, none⟩ = some (.int .i64 bq) ∧ x.cell? ⟨sb, off + b * 3 + 2, none⟩ = some (.slice ba bn bc))
                (first | assumption | exact F0 | exact F1)
                ((go_at_call 30; refine (HSS.out _ KD).mono ?_; rintro e w6 ⟨rfl, k6⟩; have F1 := HF.out _ (below_chain KD k6)))
              all_goals
                have HK6 : Hid (Below W0.heap.size W0 w6) := below_chain HK3.out (below_chain KD k6)
                clear F0 F1 k6 KD
                clear HF HSS HXl HK3 HK5
                go_wp2_with (fail)
                go_loopw [16] (fun i wr => ∃ p : Nat, p ≤ 3 ∧ i = .int .i64 p ∧ Below W0.heap.size W0 wr) (fun i _ => 3 - (intOf i).toNat)
                case atStart => exact ⟨0, by omega, rfl, HK6.out⟩
                case round =>
                  obtain ⟨p, hp, rfl, hb7⟩ := hrel
                  by_cases hp3 : p < 3
                  case neg =>
                    have hpn3 : ¬ (p : Int) < 3 := by omega
                    go_wp2_with (fail)
                    go_roundw
                    case rel => exact ⟨nn + 1, by omega, by omega, by go_num, hb7⟩
                    case measure => simp [intOf]; omega
                  have hpi : (p : Int) < 3 := by omega
                  obtain ⟨W7, rfl⟩ : ∃ W7, W7 = wr := ⟨_, rfl⟩
                  have HB7 : Hid _ := hb7
                  clear hb7
                  obtain ⟨y, hy1, hy2, hy3⟩ := port_at xs b
                  have cpb := HP.out W7 (below_chain HB0.out HB7.out) b (by omega)
                  have hbpn : (b : Int) < (pn : Int) := by omega
                  generalize xs.getD b 0 = xb at hy1 cpb
                  have HST : Hid (((p : Int) != ((pt xs b : Nat) : Int)) = decide (p ≠ pt xs b)) := by
                    show _ = _
                    by_cases e : p = pt xs b
                    · simp [e]
                    · have : ¬ (p : Int) = ((pt xs b : Nat) : Int) := by omega
                      simp [e, this]
                  generalize ((pt xs b : Nat) : Int) = z at hy2 HST
                  go_wp2_with (fail)
                  clear hy1 hy2 hy3 cpb hbpn
                  go_loopw [17, 18] (fun v i wr => ∃ t : Nat, b + 1 + t ≤ q ∧ i = .int .i64 ((b + 1 + t : Nat) : Int) ∧ v = .bool (owes S E (pt xs) nn b p t) ∧ Below W0.heap.size W0 wr) (fun _ i _ => q - (intOf i).toNat)
                  case atStart => exact ⟨0, by omega, by go_num, by rw [HST.out]; rfl, HB7.out⟩
                  case round =>
                    obtain ⟨t, ht, rfl, rfl, hb8⟩ := hrel
                    obtain ⟨j, hj⟩ : ∃ j, b + 1 + t = j := ⟨_, rfl⟩
                    have HOS : Hid (owes S E (pt xs) nn b p (t + 1) = if (S j).own = nn ∧ pt xs j = p then decide (newS (S j).seq (E j) (S b).seq (E b) < 0) else owes S E (pt xs) nn b p t) := by
                      rw [← hj]
                      exact (rfl : owes S E (pt xs) nn b p (t + 1) = _)
                    have HJ : Hid (b + 1 + t = j) := hj
                    rw [hj] at ht
                    rw [hj]
                    clear hj
                    obtain ⟨W8, rfl⟩ : ∃ W8, W8 = wr := ⟨_, rfl⟩
                    have HB8 : Hid _ := hb8
                    clear hb8
                    by_cases hjq : j < q
                    · have hjq' : (j : Int) < (q : Int) := by omega
                      have HJ1 : Hid (b + 1 + (t + 1) = j + 1) := by show _ = _; have := HJ.out; omega
                      have hjp : (j : Int) < (pn : Int) := by omega
                      have KW : Below w.heap.size w W8 := below_chain HB0.out HB8.out
                      have HF : Hid (∀ W, Below w.heap.size w W → (W.cell? ⟨sb, off + j * 3, none⟩ = some (.int .i64 (S j).own) ∧ W.cell? ⟨sb, off + j * 3 + 1, none⟩ = some (.int .i64 (S j).seq) ∧ W.cell? ⟨sb, off + j * 3 + 2, none⟩ = some (.slice (S j).a (S j).n (S j).cap)) ∧ W.cell? ⟨sb, off + b * 3, none⟩ = some (.int .i64 (S b).own) ∧ W.cell? ⟨sb, off + b * 3 + 1, none⟩ = some (.int .i64 (S b).seq) ∧ W.cell? ⟨sb, off + b * 3 + 2, none⟩ = some (.slice (S b).a (S b).n (S b).cap)) :=
                        fun W hW => ⟨HC.out W hW j hjq, HC.out W hW b hbq⟩
                      have hjo := h.opt j hjq
                      have hbo2 := h.opt b hbq
                      have hj6 := (stF_zero (HOK.out j hjq)).2.2.1
                      have HNW : Hid (∀ W, Below w.heap.size w W → Calls Try.prog 33 #[.agg #[.int .i64 (S j).own, .int .i64 (S j).seq, .slice (S j).a (S j).n (S j).cap], .agg #[.int .i64 (S b).own, .int .i64 (S b).seq, .slice (S b).a (S b).n (S b).cap]] W fun e w' => e = .returned (.int .i64 (newS (S j).seq (E j) (S b).seq (E b))) ∧ Below W.heap.size W w') :=
                        fun W hW => newer_any _ _ _ _ _ _ _ _ _ _ _ _ W (hjo.1.below hW) (hbo2.1.below hW) (by have := hjo.1.1; omega)
                      clear hjo hbo2 hj6
                      obtain ⟨y, hy1, hy2, hy3⟩ := port_at xs j
                      have cpj := HP.out W8 KW j (by omega)
                      generalize xs.getD j 0 = xj at hy1 cpj
                      have c0 := (HF.out _ KW).1.1
                      by_cases ho : (S j).own = (nn : Int)
                      · have ho' : ((S j).own == (nn : Int)) = true := by simpa using ho
                        by_cases hpp : pt xs j = p
                        · have hpp' : (((pt xs j : Nat) : Int) == (p : Int)) = true := by simp [hpp]
                          have HO2 : Hid (owes S E (pt xs) nn b p (t + 1) = decide (newS (S j).seq (E j) (S b).seq (E b) < 0)) := by show _ = _; rw [HOS.out, if_pos ⟨ho, hpp⟩]
                          generalize ((pt xs j : Nat) : Int) = z at hy2 hpp'
                          generalize newS (S j).seq (E j) (S b).seq (E b) = r at HO2 HNW
                          clear ho HOS
                          generalize (S b).own = bo at HF HNW
                          generalize (S b).seq = bq at HF HNW
                          generalize (S b).a = ba at HF HNW
                          generalize (S b).n = bn at HF HNW
                          generalize (S b).cap = bc at HF HNW
                          generalize (S j).own = qo at HF HNW ho' c0
                          generalize (S j).seq = qq at HF HNW
                          generalize (S j).a = qa at HF HNW
                          generalize (S j).n = qn at HF HNW
                          generalize (S j).cap = qc at HF HNW
                          have KD : Below w.heap.size w W8.drew := below_drew KW
                          have F0 := HF.out _ KD
                          generalize owes S E (pt xs) nn b p t = ow
                          go_upto_region 35 with fail
                          clear hy1 hy2 hy3 cpj c0 KW
                          go_region_held3 (fun x => (x.cell? ⟨sb, off + j * 3, none⟩ = some (.int .i64 qo) ∧ x.cell? ⟨sb, off + j * 3 + 1, none⟩ = some (.int .i64 qq) ∧ x.cell? ⟨sb, off + j * 3 + 2, none⟩ = some (.slice qa qn qc)) ∧ x.cell? ⟨sb, off + b * 3, none⟩ = some (.int .i64 bo) ∧ x.cell? ⟨sb, off + b * 3 + 1, none⟩ = some (.int .i64 bq) ∧ x.cell? ⟨sb, off + b * 3 + 2, none⟩ = some (.slice ba bn bc))
                            (first | assumption | exact F0 | exact F1)
                            ((go_at_call 33; refine (HNW.out _ KD).mono ?_; rintro e w9 ⟨rfl, k9⟩; have F1 := HF.out _ (below_chain KD k9)))
                          all_goals
                            have HK9 : Hid _ := k9
                            clear F0 F1 k9
                            go_wp2_with (fail)
                            go_roundw
                            case rel => exact ⟨t + 1, by have := HJ1.out; omega, by rw [HJ1.out]; go_num, by rw [HO2.out], below_chain (below_drew HB8.out) HK9.out⟩
                            case measure => simp [intOf]; omega
                        · have hpp' : (((pt xs j : Nat) : Int) == (p : Int)) = false := by
                            have : ¬ ((pt xs j : Nat) : Int) = (p : Int) := by omega
                            simpa using this
                          have HO2 : Hid (owes S E (pt xs) nn b p (t + 1) = owes S E (pt xs) nn b p t) := by show _ = _; rw [HOS.out, if_neg (fun e => hpp e.2)]
                          generalize ((pt xs j : Nat) : Int) = z at hy2 hpp'
                          clear HF HNW HOS
                          generalize (S j).own = qo at ho' c0
                          generalize owes S E (pt xs) nn b p t = ow at HO2 ⊢
                          go_wp2_with (fail)
                          go_roundw
                          case rel => exact ⟨t + 1, by have := HJ1.out; omega, by rw [HJ1.out]; go_num, by rw [HO2.out], HB8.out⟩
                          case measure => simp [intOf]; omega
                      · have ho' : ((S j).own == (nn : Int)) = false := by simpa using ho
                        have HO2 : Hid (owes S E (pt xs) nn b p (t + 1) = owes S E (pt xs) nn b p t) := by show _ = _; rw [HOS.out, if_neg (fun e => ho e.1)]
                        clear HF HNW HOS hy1 hy2 hy3 cpj
                        generalize (S j).own = qo at ho' c0
                        generalize owes S E (pt xs) nn b p t = ow at HO2 ⊢
                        go_wp2_with (fail)
                        go_roundw
                        case rel => exact ⟨t + 1, by have := HJ1.out; omega, by rw [HJ1.out]; go_num, by rw [HO2.out], HB8.out⟩
                        case measure => simp [intOf]; omega
                    · have hjq2 : j = q := by omega
                      subst hjq2
                      have hge3 : ¬ (j : Int) < (j : Int) := by omega
                      have hfo := HO.out p
                      rw [show j - (b + 1) = t by have := HJ.out; omega] at hfo
                      have HFO : Hid _ := hfo
                      clear hfo
                      generalize owes S E (pt xs) nn b p t = ow at HFO HOS ⊢
                      have hod := owed_base B m c _ _ p W8 (HBR.out.below HB8.out) (by omega)
                      go_wp2_with (fail)
                      refine hod.mono ?_
                      rintro e w9 ⟨la, ln, lc, LS, LE, rfl, l1, l2, l3, l4, k9⟩
                      have HL : Hid _ := l1
                      have HF9 : Hid (found LS nn ln = ow) := by
                        show _ = _
                        rw [found_all l2 (nn : Int) (by unfold inR; omega)]
                        exact HFO.out
                      have HK9 : Hid _ := below_chain HB8.out k9
                      clear hod l1 l2 l4 k9
                      go_wp2_with (fail)
                      go_loopw [19, 21] (fun v i wr => ∃ u : Nat, u ≤ ln ∧ i = .int .i64 u ∧ v = .bool (found LS nn u) ∧ w9 = wr) (fun _ i _ => ln - (intOf i).toNat)
                      case atStart => exact ⟨0, by omega, rfl, by simp [found], rfl⟩
                      case round =>
                        obtain ⟨u, hu, rfl, rfl, rfl⟩ := hrel
                        by_cases hul : u < ln
                        · have hul' : (u : Int) < (ln : Int) := by omega
                          obtain ⟨lb, loff, rfl, HLC⟩ := cells HL.out (show 0 < ln by omega)
                          obtain ⟨c0, c1, c2⟩ := HLC.out w9 (Below.refl _ _) u hul
                          have HFS : Hid (found LS nn (u + 1) = (found LS nn u || decide ((LS u).own = nn))) := found_succ LS nn u
                          have hde : Hid (((LS u).own == (nn : Int)) = decide ((LS u).own = nn)) := by show _ = _; by_cases e : (LS u).own = (nn : Int) <;> simp [e]
                          generalize (LS u).own = lo at c0 HFS hde
                          generalize found LS nn u = fo at HFS ⊢
                          cases fo
                          · go_wp2_with (fail)
                            go_roundw
                            case rel => exact ⟨u + 1, by omega, by go_num, by rw [HFS.out, ← hde.out]; rfl, trivial⟩
                            case measure => simp [intOf]; omega
                          · go_wp2_with (fail)
                            go_roundw
                            case rel => exact ⟨u + 1, by omega, by go_num, by rw [HFS.out]; rfl, trivial⟩
                            case measure => simp [intOf]; omega
                        · have hul2 : u = ln := by omega
                          subst hul2
                          have hge4 : ¬ (u : Int) < (u : Int) := by omega
                          rw [HF9.out]
                          cases ow
                          · go_wp2_with (fail)
                            go_roundw
                            case rel => exact ⟨p + 1, by omega, by go_num, HK9.out⟩
                            case measure => simp [intOf]; omega
                          · go_wp2_with (fail)
                            go_roundw
                            case rel => exact ⟨p + 1, by omega, by go_num, HK9.out⟩
                            case measure => simp [intOf]; omega
end topNewest
end Go.Proofs.Ytielnomhdahciaa
