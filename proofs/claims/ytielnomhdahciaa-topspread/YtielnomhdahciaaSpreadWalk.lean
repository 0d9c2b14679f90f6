/-
  'TopSpread' returns true at all states, and changes nothing that was there.
-/
import Derived.Test.YtielnomhdahciaaSpreadRow
import Derived.BigQuiet
namespace Go.Proofs.Ytielnomhdahciaa
open Go.RowKit St
namespace topSpread

/-- What is so while both go on: round 0: all is owed; later: both know the newest of both, nothing is owed. -/
def At (A B : Int → Option PS) (i : Nat) (Kx : Int → Option PS) (Ox : Nat → Int → Option PS) (Ky : Int → Option PS) (Oy : Nat → Int → Option PS) : Prop :=
  (i = 0 ∧ (∀ k, Kx k = A k) ∧ (∀ k, Ox 0 k = A k) ∧ (∀ k, Ky k = B k) ∧ (∀ k, Oy 0 k = B k)) ∨
  (0 < i ∧ (∀ k, Kx k = mxO (A k) (B k)) ∧ (∀ k, Ox 0 k = none) ∧ (∀ k, Ky k = mxO (A k) (B k)) ∧ (∀ k, Oy 0 k = none))
theorem At.inv {A B : Int → Option PS} {i : Nat} {Kx Ky : Int → Option PS} {Ox Oy : Nat → Int → Option PS} (h : At A B i Kx Ox Ky Oy) : ∀ k, Ox 0 k = none ∨ Ox 0 k = Kx k := by
  intro k
  rcases h with ⟨_, h1, h2, _⟩ | ⟨_, _, h2, _⟩
  · exact .inr ((h2 k).trans (h1 k).symm)
  · exact .inl (h2 k)
/-- The second telling. -/
theorem At.inv2 {A B : Int → Option PS} {i : Nat} {Kx Ky : Int → Option PS} {Ox Oy : Nat → Int → Option PS} (h : At A B i Kx Ox Ky Oy) : ∀ k, nP (Ox 0 k) (Ky k) (Oy 0 k) = none ∨ nP (Ox 0 k) (Ky k) (Oy 0 k) = nK (Ox 0 k) (Ky k) := by
  intro k
  rcases h with ⟨_, h1, h2, h3, h4⟩ | ⟨_, h1, h2, h3, h4⟩
  · rw [h2, h3, h4]
    cases A k with
    | none => exact .inr rfl
    | some s =>
      simp only [nP, nK]
      by_cases c : 0 ≤ cmpO s (B k)
      · exact .inl (if_pos c)
      · right
        rw [if_neg c, if_neg (by omega)]
  · rw [h2, h4]
    exact .inl rfl
theorem At.next {A B : Int → Option PS} {i : Nat} {Kx Ky : Int → Option PS} {Ox Oy : Nat → Int → Option PS} (h : At A B i Kx Ox Ky Oy) :
    At A B (i + 1) (fun k => nK (nP (Ox 0 k) (Ky k) (Oy 0 k)) (Kx k)) (fun _ k => nP (nP (Ox 0 k) (Ky k) (Oy 0 k)) (Kx k) (nO (Ox 0 k) (Ky k))) (fun k => nK (Ox 0 k) (Ky k)) (fun _ k => nO (nP (Ox 0 k) (Ky k) (Oy 0 k)) (Kx k)) := by
  right
  refine ⟨by omega, fun k => ?_, fun k => ?_, fun k => ?_, fun k => ?_⟩
  all_goals
    rcases h with ⟨_, h1, h2, h3, h4⟩ | ⟨_, h1, h2, h3, h4⟩
    · simp only [h1, h2, h3, h4]
      first | exact (both_ways (A k) (B k)).1 | exact (both_ways (A k) (B k)).2.1 | exact (both_ways (A k) (B k)).2.2.1 | exact (both_ways (A k) (B k)).2.2.2
    · simp only [h1, h2, h3, h4]
      rfl
theorem none_listed {F : Int → Option PS} {n : Nat} {S : Nat → SV} {E : Nat → List Opt} (h : Lists F n S E) (h2 : ∀ x, F x = none) : n = 0 := by
  by_cases h0 : n = 0
  · exact h0
  · have := (h.at_ 0 (by omega)).2
    rw [h2] at this
    cases this

set_option maxRecDepth 100000 in
set_option maxHeartbeats 8000000 in
theorem walk (a b : Option Addr) (n cap p bcap : Nat) (S T : Nat → SV) (E G : Nat → List Opt) (w : World) (h : StsR w a n S E) (hi : StsR w b p T G) :
    Calls Try.prog 5 #[.slice a n cap, .slice b p bcap] w fun e w' => e = .returned (.bool true) ∧ Below w.heap.size w w' := by
  have h0 := based_any w
  go_enter Try.func5, Try.ntmps5
  go_wp2_with (fail)
  refine h0.mono ?_
  rintro e w1 ⟨rfl, b1⟩
  clear h0
  have hl := lightList_any a n cap S E 12 w1 (h.below b1) (by decide)
  go_wp2_with (fail)
  refine hl.mono ?_
  rintro e w2 ⟨⟨t, rfl, hb⟩, b2⟩
  have hb2 := below_chain b1 b2
  clear hl b1 b2
  cases t
  · clear hb
    go_wp2_with (fail)
    go_ret
    exact ⟨rfl, hb2⟩
  obtain ⟨hn20, hok⟩ := hb rfl
  clear hb
  have hl := lightList_any b p bcap T G 12 w2 (hi.below hb2) (by decide)
  go_wp2_with (fail)
  refine hl.mono ?_
  rintro e w3 ⟨⟨t, rfl, hb⟩, b2⟩
  have hb3 := below_chain hb2 b2
  clear hl hb2 b2
  cases t
  · clear hb
    go_wp2_with (fail)
    go_ret
    exact ⟨rfl, hb3⟩
  obtain ⟨hp20, hok2⟩ := hb rfl
  clear hb
  have hnew := new_base 1 w3 ⟨by decide, by decide⟩
  go_wp2_with (fail)
  refine hnew.mono ?_
  rintro e w4 ⟨rfl, mx, lx, hX, b4, g1, g2, g3⟩
  have hb4 := below_chain hb3 b4
  have gx : w.heap.size ≤ mx.bm ∧ (∀ x ∈ mx.bs, w.heap.size ≤ x) := ⟨Nat.le_trans hb3.size g1, fun x hx => Nat.le_trans hb3.size (g3 x hx)⟩
  obtain ⟨X, hXe⟩ : ∃ X, w3.heap.size + 1 = X := ⟨_, rfl⟩
  rw [hXe] at hX
  rw [hXe]
  clear hnew b4 g1 g2 g3 hb3 hXe
  have hnew := new_base 1 w4 ⟨by decide, by decide⟩
  go_wp2_with (fail)
  refine hnew.mono ?_
  rintro e w5 ⟨rfl, my, ly, hY, b5, g1, g2, g3⟩
  have hb5 := below_chain hb4 b5
  have gy : w.heap.size ≤ my.bm ∧ (∀ x ∈ my.bs, w.heap.size ≤ x) := ⟨Nat.le_trans hb4.size g1, fun x hx => Nat.le_trans hb4.size (g3 x hx)⟩
  have ha : Apart mx my := ⟨fun q hq => by
    have := hX.mlt q hq
    exact ⟨by omega, fun e => by have := g3 q e; omega⟩⟩
  have hX5 := hX.below b5
  obtain ⟨Y, hYe⟩ : ∃ Y, w4.heap.size + 1 = Y := ⟨_, rfl⟩
  rw [hYe] at hY
  rw [hYe]
  clear hnew b5 g1 g2 g3 hb4 hYe hX
  have HOK : Hid _ := hok
  have HOK2 : Hid _ := hok2
  clear hok hok2
  go_wp2_with (fail)
  go_loopw [10] (fun i wr => ∃ k : Nat, k ≤ n ∧ i = .int .i64 k ∧ (∃ c, c ≤ 2 * k ∧ BR wr X mx c (foldK S E k) (foldO S E (fun _ => 0) k)) ∧ BR wr Y my 0 (fun _ => none) (fun _ _ => none) ∧ Below w.heap.size w wr) (fun i _ => n - (intOf i).toNat)
  case atStart => exact ⟨0, Nat.zero_le _, rfl, ⟨0, by omega, hX5⟩, hY, hb5⟩
  case round =>
    obtain ⟨k, hk, rfl, ⟨c, hc, hXr⟩, hYr, hbel⟩ := hrel
    clear hX5 hY hb5
    by_cases hlt : k < n
    · have hlt' : (k : Int) < (n : Int) := by omega
      have hw := h.below hbel
      obtain ⟨ho, hz, hx⟩ := hw.opt k hlt
      have hrow := hw.row
      rcases hrow with h1 | ⟨sb, off, rfl, hcs⟩
      · omega
      obtain ⟨c0, c1, c2⟩ := hcs k hlt
      have hstf := HOK.out k hlt
      have hso := (stF_zero hstf).1
      have ht := take_base X mx c _ _ 0 (S k).own (S k).seq (S k).a (S k).n (S k).cap (E k) wr hXr (by unfold inR; omega) (by omega) ho hz (by omega) hstf (hS3 _ _)
      have HX : Hid _ := hXr
      have HY : Hid _ := hYr
      have HB : Hid _ := hbel
      clear hcs hw ho hz hx hXr hYr hbel hstf hso
      generalize newF (foldK S E k) (S k).own (S k).seq (E k) = r at ht
      go_wp2_with (fail)
      refine ht.mono ?_
      rintro e w6 ⟨rfl, hX6, M6⟩
      have HX6 : Hid _ := hX6
      have HM6 : Hid _ := M6
      clear ht hX6 M6 c0 c1 c2
      go_wp2_with (fail)
      go_roundw
      case rel => exact ⟨k + 1, by omega, by go_num, ⟨_, by rw [lx]; omega, HX6.out⟩, HY.out.two HX.out ha.symm HM6.out (by omega), KeptM.below HB.out HM6.out gx.1 gx.2⟩
      case measure => simp [intOf]; omega
    · have hkn : k = n := by omega
      subst hkn
      have hge : ¬ (k : Int) < (k : Int) := by omega
      clear hlt
      have HX : Hid _ := hXr
      have HY : Hid _ := hYr
      have HB : Hid _ := hbel
      clear hXr hYr hbel
      obtain ⟨W0, rfl⟩ : ∃ W0, W0 = wr := ⟨_, rfl⟩
      go_wp2_with (fail)
      go_loopw [11] (fun i wr => ∃ q : Nat, q ≤ p ∧ i = .int .i64 q ∧ (∃ d, d ≤ 2 * q ∧ BR wr Y my d (foldK T G q) (foldO T G (fun _ => 0) q)) ∧ BR wr X mx c (foldK S E k) (foldO S E (fun _ => 0) k) ∧ Below w.heap.size w wr) (fun i _ => p - (intOf i).toNat)
      case atStart => exact ⟨0, Nat.zero_le _, rfl, ⟨0, by omega, HY.out⟩, HX.out, HB.out⟩
      case round =>
        obtain ⟨q, hq, rfl, ⟨d, hd, hYr⟩, hXr, hbel⟩ := hrel
        clear HX HY HB
        by_cases hlt : q < p
        · have hlt' : (q : Int) < (p : Int) := by omega
          have hw := hi.below hbel
          obtain ⟨ho, hz, hx⟩ := hw.opt q hlt
          have hrow := hw.row
          rcases hrow with h1 | ⟨sb, off, rfl, hcs⟩
          · omega
          obtain ⟨c0, c1, c2⟩ := hcs q hlt
          have hstf := HOK2.out q hlt
          have hso := (stF_zero hstf).1
          have ht := take_base Y my d _ _ 0 (T q).own (T q).seq (T q).a (T q).n (T q).cap (G q) wr hYr (by unfold inR; omega) (by omega) ho hz (by omega) hstf (hS3 _ _)
          have HX : Hid _ := hXr
          have HY : Hid _ := hYr
          have HB : Hid _ := hbel
          clear hcs hw ho hz hx hXr hYr hbel hstf hso
          generalize newF (foldK T G q) (T q).own (T q).seq (G q) = r at ht
          go_wp2_with (fail)
          refine ht.mono ?_
          rintro e w6 ⟨rfl, hY6, M6⟩
          have HY6 : Hid _ := hY6
          have HM6 : Hid _ := M6
          clear ht hY6 M6 c0 c1 c2
          go_wp2_with (fail)
          go_roundw
          case rel => exact ⟨q + 1, by omega, by go_num, ⟨_, by rw [ly]; omega, HY6.out⟩, HX.out.two HY.out ha HM6.out (by omega), KeptM.below HB.out HM6.out gy.1 gy.2⟩
          case measure => simp [intOf]; omega
        · have hqp : q = p := by omega
          subst hqp
          have hge2 : ¬ (q : Int) < (q : Int) := by omega
          clear hlt
          obtain ⟨A, hA⟩ : ∃ A, foldK S E k = A := ⟨_, rfl⟩
          obtain ⟨B, hB⟩ : ∃ B, foldK T G q = B := ⟨_, rfl⟩
          have iA := foldO_inv S E k
          have iB := foldO_inv T G q
          obtain ⟨Ax, hAx⟩ : ∃ Ax, foldO S E (fun _ => 0) k = Ax := ⟨_, rfl⟩
          obtain ⟨Bx, hBx⟩ : ∃ Bx, foldO T G (fun _ => 0) q = Bx := ⟨_, rfl⟩
          rw [hA, hAx] at iA hXr
          rw [hB, hBx] at iB hYr
          have HIA : Hid _ := over_inv iA
          have HIB : Hid _ := over_inv iB
          clear hA hB hAx hBx iA iB
          have hs1 := states_row X mx c A Ax wr hXr
          obtain ⟨W1, rfl⟩ : ∃ W1, W1 = wr := ⟨_, rfl⟩
          have HX1 : Hid _ := hXr
          have HY1 : Hid _ := hYr
          have HB1 : Hid _ := hbel
          clear hbel
          go_wp2_with (fail)
          refine hs1.mono ?_
          rintro e w7 ⟨a1, c1, t1, E1, rfl, o1, s1, l1, n1, b7⟩
          have hs2 := states_row Y my d B Bx w7 (hYr.below b7)
          have Hb7 : Hid _ := b7
          have HO1 : Hid _ := o1
          have HS1 : Hid _ := s1
          have HL1 : Hid _ := l1
          clear hs1 o1 s1 l1 hXr hYr b7
          go_wp2_with (fail)
          refine hs2.mono ?_
          rintro e w8 ⟨a2, c2, t2, E2, rfl, o2, s2, l2, n2, b8⟩
          have HO2 : Hid _ := o2
          have HS2 : Hid _ := s2
          have HL2 : Hid _ := l2
          have Hb8 : Hid _ := b8
          clear hs2 o2 s2 l2 b8
          have r1 := HO1.out.row.below Hb8.out
          have r2 := HO2.out.row
          obtain ⟨i0, hi0, hz0, hz1, hz2⟩ := info_parts infoState
          go_wp2_with (at_builtin; go_must (refine wpList_append_rows _ rfl (.tmp 74) (.tmp 76) 56 rfl 35 i0 (.agg #[.int .i64 0, .int .i64 0, .slice none 0 0]) 3 40 Try.underlying56 hi0 hz0 hz1 hz2 rfl (by decide) _ _ _ rfl r1 _ _ _ rfl r2 (svC_one _) (by unfold maxLen; omega) (by omega) ?_))
          intro v3 w9 r3 g9 own9
          obtain ⟨a3, cap3, rfl, s3⟩ := both_rows HO1.out HO2.out HS1.out HS2.out Hb8.out r3 g9
          have k9 : Below W1.heap.size W1 w9 := grow_below (below_chain Hb7.out Hb8.out) g9 (fun j hj => Nat.le_of_lt (HO1.out.own j hj))
          have n3 : (t1 ++ t2).length ≤ 12 := by simp; omega
          have hcont : ∀ u, u < (t1 ++ t2).length → stF ((t1 ++ t2).getD u SV.zero).own ((t1 ++ t2).getD u SV.zero).seq (if u < t1.length then E1 u else E2 (u - t1.length)) = 0 ∧ ∃ q, mxO (A ((t1 ++ t2).getD u SV.zero).own) (B ((t1 ++ t2).getD u SV.zero).own) = some q ∧ ¬ 0 < newS ((t1 ++ t2).getD u SV.zero).seq (if u < t1.length then E1 u else E2 (u - t1.length)) q.1 q.2 := by
            intro u hu
            by_cases hu1 : u < t1.length
            · have e : (t1 ++ t2).getD u SV.zero = t1.getD u SV.zero := by simp only [List.getD_eq_getElem?_getD, List.getElem?_append_left hu1]
              rw [e, if_pos hu1]
              exact ⟨HL1.out.ok u hu1, mx_left (HL1.out.at_ u hu1).2⟩
            · have e : (t1 ++ t2).getD u SV.zero = t2.getD (u - t1.length) SV.zero := by simp only [List.getD_eq_getElem?_getD, List.getElem?_append_right (show t1.length ≤ u by omega)]
              have hu2 : u - t1.length < t2.length := by simp at hu; omega
              rw [e, if_neg hu1]
              exact ⟨HL2.out.ok _ hu2, mx_right (HL2.out.at_ _ hu2).2⟩
          obtain ⟨SW, hSW⟩ : ∃ SW : Nat → SV, (fun j => (t1 ++ t2).getD j SV.zero) = SW := ⟨_, rfl⟩
          obtain ⟨EW, hEW⟩ : ∃ EW : Nat → List Opt, (fun j => if j < t1.length then E1 j else E2 (j - t1.length)) = EW := ⟨_, rfl⟩
          obtain ⟨nw, hnw⟩ : ∃ nw, (t1 ++ t2).length = nw := ⟨_, rfl⟩
          have HCO : Hid (∀ u, u < nw → stF (SW u).own (SW u).seq (EW u) = 0 ∧ ∃ q, mxO (A (SW u).own) (B (SW u).own) = some q ∧ ¬ 0 < newS (SW u).seq (EW u) q.1 q.2) := by
            intro u hu
            rw [← hSW, ← hEW]
            exact hcont u (by rw [hnw]; exact hu)
          rw [hSW, hEW, hnw] at s3
          rw [hnw] at n3
          rw [hnw]
          clear hSW hEW hnw hcont r1 r2 r3 g9 own9 HO1 HS1 HL1 HO2 HS2 HL2 n1 n2
          have hX9 := HX1.out.below k9
          have hY9 := HY1.out.below k9
          have HB9 : Hid (Below w.heap.size w w9) := below_chain HB1.out k9
          have hm1 := meet_base X mx c A Ax 0 w9 hX9 (by omega) (by omega)
          rw [HIA.out] at hm1
          have HX9 : Hid _ := hX9
          have HY9 : Hid _ := hY9
          have HS9 : Hid _ := s3
          clear hX9 hY9 s3 k9 Hb7 Hb8 HX1 HY1 HB1 HIA
          go_wp2_with (fail)
          refine hm1.mono ?_
          rintro e w10 ⟨rfl, hX10, M10⟩
          have hY10 := HY9.out.two HX9.out ha.symm M10 (by omega)
          have HS10 : Hid _ := HS9.out.two M10 HX9.out
          have HB10 : Hid _ := KeptM.below HB9.out M10 gx.1 gx.2
          have hm2 := meet_base Y my d B Bx 0 w10 hY10 (by omega) (by omega)
          rw [HIB.out] at hm2
          have HX10 : Hid _ := hX10
          have HY10 : Hid _ := hY10
          clear hm1 hX10 hY10 M10 HX9 HY9 HS9 HB9 HIB
          go_wp2_with (fail)
          refine hm2.mono ?_
          rintro e w11 ⟨rfl, hY11, M11⟩
          have HX11 : Hid _ := HX10.out.two HY10.out ha M11 (by omega)
          have HY11 : Hid _ := hY11
          have HS11 : Hid _ := HS10.out.two M11 HY10.out
          have HB11 : Hid _ := KeptM.below HB10.out M11 gy.1 gy.2
          clear hm2 hY11 M11 HX10 HY10 HS10 HB10
          go_wp2_with (fail)
          go_loopw [13] (fun v wr => ∃ i : Nat, i ≤ 2 ∧ v = .int .i64 i ∧ (∃ cx cy Kx Ox Ky Oy, cx ≤ 1000 + 12 * i ∧ cy ≤ 1000 + 12 * i ∧ BR wr X mx cx Kx Ox ∧ BR wr Y my cy Ky Oy ∧ At A B i Kx Ox Ky Oy) ∧ StsR wr a3 nw SW EW ∧ Below w.heap.size w wr) (fun v _ => 2 - (intOf v).toNat)
          case atStart => exact ⟨0, by omega, rfl, ⟨c + c, d + d, _, _, _, _, by omega, by omega, HX11.out, HY11.out, .inl ⟨rfl, fun _ => rfl, fun _ => rfl, fun _ => rfl, fun _ => rfl⟩⟩, HS11.out, HB11.out⟩
          case round =>
            obtain ⟨i, hi2, rfl, ⟨cx, cy, Kx, Ox, Ky, Oy, hcx, hcy, hX, hY, hAt⟩, hS, hbel⟩ := hrel
            clear HX11 HY11 HS11 HB11
            have HAt : Hid _ := hAt
            have HX : Hid _ := hX
            have HY : Hid _ := hY
            have HS : Hid _ := hS
            have HB : Hid _ := hbel
            clear hS hbel
            by_cases hlt : i < 2
            · have hlt' : (i : Int) < 2 := by omega
              have ht := tell_base X Y mx my cx cy Kx Ky Ox Oy wr hX hY ha lx ly hAt.inv (by omega)
              clear hX hY hAt
              go_wp2_with (fail)
              refine ht.mono ?_
              rintro e w12 ⟨rfl, ⟨c12, hc12, hX12, hY12⟩, K12⟩
              have ht2 := tell_base Y X my mx c12 cx _ _ _ _ w12 hY12 hX12 ha.symm ly lx (At.inv2 HAt.out) (by omega)
              have HX12 : Hid _ := hX12
              have HY12 : Hid _ := hY12
              have HS12 : Hid _ := HS.out.two2 K12 HX.out HY.out
              have HB12 : Hid _ := Kept2.below HB.out K12 gx gy
              clear ht hX12 hY12 K12
              go_wp2_with (fail)
              refine ht2.mono ?_
              rintro e w13 ⟨rfl, ⟨c13, hc13, hY13, hX13⟩, K13⟩
              have HX13 : Hid _ := hX13
              have HY13 : Hid _ := hY13
              have HS13 : Hid _ := HS12.out.two2 K13 HY12.out HX12.out
              have HB13 : Hid _ := Kept2.below HB12.out K13 gy gx
              clear ht2 hX13 hY13 K13
              go_wp2_with (fail)
              go_roundw
              case rel => exact ⟨i + 1, by omega, by go_num, ⟨_, _, _, _, _, _, by omega, by omega, HX13.out, HY13.out, At.next HAt.out⟩, HS13.out, HB13.out⟩
              case measure => simp [intOf]; omega
            · have hge3 : ¬ (i : Int) < 2 := by omega
              clear hX hY
              rcases hAt with ⟨e0, _⟩ | ⟨_, h1, h2, h3, h4⟩
              · omega
              have hKK : Ky = Kx := by funext z; rw [h1, h3]
              subst hKK
              obtain ⟨W2, rfl⟩ : ∃ W2, W2 = wr := ⟨_, rfl⟩
              have hq1 := states_base X mx cx Ky Ox W2 HX.out
              go_wp2_with (fail)
              refine hq1.mono ?_
              rintro e w14 ⟨la, ln, lc, LS, LE, rfl, r1, r2, r3, r4, k14⟩
              have hq2 := states_base Y my cy Ky Oy w14 (HY.out.below k14)
              have HR1 : Hid _ := r1
              have HR2 : Hid _ := r2
              have HK14 : Hid _ := k14
              clear hq1 r1 r2 r4 k14
              go_wp2_with (fail)
              refine hq2.mono ?_
              rintro e w15 ⟨ma, mn, mc, MS, ME, rfl, r1, r2, r5, r6, k15⟩
              obtain ⟨hnn, heq⟩ := HR2.out.uniq r2
              subst hnn
              have hss := sameStates_yes la ma ln lc mc LS MS LE ME w15 (HR1.out.below k15) r1 (by omega) (fun j hj => (stF_zero (HR2.out.ok j hj)).2.2.1) heq
              have HK15 : Hid _ := below_chain HK14.out k15
              clear hq2 r1 r2 r6 k15 heq HR1 HR2
              go_wp2_with (fail)
              refine hss.mono ?_
              rintro e w16 ⟨rfl, k16⟩
              have HK16 : Hid _ := below_chain HK15.out k16
              have ho1 := owed_base X mx cx Ky Ox 0 w16 (HX.out.below HK16.out) (by omega)
              clear hss k16
              go_wp2_with (fail)
              refine ho1.mono ?_
              rintro e w17 ⟨oa, on, oc, OS, OE, rfl, r1, r2, r7, r6, k17⟩
              have z1 : on = 0 := none_listed r2 h2
              subst z1
              have HK17 : Hid _ := below_chain HK16.out k17
              have ho2 := owed_base Y my cy Ky Oy 0 w17 (HY.out.below HK17.out) (by omega)
              clear ho1 r1 r2 r6 k17
              go_wp2_with (fail)
              refine ho2.mono ?_
              rintro e w18 ⟨pa, pn, pc, PS1, PE, rfl, r1, r2, r8, r6, k18⟩
              have z1 : pn = 0 := none_listed r2 h4
              subst z1
              have HK18 : Hid _ := below_chain HK17.out k18
              clear ho2 r1 r2 r6 k18
              have HKm : Hid _ := h1
              clear h1 h2 h3 h4
              go_wp2_with (fail)
              have hz3 := zeroState
              go_loopw [15] (fun v wr => ∃ u : Nat, u ≤ nw ∧ v = .int .i64 u ∧ Below W2.heap.size W2 wr) (fun v _ => nw - (intOf v).toNat)
              case atStart => exact ⟨0, by omega, rfl, HK18.out⟩
              case round =>
                obtain ⟨u, hu, rfl, hb2⟩ := hrel
                have HB2 : Hid _ := hb2
                clear hb2
                by_cases hul : u < nw
                · have hul' : (u : Int) < (nw : Int) := by omega
                  obtain ⟨hstf, g, hg, hng⟩ := HCO.out u hul
                  have hso := (stF_zero hstf).1
                  have h6 := (stF_zero hstf).2.2.1
                  have hrow := HS.out.row
                  rcases hrow with e0 | ⟨sb, off, rfl, hcs⟩
                  · omega
                  have HF1 : Hid (∀ W, Below W2.heap.size W2 W → W.cell? ⟨sb, off + u * 3, none⟩ = some (.int .i64 (SW u).own) ∧ W.cell? ⟨sb, off + u * 3 + 1, none⟩ = some (.int .i64 (SW u).seq) ∧ W.cell? ⟨sb, off + u * 3 + 2, none⟩ = some (.slice (SW u).a (SW u).n (SW u).cap)) := by
                    intro W hW
                    obtain ⟨c0, c1, c2⟩ := hcs u hul
                    have l := World.block_lt_of_cell? W2 _ c0
                    exact ⟨(hW.cell (p := ⟨sb, off + u * 3, none⟩) l).trans c0, (hW.cell (p := ⟨sb, off + u * 3 + 1, none⟩) l).trans c1, (hW.cell (p := ⟨sb, off + u * 3 + 2, none⟩) l).trans c2⟩
                  have hKu : Ky (SW u).own = some g := by rw [HKm.out]; exact hg
                  have hget := get_base X mx cx Ky Ox (SW u).own wr (HX.out.below HB2.out) (by unfold inR; omega)
                  have e1 : ownOf Ky (SW u).own = (SW u).own := by simp [ownOf, hKu]
                  have e2 : seqAt Ky (SW u).own = g.1 := by simp [seqAt, hKu]
                  have e3 : esOf Ky (SW u).own = g.2 := by simp [esOf, hKu]
                  rw [e1, e2, e3, hKu] at hget
                  have hopt := (HS.out.opt u hul).1
                  obtain ⟨c0, c1, c2⟩ := HF1.out wr HB2.out
                  clear hcs e1 e2 e3 hKu hg hstf
                  go_wp2_with (fail)
                  refine hget.mono ?_
                  rintro e w19 ⟨ga, gc, rfl, gop, gz, g6, k19⟩
                  have HK19 : Hid _ := below_chain HB2.out k19
                  clear hget gz k19 c0 c1 c2
                  go_upto_region 33 with fail
                  obtain ⟨W3, hW3⟩ : ∃ W3, w19.alloc (.cells #[.int .i64 (SW u).own, .int .i64 g.1, .slice ga g.2.length gc] 35) = W3 := ⟨_, rfl⟩
                  have hXb : W3.heap[w19.heap.size]? = some (.cells #[.int .i64 (SW u).own, .int .i64 g.1, .slice ga g.2.length gc] 35 (0, 0)) := by rw [← hW3]; exact heap_alloc_new w19 _
                  have hb3 : Below w19.heap.size w19 W3 := by rw [← hW3]; exact below_alloc w19 _
                  rw [hW3]
                  clear hW3
                  obtain ⟨Z, hZe⟩ : ∃ Z, w19.heap.size = Z := ⟨_, rfl⟩
                  rw [hZe] at hXb
                  rw [hZe]
                  have HK3 : Hid (Below W2.heap.size W2 W3) := below_chain HK19.out hb3
                  have HZl : Hid (Z < W3.heap.size) := (Array.getElem?_eq_some_iff.1 hXb).1
                  have HNW : Hid (∀ W, Below W3.heap.size W3 W → Calls Try.prog 33 #[.agg #[.int .i64 (SW u).own, .int .i64 (SW u).seq, .slice (SW u).a (SW u).n (SW u).cap], .agg #[.int .i64 (SW u).own, .int .i64 g.1, .slice ga g.2.length gc]] W fun e w' => e = .returned (.int .i64 (newS (SW u).seq (EW u) g.1 g.2)) ∧ Below W.heap.size W w') :=
                    fun W hW => newer_any _ _ _ _ _ _ _ _ _ _ _ _ W (hopt.below (below_chain HK3.out hW)) ((gop.below hb3).below hW) (by have := hopt.1; omega)
                  have HF : Hid (∀ W, Below W3.heap.size W3 W → (W.cell? ⟨Z, 0, none⟩ = some (.int .i64 (SW u).own) ∧ W.cell? ⟨Z, 1, none⟩ = some (.int .i64 g.1) ∧ W.cell? ⟨Z, 2, none⟩ = some (.slice ga g.2.length gc)) ∧ W.cell? ⟨sb, off + u * 3, none⟩ = some (.int .i64 (SW u).own) ∧ W.cell? ⟨sb, off + u * 3 + 1, none⟩ = some (.int .i64 (SW u).seq) ∧ W.cell? ⟨sb, off + u * 3 + 2, none⟩ = some (.slice (SW u).a (SW u).n (SW u).cap)) := by
                    intro W hW
                    have hX2 := (hW.block Z HZl.out).trans hXb
                    exact ⟨⟨cell_of_row W Z 0 _ _ (0, 0) hX2, cell_of_row W Z 1 _ _ (0, 0) hX2, cell_of_row W Z 2 _ _ (0, 0) hX2⟩, HF1.out W (below_chain HK3.out hW)⟩
                  clear hXb hb3 hZe hopt gop h6 HF1 hso g6
                  generalize newS (SW u).seq (EW u) g.1 g.2 = r at HNW hng
                  generalize g.2.length = gl at HNW HF ⊢
                  generalize g.1 = gs at HNW HF ⊢
                  generalize (SW u).own = so at HNW HF ⊢
                  generalize (SW u).seq = sq at HNW HF
                  generalize (SW u).a = sa at HNW HF
                  generalize (SW u).n = sn at HNW HF
                  generalize (SW u).cap = sc at HNW HF
                  have KD : Below W3.heap.size W3 W3.drew := below_drewN (Below.refl _ _) 1
                  have F0 := HF.out _ KD
                  go_region_held3 (fun x => (x.cell? ⟨Z, 0, none⟩ = some (.int .i64 so) ∧ x.cell? ⟨Z, 1, none⟩ = some (.int .i64 gs) ∧ x.cell? ⟨Z, 2, none⟩ = some (.slice ga gl gc)) ∧ x.cell? ⟨sb, off + u * 3, none⟩ = some (.int .i64 so) ∧ x.cell? ⟨sb, off + u * 3 + 1, none⟩ = some (.int .i64 sq) ∧ x.cell? ⟨sb, off + u * 3 + 2, none⟩ = some (.slice sa sn sc))
                    (first | assumption | exact F0 | exact F1)
                    ((go_at_call 33; refine (HNW.out _ KD).mono ?_; rintro e w20 ⟨rfl, k20⟩; have F1 := HF.out _ (below_chain KD k20)))
                  all_goals
                    have HK20 : Hid _ := below_chain HK3.out (below_chain KD k20)
                    clear F0 F1 k20
                    go_wp2_with (fail)
                    go_roundw
                    case rel => exact ⟨u + 1, by omega, by go_num, HK20.out⟩
                    case measure => simp [intOf]; omega
                · have hge5 : ¬ (u : Int) < (nw : Int) := by omega
                  go_wp2_with (fail)
                  go_ret
                  exact ⟨rfl, below_chain HB.out HB2.out⟩
end topSpread
end Go.Proofs.Ytielnomhdahciaa
