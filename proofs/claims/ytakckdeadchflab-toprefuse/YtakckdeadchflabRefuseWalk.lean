/-
  'TopRefuse' returns true at all numbers, codes and options, and changes nothing that was there.
-/
import Derived.Test.YtakckdeadchflabAgreeWalk
import Derived.Deep.Cut
import Derived.Deep.DeepCutAuto
namespace Go.Proofs.Ytakckdeadchflab
open Go.RowKit

/-- The slice reads as the numbers xs (a cell each). -/
def IntsR (w : World) (a : Option Addr) (n : Nat) (xs : List Int) : Prop :=
  xs.length = n ∧ (n = 0 ∨ ∃ b off, a = some ⟨b, off, none⟩ ∧ ∀ j (h : j < xs.length), w.cell? ⟨b, off + j, none⟩ = some (.int .i64 xs[j]))
theorem IntsR.below {w w' : World} {a : Option Addr} {n : Nat} {xs : List Int} (h : IntsR w a n xs) (hb : Below w.heap.size w w') : IntsR w' a n xs := by
  refine ⟨h.1, ?_⟩
  rcases h.2 with h2 | ⟨b, off, rfl, h2⟩
  · exact .inl h2
  · exact .inr ⟨b, off, rfl, fun j hj => (hb.cell (World.block_lt_of_cell? w _ (h2 j hj))).trans (h2 j hj)⟩

namespace topRefuse
/-- What may be asked of a policy that was told such: each at least 1, a size at least 40. -/
def Fine (p : Int × Int) : Prop := (p.1 = 0 ∨ 40 ≤ p.1) ∧ 0 ≤ p.2
theorem fine_step {code : Int} {p : Int × Int} {o : Opt} (h : Fine p) (ho : 0 ≤ o.2) : Fine (told1 code p o) := by
  unfold Fine at *
  unfold told1
  split
  · split
    · exact ⟨.inl rfl, h.2⟩
    · split
      · exact ⟨h.1, by simp⟩
      · exact h
  · split
    · split
      · rename_i q
        exact ⟨.inr q.2.2, h.2⟩
      · split
        · rename_i q
          exact ⟨h.1, by simp; omega⟩
        · exact h
    · exact h
theorem fine_told {code : Int} : ∀ (l : List Opt) {p : Int × Int}, Fine p → (∀ o ∈ l, 0 ≤ o.2) → Fine (toldR code l p)
  | [], _, h, _ => h
  | o :: r, _, h, hl => fine_told r (fine_step h (hl o (by simp))) (fun x hx => hl x (by simp [hx]))
/-- Zero stays zero; what is named in a refusal is zero. -/
theorem zero_step1 {code : Int} {p : Int × Int} {o : Opt} (h : p.1 ≤ 0) : (told1 code p o).1 ≤ 0 := by
  unfold told1
  repeat' split
  all_goals first | omega | simp_all | omega
theorem zero_step2 {code : Int} {p : Int × Int} {o : Opt} (h : p.2 ≤ 0) : (told1 code p o).2 ≤ 0 := by
  unfold told1
  repeat' split
  all_goals first | omega | simp_all | omega
theorem zero_told1 {code : Int} : ∀ (l : List Opt) {p : Int × Int}, p.1 ≤ 0 → (toldR code l p).1 ≤ 0
  | [], _, h => h
  | _ :: r, _, h => zero_told1 r (zero_step1 h)
theorem zero_told2 {code : Int} : ∀ (l : List Opt) {p : Int × Int}, p.2 ≤ 0 → (toldR code l p).2 ≤ 0
  | [], _, h => h
  | _ :: r, _, h => zero_told2 r (zero_step2 h)
theorem rej_named1 : ∀ (l : List Opt) {p : Int × Int}, (∃ o ∈ l, o.1 = 1) → (toldR 4 l p).1 ≤ 0
  | [], _, h => by obtain ⟨o, ho, _⟩ := h; simp at ho
  | o :: r, p, h => by
    obtain ⟨x, hx, h1⟩ := h
    rcases List.mem_cons.1 hx with rfl | hr
    · exact zero_told1 r (by simp [told1, h1])
    · exact rej_named1 r ⟨x, hr, h1⟩
theorem rej_named2 : ∀ (l : List Opt) {p : Int × Int}, (∃ o ∈ l, o.1 = 5) → (toldR 4 l p).2 ≤ 0
  | [], _, h => by obtain ⟨o, ho, _⟩ := h; simp at ho
  | o :: r, p, h => by
    obtain ⟨x, hx, h1⟩ := h
    rcases List.mem_cons.1 hx with rfl | hr
    · exact zero_told2 r (by simp [told1, h1])
    · exact rej_named2 r ⟨x, hr, h1⟩
/-- All that is asked for. -/
theorem asks_fine {p : Int × Int} (h : Fine p) : ∀ o ∈ asksL p.1 p.2, 1 ≤ o.2 ∧ ((o.1 == 1) = true → 40 ≤ o.2) := by
  intro o ho
  unfold asksL at ho
  rw [List.mem_append] at ho
  rcases ho with ho | ho
  · split at ho
    · rename_i q
      simp at ho
      subst ho
      rcases h.1 with h1 | h1
      · omega
      · exact ⟨by simp; omega, fun _ => h1⟩
    · simp at ho
  · split at ho
    · rename_i q
      simp at ho
      subst ho
      exact ⟨by simp; omega, fun hh => by simp at hh⟩
    · simp at ho
theorem asks_rej {l : List Opt} {p : Int × Int} : ∀ o ∈ asksL (toldR 4 l p).1 (toldR 4 l p).2, ∀ x ∈ l, (x.1 == o.1) = false := by
  intro o ho x hx
  unfold asksL at ho
  rw [List.mem_append] at ho
  rw [beq_eq_false_iff_ne]
  intro hh
  rcases ho with ho | ho
  · split at ho
    · rename_i q
      simp at ho
      subst ho
      have := rej_named1 l (p := p) ⟨x, hx, hh⟩
      omega
    · simp at ho
  · split at ho
    · rename_i q
      simp at ho
      subst ho
      have := rej_named2 l (p := p) ⟨x, hx, hh⟩
      omega
    · simp at ho
theorem asks_len {code : Int} {l : List Opt} {p : Int × Int} : (asksL (toldR code l p).1 (toldR code l p).2).length ≤ (asksL p.1 p.2).length := by
  have h1 : ¬ 0 < p.1 → ¬ 0 < (toldR code l p).1 := fun h => by have := zero_told1 (code := code) l (p := p) (by omega); omega
  have h2 : ¬ 0 < p.2 → ¬ 0 < (toldR code l p).2 := fun h => by have := zero_told2 (code := code) l (p := p) (by omega); omega
  generalize toldR code l p = t at h1 h2
  unfold asksL
  by_cases q1 : 0 < p.1
  · by_cases q2 : 0 < p.2
    · rw [if_pos q1, if_pos q2]
      by_cases q3 : 0 < t.1 <;> by_cases q4 : 0 < t.2
      · rw [if_pos q3, if_pos q4]; simp
      · rw [if_pos q3, if_neg q4]; simp
      · rw [if_neg q3, if_pos q4]; simp
      · rw [if_neg q3, if_neg q4]; simp
    · rw [if_pos q1, if_neg q2, if_neg (h2 q2)]
      by_cases q3 : 0 < t.1
      · rw [if_pos q3]; simp
      · rw [if_neg q3]; simp
  · by_cases q2 : 0 < p.2
    · rw [if_neg q1, if_pos q2, if_neg (h1 q1)]
      by_cases q4 : 0 < t.2
      · rw [if_pos q4]; simp
      · rw [if_neg q4]; simp
    · rw [if_neg q1, if_neg q2, if_neg (h1 q1), if_neg (h2 q2)]; simp

theorem _root_.Go.Proofs.Ytakckdeadchflab.Pol.drew {w : World} {B : Nat} {s m : Int} (h : Pol w B s m) : Pol w.drew B s m := ⟨h.c0, h.c1, h.f0, h.f1⟩
/-- Asks, its value written out. -/
theorem asks_at (a b : Int) (V : World) : Calls Try.prog 6 #[.agg #[.int .i64 a, .int .i64 b]] V fun e w' =>
    ∃ (sa : Option Addr) (sc : Nat), e = .returned (.slice sa (asksL a b).length sc) ∧ OptR w' sa (asksL a b).length (asksL a b) ∧ Below V.heap.size V w' := by
  refine (asks_any a b V).mono ?_
  rintro e w' ⟨v, rfl, hM⟩
  obtain ⟨sa, sc, rfl, sn, sl⟩ := hM.shape
  exact ⟨sa, sc, rfl, hM.opts.2, hM.below⟩
theorem pol_keep {w0 w1 : World} {B : Nat} {s m : Int} (P : Pol w0 B s m) (hb : Below w0.heap.size w0 w1) : w1.cell? ⟨B, 0, none⟩ = some (.int .i64 s) ∧ w1.cell? ⟨B, 1, none⟩ = some (.int .i64 m) ∧ B < w1.heap.size :=
  ⟨(P.below hb).c0, (P.below hb).c1, (P.below hb).lt⟩

set_option maxRecDepth 100000 in
set_option maxHeartbeats 16000000 in
theorem walk_gen (a b s1 m1 : Int) (E : Value) (ca : Option Addr) (nc cc : Nat) (cs : List Int) (la : Option Addr) (nl lc : Nat) (os : List Opt) (w : World) (hc : IntsR w ca nc cs) (ho : OptR w la nl os) (hnc : nc ≤ maxLen) (hnl : nl ≤ maxLen)
    (hN : ∀ V : World, Calls Try.prog 5 #[.int .i64 a, .int .i64 b] V fun e w' => e = .returned (.tuple #[.agg #[.int .i64 s1, .int .i64 m1], E]) ∧ Below V.heap.size V w')
    (hE : (E = .nilIface ∧ Fine (s1, m1)) ∨ E = .iface 39 (.int .i64 1)) :
    Calls Try.prog 3 #[.int .i64 a, .int .i64 b, .slice ca nc cc, .slice la nl lc] w fun e w' => e = .returned (.bool true) ∧ Below w.heap.size w w' := by
  have hnc' : nc ≤ 9223372036854775807 := by unfold maxLen at hnc; omega
  have hnl' : nl ≤ 9223372036854775807 := by unfold maxLen at hnl; omega
  have hK := asks_as (show asksL 90 7 = [(1, 90), (5, 7)] by decide +kernel) (n := 2) rfl
  have hZ := asks_as (show asksL 0 0 = [] by decide +kernel) (n := 0) rfl
  have hT := fun sa sc V h => told_any 90 7 4 sa 2 sc [(1, 90), (5, 7)] V (by decide) h
  rw [show toldR 4 [(1, 90), (5, 7)] (90, 7) = (0, 0) by decide +kernel] at hT
  go_enter Try.func3, Try.ntmps3
  go_wp2_with (fail)
  refine (new_in 90 7 _ (by decide) (by decide) (by decide) (by decide)).mono ?_
  rintro e w1 ⟨rfl, hb1⟩
  have P1 := Pol.made w1 90 7
  have h1 : Below w.heap.size w (w1.alloc (.cells #[.int .i64 90, .int .i64 7] 25)) := hb1.alloc hb1.size _
  have hB : w.heap.size ≤ w1.heap.size := hb1.size
  go_upto_region 2 with (fail)
  obtain ⟨B, hBe⟩ : ∃ B, w1.heap.size = B := ⟨_, rfl⟩
  obtain ⟨W1, hW1⟩ : ∃ W1, w1.alloc (.cells #[.int .i64 90, .int .i64 7] 25) = W1 := ⟨_, rfl⟩
  rw [hW1, hBe] at P1 ⊢
  rw [hW1] at h1
  rw [hBe] at hB
  clear hW1 hBe hb1
  go_cut [37] (fun s37 wx => s37 = .bool false ∧ Pol wx B 90 7 ∧ Below w.heap.size w wx)
  case first =>
    obtain ⟨c0, c1, cl⟩ := And.intro P1.c0 (And.intro P1.c1 P1.lt)
    have Pd : Pol W1.drew B 90 7 := P1.drew
    go_region_with (first
      | (go_at_call_of 6 (Value.int .i64 90); refine (hK _).mono ?_; rintro e wa ⟨sa, sc, rfl, sn, so, ka⟩; (first | have Ha := below_chain Ha ka | have Ha := below_chain (below_drew h1) ka); (first | have Pa := Pa.below ka | have Pa := Pd.below ka); obtain ⟨d0, d1, dl⟩ := And.intro Pa.c0 (And.intro Pa.c1 Pa.lt))
      | (go_at_call 7; refine (hT _ _ _ so).mono ?_; rintro e wt ⟨rfl, kt⟩; have Ha := below_chain Ha kt; have Pa := Pa.below kt)
      | (go_at_call_of 6 (Value.int .i64 0); refine (hZ _).mono ?_; rintro e wz ⟨za, zc, rfl, _, _, kz⟩; have Ha := below_chain Ha kz; have Pa := Pa.below kz))
    all_goals
      go_wp2_with (fail)
      go_meet
      exact ⟨rfl, Pa, Ha⟩
  case rest =>
  obtain ⟨rfl, P2, h2⟩ := hcut
  clear P1 h1 hK hZ hT
  go_wp2_with (fail)
  refine (hN _).mono ?_
  rintro e w3 ⟨rfl, hb3⟩
  have P3 := P2.below hb3
  have h3 := below_chain h2 hb3
  have hlB : B < w3.heap.size := P3.lt
  have P4 := P3.set s1 m1
  have h4 : Below w.heap.size w ((w3.setCell ⟨B, 0, none⟩ (.int .i64 s1)).setCell ⟨B, 1, none⟩ (.int .i64 m1)) := (h3.setCell hB _).setCell hB _
  obtain ⟨c0, c1, f0, f1⟩ := P3
  clear P2 h2 hb3 hN
  rcases hE with ⟨rfl, hfine⟩ | rfl
  · by_cases n1 : (10 : Int) < (nc : Int)
    · go_wp2_with (fail)
      go_ret
      exact ⟨rfl, h4⟩
    · by_cases n2 : (10 : Int) < (nl : Int)
      · go_wp2_with (fail)
        go_ret
        exact ⟨rfl, h4⟩
      · go_wp2_with (fail)
        obtain ⟨W4, hW4⟩ : ∃ W4, (w3.setCell ⟨B, 0, none⟩ (.int .i64 s1)).setCell ⟨B, 1, none⟩ (.int .i64 m1) = W4 := ⟨_, rfl⟩
        rw [hW4] at P4 h4 ⊢
        clear hW4 c0 c1 f0 f1 h3 hlB
        go_loopw [11] (fun i wr => ∃ k : Nat, k ≤ nl ∧ i = .int .i64 k ∧ (∀ o ∈ os.take k, 0 ≤ o.2) ∧ W4 = wr) (fun i _ => nl - (intOf i).toNat)
        case atStart => exact ⟨0, Nat.zero_le _, rfl, by simp, rfl⟩
        case round =>
          obtain ⟨k, hk, rfl, hpos0, rfl⟩ := hrel
          have HP : Hid _ := hpos0
          clear hpos0
          by_cases hlt : k < nl
          · have hor := ho.below h4
            rcases hor.2 with h0 | ⟨lb, lo, rfl, hc1⟩
            · omega
            have hlo : k < os.length := by rw [ho.1]; exact hlt
            obtain ⟨e1, e2⟩ := hc1 k hlo
            have HT : Hid (os.take (k + 1) = os.take k ++ [os[k]]) := List.take_succ_eq_append_getElem hlo
            generalize os[k] = o at e1 e2 HT
            clear hc1
            have hlt' : (k : Int) < (nl : Int) := by omega
            by_cases t1 : o.2 < 0
            · go_wp2_with (fail)
              go_ret
              exact ⟨rfl, h4⟩
            · by_cases t2 : 255 < o.2
              · go_wp2_with (fail)
                go_ret
                exact ⟨rfl, h4⟩
              · go_wp2_with (fail)
                go_roundw
                case rel =>
                  refine ⟨k + 1, by omega, by go_num, ?_, by first | trivial | rfl⟩
                  rw [HT.out]
                  intro x hx
                  rcases List.mem_append.1 hx with hx | hx
                  · exact HP.out x hx
                  · have : x = o := by simpa using hx
                    subst this
                    omega
                case measure => simp [intOf]; omega
          · have hall : Hid (∀ o ∈ os, 0 ≤ o.2) := by
              have hkk : os.take k = os := List.take_of_length_le (by rw [ho.1]; omega)
              have := HP.out
              rw [hkk] at this
              exact this
            clear HP
            go_wp2_with (fail)
            go_loopw [12] (fun i wr => ∃ (k : Nat) (s m : Int), k ≤ nc ∧ i = .int .i64 k ∧ Fine (s, m) ∧ Pol wr B s m ∧ Below w.heap.size w wr) (fun i _ => nc - (intOf i).toNat)
            case atStart => exact ⟨0, s1, m1, Nat.zero_le _, rfl, hfine, P4, h4⟩
            case round =>
              obtain ⟨kc, s, m, hkc, rfl, hF, PB, hbel⟩ := hrel
              obtain ⟨V0, rfl⟩ : ∃ V0, V0 = wr := ⟨_, rfl⟩
              have HF : Hid _ := hF
              clear hF hfine P4 h4
              by_cases hlc : kc < nc
              · have hci := hc.below hbel
                rcases hci.2 with h0 | ⟨cb, co, rfl, hc2⟩
                · omega
                have cc1 := hc2 kc (by rw [hc.1]; exact hlc)
                have cc0 : w.cell? ⟨cb, co + kc, none⟩ = some (.int .i64 (cs[kc]'(by rw [hc.1]; exact hlc))) := by
                  rcases hc.2 with h0 | ⟨cb', co', he, hc3⟩
                  · omega
                  · simp only [Option.some.injEq, Addr.mk.injEq] at he
                    obtain ⟨rfl, rfl, _⟩ := he
                    exact hc3 kc (by rw [hc.1]; exact hlc)
                generalize cs[kc]'(by rw [hc.1]; exact hlc) = code at cc1 cc0
                clear hc2 hci
                have hlc' : (kc : Int) < (nc : Int) := by omega
                have hlc0 : (0 : Int) ≤ (kc : Int) := by omega
                have K1 := below_alloc V0 (.cells #[.int .i64 s, .int .i64 m] 25)
                have PB1 := PB.below K1
                have PW1 := Pol.made V0 s m
                have hb1 := below_chain hbel K1
                have cc2 := (K1.cell (World.block_lt_of_cell? V0 _ cc1)).trans cc1
                obtain ⟨s', m', hst⟩ : ∃ s' m', toldR code os (s, m) = (s', m') := ⟨_, _, rfl⟩
                have hT := fun V h => told_any s m code la nl lc os V (by omega) h
                rw [hst] at hT
                have HF2 : Hid (Fine (s', m')) := by
                  have := fine_told (code := code) os HF.out hall.out
                  rw [hst] at this
                  exact this
                have HL : Hid ((asksL s' m').length ≤ (asksL s m).length) := by
                  have := asks_len (code := code) (l := os) (p := (s, m))
                  rw [hst] at this
                  exact this
                have HRJ : Hid ((code == 4) = true → ∀ o ∈ asksL s' m', ∀ x ∈ os, (x.1 == o.1) = false) := by
                  intro h4
                  have hc4 : code = 4 := by simpa using h4
                  have := asks_rej (l := os) (p := (s, m))
                  rw [← hc4, hst] at this
                  exact this
                clear hst
                obtain ⟨c0, c1, cl⟩ := And.intro PB.c0 (And.intro PB.c1 PB.lt)
                go_wp2_with (fail)
                obtain ⟨C, hC⟩ : ∃ C, V0.heap.size = C := ⟨_, rfl⟩
                obtain ⟨V1, hV1⟩ : ∃ V1, V0.alloc (.cells #[.int .i64 s, .int .i64 m] 25) = V1 := ⟨_, rfl⟩
                have hBC : B ≠ C := by have := PB.lt; omega
                have hBcb : B ≠ cb := by have : cb < w.heap.size := World.block_lt_of_cell? w _ cc0; omega
                rw [hV1, hC] at PW1 ⊢
                rw [hV1] at PB1 hb1 cc2
                clear hV1 hC K1 c0 c1 cl cc1 cc0 PB hbel
                obtain ⟨c0, c1, f0, f1⟩ := PB1
                have hlB : B < V1.heap.size := World.block_lt_of_cell? V1 _ c0
                have hlC : cb < V1.heap.size := World.block_lt_of_cell? V1 _ cc2
                have hT1 := hT V1.drew ((ho.below hb1).below (below_drew (Below.refl _ _)))
                go_region_with (go_at_call 7; refine hT1.mono ?_; rintro e V2 ⟨rfl, k2⟩; have PB2 := (Pol.drew ⟨c0, c1, f0, f1⟩).below k2; obtain ⟨d0, d1, g0, g1⟩ := PB2; have hlB2 : B < V2.heap.size := World.block_lt_of_cell? V2 _ d0)
                all_goals
                  have PB3 := Pol.set ⟨d0, d1, g0, g1⟩ s' m'
                  have PW3 := (PW1.drew.below k2).other (B' := B) hBC (.int .i64 s') (.int .i64 m')
                  have hb3 : Below w.heap.size w ((V2.setCell ⟨B, 0, none⟩ (.int .i64 s')).setCell ⟨B, 1, none⟩ (.int .i64 m')) := ((below_chain (below_drew hb1) k2).setCell hB _).setCell hB _
                  obtain ⟨V3, hV3⟩ : ∃ V3, (V2.setCell ⟨B, 0, none⟩ (.int .i64 s')).setCell ⟨B, 1, none⟩ (.int .i64 m') = V3 := ⟨_, rfl⟩
                  rw [hV3] at PB3 PW3 hb3
                  try rw [hV3]
                  have cc3 : V3.cell? ⟨cb, co + kc, none⟩ = some (.int .i64 code) := by
                    rw [← hV3, World.cell?_setCell_far _ _ _ _ hBcb, World.cell?_setCell_far _ _ _ _ hBcb]
                    exact ((show Below V1.drew.heap.size V1.drew V2 from k2).cell (p := ⟨cb, co + kc, none⟩) hlC).trans cc2
                  have HF3 := HF2
                  clear hT hT1 c0 c1 f0 f1 d0 d1 g0 g1 k2 PW1 hb1 hlB hlC hlB2 cc2 hV3
                  obtain ⟨c0, c1, cl⟩ := And.intro PB3.c0 (And.intro PB3.c1 PB3.lt)
                  go_wp2_with (fail)
                  refine (asks_at s' m' _).mono ?_
                  rintro e V4 ⟨sa, sc, rfl, so, k4⟩
                  have hb4 := below_chain hb3 k4
                  have PB4 := PB3.below k4
                  have PW4 := PW3.below k4
                  have HA : Hid (∀ o ∈ asksL s' m', 1 ≤ o.2 ∧ ((o.1 == 1) = true → 40 ≤ o.2)) := asks_fine HF2.out
                  have hl2 : (asksL s' m').length ≤ 2 := by
                    unfold asksL
                    split <;> split <;> simp
                  obtain ⟨L, hL⟩ : ∃ L, asksL s' m' = L := ⟨_, rfl⟩
                  rw [hL] at so HA HL HRJ hl2 ⊢
                  obtain ⟨nL, hnL⟩ : ∃ nL, L.length = nL := ⟨_, rfl⟩
                  rw [hnL] at so HL hl2 ⊢
                  have cc4 : V4.cell? ⟨cb, co + kc, none⟩ = some (.int .i64 code) := ((show Below V3.heap.size V3 V4 from k4).cell (World.block_lt_of_cell? V3 _ cc3)).trans cc3
                  clear hL c0 c1 cl PB3 PW3 hb3 k4 cc3 HF2
                  go_wp2_with (fail)
                  go_loopw [15] (fun i wr => ∃ j mm : Nat, j ≤ nL ∧ i = .int .i64 j ∧ wr = V4.drewN mm) (fun i _ => nL - (intOf i).toNat)
                  case atStart => exact ⟨0, 0, Nat.zero_le _, rfl, rfl⟩
                  case round =>
                    obtain ⟨j, mm, hj, rfl, rfl⟩ := hrel
                    by_cases hjl : j < nL
                    · rcases so.2 with h0 | ⟨ob, oo, rfl, hc3⟩
                      · omega
                      have hjL : j < L.length := by rw [hnL]; exact hjl
                      obtain ⟨e1, e2⟩ := hc3 j hjL
                      have HM : Hid (L[j] ∈ L) := List.getElem_mem _
                      generalize L[j] = o at e1 e2 HM
                      clear hc3
                      have hjl' : (j : Int) < (nL : Int) := by omega
                      have hj0 : (0 : Int) ≤ (j : Int) := by omega
                      obtain ⟨t1, t2⟩ := HA.out o HM.out
                      have t1' : ¬ o.2 < 1 := by omega
                      have tail : ∀ (Q : Prop), ((o.1 == 1) = true → ¬ o.2 < 40 → Q) → ((o.1 == 1) = false → Q) → Q := by
                        intro Q q1 q2
                        cases h : (o.1 == 1)
                        · exact q2 h
                        · exact q1 h (by have := t2 h; omega)
                      clear t1 t2
                      refine tail _ ?_ ?_ <;> clear tail
                      all_goals
                        intros
                        go_wp2_with (fail)
                        go_loopw [16] (fun i wr => ∃ q mz : Nat, q ≤ nl ∧ i = .int .i64 q ∧ wr = V4.drewN mz) (fun i _ => nl - (intOf i).toNat)
                        case atStart => exact ⟨0, mm, Nat.zero_le _, rfl, rfl⟩
                        case round =>
                          obtain ⟨q, mz, hq, rfl, rfl⟩ := hrel
                          by_cases hql : q < nl
                          · have hor := ho.below hb4
                            rcases hor.2 with h0 | ⟨lb, lo, rfl, hc4⟩
                            · omega
                            have hqo : q < os.length := by rw [ho.1]; exact hql
                            obtain ⟨x1, x2⟩ := hc4 q hqo
                            have HX : Hid (os[q] ∈ os) := List.getElem_mem _
                            generalize os[q] = x at x1 x2 HX
                            clear hc4
                            have hql' : (q : Int) < (nl : Int) := by omega
                            have hq0 : (0 : Int) ≤ (q : Int) := by omega
                            cases h4 : (code == 4)
                            · go_wp2_with (fail)
                              go_quiet (fail)
                              go_wp2_with (fail)
                              go_roundw
                              case rel => exact ⟨q + 1, _, by omega, by go_num, rfl⟩
                              case measure => simp [intOf]; omega
                            · have hxo := HRJ.out h4 o HM.out x HX.out
                              go_wp2_with (fail)
                              go_quiet (fail)
                              go_wp2_with (fail)
                              go_roundw
                              case rel => exact ⟨q + 1, _, by omega, by go_num, rfl⟩
                              case measure => simp [intOf]; omega
                          · go_wp2_with (fail)
                            go_roundw
                            case rel => exact ⟨j + 1, _, by omega, by go_num, rfl⟩
                            case measure => simp [intOf]; omega
                    · obtain ⟨c0, c1, cl⟩ := And.intro PW4.c0 (And.intro PW4.c1 PW4.lt)
                      go_wp2_with (fail)
                      refine (asks_at s m _).mono ?_
                      rintro e V5 ⟨ua, uc, rfl, uo, k5⟩
                      have PB5 := (show Pol (V4.drewN mm) B s' m' from ⟨PB4.c0, PB4.c1, PB4.f0, PB4.f1⟩).below k5
                      have hb5 := below_chain (below_drewN hb4 mm) k5
                      have hLL : ¬ ((asksL s m).length : Int) < (nL : Int) := by have := HL.out; omega
                      clear c0 c1 cl
                      go_wp2_with (fail)
                      go_roundw
                      case rel => exact ⟨kc + 1, s', m', by omega, by go_num, HF3.out, PB5, hb5⟩
                      case measure => simp [intOf]; omega
              · go_wp2_with (fail)
                go_ret
                exact ⟨rfl, hbel⟩
  · go_wp2_with (fail)
    go_ret
    exact ⟨rfl, h4⟩
end topRefuse
end Go.Proofs.Ytakckdeadchflab
