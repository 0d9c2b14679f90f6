/-
  'TopFar' returns true at all states and roots, and changes nothing that was there.
-/
import Derived.Test.YtielnomhdahciaaWaysIn
import Derived.Deep.DeepCutAuto
namespace Go.Proofs.Ytielnomhdahciaa
open Go.RowKit St
namespace topFar

def fC (g : Nat → Int) : Array Value := (Array.range 7).map fun i => .int .i64 (g i)
theorem fC_get (g : Nat → Int) (i : Nat) (h : i < 7) : (fC g)[i]? = some (.int .i64 (g i)) := by simp [fC, h]
def updI (g : Nat → Int) (n : Nat) (v : Int) : Nat → Int := fun x => if x = n then v else g x
theorem fC_set (g : Nat → Int) (n : Nat) (v : Int) : (fC g).setIfInBounds n (.int .i64 v) = fC (updI g n v) := by
  apply Array.ext_getElem?
  intro i
  rw [Array.getElem?_setIfInBounds]
  by_cases hi : i < 7
  · rw [fC_get _ i hi, fC_get _ i hi]
    by_cases e : n = i
    · subst e
      simp [updI, fC, hi]
    · have e2 : ¬ i = n := fun h => e h.symm
      simp [updI, e, e2]
  · have hs : ∀ D : Nat → Int, (fC D)[i]? = none := fun D => Array.getElem?_eq_none (by simp [fC]; omega)
    rw [hs, hs]
    split
    · simp [fC]; omega
    · rfl
theorem infoF : (Try.prog.info? 77).map (fun i => (i.zero, i.size)) = some (some (.agg (fC fun _ => 0)), 7) := by kernel_rfl
theorem zeroF (w : World) : (zeroValue 77).run Try.prog w = .ok (.agg (fC fun _ => 0)) w := (zero_of_info infoF).1 w
def base (r x : Nat) : Int := if x = r then 0 else -1
def hitH (L : List HP) (x i : Nat) : Bool := decide (∃ j, j < i ∧ ((L[j]?).map HP.dst) = some (x : Int))
theorem hitH_succ (L : List HP) (x i : Nat) : hitH L x (i + 1) = (hitH L x i || decide (((L[i]?).map HP.dst) = some (x : Int))) := by
  unfold hitH
  rw [← Bool.decide_or, decide_eq_decide]
  constructor
  · rintro ⟨j, h1, h2⟩
    by_cases e : j = i
    · subst e
      exact .inr h2
    · exact .inl ⟨j, by omega, h2⟩
  · rintro (⟨j, h1, h2⟩ | h2)
    · exact ⟨j, by omega, h2⟩
    · exact ⟨i, by omega, h2⟩
/-- What the law reckons as far. -/
def dF (C : Grid) (r x : Nat) : Int := if 0 < farF C r x then farF C r x else base r x
theorem hit_far {C : Grid} (hC : ∀ x y, 0 ≤ C x y) {r : Nat} (hd : C r r = 0) (x : Nat) (hx : x < 7) : hitH (hopsL C r) x (hopsL C r).length = decide (0 < farF C r x) := by
  unfold hitH
  rw [decide_eq_decide]
  constructor
  · rintro ⟨j, h1, h2⟩
    rw [List.getElem?_eq_getElem h1] at h2
    obtain ⟨k, k1, k2, k3⟩ := (hops_mem C r _).1 (List.getElem_mem h1)
    rw [k2] at h2
    have h3 : (roundsF C r 6 k).dst = (x : Int) := by simpa using h2
    rw [(best_way hC hd k k3).1] at h3
    have : k = x := by omega
    rw [← this]
    exact k3
  · intro h
    obtain ⟨j, hj, e⟩ := List.getElem_of_mem ((hops_mem C r _).2 ⟨x, hx, rfl, h⟩)
    refine ⟨j, hj, ?_⟩
    rw [List.getElem?_eq_getElem hj, e]
    simp [(best_way hC hd x h).1]
theorem dF_edge {C : Grid} (hC : ∀ x y, 0 ≤ C x y) {r : Nat} (hd : C r r = 0) (a b : Nat) (hb : b < 7) (he : 0 < C a b) (ha : 0 ≤ dF C r a) : 0 ≤ dF C r b ∧ dF C r b ≤ dF C r a + C a b := by
  by_cases hbr : b = r
  · subst hbr
    have : dF C b b = 0 := by
      unfold dF base
      rw [far_root hC hd]
      simp
    omega
  · have hka : a = r ∨ 0 < farF C r a := by
      by_cases h1 : a = r
      · exact .inl h1
      · right
        by_cases h2 : 0 < farF C r a
        · exact h2
        · unfold dF base at ha
          rw [if_neg h2, if_neg h1] at ha
          omega
    have h1 := far_edge hC hd a b hb hbr he hka
    have e2 : dF C r a = if a = r then 0 else farF C r a := by
      by_cases h3 : a = r
      · subst h3
        unfold dF base
        rw [far_root hC hd]
        simp
      · rw [if_neg h3]
        unfold dF
        rw [if_pos (hka.resolve_left h3)]
    have e1 : dF C r b = farF C r b := by unfold dF; rw [if_pos h1.1]
    rw [e1, e2]
    omega

set_option maxRecDepth 100000 in
set_option maxHeartbeats 8000000 in
theorem walk (a : Option Addr) (n cap : Nat) (S : Nat → SV) (E : Nat → List Opt) (x : Int) (w : World) (h : StsR w a n S E) :
    Calls Try.prog 7 #[.slice a n cap, .int .i64 x] w fun e w' => e = .returned (.bool true) ∧ Below w.heap.size w w' := by
  have h0 := nearby_any w
  go_enter Try.func7, Try.ntmps7
  go_wp2_with (fail)
  refine h0.mono ?_
  rintro e w1 ⟨rfl, b1⟩
  clear h0
  have hl := lightStates_any a n cap S E w1 (h.below b1)
  go_wp2_with (fail)
  refine hl.mono ?_
  rintro e w2 ⟨⟨t, rfl, hb⟩, b2⟩
  have hb2 := below_chain b1 b2
  clear hl b1 b2
  cases t
  · clear hb
    go_wp2_with (fail)
    go_ret
    exact ⟨rfl, hb2⟩
  obtain ⟨hn6, hok⟩ := hb rfl
  clear hb
  have HOK : Hid _ := hok
  clear hok
  by_cases h1 : x < 1
  · go_wp2_with (fail)
    go_ret
    exact ⟨rfl, hb2⟩
  by_cases h2 : 6 < x
  · go_wp2_with (fail)
    go_ret
    exact ⟨rfl, hb2⟩
  obtain ⟨r, rfl⟩ : ∃ r : Nat, x = (r : Int) := ⟨x.toNat, by omega⟩
  have HED : Hid (∀ (u v : Nat) W, Below w.heap.size w W → Calls Try.prog 42 #[.slice a n cap, .int .i64 (u : Int), .int .i64 (v : Int)] W fun e w' => e = .returned (.int .i64 (bothG (tellF S E n) u v)) ∧ Below W.heap.size W w') :=
    fun u v W hW => edge_law a n cap S E u v W (h.below hW) (by omega) HOK.out
  have HHO : Hid (∀ (r : Nat) W, 1 ≤ r → r ≤ 6 → Below w.heap.size w W → Calls Try.prog 37 #[.slice a n cap, .int .i64 (r : Int)] W fun e w' => ∃ b c, e = .returned (.slice b (hopsL (bothG (tellF S E n)) r).length c) ∧ HsR w' b (hopsL (bothG (tellF S E n)) r).length (hopsL (bothG (tellF S E n)) r) ∧ Below W.heap.size W w') :=
    fun r W r1 r6 hW => hops_any a n cap S E r W (h.below hW) (by omega) HOK.out r1 r6
  have HC : Hid (∀ u v, 0 ≤ bothG (tellF S E n) u v) := fun u v => (bothG_range (tellF_range S E n HOK.out) u v).1
  have HFB : Hid (∀ u v, farF (bothG (tellF S E n)) u v ≤ 5900) := fun u v => ((roundsF_far u (bothG_range (tellF_range S E n HOK.out)) 6) v).2
  have HCB : Hid (∀ u v, 0 ≤ bothG (tellF S E n) u v ∧ bothG (tellF S E n) u v ≤ 20) := bothG_range (tellF_range S E n HOK.out)
  have HD : Hid (∀ u, bothG (tellF S E n) u u = 0) := both_diag S E n HOK.out
  have HI : Hid (∀ u v, 0 < bothG (tellF S E n) u v → (1 ≤ u ∧ u ≤ 6) ∧ 1 ≤ v ∧ v ≤ 6) := both_in S E n HOK.out
  generalize bothG (tellF S E n) = C at HED HHO HC HD HI HFB HCB
  clear HOK
  have hh := HHO.out r w2 (by omega) (by omega) hb2
  have HB2 : Hid _ := hb2
  clear hb2
  have HLM : Hid (∀ (j : Nat) p, (hopsL C r)[j]? = some p → ∃ k : Nat, k < 7 ∧ p = roundsF C r 6 k ∧ 0 < farF C r k) := fun j p hp => by
    obtain ⟨k, k1, k2, k3⟩ := (hops_mem C r p).1 (List.mem_of_getElem? hp)
    exact ⟨k, k1, k2, k3⟩
  have hL7 : (hopsL C r).length ≤ 7 := lstF_length _ 7
  obtain ⟨L, hLe⟩ : ∃ L, hopsL C r = L := ⟨_, rfl⟩
  rw [hLe] at hh HLM hL7
  have hz := zeroF
  obtain ⟨Z, hZ⟩ : ∃ Z, fC (fun _ => 0) = Z := ⟨_, rfl⟩
  rw [hZ] at hz
  have HZ : Hid _ := hZ
  clear hZ
  go_wp2_with (fail)
  refine hh.mono ?_
  rintro e w3 ⟨hb, hc, rfl, r3, k3⟩
  have HHF : Hid (∀ x, x < 7 → hitH L x L.length = decide (0 < farF C r x)) := fun x hx => by rw [← hLe]; exact hit_far HC.out (HD.out r) x hx
  clear hLe
  obtain ⟨ln, hln⟩ : ∃ ln, L.length = ln := ⟨_, rfl⟩
  rw [hln] at r3 hL7 HHF
  rw [hln]
  have HB3 : Hid _ := below_chain HB2.out k3
  have HR3 : Hid _ := r3
  clear hh r3 k3
  go_wp2_with (fail)
  obtain ⟨W4, hW4⟩ : ∃ W4, w3.alloc (.cells Z 77) = W4 := ⟨_, rfl⟩
  have k4 : Below w3.heap.size w3 W4 := by rw [← hW4]; exact below_alloc _ _
  have hN : Blk W4 w3.heap.size (fC fun _ => 0) 77 := by rw [← hW4, HZ.out]; exact Blk.new _ _ _
  rw [hW4]
  obtain ⟨N, hNe⟩ : ∃ N, w3.heap.size = N := ⟨_, rfl⟩
  rw [hNe] at hN
  have HlN : Hid (w3.heap.size ≤ N) := by show _ ≤ _; omega
  have HB4 : Hid (Below w3.heap.size w3 W4) := k4
  rw [hNe]
  have HN : Hid _ := hN
  clear hW4 k4 hNe hN
  go_loopw [8] (fun v wr => ∃ (m : Nat) (g : Nat → Int), 1 ≤ m ∧ m ≤ 7 ∧ v = .int .i64 m ∧ (∀ x, 1 ≤ x → x < m → g x = base r x) ∧ Blk wr N (fC g) 77 ∧ Below w3.heap.size w3 wr) (fun v _ => 7 - (intOf v).toNat)
  case atStart => exact ⟨1, fun _ => 0, by omega, by omega, rfl, fun x _ _ => by omega, HN.out, HB4.out⟩
  case round =>
    clear HN HB4
    obtain ⟨m, g, hm1, hm7, rfl, hg, hN, hbel⟩ := hrel
    have Hg : Hid _ := hg
    clear hg
    by_cases hm6 : m ≤ 6
    · have hm6' : (m : Int) ≤ 6 := by omega
      have hm7' : (m : Int) < 7 := by omega
      have n0 := (hN.cell m).trans (fC_get g m (by omega))
      have n1 := hN.frozen m
      have lN := hN.lt
      have hN5 := hN.set m (.int .i64 (-1))
      have n2 : (wr.setCell ⟨N, m, none⟩ (.int .i64 (-1))).cell? ⟨N, m, none⟩ = some (.int .i64 (-1)) := by rw [fC_set] at hN5; exact (hN5.cell m).trans (by rw [fC_get _ m (by omega)]; simp [updI])
      have n3 := hN5.frozen m
      have HN : Hid _ := hN
      have HB : Hid _ := hbel
      clear hN hbel hN5
      by_cases hmr : m = r
      · have he : ((m : Int) == (r : Int)) = true := by simp [hmr]
        have HMR : Hid _ := hmr
        clear hmr
        go_wp2_with (fail)
        go_roundw
        case rel =>
          refine ⟨m + 1, updI (updI g m (-1)) m 0, by omega, by omega, by go_num, fun x x1 x2 => ?_, ?_, Below.setCell (Below.setCell HB.out HlN.out _) HlN.out _⟩
          · by_cases e : x = m
            · have hmr2 := HMR.out
              simp [updI, e, base, hmr2]
            · simp only [updI, if_neg e]
              exact Hg.out x x1 (by omega)
          · rw [← fC_set, ← fC_set]
            exact Blk.set (Blk.set HN.out _ _) _ _
        case measure => simp [intOf]; omega
      · have he : ((m : Int) == (r : Int)) = false := by
          have : ¬ (m : Int) = (r : Int) := by omega
          simpa using this
        have HMR : Hid _ := hmr
        clear hmr
        go_wp2_with (fail)
        go_roundw
        case rel =>
          refine ⟨m + 1, updI g m (-1), by omega, by omega, by go_num, fun x x1 x2 => ?_, ?_, Below.setCell HB.out HlN.out _⟩
          · by_cases e : x = m
            · have hmr2 : ¬ m = r := HMR.out
              simp [updI, e, base, hmr2]
            · simp only [updI, if_neg e]
              exact Hg.out x x1 (by omega)
          · rw [← fC_set]
            exact Blk.set HN.out _ _
        case measure => simp [intOf]; omega
    · have hm6' : ¬ (m : Int) ≤ 6 := by omega
      have HN : Hid _ := hN
      have HB : Hid _ := hbel
      have HG0 : Hid (∀ x, 1 ≤ x → x ≤ 6 → g x = base r x) := fun x x1 x2 => Hg.out x x1 (by omega)
      clear hN hbel
      go_wp2_with (fail)
      go_loopw [9] (fun v wr => ∃ (i : Nat) (g : Nat → Int), i ≤ ln ∧ v = .int .i64 i ∧ (∀ x, 1 ≤ x → x ≤ 6 → g x = if hitH L x i = true then farF C r x else base r x) ∧ Blk wr N (fC g) 77 ∧ Below w3.heap.size w3 wr) (fun v _ => ln - (intOf v).toNat)
      case atStart => exact ⟨0, g, by omega, rfl, fun x x1 x2 => by rw [HG0.out x x1 x2]; simp [hitH], HN.out, HB.out⟩
      case round =>
        clear HN HB HG0 Hg
        obtain ⟨i, g, hi, rfl, hg, hN, hbel⟩ := hrel
        have Hg : Hid _ := hg
        clear hg
        by_cases hil : i < ln
        · have hil' : (i : Int) < (ln : Int) := by omega
          have hgt : L[i]? = some (L[i]'(by omega)) := List.getElem?_eq_getElem (by omega)
          obtain ⟨k, hk7, hpe, hkf⟩ := HLM.out i _ hgt
          have hdst := (best_way HC.out (HD.out r) k hkf).1
          rcases HR3.out.row with e | ⟨hb', ho, e, hcs⟩
          · omega
          subst e
          obtain ⟨c0, c1, c2⟩ := hcs i _ hgt
          have HH : Hid (∀ x, hitH L x (i + 1) = (hitH L x i || decide (x = k))) := by
            intro x
            rw [hitH_succ, hgt, hpe]
            congr 1
            rw [decide_eq_decide]
            simp only [Option.map_some, Option.some.injEq, hdst]
            omega
          rw [hpe] at c0 c1
          have hdst2 : (roundsF C r 6 k).dst = (k : Int) := hdst
          rw [hdst2] at c0
          have c1' : w3.cell? ⟨hb', ho + i * 3 + 1, none⟩ = some (.int .i64 (farF C r k)) := c1
          have l := World.block_lt_of_cell? w3 _ c0
          have d0 := (hbel.cell (p := ⟨hb', ho + i * 3, none⟩) l).trans c0
          have d1 := (hbel.cell (p := ⟨hb', ho + i * 3 + 1, none⟩) l).trans c1'
          have n0 := (hN.cell k).trans (fC_get g k hk7)
          have n1 := hN.frozen k
          have lN := hN.lt
          have hk7' : (k : Int) < 7 := by omega
          have HN : Hid _ := hN
          have HB : Hid _ := hbel
          clear hgt hpe hdst hdst2 hcs c0 c1 c1' c2 hN hbel hkf l
          obtain ⟨fk, hfk⟩ : ∃ fk, farF C r k = fk := ⟨_, rfl⟩
          rw [hfk] at d1
          have HFK : Hid _ := hfk
          clear hfk
          go_wp2_with (fail)
          go_region
          all_goals
            go_wp2_with (fail)
            go_roundw
            case rel =>
              refine ⟨i + 1, updI g k fk, by omega, by go_num, fun x x1 x2 => ?_, ?_, below_drewN (Below.setCell HB.out HlN.out _) 1⟩
              · rw [HH.out x]
                by_cases e : x = k
                · subst e
                  simp [updI, HFK.out]
                · simp only [updI, if_neg e, decide_eq_false e, Bool.or_false]
                  exact Hg.out x x1 x2
              · rw [← fC_set]
                exact Blk.set HN.out _ _
            case measure => simp [intOf]; omega
        · have hil' : ¬ (i : Int) < (ln : Int) := by omega
          have hin : i = ln := by omega
          have HGF : Hid (∀ x, 1 ≤ x → x ≤ 6 → g x = dF C r x) := by
            intro x x1 x2
            rw [Hg.out x x1 x2, hin, HHF.out x (by omega)]
            unfold dF
            by_cases e : 0 < farF C r x <;> simp [e]
          have HN : Hid _ := hN
          have HB : Hid _ := hbel
          clear hN hbel Hg hin
          go_wp2_with (fail)
          go_loopw [10] (fun v wr => ∃ u : Nat, 1 ≤ u ∧ u ≤ 7 ∧ v = .int .i64 u ∧ Blk wr N (fC g) 77 ∧ Below w3.heap.size w3 wr) (fun v _ => 7 - (intOf v).toNat)
          case atStart => exact ⟨1, by omega, by omega, rfl, HN.out, HB.out⟩
          case round =>
            clear HN HB
            obtain ⟨u, hu1, hu7, rfl, hN, hbel⟩ := hrel
            have HN : Hid _ := hN
            have HB : Hid _ := hbel
            clear hN hbel
            by_cases hu6 : u ≤ 6
            · have hu6' : (u : Int) ≤ 6 := by omega
              have hu7' : (u : Int) < 7 := by omega
              go_wp2_with (fail)
              go_loopw [11] (fun v wr => ∃ t : Nat, 1 ≤ t ∧ t ≤ 7 ∧ v = .int .i64 t ∧ Blk wr N (fC g) 77 ∧ Below w3.heap.size w3 wr) (fun v _ => 7 - (intOf v).toNat)
              case atStart => exact ⟨1, by omega, by omega, rfl, HN.out, HB.out⟩
              case round =>
                clear HN HB
                obtain ⟨t, ht1, ht7, rfl, hN, hbel⟩ := hrel
                by_cases ht6 : t ≤ 6
                · have ht6' : (t : Int) ≤ 6 := by omega
                  have ht7' : (t : Int) < 7 := by omega
                  have he := HED.out u t wr (below_chain HB3.out hbel)
                  have HN : Hid _ := hN
                  have HB : Hid _ := hbel
                  clear hN hbel
                  go_wp2_with (fail)
                  refine he.mono ?_
                  rintro e w5 ⟨rfl, k5⟩
                  have hN5 := Blk.below HN.out k5
                  have HB5 : Hid _ := below_chain HB.out k5
                  have gu := (Blk.cell hN5 u).trans (fC_get g u (by omega))
                  have gt := (Blk.cell hN5 t).trans (fC_get g t (by omega))
                  rw [HGF.out u hu1 hu6] at gu
                  rw [HGF.out t ht1 ht6] at gt
                  have hedge := fun h1 h2 => dF_edge HC.out (HD.out r) u t (by omega) h1 h2
                  have hbu : -1 ≤ dF C r u ∧ dF C r u ≤ 5900 := by
                    have := HFB.out r u
                    unfold dF base
                    split
                    · omega
                    · split <;> omega
                  have hcu := HCB.out u t
                  have HN5 : Hid _ := hN5
                  clear he k5 hN5
                  generalize dF C r u = gu0 at gu hedge hbu
                  generalize dF C r t = gt0 at gt hedge
                  generalize C u t = cut at hedge hcu ⊢
                  have hwr : IntKind.i64.wrap (gu0 + cut) = gu0 + cut := IntWalk.i64_in _ ⟨by omega, by omega⟩
                  by_cases h1 : 0 < cut
                  · by_cases h2 : 0 ≤ gu0
                    · obtain ⟨h3, h4⟩ := hedge h1 h2
                      have h3' : ¬ gt0 < 0 := by omega
                      have h4' : ¬ gu0 + cut < gt0 := by omega
                      have d1 : decide (gt0 < 0) = false := decide_eq_false h3'
                      have d2 : decide (gu0 + cut < gt0) = false := decide_eq_false h4'
                      clear hedge hbu hcu h3 h4
                      go_wp2_with (fail)
                      go_quiet (fail)
                      go_wp2_with (fail)
                      go_roundw
                      case rel => exact ⟨t + 1, by omega, by omega, by go_num, Blk.drewN HN5.out _, below_drewN HB5.out _⟩
                      case measure => simp [intOf]; omega
                    · have d1 : decide (0 ≤ gu0) = false := decide_eq_false h2
                      clear hedge hbu hcu hwr
                      go_wp2_with (fail)
                      go_quiet (fail)
                      go_wp2_with (fail)
                      go_roundw
                      case rel => exact ⟨t + 1, by omega, by omega, by go_num, Blk.drewN HN5.out _, below_drewN HB5.out _⟩
                      case measure => simp [intOf]; omega
                  · have d1 : decide (0 < cut) = false := decide_eq_false h1
                    clear hedge hbu hcu hwr
                    go_wp2_with (fail)
                    go_quiet (fail)
                    go_wp2_with (fail)
                    go_roundw
                    case rel => exact ⟨t + 1, by omega, by omega, by go_num, Blk.drewN HN5.out _, below_drewN HB5.out _⟩
                    case measure => simp [intOf]; omega
                · have ht6' : ¬ (t : Int) ≤ 6 := by omega
                  have HN : Hid _ := hN
                  have HB : Hid _ := hbel
                  clear hN hbel
                  go_wp2_with (fail)
                  go_roundw
                  case rel => exact ⟨u + 1, by omega, by omega, by go_num, HN.out, HB.out⟩
                  case measure => simp [intOf]; omega
            · have hu6' : ¬ (u : Int) ≤ 6 := by omega
              clear HN HGF
              go_wp2_with (fail)
              go_loopw [13] (fun v wr => ∃ i : Nat, i ≤ ln ∧ v = .int .i64 i ∧ Below w3.heap.size w3 wr) (fun v _ => ln - (intOf v).toNat)
              case atStart => exact ⟨0, by omega, rfl, HB.out⟩
              case round =>
                clear HB
                obtain ⟨i, hi, rfl, hbel⟩ := hrel
                by_cases hil : i < ln
                · have hil' : (i : Int) < (ln : Int) := by omega
                  have hgt : L[i]? = some (L[i]'(by omega)) := List.getElem?_eq_getElem (by omega)
                  obtain ⟨k, hk7, hpe, hkf⟩ := HLM.out i _ hgt
                  have hdst := (best_way HC.out (HD.out r) k hkf).1
                  obtain ⟨f, hf1, hf2, hf3, hf4, hf5, hf6⟩ := far_next HC.out HD.out r k hkf
                  have hfi := HI.out r f hf2
                  rcases HR3.out.row with e | ⟨hb', ho, e, hcs⟩
                  · omega
                  subst e
                  have HCE : Hid (∀ W, Below w3.heap.size w3 W → W.cell? ⟨hb', ho + i * 3, none⟩ = some (.int .i64 (k : Int)) ∧ W.cell? ⟨hb', ho + i * 3 + 1, none⟩ = some (.int .i64 (farF C r k)) ∧ W.cell? ⟨hb', ho + i * 3 + 2, none⟩ = some (.int .i64 (f : Int))) := by
                    intro W hW
                    obtain ⟨c0, c1, c2⟩ := hcs i _ hgt
                    rw [hpe] at c0 c1 c2
                    have hdst2 : (roundsF C r 6 k).dst = (k : Int) := hdst
                    rw [hdst2] at c0
                    rw [hf1] at c2
                    have l := World.block_lt_of_cell? w3 _ c0
                    exact ⟨(hW.cell (p := ⟨hb', ho + i * 3, none⟩) l).trans c0, (hW.cell (p := ⟨hb', ho + i * 3 + 1, none⟩) l).trans c1, (hW.cell (p := ⟨hb', ho + i * 3 + 2, none⟩) l).trans c2⟩
                  clear hgt hpe hdst hcs hf1
                  have he := HED.out r f wr (below_chain HB3.out hbel)
                  obtain ⟨c0, c1, c2⟩ := HCE.out wr hbel
                  have hcb := HFB.out r k
                  have HB : Hid _ := hbel
                  clear hbel
                  go_wp2_with (fail)
                  refine he.mono ?_
                  rintro e w5 ⟨rfl, k5⟩
                  have hb5 := below_chain HB.out k5
                  obtain ⟨d0, d1, d2⟩ := HCE.out w5 hb5
                  have HB5 : Hid _ := hb5
                  clear he k5 hb5 c0 c1 c2
                  obtain ⟨cf0, cf20⟩ := HCB.out r f
                  have hq0 := far_nn HC.out (HD.out f) k
                  have hq9 := HFB.out f k
                  obtain ⟨cf, hcf⟩ : ∃ cf, C r f = cf := ⟨_, rfl⟩
                  rw [hcf] at hf2 hf6 cf0 cf20
                  rw [hcf]
                  clear hcf
                  have hz0 : (cf == 0) = false := by
                    have : ¬ cf = 0 := by omega
                    simpa using this
                  by_cases hfk : f = k
                  · have hne : ((f : Int) != (k : Int)) = false := by simp [hfk]
                    rw [if_pos hfk] at hf6
                    have hf6' : farF C r k = cf := by omega
                    rw [hf6'] at d1
                    have hne2 : (cf != cf) = false := by simp
                    clear hf5 hf6 hf6' hfk hkf hcb
                    go_wp2_with (fail)
                    go_quiet (fail)
                    go_wp2_with (fail)
                    go_roundw
                    case rel => exact ⟨i + 1, by omega, by go_num, below_drewN HB5.out _⟩
                    case measure => simp [intOf]; omega
                  · have hne : ((f : Int) != (k : Int)) = true := by
                      have : ¬ (f : Int) = (k : Int) := by omega
                      simpa using this
                    have hkn := hf5 hfk
                    rw [if_neg hfk] at hf6
                    have hto := to_hops HC.out (HD.out f) k hk7
                    rw [if_pos hkn] at hto
                    have hhg := fun W hW => HHO.out f W hfi.2.1 hfi.2.2 hW
                    have hLa : (hopsL C f).length ≤ 7 := lstF_length _ 7
                    obtain ⟨La, hLae⟩ : ∃ La, hopsL C f = La := ⟨_, rfl⟩
                    rw [hLae] at hhg hto hLa
                    have HHG : Hid _ := hhg
                    have HTO : Hid (∀ b c W, HsR W b La.length La → Calls Try.prog 40 #[.slice b La.length c, .int .i64 (k : Int)] W fun e w' => e = .returned (.tuple #[.agg #[.int .i64 (roundsF C f 6 k).dst, .int .i64 (farF C f k), .int .i64 (roundsF C f 6 k).nxt], .bool true]) ∧ Below W.heap.size W w') := by
                      intro b c W hW
                      have := to_any b La.length c La (k : Int) W hW (by omega)
                      rw [hto] at this
                      exact this
                    clear hLae hhg hto hf5 hkf hkn
                    generalize (roundsF C f 6 k).dst = q0 at HTO
                    generalize (roundsF C f 6 k).nxt = q2 at HTO
                    have HSUM : Hid (farF C r k = cf + farF C f k ∧ farF C r k ≤ 5900 ∧ 0 < cf) := ⟨hf6, hcb, hf2⟩
                    generalize farF C r k = frk at HCE d1 HSUM
                    generalize farF C f k = q1 at HTO HSUM hq0 hq9
                    clear hf6 hcb hfk
                    go_upto_region 32 with fail
                    go_quiet (fail)
                    go_upto_region 33 with fail
                    obtain ⟨V, hV⟩ : ∃ V, w5.drewN nq = V := ⟨_, rfl⟩
                    have HB6 : Hid (Below w3.heap.size w3 V) := by show Below _ _ _; rw [← hV]; exact below_drewN HB5.out _
                    rw [hV]
                    clear hV d0 d1 d2
                    have KW : Below w.heap.size w V := below_chain HB3.out HB6.out
                    have KD : Below w.heap.size w V.drew := below_drewN KW 1
                    have KA : Below w.heap.size w (V.alloc (.cells #[.int .i64 0, .int .i64 0, .int .i64 0] 73)).drew := below_drewN (KW.alloc KW.size _) 1
                    have HKD : Hid (Below w3.heap.size w3 V.drew) := below_drewN HB6.out 1
                    have HKA : Hid (Below w3.heap.size w3 (V.alloc (.cells #[.int .i64 0, .int .i64 0, .int .i64 0] 73)).drew) := below_drewN (Below.alloc HB6.out HB6.out.size _) 1
                    have HC2 : Hid (∀ W, Below w3.heap.size w3 W → W.cell? ⟨hb', ho + i * 3, none⟩ = some (.int .i64 (k : Int)) ∧ W.cell? ⟨hb', ho + i * 3 + 2, none⟩ = some (.int .i64 (f : Int))) := fun W hW => ⟨(HCE.out W hW).1, (HCE.out W hW).2.2⟩
                    have F0 := HC2.out _ HKD.out
                    have FA := HC2.out _ HKA.out
                    go_cut [16, 17] (fun p z wx => (∃ Y, p = .pointer (some ⟨Y, 0, none⟩) ∧ wx.cell? ⟨Y, 1, none⟩ = some (.int .i64 q1)) ∧ z = .bool true ∧ Below w3.heap.size w3 wx)
                    case first =>
                      go_region_held3 (fun x => x.cell? ⟨hb', ho + i * 3, none⟩ = some (.int .i64 (k : Int)) ∧ x.cell? ⟨hb', ho + i * 3 + 2, none⟩ = some (.int .i64 (f : Int)))
                        (first | assumption | exact F0 | exact FA | exact F1 | exact F1a | exact F2 | exact F2a | exact F2b | exact F2s | exact F2t)
                        (first
                          | (go_at_call 37; refine (HHG.out _ KD).mono ?_; rintro e w6 ⟨b5, c5, rfl, r5, k5⟩; have B5 : Below w3.heap.size w3 w6 := below_chain HKD.out k5; have F1 := HC2.out w6 B5; have F1a := HC2.out _ (B5.alloc B5.size (.cells #[.int .i64 0, .int .i64 0, .int .i64 0] 73)))
                          | (go_at_call 37; refine (HHG.out _ KA).mono ?_; rintro e w6 ⟨b5, c5, rfl, r5, k5⟩; have B5 : Below w3.heap.size w3 w6 := below_chain HKA.out k5; have F1 := HC2.out w6 B5; have hy : Blk w6 V.heap.size #[.int .i64 0, .int .i64 0, .int .i64 0] 73 := Blk.below (Blk.drewN (Blk.new V _ _) 1) k5)
                          | (go_at_call 40; refine (HTO.out _ _ _ r5).mono ?_; rintro e w7 ⟨rfl, k6⟩; have B6 := below_chain B5 k6; have F2 := HC2.out w7 B6; have F2a := HC2.out _ (B6.alloc B6.size (.cells #[.int .i64 0, .int .i64 0, .int .i64 0] 73)); have F2b := HC2.out _ (B6.alloc B6.size (.cells #[.int .i64 q0, .int .i64 q1, .int .i64 q2] 73)); have F2t := HC2.out _ (((B6.setCell (p := ⟨V.heap.size, 0, none⟩) HB6.out.size (.int .i64 q0)).setCell (p := ⟨V.heap.size, 1, none⟩) HB6.out.size (.int .i64 q1)).setCell (p := ⟨V.heap.size, 2, none⟩) HB6.out.size (.int .i64 q2)); try (have hy6 := Blk.below hy k6; have y0 := hy6.cell 0; have y1 := hy6.cell 1; have y2 := hy6.cell 2; have f0 := hy6.frozen 0; have f1 := hy6.frozen 1; have f2 := hy6.frozen 2; have ly := hy6.lt))
                          | (go_at_call 40; refine (HTO.out _ _ _ (r5.below (below_alloc _ _))).mono ?_; rintro e w7 ⟨rfl, k6⟩; have B6 := below_chain (B5.alloc B5.size (.cells #[.int .i64 0, .int .i64 0, .int .i64 0] 73)) k6; have F2 := HC2.out w7 B6; have F2s := HC2.out _ (((B6.setCell (p := ⟨w6.heap.size, 0, none⟩) B5.size (.int .i64 q0)).setCell (p := ⟨w6.heap.size, 1, none⟩) B5.size (.int .i64 q1)).setCell (p := ⟨w6.heap.size, 2, none⟩) B5.size (.int .i64 q2)); have hy6 : Blk w7 w6.heap.size #[.int .i64 0, .int .i64 0, .int .i64 0] 73 := Blk.below (Blk.new w6 _ _) k6; have y0 := hy6.cell 0; have y1 := hy6.cell 1; have y2 := hy6.cell 2; have f0 := hy6.frozen 0; have f1 := hy6.frozen 1; have f2 := hy6.frozen 2; have ly := hy6.lt))
                      all_goals
                        go_wp2_with (fail)
                        go_meet
                        first
                          | exact ⟨⟨_, rfl, Blk.cell (Blk.new w7 #[.int .i64 q0, .int .i64 q1, .int .i64 q2] 73) 1⟩, rfl, B6.alloc B6.size _⟩
                          | exact ⟨⟨_, rfl, (Blk.cell (Blk.set (Blk.set (Blk.set hy6 0 (.int .i64 q0)) 1 (.int .i64 q1)) 2 (.int .i64 q2)) 1).trans rfl⟩, rfl, Below.setCell (Below.setCell (Below.setCell B6 (by show w3.heap.size ≤ w6.heap.size; exact B5.size) _) (by show w3.heap.size ≤ w6.heap.size; exact B5.size) _) (by show w3.heap.size ≤ w6.heap.size; exact B5.size) _⟩
                          | exact ⟨⟨_, rfl, (Blk.cell (Blk.set (Blk.set (Blk.set hy6 0 (.int .i64 q0)) 1 (.int .i64 q1)) 2 (.int .i64 q2)) 1).trans rfl⟩, rfl, Below.setCell (Below.setCell (Below.setCell B6 (by show w3.heap.size ≤ V.heap.size; exact HB6.out.size) _) (by show w3.heap.size ≤ V.heap.size; exact HB6.out.size) _) (by show w3.heap.size ≤ V.heap.size; exact HB6.out.size) _⟩
                    case rest =>
                      obtain ⟨⟨Y, rfl, yc⟩, rfl, hB7⟩ := hcut
                      obtain ⟨W7, rfl⟩ : ∃ W7, W7 = wc := ⟨_, rfl⟩
                      have d1 := (HCE.out W7 hB7).2.1
                      obtain ⟨s1, s2, s3⟩ := HSUM.out
                      subst s1
                      have hne2 : (cf + q1 != cf + q1) = false := by simp
                      have HB7 : Hid _ := hB7
                      clear hB7 KW KD KA F0 FA HTO HHG HKD HKA HC2 HCE HSUM hne
                      go_wp2_with (fail)
                      go_roundw
                      case rel => exact ⟨i + 1, by omega, by go_num, HB7.out⟩
                      case measure => simp [intOf]; omega
                · have hil' : ¬ (i : Int) < (ln : Int) := by omega
                  go_wp2_with (fail)
                  go_ret
                  exact ⟨rfl, below_chain HB3.out hbel⟩
end topFar
end Go.Proofs.Ytielnomhdahciaa
