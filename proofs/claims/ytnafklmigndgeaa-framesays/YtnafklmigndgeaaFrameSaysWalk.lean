/-
  'FrameSays' returns true at every text and every list of pieces, and changes nothing that was there.
-/
import Derived.Test.YtnafklmigndgeaaSaysBase
namespace Go.Proofs.Ytnafklmigndgeaa
open Go.RowKit Plain
theorem carried_err (r : List UInt8) (h : (carriedR r).2 ≠ 0) : (carriedR r).1 = [] := by
  unfold carriedR at h ⊢
  split
  · rfl
  · rename_i b hb
    rw [hb] at h
    simp only at h ⊢
    unfold endR at h ⊢
    split
    · rfl
    · split
      · rename_i h1 h2
        rw [if_neg h1, if_pos h2] at h
        exact absurd rfl h
      · rfl
/-- Reading, its answers' shapes written out. -/
theorem reading_slices (s : ByteArray) (w : World) (hs : s.size ≤ 100000) :
    Calls Try.prog 16 #[.string s] w fun e w' => ∃ (p1 : Option Addr) (p2 : Nat) (p3 : Option Addr) (p4 : Nat) (t : ByteArray), e = .returned (.tuple #[.slice p1 (readR [] s.data.toList).1.length p2, .slice p3 (readR [] s.data.toList).2.1.length p4, .string t]) ∧
      Row w' 1 (.slice p1 (readR [] s.data.toList).1.length p2) (readR [] s.data.toList).1.length (strs (readR [] s.data.toList).1) ∧
      Row w' 1 (.slice p3 (readR [] s.data.toList).2.1.length p4) (readR [] s.data.toList).2.1.length (numsV (readR [] s.data.toList).2.1) ∧
      (∀ k, Value.ownBlock (.slice p1 (readR [] s.data.toList).1.length p2) = some k → w.heap.size ≤ k) ∧ (∀ k, Value.ownBlock (.slice p3 (readR [] s.data.toList).2.1.length p4) = some k → w.heap.size ≤ k) ∧ Below w.heap.size w w' := by
  refine (reading_any s w hs).mono ?_
  rintro e w' ⟨vo, vb, rfl, h1, h2, n1, n2, h3⟩
  obtain ⟨_, a1, c1, e1, _⟩ := h1.reads
  obtain ⟨_, a2, c2, e2, _⟩ := h2.reads
  subst e1 e2
  exact ⟨a1, c1, a2, c2, _, rfl, h1, h2, n1, n2, h3⟩
/-- A row of at least one element: its address, its cells, also behind a call that writes another block. -/
theorem row_some {x x' : World} {o : Option Addr} {m cp b lo : Nat} {xs : List Value} (h : Row x 1 (.slice o (m + 1) cp) (m + 1) xs) (hn : ∀ k, Value.ownBlock (.slice o (m + 1) cp) = some k → lo ≤ k) (hb : b < lo) (hg : x.grownBy x' (some b)) :
    ∃ g, o = some ⟨g, 0, none⟩ ∧ ∀ j u, xs[j]? = some u → x'.cell? ⟨g, j, none⟩ = some u := by
  rcases h.2 with ⟨_, hz⟩ | ⟨g, cap, he, _⟩
  · omega
  · have e1 : o = some ⟨g, 0, none⟩ := by simp at he; exact he.1
    subst e1
    have hlo := hn g rfl
    have h2 := h.kept hg (fun k hk e => by
      have : g = k := by simpa [Value.ownBlock] using hk
      simp at e
      omega)
    exact ⟨g, rfl, fun j u hu => h2.cell j u hu⟩
/-- What a byte does, by its three kinds. -/
theorem step_cases (A : BState) (c : UInt8) :
    (∃ t, stepB A c = (A.1 ++ [t], A.2.1, []) ∧ takeA (stateOf A.2.2).1 (stateOf A.2.2).2.1 (stateOf A.2.2).2.2 c = (t, true, 0)) ∨
    (∃ f, f ≠ 0 ∧ stepB A c = (A.1, A.2.1 ++ [f], []) ∧ takeA (stateOf A.2.2).1 (stateOf A.2.2).2.1 (stateOf A.2.2).2.2 c = ([], true, f)) ∨
    (∃ r', stepB A c = (A.1, A.2.1, r') ∧ takeA (stateOf A.2.2).1 (stateOf A.2.2).2.1 (stateOf A.2.2).2.2 c = ([], false, 0)) := by
  by_cases hc : c = 126
  · by_cases hr : A.2.2 = []
    · right; right
      refine ⟨[], ?_, ?_⟩
      · obtain ⟨x, y, z⟩ := A
        simp only at hr
        subst hr
        simp [stepB, hc]
      · rw [hr]; simp [takeA, hc, stateOf, toldR]
    · have ht := told_state A.2.2 hr
      by_cases hf : (carriedR A.2.2).2 = 0
      · left
        refine ⟨(carriedR A.2.2).1, ?_, ?_⟩
        · simp [stepB, hc, hr, hf]
        · simp only [takeA, hc, if_true, ht, hf]
      · right; left
        refine ⟨(carriedR A.2.2).2, hf, ?_, ?_⟩
        · simp [stepB, hc, hr, hf]
        · have hcr : (carriedR A.2.2).1 = [] := carried_err _ hf
          simp only [takeA, hc, if_true, ht, hcr]
  · right; right
    exact ⟨A.2.2 ++ [c], by simp [stepB, hc], by simp [takeA, hc]⟩
theorem state_take (A : BState) (c : UInt8) : stateOf (stepB A c).2.2 = takeR (stateOf A.2.2).1 (stateOf A.2.2).2.1 (stateOf A.2.2).2.2 c := by
  by_cases hc : c = 126
  · have e0 : takeR (stateOf A.2.2).1 (stateOf A.2.2).2.1 (stateOf A.2.2).2.2 c = ([], false, false) := by simp [takeR, hc]
    rw [e0]
    unfold stepB
    rw [if_pos hc]
    split
    · rename_i h; rw [h]; rfl
    · split <;> rfl
  · have e0 : takeR (stateOf A.2.2).1 (stateOf A.2.2).2.1 (stateOf A.2.2).2.2 c = addR (stateOf A.2.2) c := by simp [takeR, hc]
    have e1 : stepB A c = (A.1, A.2.1, A.2.2 ++ [c]) := by simp [stepB, hc]
    rw [e0, e1, ← stateOf_snoc]

namespace frameSays
open topStream

set_option maxRecDepth 100000 in
set_option maxHeartbeats 4000000 in
theorem walk_great (s : ByteArray) (a : Option Addr) (n cap : Nat) (w : World) (hs : s.size ≤ maxLen) (hn : n ≤ maxLen) (h : 500 < s.size ∨ 30 < n) :
    Calls Try.prog 3 #[.string s, .slice a n cap] w fun e w' => e = .returned (.bool true) ∧ Below w.heap.size w w' := by
  unfold maxLen at hs hn
  by_cases h1 : (500 : Int) < (s.size : Int)
  · go_enter Try.func3, Try.ntmps3
    go_wp2_with (fail)
    refine (frames_true _).mono ?_
    rintro e w1 ⟨rfl, hb⟩
    go_wp2_with (fail)
    go_ret
    exact ⟨rfl, hb⟩
  · have h2 : (30 : Int) < (n : Int) := by omega
    go_enter Try.func3, Try.ntmps3
    go_wp2_with (fail)
    refine (frames_true _).mono ?_
    rintro e w1 ⟨rfl, hb⟩
    go_wp2_with (fail)
    go_ret
    exact ⟨rfl, hb⟩

set_option maxRecDepth 100000 in
set_option maxHeartbeats 8000000 in
theorem walk_in (s : ByteArray) (a : Option Addr) (n cap : Nat) (ss : List ByteArray) (w : World) (hs : s.size ≤ 500) (hn : n ≤ 30) (hv : Reads w (.slice a n cap) n (ss.map Value.string)) (hss : ∀ s ∈ ss, s.size ≤ maxLen) :
    Calls Try.prog 3 #[.string s, .slice a n cap] w fun e w' => e = .returned (.bool true) ∧ Below w.heap.size w w' := by
  have h1 : ¬ (500 : Int) < (s.size : Int) := by omega
  have h2 : ¬ (30 : Int) < (n : Int) := by omega
  have hz := zero35.1
  have hlen : ss.length = n := by have := hv.1; simpa using this
  have hm : s.size ≤ maxLen := by unfold maxLen; omega
  obtain ⟨F, er, hmk, hrf⟩ := make_both s hs
  go_enter Try.func3, Try.ntmps3
  go_wp2_with (fail)
  refine (frames_true _).mono ?_
  rintro e w1 ⟨rfl, hb1⟩
  go_wp2_with (fail)
  refine (hmk _).mono ?_
  rintro e w2 ⟨rfl, hb2⟩
  go_wp2_with (fail)
  refine (hrf _).mono ?_
  rintro e w3 ⟨rfl, hb3⟩
  have hw3 := below_chain (below_chain hb1 hb2) hb3
  clear hb1 hb2 hb3 hmk hrf
  go_wp2_with (fail)
  refine (same_ok er _).mono ?_
  rintro e w4 ⟨rfl, rfl⟩
  go_wp2_with (fail)
  refine (sum_any s _ hm).mono ?_
  rintro e w4 ⟨rfl, rfl⟩
  go_wp2_with (fail)
  refine (rsum_any s _ hm).mono ?_
  rintro e w4 ⟨rfl, rfl⟩
  go_wp2_with (fail)
  have hR0 := rd_new w3
  have hw4 : Below w.heap.size w (w3.alloc (.cells Z35 35)) := hw3.alloc hw3.size _
  have hbw : w.heap.size ≤ w3.heap.size := hw3.size
  go_loopw [11, 12] (fun t i wr => ∃ (k : Nat) (r : List UInt8), k ≤ n ∧ i = .int .i64 k ∧ t = .string ⟨r.toArray⟩ ∧ NoFlag r ∧ r.length ≤ 200 * k ∧ Rd wr w3.heap.size (stateOf r).1 (stateOf r).2.1 (stateOf r).2.2 ∧ Below w.heap.size w wr) (fun _ i _ => n - (intOf i).toNat)
  case atStart => exact ⟨0, [], Nat.zero_le _, rfl, rfl, fun c hc => by simp at hc, by simp, hR0, hw4⟩
  case round =>
    obtain ⟨k, r, hk, rfl, rfl, hnf, hrl, hR, hbr⟩ := hrel
    clear hR0 hw4 hw3
    by_cases hlt : k < n
    · obtain ⟨_, a', cap', he, hcell⟩ := hv
      simp only [Value.slice.injEq] at he
      obtain ⟨rfl, _, rfl⟩ := he
      rcases hcell with hcell | ⟨b, off, rfl, hcell⟩
      · omega
      have hlt2 : k < ss.length := by omega
      have c0 := hcell k (.string ss[k]) (by simp [hlt2])
      have hbb : b < w.heap.size := World.block_lt_of_cell? w _ c0
      have hsz := hss ss[k] (List.getElem_mem _)
      obtain ⟨S, hS⟩ : ∃ S, S = ss[k] := ⟨_, rfl⟩
      rw [← hS] at c0 hsz
      have c1 : wr.cell? ⟨b, off + k, none⟩ = some (.string S) := (hbr.cell (p := ⟨b, off + k, none⟩) hbb).trans c0
      have hlt' : (k : Int) < (n : Int) := by omega
      clear hS hcell
      by_cases h200 : (200 : Int) < (S.size : Int)
      · unfold maxLen at hsz
        go_wp2_with (fail)
        go_ret
        exact ⟨rfl, hbr⟩
      · obtain ⟨A, hA⟩ : ∃ A, readR r S.data.toList = A := ⟨_, rfl⟩
        have hSl : S.data.toList.length = S.size := by simp
        have hal := read_len r S.data.toList
        have hnf2 := noFlag_read r S.data.toList hnf
        have hlen2 := readR_le r S.data.toList
        have call1 := fun W h => all_piece w3.heap.size r S W h (by omega)
        rw [hA] at hal hnf2 hlen2 call1
        obtain ⟨T, hT⟩ : ∃ T : ByteArray, T = ⟨r.toArray⟩ ++ S := ⟨_, rfl⟩
        have hTL : T.data.toList = r ++ S.data.toList := by rw [hT]; simp
        have hTs : T.size ≤ 100000 := by
          have : T.size = T.data.toList.length := by simp
          rw [this, hTL, List.length_append]; omega
        have call2 := fun W => reading_any T W hTs
        rw [hTL, read_rest r _ hnf, hA] at call2
        have hadd : ∀ W : World, (Op.stringOp .add ⟨r.toArray⟩ S).run Try.prog W = .ok (.string T) W := by
          intro W
          rw [hT]
          refine run_string_add_sum W _ _ ?_
          show r.toArray.size + S.size ≤ _
          simp; omega
        have HB : Hid (A.2.2.length ≤ 200 * (k + 1)) := by show A.2.2.length ≤ 200 * (k + 1); omega
        have HN : Hid (NoFlag A.2.2) := hnf2
        have hA1 : A.1.length ≤ 1000000 := by omega
        have hA2 : A.2.1.length ≤ 1000000 := by omega
        clear hA hT hTL hTs hal hnf2 hlen2 hsz hSl hrl
        go_wp2_with (fail)
        refine (call1 _ hR).mono ?_
        rintro e w5 ⟨v5, rfl, hrow5, hnew5, hR5, hg5⟩
        have hw5 : Below w.heap.size w w5 := below_grown hbr hg5 hbw
        have c5 : w5.cell? ⟨b, off + k, none⟩ = some (.string S) := (hw5.cell (p := ⟨b, off + k, none⟩) hbb).trans c0
        clear call1 hR hg5 hbr c1
        go_wp2_with (fail)
        refine (call2 _).mono ?_
        rintro e w6 ⟨vo, vb, rfl, hro, hrb, _, _, hb6⟩
        have hw6 : Below w.heap.size w w6 := below_chain hw5 hb6
        have hrow6 := hrow5.below hb6
        have hR6 := hR5.below hb6
        obtain ⟨_, a6, cap6, hvb, _⟩ := hrb.reads
        subst hvb
        clear call2 hrow5 hR5 hb6 hw5 c5 hnew5
        go_wp2_with (fail)
        refine (sameTexts_true v5 vo A.1.length A.1 _ hrow6.reads hro.reads hA1).mono ?_
        rintro e w7 ⟨rfl, n7, rfl⟩
        have hR7 : Rd (w6.drewN n7) w3.heap.size (stateOf A.2.2).1 (stateOf A.2.2).2.1 (stateOf A.2.2).2.2 := hR6
        have hw7 := below_drewN hw6 n7
        clear hrow6 hro hrb hR6 hw6
        go_wp2_with (fail)
        go_roundw
        case rel => exact ⟨k + 1, A.2.2, by omega, by go_num, rfl, HN.out, HB.out, hR7, hw7⟩
        case measure => simp [intOf]; omega
    · clear hR hv hss
      obtain ⟨W0, rfl⟩ : ∃ W0, W0 = wr := ⟨_, rfl⟩
      go_wp2_with (fail)
      have hR0' := rd_new W0
      have hbr' : Below w.heap.size w (W0.alloc (.cells Z35 35)) := hbr.alloc hbr.size _
      go_loopw [19] (fun i wq => ∃ k : Nat, k ≤ s.size ∧ i = .int .i64 k ∧ Rd wq W0.heap.size (stateOf (readR [] (s.data.toList.take k)).2.2).1 (stateOf (readR [] (s.data.toList.take k)).2.2).2.1 (stateOf (readR [] (s.data.toList.take k)).2.2).2.2 ∧ Below w.heap.size w wq) (fun i _ => s.size - (intOf i).toNat)
      case atStart => exact ⟨0, Nat.zero_le _, rfl, hR0', hbr'⟩
      case round =>
        obtain ⟨q, hq, rfl, hRq, hbq⟩ := hrel
        clear hR0' hbr'
        by_cases hlq : q < s.size
        · have e1 : (s.extract 0 q).data.toList = s.data.toList.take q := by rw [extract_mid]; simp
          have e2 : (s.extract 0 (q + 1)).data.toList = s.data.toList.take (q + 1) := by rw [extract_mid]; simp
          have s1 : (s.extract 0 q).size ≤ 100000 := by rw [ByteArray.size_extract]; omega
          have s2 : (s.extract 0 (q + 1)).size ≤ 100000 := by rw [ByteArray.size_extract]; omega
          have q1 := fun W => reading_slices (s.extract 0 q) W s1
          have q2 := fun W => reading_slices (s.extract 0 (q + 1)) W s2
          have qt := fun W h => take_any W0.heap.size (stateOf (readR [] (s.data.toList.take q)).2.2).1 (stateOf (readR [] (s.data.toList.take q)).2.2).2.1 (stateOf (readR [] (s.data.toList.take q)).2.2).2.2 s[q] W h
          have HT : readR [] (s.data.toList.take (q + 1)) = stepB (readR [] (s.data.toList.take q)) s[q] := by rw [take_snoc s q hlq, readR_snoc]
          have hle := readR_le [] (s.data.toList.take q)
          have hle2 : (s.data.toList.take q).length ≤ q := List.length_take_le _ _
          rw [e1] at q1
          rw [e2, HT] at q2
          obtain ⟨A, hA⟩ : ∃ A, readR [] (s.data.toList.take q) = A := ⟨_, rfl⟩
          have hst : stateOf (stepB A s[q]).2.2 = takeR (stateOf A.2.2).1 (stateOf A.2.2).2.1 (stateOf A.2.2).2.2 s[q] := state_take A s[q]
          rw [hA] at q1 q2 qt hRq hle HT
          have HQ : Hid (readR [] (s.data.toList.take (q + 1)) = stepB A s[q]) := HT
          rw [← hst] at qt
          clear hst e1 e2 HT hA s1 s2
          have hN : A.1.length ≤ 500 := by omega
          have hM : A.2.1.length ≤ 500 := by omega
          clear hle hle2
          rcases step_cases A s[q] with ⟨t, c1, c2⟩ | ⟨f, c0, c1, c2⟩ | ⟨r', c1, c2⟩
          · rw [c1] at q2
            rw [c2] at qt
            have e0 : errV 0 = .nilIface := rfl
            simp only [List.length_append, List.length_cons, List.length_nil, e0] at q2 qt
            clear c1 c2 e0
            go_wp2_with (fail)
            refine (q1 _).mono ?_
            rintro e x1 ⟨p1, p2, p3, p4, t1, rfl, _, _, _, _, hy1⟩
            have hx1 := below_chain hbq hy1
            have hR1 := hRq.below hy1
            go_wp2_with (fail)
            refine (q2 _).mono ?_
            rintro e x2 ⟨o1, o2, o3, o4, t2, rfl, ho1, ho2, nw1, nw2, hy2⟩
            have hlt1 := hR1.lt
            have hx2 := below_chain hx1 hy2
            have hR2 := hR1.below hy2
            go_wp2_with (fail)
            refine (q1 _).mono ?_
            rintro e x3 ⟨r1, r2, r3, r4, t3, rfl, _, _, _, _, hy3⟩
            have hx3 := below_chain hx2 hy3
            have hR3 := hR2.below hy3
            have ho1' := ho1.below hy3
            have ho2' := ho2.below hy3
            clear hx1 hx2 hR1 hR2 hy1 hy2 hy3 ho1 ho2 hRq hbq
            have hlt3 := hR3.lt
            go_wp2_with (fail)
            refine (qt _ hR3).mono ?_
            rintro e x4 ⟨rfl, hR4, hg4⟩
            have hx4 := below_grown hx3 hg4 hbr.size
            obtain ⟨g, hg, hcell⟩ := row_some ho1' nw1 hlt1 hg4
            subst hg
            have hc4 := hcell A.1.length (.string ⟨t.toArray⟩) (by simp [strs])
            clear hcell ho1' ho2' nw1 nw2 hx3 hR3 hg4 q1 q2 qt
            go_wp2_with (fail)
            go_roundw
            case rel => exact ⟨q + 1, by omega, by go_num, by rw [HQ.out]; exact hR4, hx4⟩
            case measure => simp [intOf]; omega
          · rw [c1] at q2
            rw [c2] at qt
            have e0 : errV f = .iface 64 (.int .i64 (f : Int)) := by simp [errV, c0]
            have e9 := same_ok f
            simp only [List.length_append, List.length_cons, List.length_nil, e0] at q2 qt e9
            clear c1 c2 e0
            go_wp2_with (fail)
            refine (q1 _).mono ?_
            rintro e x1 ⟨p1, p2, p3, p4, t1, rfl, _, _, _, _, hy1⟩
            have hx1 := below_chain hbq hy1
            have hR1 := hRq.below hy1
            go_wp2_with (fail)
            refine (q2 _).mono ?_
            rintro e x2 ⟨o1, o2, o3, o4, t2, rfl, ho1, ho2, nw1, nw2, hy2⟩
            have hlt1 := hR1.lt
            have hx2 := below_chain hx1 hy2
            have hR2 := hR1.below hy2
            go_wp2_with (fail)
            refine (q1 _).mono ?_
            rintro e x3 ⟨r1, r2, r3, r4, t3, rfl, _, _, _, _, hy3⟩
            have hx3 := below_chain hx2 hy3
            have hR3 := hR2.below hy3
            have ho1' := ho1.below hy3
            have ho2' := ho2.below hy3
            clear hx1 hx2 hR1 hR2 hy1 hy2 hy3 ho1 ho2 hRq hbq
            have hlt3 := hR3.lt
            go_wp2_with (fail)
            refine (qt _ hR3).mono ?_
            rintro e x4 ⟨rfl, hR4, hg4⟩
            have hx4 := below_grown hx3 hg4 hbr.size
            obtain ⟨g, hg, hcell⟩ := row_some ho2' nw2 hlt1 hg4
            subst hg
            have hc4 := hcell A.2.1.length (.int .i64 (f : Int)) (by simp [numsV])
            clear hcell ho1' ho2' nw1 nw2 hx3 hR3 hg4 q1 q2 qt
            go_wp2_with (fail)
            refine (e9 _).mono ?_
            rintro e x5 ⟨rfl, rfl⟩
            go_wp2_with (fail)
            go_roundw
            case rel => exact ⟨q + 1, by omega, by go_num, by rw [HQ.out]; exact hR4, hx4⟩
            case measure => simp [intOf]; omega
          · rw [c1] at q2
            rw [c2] at qt
            have e0 : errV 0 = .nilIface := rfl
            simp only [e0] at q2 qt
            clear c1 c2 e0
            go_wp2_with (fail)
            refine (q1 _).mono ?_
            rintro e x1 ⟨p1, p2, p3, p4, t1, rfl, _, _, _, _, hy1⟩
            have hx1 := below_chain hbq hy1
            have hR1 := hRq.below hy1
            go_wp2_with (fail)
            refine (q2 _).mono ?_
            rintro e x2 ⟨o1, o2, o3, o4, t2, rfl, ho1, ho2, nw1, nw2, hy2⟩
            have hlt1 := hR1.lt
            have hx2 := below_chain hx1 hy2
            have hR2 := hR1.below hy2
            go_wp2_with (fail)
            refine (q1 _).mono ?_
            rintro e x3 ⟨r1, r2, r3, r4, t3, rfl, _, _, _, _, hy3⟩
            have hx3 := below_chain hx2 hy3
            have hR3 := hR2.below hy3
            have ho1' := ho1.below hy3
            have ho2' := ho2.below hy3
            clear hx1 hx2 hR1 hR2 hy1 hy2 hy3 ho1 ho2 hRq hbq
            have hlt3 := hR3.lt
            go_wp2_with (fail)
            refine (qt _ hR3).mono ?_
            rintro e x4 ⟨rfl, hR4, hg4⟩
            have hx4 := below_grown hx3 hg4 hbr.size
            go_wp2_with (fail)
            go_roundw
            case rel => exact ⟨q + 1, by omega, by go_num, by rw [HQ.out]; exact hR4, hx4⟩
            case measure => simp [intOf]; omega
        · go_wp2_with (fail)
          go_ret
          exact ⟨rfl, hbq⟩

theorem walk (s : ByteArray) (a : Option Addr) (n cap : Nat) (ss : List ByteArray) (w : World) (hs : s.size ≤ maxLen) (hv : Reads w (.slice a n cap) n (ss.map Value.string)) (hss : ∀ s ∈ ss, s.size ≤ maxLen) (hn : n ≤ maxLen) :
    Calls Try.prog 3 #[.string s, .slice a n cap] w fun e w' => e = .returned (.bool true) ∧ Below w.heap.size w w' := by
  by_cases h : 500 < s.size ∨ 30 < n
  · exact walk_great s a n cap w hs hn h
  · exact walk_in s a n cap ss w (by omega) (by omega) hv hss
end frameSays
end Go.Proofs.Ytnafklmigndgeaa
