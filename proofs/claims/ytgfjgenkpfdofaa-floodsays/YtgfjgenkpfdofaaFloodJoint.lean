/-
  An act on both bases: the base's answer, then the document's own; both tell the same behind it.
-/
import Derived.Test.YtgfjgenkpfdofaaFloodSix
import Derived.Test.YtgfjgenkpfdofaaSpreadRow
namespace Go.Proofs.Ytgfjgenkpfdofaa
open Go.RowKit St

section
variable {w wr : World} {B : Nat} {m : FM} {M g ports : Nat} {K : Int → Option PS} {O : Nat → Int → Option PS} {KS : Nat → SV} {OB : Nat → Nat → Bool}
/-- The document's own has taken it, too. -/
theorem Two.end_ {w1 W w2 : World} {K' : Int → Option PS} {O' : Nat → Int → Option PS} {KS' : Nat → SV} {OB' : Nat → Nat → Bool} {k : Nat} (hl : Lie w B m M g) (hb1 : BR w1 B m k K' O') (hR : RB W M g ports KS OB) (hW : Below w1.heap.size w1 W) (hR2 : RB w2 M g ports KS' OB') (hk : KeptR W w2 M g) (hbel : Below w.heap.size w w1)
    (hTR : TieR w K' KS') (hTO : TieO ports K' O' OB') (hlen : m.bs.length = ports) (hnO : ∀ p, p < ports → ∀ k, inR k → (k < 1 ∨ 6 < k) → O' p k = none) (hz : KS' 0 = SV.zero) : Two w w2 B m M g ports K' O' KS' OB' :=
  ⟨((hb1.six).below hW).byR hR hk hl.no hl.ne, hR2, hTR, hTO, hlen, KeptR.below (below_chain hbel hW) hk hl.ge.2.2.1 hl.ge.2.2.2, hnO, hz⟩
theorem Two.half {w1 : World} (h : Two w wr B m M g ports K O KS OB) (hl : Lie w B m M g) (hM : KeptM wr w1 m) : RB w1 M g ports KS OB ∧ Below w.heap.size w w1 ∧ Still wr w1 := ⟨h.r.byM h.b hM, KeptM.below h.bel hM hl.ge.1 hl.ge.2.1, fun _ _ _ _ hj => hM.heap_cells h.b hj⟩
theorem Two.known (h : Two w wr B m M g ports K O KS OB) {W : World} (hW : Below w.heap.size w W) (o : Nat) (h1 : 1 ≤ o) (h6 : o ≤ 6) : OptR W (KS o).a (KS o).n (edK K o) ∧ (edK K o).length ≤ 6 ∧ ∀ e ∈ edK K o, (1 ≤ e.1 ∧ e.1 ≤ 6) ∧ (1 ≤ e.2 ∧ e.2 ≤ 20) := by
  cases e : K o with
  | none =>
    have he : edK K o = [] := by simp [edK, esOf, e]
    rw [he, h.k.none h1 h6 e]
    exact ⟨⟨rfl, .inl rfl⟩, by simp, fun _ h => by simp at h⟩
  | some q =>
    have he : edK K o = q.2 := by simp [edK, esOf, e]
    obtain ⟨_, _, t3, _, t5⟩ := h.k.some h1 h6 e
    rw [he]
    exact ⟨t3.below hW, (stF_zero t5).2.2.1, edgF_all _ _ _ (stF_zero t5).2.2.2⟩

theorem set_two (h : Two w wr B m M g ports K O KS OB) (hl : Lie w B m M g) (hp3 : ports ≤ 3) (own seq : Int) (a : Option Addr) (n cap : Nat) (es : List Opt) (ho : OptR w a n es) (hz : NilOk a cap) (hn : n ≤ maxLen) {W0 : World} (hW0 : Below wr.heap.size wr W0) :
    Calls Try.prog 8 #[.pointer (some ⟨B, 0, none⟩), .agg #[.int .i64 own, .int .i64 seq, .slice a n cap]] W0 fun e w1 => e = .returned (errV (stF own seq es)) ∧ Below w.heap.size w w1 ∧ Still W0 w1 ∧
      (∀ W, Below w1.heap.size w1 W → Calls Try.prog 9 #[.pointer (some ⟨M, 0, none⟩), .agg #[.int .i64 own, .int .i64 seq, .slice a n cap]] W fun e w2 => e = .returned (.int .i64 (stF own seq es : Int)) ∧ StillR W w2 M g ∧ ∃ K' O' KS' OB', Two w w2 B m M g ports K' O' KS' OB') := by
  replace h := h.below hW0
  have ho1 := ho.below h.bel
  by_cases hf : stF own seq es = 0
  · have hr := (stF_zero hf).1
    obtain ⟨o, rfl⟩ : ∃ o : Nat, own = (o : Int) := ⟨own.toNat, by omega⟩
    refine (set_base B m 6 K O o seq a n cap es W0 h.b (by unfold inR; omega) ho1 hz (by omega) hf).mono ?_
    rintro e w1 ⟨rfl, hB1, hM⟩
    obtain ⟨hR1, hb1, hst⟩ := h.half hl hM
    rw [hf]
    refine ⟨rfl, hb1, hst, fun W hW => ?_⟩
    refine (rset_ok M g ports KS OB o seq a n cap es W (hR1.below hW) hp3 (ho.below (below_chain hb1 hW)) hf).mono ?_
    rintro e w2 ⟨rfl, ⟨O', hR2, hO'⟩, hk⟩
    refine ⟨rfl, StillR.of_kept hk, _, _, _, _, Two.end_ hl hB1 (hR1.below hW) hW hR2 hk hb1 (h.k.set o seq a n cap es ho hz hf) (h.o.set o (seq, es) hO') h.len (fun p hp k hk hx => ?_) (by simp only [updS]; rw [if_neg (by omega)]; exact h.z)⟩
    simp only [updF]
    rw [if_neg (by omega)]
    exact h.nO p hp k hk hx
  · refine (set_bad B own seq a n cap es W0 ho1 hn hf).mono ?_
    rintro e w1 ⟨rfl, b1⟩
    have hb1 := below_chain h.bel b1
    refine ⟨rfl, hb1, (Still.of_below b1), fun W hW => ?_⟩
    refine (rset_bad M own seq a n cap es W hn (ho.below (below_chain hb1 hW)) hf).mono ?_
    rintro e w2 ⟨rfl, b2⟩
    exact ⟨rfl, StillR.of_below b2, _, _, _, _, h.below (below_chain b1 (below_chain hW b2))⟩

theorem takK_zero {KS : Nat → SV} {o : Nat} {s : SV} {r : Int} (h : KS 0 = SV.zero) (ho : 0 < o) : takK KS o s r 0 = SV.zero := by
  simp only [takK]
  split
  · simp only [updS]
    rw [if_neg (by omega)]
    exact h
  · exact h
theorem take_two (h : Two w wr B m M g ports K O KS OB) (hl : Lie w B m M g) (hp3 : ports ≤ 3) (port own seq : Int) (a : Option Addr) (n cap : Nat) (es : List Opt) (ho : OptR w a n es) (hz : NilOk a cap) (hn : n ≤ maxLen) {W0 : World} (hW0 : Below wr.heap.size wr W0) :
    Calls Try.prog 10 #[.pointer (some ⟨B, 0, none⟩), .int .i64 port, .agg #[.int .i64 own, .int .i64 seq, .slice a n cap]] W0 fun e w1 => ∃ (x : Int) (c : Nat), e = .returned (.tuple #[.int .i64 x, errV c]) ∧ Below w.heap.size w w1 ∧ Still W0 w1 ∧
      (∀ W, Below w1.heap.size w1 W → Calls Try.prog 11 #[.pointer (some ⟨M, 0, none⟩), .int .i64 port, .agg #[.int .i64 own, .int .i64 seq, .slice a n cap]] W fun e w2 => e = .returned (.tuple #[.int .i64 x, .int .i64 (c : Int)]) ∧ StillR W w2 M g ∧ ∃ K' O' KS' OB', Two w w2 B m M g ports K' O' KS' OB') := by
  replace h := h.below hW0
  have ho1 := ho.below h.bel
  obtain ⟨kn, ow, hF, hT, hO⟩ := h.b.ex
  by_cases hp : 0 ≤ port ∧ port < (ports : Int)
  · obtain ⟨p, rfl⟩ : ∃ p : Nat, port = (p : Int) := ⟨port.toNat, by omega⟩
    have hpp : p < ports := by omega
    have hc : chkF m.bs.length (p : Int) own seq es = stF own seq es := by rw [chkF, if_pos (by rw [h.len]; omega)]
    by_cases hf : stF own seq es = 0
    · have hr := (stF_zero hf).1
      obtain ⟨o, rfl⟩ : ∃ o : Nat, own = (o : Int) := ⟨own.toNat, by omega⟩
      refine (take_base B m 6 K O p o seq a n cap es W0 h.b (by unfold inR; omega) (by rw [h.len]; exact hpp) ho1 hz (by omega) hf (hS3 seq es)).mono ?_
      rintro e w1 ⟨rfl, hB1, hM⟩
      obtain ⟨hR1, hb1, hst⟩ := h.half hl hM
      refine ⟨newF K o seq es, 0, rfl, hb1, hst, fun W hW => ?_⟩
      obtain ⟨q1, q2, q3⟩ := h.known (below_chain hb1 hW) o (by omega) (by omega)
      have hR3 := rtake_ok M g ports KS OB p o seq a n cap es (edK K o) W (hR1.below hW) hpp hp3 (ho.below (below_chain hb1 hW)) q1 q3 hf
      rw [tie_new h.k o (by omega) (by omega)] at hR3
      refine hR3.mono ?_
      rintro e w2 ⟨rfl, ⟨O', hR2, hO'⟩, hk⟩
      refine ⟨rfl, StillR.of_kept hk, _, _, _, _, Two.end_ hl hB1 (hR1.below hW) hW hR2 hk hb1 (h.k.take o seq a n cap es ho hz hf) (h.o.take p o seq es hO') h.len (fun x hx k hk1 hk2 => ?_) (takK_zero h.z (by omega))⟩
      rw [takeO_other _ _ _ _ _ _ _ (show (o : Int) ≠ k by omega)]
      exact h.nO x hx k hk1 hk2
    · refine (take_bad B m 6 kn ow (p : Int) own seq a n cap es W0 hF ho1 hn (by rw [hc]; exact hf)).mono ?_
      rintro e w1 ⟨rfl, b1⟩
      have hb1 := below_chain h.bel b1
      rw [hc]
      refine ⟨0, _, rfl, hb1, (Still.of_below b1), fun W hW => ?_⟩
      refine (rtake_bad M g ports KS OB p own seq a n cap es W ((h.r.below b1).below hW) hpp hn (ho.below (below_chain hb1 hW)) hf).mono ?_
      rintro e w2 ⟨rfl, b2⟩
      exact ⟨rfl, StillR.of_below b2, _, _, _, _, h.below (below_chain b1 (below_chain hW b2))⟩
  · have hc : chkF m.bs.length port own seq es = 1 := by rw [chkF, if_neg (by rw [h.len]; exact hp)]
    refine (take_bad B m 6 kn ow port own seq a n cap es W0 hF ho1 hn (by rw [hc]; decide)).mono ?_
    rintro e w1 ⟨rfl, b1⟩
    have hb1 := below_chain h.bel b1
    rw [hc]
    refine ⟨0, 1, rfl, hb1, (Still.of_below b1), fun W hW => ?_⟩
    refine (rtake_port M g ports KS OB port own seq a n cap W ((h.r.below b1).below hW) hp).mono ?_
    rintro e w2 ⟨rfl, b2⟩
    exact ⟨rfl, StillR.of_below b2, _, _, _, _, h.below (below_chain b1 (below_chain hW b2))⟩

theorem heard_two (h : Two w wr B m M g ports K O KS OB) (hl : Lie w B m M g) (port own seq : Int) (a : Option Addr) (n cap : Nat) (es : List Opt) (ho : OptR w a n es) (hn : n ≤ maxLen) {W0 : World} (hW0 : Below wr.heap.size wr W0) :
    Calls Try.prog 12 #[.pointer (some ⟨B, 0, none⟩), .int .i64 port, .agg #[.int .i64 own, .int .i64 seq, .slice a n cap]] W0 fun e w1 => ∃ (c : Nat), e = .returned (errV c) ∧ Below w.heap.size w w1 ∧ Still W0 w1 ∧
      (∀ W, Below w1.heap.size w1 W → Calls Try.prog 13 #[.pointer (some ⟨M, 0, none⟩), .int .i64 port, .agg #[.int .i64 own, .int .i64 seq, .slice a n cap]] W fun e w2 => e = .returned (.int .i64 (c : Int)) ∧ StillR W w2 M g ∧ ∃ K' O' KS' OB', Two w w2 B m M g ports K' O' KS' OB') := by
  replace h := h.below hW0
  have ho1 := ho.below h.bel
  obtain ⟨kn, ow, hF, hT, hO⟩ := h.b.ex
  by_cases hp : 0 ≤ port ∧ port < (ports : Int)
  · obtain ⟨p, rfl⟩ : ∃ p : Nat, port = (p : Int) := ⟨port.toNat, by omega⟩
    have hpp : p < ports := by omega
    have hc : chkF m.bs.length (p : Int) own seq es = stF own seq es := by rw [chkF, if_pos (by rw [h.len]; omega)]
    by_cases hf : stF own seq es = 0
    · have hr := (stF_zero hf).1
      obtain ⟨o, rfl⟩ : ∃ o : Nat, own = (o : Int) := ⟨own.toNat, by omega⟩
      refine (heard_base B m 6 K O p o seq a n cap es W0 h.b (by unfold inR; omega) (by rw [h.len]; exact hpp) ho1 hf (hS3 seq es)).mono ?_
      rintro e w1 ⟨rfl, hB1, hM⟩
      obtain ⟨hR1, hb1, hst⟩ := h.half hl hM
      refine ⟨0, rfl, hb1, hst, fun W hW => ?_⟩
      obtain ⟨q1, q2, q3⟩ := h.known (below_chain hb1 hW) o (by omega) (by omega)
      have hR3 := rheard_ok M g ports KS OB p o seq a n cap es (edK K o) W (hR1.below hW) hpp (ho.below (below_chain hb1 hW)) q1 q2 q3 hf
      rw [tie_hrd h.k o (by omega) (by omega)] at hR3
      refine hR3.mono ?_
      rintro e w2 ⟨rfl, ⟨O', hR2, hO'⟩, hk⟩
      have hTO := h.o.heard p o (decide (0 ≤ newF K o seq es)) hO'
      simp only [decide_eq_true_eq] at hTO
      refine ⟨rfl, StillR.of_kept hk, _, _, _, _, Two.end_ hl hB1 (hR1.below hW) hW hR2 hk hb1 h.k hTO h.len (fun x hx k hk1 hk2 => ?_) h.z⟩
      have h0 := h.nO x hx k hk1 hk2
      by_cases hc2 : x = p ∧ 0 ≤ newF K o seq es
      · obtain ⟨rfl, hc3⟩ := hc2
        simp only [hc3, and_self, if_true, delF]
        rw [if_neg (by omega)]
        exact h0
      · simp only [if_neg hc2]
        exact h0
    · refine (heard_bad B m 6 kn ow (p : Int) own seq a n cap es W0 hF ho1 hn (by rw [hc]; exact hf)).mono ?_
      rintro e w1 ⟨rfl, b1⟩
      have hb1 := below_chain h.bel b1
      rw [hc]
      refine ⟨_, rfl, hb1, (Still.of_below b1), fun W hW => ?_⟩
      refine (rheard_bad M g ports KS OB p own seq a n cap es W ((h.r.below b1).below hW) hpp hn (ho.below (below_chain hb1 hW)) hf).mono ?_
      rintro e w2 ⟨rfl, b2⟩
      exact ⟨rfl, StillR.of_below b2, _, _, _, _, h.below (below_chain b1 (below_chain hW b2))⟩
  · have hc : chkF m.bs.length port own seq es = 1 := by rw [chkF, if_neg (by rw [h.len]; exact hp)]
    refine (heard_bad B m 6 kn ow port own seq a n cap es W0 hF ho1 hn (by rw [hc]; decide)).mono ?_
    rintro e w1 ⟨rfl, b1⟩
    have hb1 := below_chain h.bel b1
    rw [hc]
    refine ⟨1, rfl, hb1, (Still.of_below b1), fun W hW => ?_⟩
    refine (rheard_port M g ports KS OB port own seq a n cap W ((h.r.below b1).below hW) hp).mono ?_
    rintro e w2 ⟨rfl, b2⟩
    exact ⟨rfl, StillR.of_below b2, _, _, _, _, h.below (below_chain b1 (below_chain hW b2))⟩

theorem meet_two (h : Two w wr B m M g ports K O KS OB) (hl : Lie w B m M g) (port : Int) {W0 : World} (hW0 : Below wr.heap.size wr W0) :
    Calls Try.prog 14 #[.pointer (some ⟨B, 0, none⟩), .int .i64 port] W0 fun e w1 => ∃ (c : Nat), e = .returned (errV c) ∧ Below w.heap.size w w1 ∧ Still W0 w1 ∧
      (∀ W, Below w1.heap.size w1 W → Calls Try.prog 15 #[.pointer (some ⟨M, 0, none⟩), .int .i64 port] W fun e w2 => e = .returned (.int .i64 (c : Int)) ∧ StillR W w2 M g ∧ ∃ K' O' KS' OB', Two w w2 B m M g ports K' O' KS' OB') := by
  replace h := h.below hW0
  obtain ⟨kn, ow, hF, hT, hO⟩ := h.b.ex
  by_cases hp : 0 ≤ port ∧ port < (ports : Int)
  · obtain ⟨p, rfl⟩ : ∃ p : Nat, port = (p : Int) := ⟨port.toNat, by omega⟩
    have hpp : p < ports := by omega
    refine (meet_base B m 6 K O p W0 h.b (by rw [h.len]; exact hpp) (by omega)).mono ?_
    rintro e w1 ⟨rfl, hB1, hM⟩
    obtain ⟨hR1, hb1, hst⟩ := h.half hl hM
    refine ⟨0, rfl, hb1, hst, fun W hW => ?_⟩
    refine (rmeet_any M g ports KS OB p hpp W (hR1.below hW)).mono ?_
    rintro e w2 ⟨rfl, ⟨O', hR2, hO'⟩, hk⟩
    refine ⟨rfl, StillR.of_kept hk, _, _, _, _, Two.end_ hl hB1 (hR1.below hW) hW hR2 hk hb1 h.k (h.o.meet h.k p hO') h.len (fun x hx k hk1 hk2 => ?_) h.z⟩
    have h0 := h.nO x hx k hk1 hk2
    by_cases hc2 : x = p
    · subst hc2
      simp only [if_true, overF]
      rw [h.k.out k hk1 hk2]
      simpa using h0
    · simp only [if_neg hc2]
      exact h0
  · refine (meet_no B m 6 kn ow port W0 hF (by rw [h.len]; exact hp)).mono ?_
    rintro e w1 ⟨rfl, rfl⟩
    refine ⟨1, rfl, h.bel, Still.of_below (Below.refl _ _), fun W hW => ?_⟩
    refine (rmeet_bad M g ports KS OB port hp W (h.r.below hW)).mono ?_
    rintro e w2 ⟨rfl, rfl⟩
    exact ⟨rfl, StillR.of_below (Below.refl _ _), _, _, _, _, h.below hW⟩

theorem part_two (h : Two w wr B m M g ports K O KS OB) (hl : Lie w B m M g) (port : Int) {W0 : World} (hW0 : Below wr.heap.size wr W0) :
    Calls Try.prog 16 #[.pointer (some ⟨B, 0, none⟩), .int .i64 port] W0 fun e w1 => e = .returned (.tuple #[]) ∧ Below w.heap.size w w1 ∧ Still W0 w1 ∧
      (∀ W, Below w1.heap.size w1 W → Calls Try.prog 17 #[.pointer (some ⟨M, 0, none⟩), .int .i64 port] W fun e w2 => e = .returned (.tuple #[]) ∧ StillR W w2 M g ∧ ∃ K' O' KS' OB', Two w w2 B m M g ports K' O' KS' OB') := by
  replace h := h.below hW0
  obtain ⟨kn, ow, hF, hT, hO⟩ := h.b.ex
  by_cases hp : 0 ≤ port ∧ port < (ports : Int)
  · obtain ⟨p, rfl⟩ : ∃ p : Nat, port = (p : Int) := ⟨port.toNat, by omega⟩
    have hpp : p < ports := by omega
    refine (part_base B m 6 K O p W0 h.b (by rw [h.len]; exact hpp)).mono ?_
    rintro e w1 ⟨rfl, hB1, hM⟩
    obtain ⟨hR1, hb1, hst⟩ := h.half hl hM
    refine ⟨rfl, hb1, hst, fun W hW => ?_⟩
    refine (rpart_yes M g ports KS OB p hpp W (hR1.below hW)).mono ?_
    rintro e w2 ⟨rfl, ⟨O', hR2, hO'⟩, hk⟩
    refine ⟨rfl, StillR.of_kept hk, _, _, _, _, Two.end_ hl hB1 (hR1.below hW) hW hR2 hk hb1 h.k (h.o.part p hO') h.len (fun x hx k hk1 hk2 => ?_) h.z⟩
    have h0 := h.nO x hx k hk1 hk2
    by_cases hc2 : x = p
    · simp only [if_pos hc2]
    · simp only [if_neg hc2]
      exact h0
  · refine (part_no B m 6 kn ow port W0 hF (by rw [h.len]; exact hp)).mono ?_
    rintro e w1 ⟨rfl, rfl⟩
    refine ⟨rfl, h.bel, Still.of_below (Below.refl _ _), fun W hW => ?_⟩
    refine (rpart_no M g ports KS OB port hp W (h.r.below hW)).mono ?_
    rintro e w2 ⟨rfl, rfl⟩
    exact ⟨rfl, StillR.of_below (Below.refl _ _), _, _, _, _, h.below hW⟩

/-- A list of the base, the document's own, and both held against each other. -/
theorem states_two (h : Two w wr B m M g ports K O KS OB) :
    Calls Try.prog 19 #[.pointer (some ⟨B, 0, none⟩)] wr fun e w1 => ∃ a n cap, e = .returned (.slice a n cap) ∧ Below wr.heap.size wr w1 ∧
      Calls Try.prog 20 #[.pointer (some ⟨M, 0, none⟩)] w1 fun e w2 => ∃ a2 n2 cap2, e = .returned (.slice a2 n2 cap2) ∧ Below w1.heap.size w1 w2 ∧
        Calls Try.prog 18 #[.slice a n cap, .slice a2 n2 cap2] w2 fun e w3 => e = .returned (.bool true) ∧ Below w2.heap.size w2 w3 := by
  refine (states_base B m 6 K O wr h.b).mono ?_
  rintro e w1 ⟨a, n, cap, S, E, rfl, r1, r2, r3, r4, b1⟩
  refine ⟨a, n, cap, rfl, b1, ?_⟩
  refine (rstates_any M g ports KS OB w1 (h.r.below b1)).mono ?_
  rintro e w2 ⟨⟨a2, cap2, rfl, hrow⟩, b2⟩
  have hs : ∀ k : Nat, 1 ≤ k → k ≤ 6 → (decide (0 < (KS k).seq) = true ↔ (K k).isSome = true) := fun k k1 k6 => by rw [decide_eq_true_eq]; exact h.k.seq k1 k6
  obtain ⟨d1, d2, d3⟩ := doc_lists (F := K) h.k (below_chain h.bel (below_chain b1 b2)) hrow (fun k k1 k6 => by
    cases e : decide (0 < (KS k).seq) with
    | true => rfl
    | false =>
      cases e2 : K k with
      | none => rfl
      | some q => rw [(hs k k1 k6).2 (by rw [e2]; rfl)] at e; cases e) (fun k k1 k6 hk => (hs k k1 k6).1 hk) h.k.out
  refine ⟨a2, _, cap2, rfl, b2, ?_⟩
  obtain ⟨hnn, heq⟩ := r2.uniq d2
  subst hnn
  exact sameStates_yes a a2 _ cap cap2 S _ E _ w2 (r1.below b2) d1 (by omega) (fun j hj => (stF_zero (r2.ok j hj)).2.2.1) heq
theorem owed_two (h : Two w wr B m M g ports K O KS OB) (port : Int) :
    Calls Try.prog 21 #[.pointer (some ⟨B, 0, none⟩), .int .i64 port] wr fun e w1 => ∃ a n cap, e = .returned (.slice a n cap) ∧ Below wr.heap.size wr w1 ∧
      Calls Try.prog 22 #[.pointer (some ⟨M, 0, none⟩), .int .i64 port] w1 fun e w2 => ∃ a2 n2 cap2, e = .returned (.slice a2 n2 cap2) ∧ Below w1.heap.size w1 w2 ∧
        Calls Try.prog 18 #[.slice a n cap, .slice a2 n2 cap2] w2 fun e w3 => e = .returned (.bool true) ∧ Below w2.heap.size w2 w3 := by
  by_cases hp : 0 ≤ port ∧ port < (ports : Int)
  · obtain ⟨p, rfl⟩ : ∃ p : Nat, port = (p : Int) := ⟨port.toNat, by omega⟩
    have hpp : p < ports := by omega
    refine (owed_base B m 6 K O p wr h.b (by rw [h.len]; exact hpp)).mono ?_
    rintro e w1 ⟨a, n, cap, S, E, rfl, r1, r2, r3, r4, b1⟩
    refine ⟨a, n, cap, rfl, b1, ?_⟩
    refine (rowed_any M g ports KS OB p hpp w1 (h.r.below b1)).mono ?_
    rintro e w2 ⟨⟨a2, cap2, rfl, hrow⟩, b2⟩
    have hs : ∀ k : Nat, 1 ≤ k → k ≤ 6 → (0 < (KS k).seq ↔ (K k).isSome = true) := fun k k1 k6 => h.k.seq k1 k6
    obtain ⟨d1, d2, d3⟩ := doc_lists (F := O p) h.k (below_chain h.bel (below_chain b1 b2)) hrow (fun k k1 k6 => by
      have h0 := h.o p k hpp k1 k6
      rw [h0]
      cases e : OB p k with
      | false => rfl
      | true =>
        cases e2 : decide (0 < (KS k).seq) with
        | true => rfl
        | false =>
          cases e3 : K k with
          | none => rfl
          | some q => rw [decide_eq_true ((hs k k1 k6).2 (by rw [e3]; rfl))] at e2; cases e2) (fun k k1 k6 hk => by
        have hk2 : (OB p k && decide (0 < (KS k).seq)) = true := hk
        rw [Bool.and_eq_true, decide_eq_true_eq] at hk2
        exact (hs k k1 k6).1 hk2.2) (h.nO p hpp)
    refine ⟨a2, _, cap2, rfl, b2, ?_⟩
    obtain ⟨hnn, heq⟩ := r2.uniq d2
    subst hnn
    exact sameStates_yes a a2 _ cap cap2 S _ E _ w2 (r1.below b2) d1 (by omega) (fun j hj => (stF_zero (r2.ok j hj)).2.2.1) heq
  · obtain ⟨kn, ow, hF, hT, hO⟩ := h.b.ex
    refine (owed_no B m 6 kn ow port wr hF (by rw [h.len]; exact hp)).mono ?_
    rintro e w1 ⟨rfl, rfl⟩
    refine ⟨none, 0, 0, rfl, Below.refl _ _, ?_⟩
    refine (rowed_no M g ports KS OB port hp wr h.r).mono ?_
    rintro e w2 ⟨rfl, rfl⟩
    exact ⟨none, 0, 0, rfl, Below.refl _ _, sameStates_yes none none 0 0 0 (fun _ => SV.zero) (fun _ => SV.zero) (fun _ => []) (fun _ => []) wr ⟨.inl rfl, fun j hj => by omega⟩ ⟨.inl rfl, fun j hj => by omega⟩ (by omega) (fun j hj => by omega) (fun j hj => by omega)⟩
end
end Go.Proofs.Ytgfjgenkpfdofaa
