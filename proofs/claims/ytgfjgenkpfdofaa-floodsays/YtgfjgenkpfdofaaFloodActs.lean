/-
  What stands ahead of FloodSays: LightActs, bases; the tie between both bases, plainly.
-/
import Derived.Test.YtgfjgenkpfdofaaActsIn
import Derived.Test.YtgfjgenkpfdofaaFloodLight
import Derived.Test.YtgfjgenkpfdofaaRFlood7
import Derived.Test.YtgfjgenkpfdofaaSame
namespace Go.Proofs.Ytgfjgenkpfdofaa
open Go.RowKit St

set_option maxRecDepth 100000 in
theorem lightPacket_any (c i : Int) (a : Option Addr) (n cap : Nat) (w : World) :
    Calls Try.prog 25 #[.agg #[.int .i64 c, .int .i64 i, .slice a n cap]] w fun e w' => e = .returned (.bool (decide ((n : Int) ≤ 12))) ∧ Below w.heap.size w w' := by
  go_enter Try.func25, Try.ntmps25
  go_wp2_with (fail)
  go_ret
  exact ⟨rfl, (Below.refl _ _).alloc (Nat.le_refl _) _⟩

set_option maxRecDepth 100000 in
set_option maxHeartbeats 4000000 in
theorem bases_any (w : World) : Calls Try.prog 4 #[] w fun e w' => e = .returned (.bool true) ∧ Below w.heap.size w w' := by
  have hn := new_base 2 w ⟨by decide, by decide⟩
  go_enter Try.func4, Try.ntmps4
  go_wp2_with (fail)
  refine hn.mono ?_
  rintro e w1 ⟨rfl, m, hm, hB, hbel, g1, g2, g3⟩
  have hs := take_base _ m 0 _ _ 0 3 1 none 0 0 [] w1 hB (by unfold inR; omega) (by omega) ⟨rfl, .inl rfl⟩ (fun _ => rfl) (by omega) (by decide) (hS3 _ _)
  have hv : newF (fun _ => none) 3 1 [] = 1 := rfl
  rw [hv] at hs
  have HB : Hid _ := hbel
  have hsame := fun W => same_ok 0 W
  have e0 : errV 0 = .nilIface := rfl
  rw [e0] at hsame
  clear hn hB hbel hv e0
  go_wp2_with (fail)
  refine hs.mono ?_
  rintro e w2 ⟨rfl, hB2, M2⟩
  have HB2 : Hid _ := KeptM.below HB.out M2 g1 g3
  clear hs M2
  go_wp2_with (fail)
  refine (hsame _).mono ?_
  rintro e w3 ⟨rfl, rfl⟩
  have ho := owed_base _ m _ _ _ 0 w2 hB2 (by omega)
  clear hsame
  go_wp2_with (fail)
  refine ho.mono ?_
  rintro e w3 ⟨a, n, cap, S, E, rfl, r1, r2, r3, r4, b3⟩
  have hn0 : n = 0 := by
    by_cases h0 : n = 0
    · exact h0
    · have h9 := (r2.at_ 0 (by omega)).2
      have h8 : ∀ x : Int, takeO (fun _ => none) (fun _ _ => none) 0 3 1 [] 0 x = none := by
        intro x
        have hv : newF (fun _ => none) 3 1 [] = 1 := rfl
        simp only [takeO, hv]
        by_cases e : x = 3 <;> simp [delF, updF, e]
      rw [h8] at h9
      cases h9
  subst hn0
  have HB3 : Hid _ := below_chain HB2.out b3
  have ho2 := owed_base _ m _ _ _ 1 w3 (hB2.below b3) (by omega)
  clear ho r1 r2 r3 r4 b3 hB2
  go_wp2_with (fail)
  refine ho2.mono ?_
  rintro e w4 ⟨a4, n4, cap4, S4, E4, rfl, r1, r2, r3, r4, b4⟩
  have n1 : n4 = 1 := one_listed r2 3 (by unfold inR; omega) (by simp [takeO, newF, updF]) (fun x hx => by simp [takeO, newF, updF, hx])
  subst n1
  have HB4 : Hid _ := below_chain HB3.out b4
  clear ho2 r1 r2 r3 r4 b4
  go_wp2_with (fail)
  go_ret
  exact ⟨rfl, HB4.out⟩
/-- Both bases tell the same: what is known. -/
structure TieR (w : World) (K : Int → Option PS) (KS : Nat → SV) : Prop where
  at_ : ∀ n : Nat, 1 ≤ n → n ≤ 6 → match K n with
    | none => KS n = SV.zero
    | some q => (KS n).own = n ∧ (KS n).seq = q.1 ∧ OptR w (KS n).a (KS n).n q.2 ∧ NilOk (KS n).a (KS n).cap ∧ stF n q.1 q.2 = 0
  out : ∀ k, inR k → (k < 1 ∨ 6 < k) → K k = none
/-- .. and what is owed. -/
def TieO (ports : Nat) (K : Int → Option PS) (O : Nat → Int → Option PS) (OB : Nat → Nat → Bool) : Prop := ∀ p n : Nat, p < ports → 1 ≤ n → n ≤ 6 → O p n = cond (OB p n) (K n) none
theorem TieR.some {w : World} {K : Int → Option PS} {KS : Nat → SV} (h : TieR w K KS) {n : Nat} (h1 : 1 ≤ n) (h6 : n ≤ 6) {q : PS} (e : K n = some q) : (KS n).own = n ∧ (KS n).seq = q.1 ∧ OptR w (KS n).a (KS n).n q.2 ∧ NilOk (KS n).a (KS n).cap ∧ stF n q.1 q.2 = 0 := by
  have := h.at_ n h1 h6
  rw [e] at this
  exact this
theorem TieR.none {w : World} {K : Int → Option PS} {KS : Nat → SV} (h : TieR w K KS) {n : Nat} (h1 : 1 ≤ n) (h6 : n ≤ 6) (e : K n = none) : KS n = SV.zero := by
  have := h.at_ n h1 h6
  rw [e] at this
  exact this
/-- Is it known? -/
theorem TieR.seq {w : World} {K : Int → Option PS} {KS : Nat → SV} (h : TieR w K KS) {n : Nat} (h1 : 1 ≤ n) (h6 : n ≤ 6) : 0 < (KS n).seq ↔ (K n).isSome = true := by
  cases e : K n with
  | none =>
    rw [h.none h1 h6 e]
    simp [SV.zero]
  | some q =>
    obtain ⟨_, h2, _, _, h3⟩ := h.some h1 h6 e
    have := (stF_zero h3).2.1
    simp
    omega
/-- Set keeps it. -/
theorem TieR.set {w : World} {K : Int → Option PS} {KS : Nat → SV} (h : TieR w K KS) (o : Nat) (seq : Int) (a : Option Addr) (n cap : Nat) (es : List Opt) (ho : OptR w a n es) (hz : NilOk a cap) (hf : stF o seq es = 0) : TieR w (updF K o (seq, es)) (updS KS o ⟨o, seq, a, n, cap⟩) := by
  refine ⟨fun x h1 h6 => ?_, fun k hk hx => ?_⟩
  · by_cases e : x = o
    · subst e
      simp only [updF, updS, if_true]
      exact ⟨trivial, trivial, ho, hz, hf⟩
    · have e2 : ¬ (x : Int) = (o : Int) := by omega
      simp only [updF, updS, if_neg e, if_neg e2]
      exact h.at_ x h1 h6
  · have := (stF_zero hf).1
    simp only [updF]
    rw [if_neg (by omega)]
    exact h.out k hk hx
theorem TieO.set {ports : Nat} {K : Int → Option PS} {O : Nat → Int → Option PS} {OB OB' : Nat → Nat → Bool} (h : TieO ports K O OB) (o : Nat) (q : PS) (hO : ∀ x y, OB' x y = setO OB ports o x y) : TieO ports (updF K o q) (fun i => updF (O i) o q) OB' := by
  intro p n hp h1 h6
  have hb := hO p n
  by_cases e : n = o
  · subst e
    rw [setO, if_pos ⟨rfl, hp⟩] at hb
    rw [hb]
    simp [updF]
  · have e2 : ¬ (n : Int) = (o : Int) := by omega
    rw [setO, if_neg (fun h => e h.1)] at hb
    rw [hb]
    simp only [updF, if_neg e2]
    exact h p n hp h1 h6
theorem TieO.part {ports : Nat} {K : Int → Option PS} {O : Nat → Int → Option PS} {OB OB' : Nat → Nat → Bool} (h : TieO ports K O OB) (p : Nat) (hO : ∀ x y, x < ports → y < 7 → OB' x y = parO OB p x y) : TieO ports K (fun i => if i = p then fun _ => none else O i) OB' := by
  intro x n hx h1 h6
  have hb := hO x n hx (by omega)
  by_cases e : x = p
  · rw [parO, if_pos e] at hb
    rw [hb]
    simp [e]
  · rw [parO, if_neg e] at hb
    rw [hb]
    simp only [if_neg e]
    exact h x n hx h1 h6
theorem TieO.meet {w : World} {ports : Nat} {K : Int → Option PS} {O : Nat → Int → Option PS} {OB OB' : Nat → Nat → Bool} {KS : Nat → SV} (h : TieO ports K O OB) (ht : TieR w K KS) (p : Nat) (hO : ∀ x y, OB' x y = meetO KS OB p x y) : TieO ports K (fun i => if i = p then overF (O p) K else O i) OB' := by
  intro x n hx h1 h6
  have hb := hO x n
  have hs := ht.seq h1 h6
  have h0 := h x n hx h1 h6
  by_cases e : x = p
  · subst e
    simp only [if_true, overF]
    by_cases e2 : (K n).isSome = true
    · rw [meetO, if_pos ⟨rfl, h1, h6, hs.2 e2⟩] at hb
      rw [if_pos e2, hb]
      rfl
    · have e3 : K n = none := by
        cases e4 : K n with
        | none => rfl
        | some q => rw [e4] at e2; exact absurd rfl e2
      rw [meetO, if_neg (fun e5 => e2 (hs.1 e5.2.2.2))] at hb
      rw [if_neg e2, hb, h0, e3]
  · rw [meetO, if_neg (fun e5 => e e5.1)] at hb
    rw [hb]
    simp only [if_neg e]
    exact h0
end Go.Proofs.Ytgfjgenkpfdofaa
