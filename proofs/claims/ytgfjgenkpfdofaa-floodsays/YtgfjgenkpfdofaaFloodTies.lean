/-
  Both bases tell the same behind Take and Heard; their lists are one.
-/
import Derived.Test.YtgfjgenkpfdofaaFloodActs
namespace Go.Proofs.Ytgfjgenkpfdofaa
open Go.RowKit St

/-- The edges of what is known. -/
def edK (K : Int → Option PS) (o : Nat) : List Opt := esOf K o
theorem tie_new {w : World} {K : Int → Option PS} {KS : Nat → SV} (h : TieR w K KS) (o : Nat) (h1 : 1 ≤ o) (h6 : o ≤ 6) (seq : Int) (es : List Opt) : rNew KS o seq es (edK K o) = newF K o seq es := by
  have hs := h.seq h1 h6
  cases e : K o with
  | none =>
    rw [e] at hs
    rw [rNew, if_neg (fun e2 => by have := hs.1 e2; cases this), newF, e]
  | some q =>
    rw [e] at hs
    obtain ⟨_, h2, _⟩ := h.some h1 h6 e
    have he : edK K o = q.2 := by simp [edK, esOf, e]
    rw [rNew, if_pos (hs.2 rfl), newF, e, h2, he]
theorem tie_hrd {w : World} {K : Int → Option PS} {KS : Nat → SV} (h : TieR w K KS) (o : Nat) (h1 : 1 ≤ o) (h6 : o ≤ 6) (seq : Int) (es : List Opt) : hrd KS o seq es (edK K o) = decide (0 ≤ newF K o seq es) := by
  cases e : K o with
  | none =>
    rw [hrd, h.none h1 h6 e, newF, e]
    rfl
  | some q =>
    obtain ⟨_, h2, _, _, h3⟩ := h.some h1 h6 e
    have he : edK K o = q.2 := by simp [edK, esOf, e]
    have hp := (stF_zero h3).2.1
    rw [hrd, if_neg (by omega), newF, e, h2, he, newS_anti q.1 seq q.2 es, decide_eq_decide]
    simp only
    omega
theorem TieR.take {w : World} {K : Int → Option PS} {KS : Nat → SV} (h : TieR w K KS) (o : Nat) (seq : Int) (a : Option Addr) (n cap : Nat) (es : List Opt) (ho : OptR w a n es) (hz : NilOk a cap) (hf : stF o seq es = 0) :
    TieR w (takeK K o seq es) (takK KS o ⟨o, seq, a, n, cap⟩ (newF K o seq es)) := by
  rcases newF_range K o seq es (hS3 seq es) with e | e | e
  · rw [takeK, takK, e, if_neg (by decide), if_neg (by decide)]
    exact h
  · rw [takeK, takK, e, if_neg (by decide), if_neg (by decide)]
    exact h
  · rw [takeK, takK, e, if_pos (by decide), if_pos rfl]
    exact h.set o seq a n cap es ho hz hf
theorem TieO.take {ports : Nat} {K : Int → Option PS} {O : Nat → Int → Option PS} {OB OB' : Nat → Nat → Bool} (h : TieO ports K O OB) (p o : Nat) (seq : Int) (es : List Opt) (hO : ∀ x y, OB' x y = takO OB ports p o (newF K o seq es) x y) : TieO ports (takeK K o seq es) (takeO K O p o seq es) OB' := by
  intro x n hx h1 h6
  have hb := hO x n
  have h0 := h x n hx h1 h6
  by_cases en : n = o
  · subst en
    rcases newF_range K n seq es (hS3 seq es) with e | e | e
    · rw [e] at hb
      simp only [takO, updO] at hb
      by_cases ex : x = p
      · subst ex
        simp at hb
        rw [hb]
        simp only [takeK, takeO, e]
        cases eK : K n with
        | none => rw [newF, eK] at e; cases e
        | some q => simp [updF, eK]
      · simp [ex] at hb
        rw [hb]
        simp only [takeK, takeO, e]
        simp [ex]
        exact h0
    · rw [e] at hb
      simp only [takO, updO] at hb
      by_cases ex : x = p
      · subst ex
        simp at hb
        rw [hb]
        simp only [takeK, takeO, e]
        simp [delF]
      · simp [ex] at hb
        rw [hb]
        simp only [takeK, takeO, e]
        simp [ex]
        exact h0
    · rw [e] at hb
      simp only [takO, updO] at hb
      by_cases ex : x = p
      · subst ex
        simp at hb
        rw [hb]
        simp only [takeK, takeO, e]
        simp [delF]
      · simp [ex, setO, hx] at hb
        rw [hb]
        simp only [takeK, takeO, e]
        simp [ex, updF]
  · have e2 : (o : Int) ≠ (n : Int) := by omega
    have e3 : ¬ (n : Int) = (o : Int) := by omega
    have hk : takeK K o seq es n = K n := by
      simp only [takeK]
      split
      · simp [updF, e3]
      · rfl
    have hbb : OB' x n = OB x n := by
      rw [hb]
      simp only [takO, updO, setO]
      rw [if_neg (fun h => en h.2)]
      split
      · rw [if_neg (fun h => en h.1)]
      · rfl
    rw [takeO_other _ _ _ _ _ _ _ e2, hk, hbb]
    exact h0
theorem TieO.heard {ports : Nat} {K : Int → Option PS} {O : Nat → Int → Option PS} {OB OB' : Nat → Nat → Bool} (h : TieO ports K O OB) (p o : Nat) (c : Bool) (hO : ∀ x y, OB' x y = hrdO OB p o c x y) : TieO ports K (fun i => if i = p ∧ c = true then delF (O p) o else O i) OB' := by
  intro x n hx h1 h6
  have hb := hO x n
  have h0 := h x n hx h1 h6
  cases c with
  | false =>
    simp only [hrdO] at hb
    simp at hb
    rw [hb]
    simpa using h0
  | true =>
    simp only [hrdO, updO, if_true] at hb
    by_cases ex : x = p
    · subst ex
      by_cases en : n = o
      · subst en
        simp at hb
        rw [hb]
        simp [delF]
      · have e3 : ¬ (n : Int) = (o : Int) := by omega
        simp [en] at hb
        rw [hb]
        simp [delF, e3]
        exact h0
    · simp [ex] at hb
      rw [hb]
      simp [ex]
      exact h0
end Go.Proofs.Ytgfjgenkpfdofaa
