/-
  A base of states tied to its plain content: Part, Meet, Set, Heard, New, States, Owed, Get.
-/
import Derived.Test.YtgfjgenkpfdofaaFloodBase
namespace Go.Proofs.Ytgfjgenkpfdofaa
open Go.RowKit St

def overF (F G : Int → Option PS) : Int → Option PS := fun k => if (G k).isSome = true then G k else F k
theorem Tie.over {w : World} {m : FM} {f g : Int → Option SV} {F G : Int → Option PS} (h : Tie w m f F) (hg : Tie w m g G) : Tie w m (Go.Proofs.Ytgfjgenkpfdofaa.over f g) (overF F G) := by
  intro k hr
  have h1 := h k hr
  have h2 := hg k hr
  cases e : G k with
  | none =>
    rw [e] at h2
    have e1 : overF F G k = F k := by simp [overF, e]
    have e2 : Go.Proofs.Ytgfjgenkpfdofaa.over f g k = f k := by simp [Go.Proofs.Ytgfjgenkpfdofaa.over, h2]
    rw [e1, e2]
    exact h1
  | some q =>
    rw [e] at h2
    obtain ⟨s, h3, h4⟩ := h2
    have e1 : overF F G k = some q := by simp [overF, e]
    have e2 : Go.Proofs.Ytgfjgenkpfdofaa.over f g k = some s := by simp [Go.Proofs.Ytgfjgenkpfdofaa.over, h3]
    rw [e1, e2]
    exact ⟨s, rfl, h4⟩
theorem part_base (B : Nat) (m : FM) (k : Nat) (K : Int → Option PS) (O : Nat → Int → Option PS) (p : Nat) (w : World) (h : BR w B m k K O) (hp : p < m.bs.length) :
    Calls Try.prog 16 #[.pointer (some ⟨B, 0, none⟩), .int .i64 (p : Int)] w fun e w' => e = .returned (.tuple #[]) ∧ BR w' B m k K (fun i => if i = p then fun _ => none else O i) ∧ KeptM w w' m := by
  obtain ⟨kn, ow, hF, hT, hO⟩ := h.ex
  refine (part_yes B m k kn ow p w hF hp).mono ?_
  rintro e w1 ⟨rfl, F1, M1⟩
  refine ⟨rfl, ⟨⟨_, _, F1, hT.kept M1, fun i hi => ?_⟩, h.nobM M1.size⟩, M1⟩
  by_cases hip : i = p
  · simp only [if_pos hip]
    exact fun _ _ => rfl
  · simp only [if_neg hip]
    exact (hO i hi).kept M1
theorem meet_base (B : Nat) (m : FM) (k : Nat) (K : Int → Option PS) (O : Nat → Int → Option PS) (p : Nat) (w : World) (h : BR w B m k K O) (hp : p < m.bs.length) (hk : k ≤ 1000000) :
    Calls Try.prog 14 #[.pointer (some ⟨B, 0, none⟩), .int .i64 (p : Int)] w fun e w' => e = .returned .nilIface ∧ BR w' B m (k + k) K (fun i => if i = p then overF (O p) K else O i) ∧ KeptM w w' m := by
  obtain ⟨kn, ow, hF, hT, hO⟩ := h.ex
  refine (meet_yes B m k kn ow p w hF hp hk).mono ?_
  rintro e w1 ⟨rfl, F1, M1⟩
  refine ⟨rfl, ⟨⟨_, _, F1, hT.kept M1, fun i hi => ?_⟩, h.nobM M1.size⟩, M1⟩
  by_cases hip : i = p
  · subst hip
    simp only [if_true]
    exact ((hO i hi).kept M1).over (hT.kept M1)
  · simp only [if_neg hip]
    exact (hO i hi).kept M1
theorem set_base (B : Nat) (m : FM) (k : Nat) (K : Int → Option PS) (O : Nat → Int → Option PS) (own seq : Int) (a : Option Addr) (n cap : Nat) (es : List Opt) (w : World) (h : BR w B m k K O) (hr : inR own) (ho : OptR w a n es) (hnil : NilOk a cap) (hk : k ≤ 1000000) (hf : stF own seq es = 0) :
    Calls Try.prog 8 #[.pointer (some ⟨B, 0, none⟩), .agg #[.int .i64 own, .int .i64 seq, .slice a n cap]] w fun e w' => e = .returned .nilIface ∧ BR w' B m (k + 1 + m.bs.length) (updF K own (seq, es)) (fun i => updF (O i) own (seq, es)) ∧ KeptM w w' m := by
  obtain ⟨kn, ow, hF, hT, hO⟩ := h.ex
  refine (set_ok B m k kn ow own seq a n cap es w hF hr ho hnil hk hf).mono ?_
  rintro e w1 ⟨rfl, s, T⟩
  have hs : TieS w1 m own (seq, es) s := ⟨T.so, T.ss, T.sn, T.so2, T.nil, hf, fun j hj => by
    have h1 := (T.new j hj).1
    exact ⟨fun e => by have := hF.mlt m.bm (.inl rfl); omega, fun e => by have := hF.mlt j (.inr e); omega, fun e => by have := h.nob j e; omega⟩⟩
  refine ⟨rfl, ⟨⟨_, _, T.fb, (hT.kept T.kept).put hs, fun i hi => ?_⟩, h.nobM T.kept.size⟩, T.kept⟩
  simp only [if_pos hi]
  exact ((hO i hi).kept T.kept).put hs
theorem heard_base (B : Nat) (m : FM) (k : Nat) (K : Int → Option PS) (O : Nat → Int → Option PS) (p : Nat) (own seq : Int) (a : Option Addr) (n cap : Nat) (es : List Opt) (w : World) (h : BR w B m k K O) (hr : inR own) (hp : p < m.bs.length) (ho : OptR w a n es) (hf : stF own seq es = 0)
    (hS : ∀ q : PS, newS seq es q.1 q.2 = -1 ∨ newS seq es q.1 q.2 = 0 ∨ newS seq es q.1 q.2 = 1) :
    Calls Try.prog 12 #[.pointer (some ⟨B, 0, none⟩), .int .i64 (p : Int), .agg #[.int .i64 own, .int .i64 seq, .slice a n cap]] w fun e w' => e = .returned .nilIface ∧ BR w' B m k K (fun i => if i = p ∧ 0 ≤ newF K own seq es then delF (O p) own else O i) ∧ KeptM w w' m := by
  obtain ⟨kn, ow, hF, hT, hO⟩ := h.ex
  have hn : n ≤ 6 := by have := (stF_zero hf).2.2.1; rw [ho.1] at this; exact this
  have hm : n ≤ maxLen := by unfold maxLen; omega
  have hnw : ∀ W, Below w.heap.size w W → Calls Try.prog 30 #[.pointer (some ⟨B, 0, none⟩), .agg #[.int .i64 own, .int .i64 seq, .slice a n cap]] W fun e w' => e = .returned (.int .i64 (newF K own seq es)) ∧ Below W.heap.size W w' := fun W hb =>
    newer_base B m k kn ow K own seq a n cap es W (hF.below hb) (hT.kept (KeptM.of_below m hb)) hr (ho.below hb) (by omega)
  have key : ∀ w1, FB w1 B m k kn (fun i => if i = p then del (ow p) own else ow i) → KeptM w w1 m → 0 ≤ newF K own seq es → BR w1 B m k K (fun i => if i = p ∧ 0 ≤ newF K own seq es then delF (O p) own else O i) := by
    intro w1 F1 M1 h0
    refine ⟨⟨_, _, F1, hT.kept M1, fun i hi => ?_⟩, h.nobM M1.size⟩
    by_cases hip : i = p
    · subst hip
      simp only [if_true, h0, and_self]
      exact ((hO i hi).kept M1).out own
    · simp only [hip, if_false, false_and]
      exact (hO i hi).kept M1
  rcases newF_range K own seq es hS with e | e | e
  · rw [e] at hnw
    refine (heard_neg B m k kn ow p own seq a n cap es w hF hp ho hm hf hnw).mono ?_
    rintro e1 w1 ⟨rfl, b1⟩
    have M1 := KeptM.of_below m b1
    refine ⟨rfl, ⟨⟨_, _, hF.below b1, hT.kept M1, fun i hi => ?_⟩, h.nobM M1.size⟩, M1⟩
    have : ¬ (i = p ∧ 0 ≤ newF K own seq es) := by rw [e]; omega
    simp only [if_neg this]
    exact (hO i hi).kept M1
  · rw [e] at hnw
    refine (heard_zero B m k kn ow p own seq a n cap es w hF hr hp ho hm hf hnw).mono ?_
    rintro e1 w1 ⟨rfl, F1, M1⟩
    exact ⟨rfl, key w1 F1 M1 (by omega), M1⟩
  · rw [e] at hnw
    refine (heard_pos B m k kn ow p own seq a n cap es w hF hr hp ho hm hf hnw).mono ?_
    rintro e1 w1 ⟨rfl, F1, M1⟩
    exact ⟨rfl, key w1 F1 M1 (by omega), M1⟩
theorem new_base (p : Nat) (w : World) (hp : 1 ≤ p ∧ p ≤ 3) :
    Calls Try.prog 6 #[.int .i64 (p : Int)] w fun e w' => e = .returned (.tuple #[.pointer (some ⟨w.heap.size + 1, 0, none⟩), .nilIface]) ∧ ∃ m : FM, m.bs.length = p ∧ BR w' (w.heap.size + 1) m 0 (fun _ => none) (fun _ _ => none) ∧ Below w.heap.size w w' ∧ w.heap.size ≤ m.bm ∧ w.heap.size ≤ m.g ∧ (∀ b ∈ m.bs, w.heap.size ≤ b) := by
  refine (new_ok p w hp).mono ?_
  rintro e w1 ⟨rfl, v, bs, hN, hl⟩
  rcases hN.row.2 with ⟨_, e⟩ | ⟨g, cap, e, _⟩
  · omega
  · obtain ⟨g2, cap2, hF⟩ := hN.fb (by omega) (by omega)
    refine ⟨rfl, _, hl, ⟨⟨_, _, hF, fun _ _ => rfl, fun _ _ _ _ => rfl⟩, fun _ h => h.elim⟩, hN.bel, Nat.le_refl _, ?_, fun b hb => ?_⟩
    · have h1 := hF.blk
      rw [hN.blk] at h1
      have h2 : v = FM.sl { bm := w.heap.size, g := g2, cap := cap2, bs := bs } := by simpa using h1
      have := hN.own g2 (by rw [h2]; rfl)
      show w.heap.size ≤ g2
      omega
    · have := hN.ge b hb
      omega
/-- The edges of the plain content. -/
def esOf (F : Int → Option PS) : Int → List Opt := fun k => ((F k).map (·.2)).getD []
theorem Tie.fine {w : World} {m : FM} {f : Int → Option SV} {F : Int → Option PS} (h : Tie w m f F) : Fine w f (esOf F) := by
  intro k s hr hs
  cases e : F k with
  | none => rw [h.at_none hr e] at hs; cases hs
  | some q =>
    obtain ⟨t, h1, h2⟩ := h.at_some hr e
    rw [hs] at h1
    obtain rfl := Option.some.inj h1
    have h3 := stF_zero h2.ok
    have h4 : esOf F k = q.2 := by simp [esOf, e]
    rw [h4]
    exact ⟨h3.1, h2.own, h2.opt, h2.nil, by have := h3.2.2.1; have := h2.n; omega⟩
end Go.Proofs.Ytgfjgenkpfdofaa
