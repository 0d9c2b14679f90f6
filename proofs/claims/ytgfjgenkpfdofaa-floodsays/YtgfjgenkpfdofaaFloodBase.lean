/-
  A base of states in memory, tied to its plain content: for each owner a number and edges.
-/
import Derived.Test.YtgfjgenkpfdofaaFloodNew
namespace Go.Proofs.Ytgfjgenkpfdofaa
open Go.RowKit St

abbrev PS := Int × List Opt
/-- A map's states, plainly. -/
structure TieS (w : World) (m : FM) (k : Int) (q : PS) (s : SV) : Prop where
  own : s.own = k
  seq : s.seq = q.1
  n : s.n = q.2.length
  opt : OptR w s.a s.n q.2
  nil : NilOk s.a s.cap
  ok : stF k q.1 q.2 = 0
  far : ∀ j, Value.ownBlock (.slice s.a s.n s.cap) = some j → j ≠ m.bm ∧ j ∉ m.bs ∧ ¬ m.no j
def Tie (w : World) (m : FM) (f : Int → Option SV) (F : Int → Option PS) : Prop := ∀ k, inR k → match F k with
  | none => f k = none
  | some q => ∃ s, f k = some s ∧ TieS w m k q s
theorem TieS.kept {w w' : World} {m : FM} {k : Int} {q : PS} {s : SV} (h : TieS w m k q s) (hk : KeptM w w' m) : TieS w' m k q s := ⟨h.own, h.seq, h.n, h.opt.keptM (cap := s.cap) hk (fun j hj => ⟨(h.far j hj).1, (h.far j hj).2.1⟩), h.nil, h.ok, h.far⟩
theorem Tie.kept {w w' : World} {m : FM} {f : Int → Option SV} {F : Int → Option PS} (h : Tie w m f F) (hk : KeptM w w' m) : Tie w' m f F := by
  intro k hr
  have := h k hr
  cases e : F k with
  | none => rw [e] at this; exact this
  | some q => rw [e] at this; obtain ⟨s, h1, h2⟩ := this; exact ⟨s, h1, h2.kept hk⟩
theorem Tie.at_none {w : World} {m : FM} {f : Int → Option SV} {F : Int → Option PS} (h : Tie w m f F) {k : Int} (hr : inR k) (e : F k = none) : f k = none := by have := h k hr; rw [e] at this; exact this
theorem Tie.at_some {w : World} {m : FM} {f : Int → Option SV} {F : Int → Option PS} (h : Tie w m f F) {k : Int} (hr : inR k) {q : PS} (e : F k = some q) : ∃ s, f k = some s ∧ TieS w m k q s := by have := h k hr; rw [e] at this; exact this
def updF (F : Int → Option PS) (k : Int) (q : PS) : Int → Option PS := fun x => if x = k then some q else F x
def delF (F : Int → Option PS) (k : Int) : Int → Option PS := fun x => if x = k then none else F x
theorem Tie.put {w : World} {m : FM} {f : Int → Option SV} {F : Int → Option PS} (h : Tie w m f F) {k : Int} {q : PS} {s : SV} (hs : TieS w m k q s) : Tie w m (upd f k s) (updF F k q) := by
  intro x hr
  by_cases e : x = k
  · subst e
    simp only [updF, upd, if_true]
    exact ⟨s, rfl, hs⟩
  · have := h x hr
    simp only [updF, upd, if_neg e]
    exact this
theorem Tie.out {w : World} {m : FM} {f : Int → Option SV} {F : Int → Option PS} (h : Tie w m f F) (k : Int) : Tie w m (del f k) (delF F k) := by
  intro x hr
  by_cases e : x = k
  · subst e
    simp only [delF, del, if_true]
  · have := h x hr
    simp only [delF, del, if_neg e]
    exact this
/-- The base in block B: what is known, what each port owes. -/
structure BR (w : World) (B : Nat) (m : FM) (n : Nat) (K : Int → Option PS) (O : Nat → Int → Option PS) : Prop where
  ex : ∃ kn ow, FB w B m n kn ow ∧ Tie w m kn K ∧ ∀ i, i < m.bs.length → Tie w m (ow i) (O i)
  nob : ∀ j, m.no j → j < w.heap.size
theorem BR.nobM {w w' : World} {B : Nat} {m : FM} {n : Nat} {K : Int → Option PS} {O : Nat → Int → Option PS} (h : BR w B m n K O) (hs : w.heap.size ≤ w'.heap.size) : ∀ j, m.no j → j < w'.heap.size := fun j hj => Nat.lt_of_lt_of_le (h.nob j hj) hs
/-- Newer than what is known? -/
def newF (K : Int → Option PS) (own seq : Int) (es : List Opt) : Int := match K own with | none => 1 | some q => newS seq es q.1 q.2
theorem newer_base (B : Nat) (m : FM) (k : Nat) (kn : Int → Option SV) (ow : Nat → Int → Option SV) (K : Int → Option PS) (own seq : Int) (a : Option Addr) (n cap : Nat) (es : List Opt) (w : World) (h : FB w B m k kn ow) (ht : Tie w m kn K) (hr : inR own) (ho : OptR w a n es) (hn : n ≤ 1000000) :
    Calls Try.prog 30 #[.pointer (some ⟨B, 0, none⟩), .agg #[.int .i64 own, .int .i64 seq, .slice a n cap]] w fun e w' => e = .returned (.int .i64 (newF K own seq es)) ∧ Below w.heap.size w w' := by
  cases e : K own with
  | none =>
    have hv : newF K own seq es = 1 := by rw [newF, e]
    rw [hv]
    exact newer_none B m k kn ow own seq a n cap w h hr (ht.at_none hr e)
  | some q =>
    obtain ⟨s, h1, h2⟩ := ht.at_some hr e
    have hv : newF K own seq es = newS seq es s.seq q.2 := by rw [newF, e, h2.seq]
    rw [hv]
    exact newer_some B m k kn ow own seq a n cap es s q.2 w h hr h1 ho hn h2.opt
/-- What Take leaves: known, owed. -/
def takeK (K : Int → Option PS) (own seq : Int) (es : List Opt) : Int → Option PS := if 0 < newF K own seq es then updF K own (seq, es) else K
def takeO (K : Int → Option PS) (O : Nat → Int → Option PS) (p : Nat) (own seq : Int) (es : List Opt) : Nat → Int → Option PS := fun i =>
  if 0 < newF K own seq es then (if i = p then delF (updF (O p) own (seq, es)) own else updF (O i) own (seq, es))
  else if newF K own seq es < 0 then (if i = p then (match K own with | none => O p | some q => updF (O p) own q) else O i)
  else (if i = p then delF (O p) own else O i)
theorem newF_range (K : Int → Option PS) (own seq : Int) (es : List Opt) (h : ∀ q : PS, newS seq es q.1 q.2 = -1 ∨ newS seq es q.1 q.2 = 0 ∨ newS seq es q.1 q.2 = 1) : newF K own seq es = -1 ∨ newF K own seq es = 0 ∨ newF K own seq es = 1 := by
  unfold newF
  cases K own with
  | none => exact .inr (.inr rfl)
  | some q => exact h q
/-- Take, of a state that may be, at a port that there is. -/
theorem take_base (B : Nat) (m : FM) (k : Nat) (K : Int → Option PS) (O : Nat → Int → Option PS) (p : Nat) (own seq : Int) (a : Option Addr) (n cap : Nat) (es : List Opt) (w : World) (h : BR w B m k K O) (hr : inR own) (hp : p < m.bs.length) (ho : OptR w a n es) (hnil : NilOk a cap) (hk : k ≤ 1000000) (hf : stF own seq es = 0)
    (hS : ∀ q : PS, newS seq es q.1 q.2 = -1 ∨ newS seq es q.1 q.2 = 0 ∨ newS seq es q.1 q.2 = 1) :
    Calls Try.prog 10 #[.pointer (some ⟨B, 0, none⟩), .int .i64 (p : Int), .agg #[.int .i64 own, .int .i64 seq, .slice a n cap]] w fun e w' => e = .returned (.tuple #[.int .i64 (newF K own seq es), .nilIface]) ∧ BR w' B m (k + 1 + m.bs.length) (takeK K own seq es) (takeO K O p own seq es) ∧ KeptM w w' m := by
  obtain ⟨kn, ow, hF, hT, hO⟩ := h.ex
  have hn : n ≤ 6 := by have := (stF_zero hf).2.2.1; rw [ho.1] at this; exact this
  have hm : n ≤ maxLen := by unfold maxLen; omega
  have hnw : ∀ W, Below w.heap.size w W → Calls Try.prog 30 #[.pointer (some ⟨B, 0, none⟩), .agg #[.int .i64 own, .int .i64 seq, .slice a n cap]] W fun e w' => e = .returned (.int .i64 (newF K own seq es)) ∧ Below W.heap.size W w' := fun W hb =>
    newer_base B m k kn ow K own seq a n cap es W (hF.below hb) (hT.kept (KeptM.of_below m hb)) hr (ho.below hb) (by omega)
  rcases newF_range K own seq es hS with e | e | e
  · rw [e] at hnw ⊢
    cases eK : K own with
    | none => rw [newF, eK] at e; cases e
    | some q =>
      obtain ⟨s, h1, h2⟩ := hT.at_some hr eK
      refine (take_neg B m k kn ow p own seq a n cap es w hF hr hp ho hm hf s h1 hk hnw).mono ?_
      rintro e1 w1 ⟨rfl, F1, M1⟩
      refine ⟨rfl, ⟨⟨_, _, F1.mono (by omega), ?_, fun i hi => ?_⟩, h.nobM M1.size⟩, M1⟩
      · simp only [takeK, e]
        exact hT.kept M1
      · simp only [takeO, e, eK]
        by_cases hip : i = p
        · subst hip
          simp
          exact ((hO i hi).kept M1).put (h2.kept M1)
        · simp [hip]
          exact (hO i hi).kept M1
  · rw [e] at hnw ⊢
    refine (take_zero B m k kn ow p own seq a n cap es w hF hr hp ho hm hf hnw).mono ?_
    rintro e1 w1 ⟨rfl, F1, M1⟩
    refine ⟨rfl, ⟨⟨_, _, F1.mono (by omega), ?_, fun i hi => ?_⟩, h.nobM M1.size⟩, M1⟩
    · simp only [takeK, e]
      exact hT.kept M1
    · simp only [takeO, e]
      by_cases hip : i = p
      · subst hip
        simp
        exact ((hO i hi).kept M1).out own
      · simp [hip]
        exact (hO i hi).kept M1
  · rw [e] at hnw ⊢
    refine (take_pos B m k kn ow p own seq a n cap es w hF hr hp ho hm hnil hk hf hnw).mono ?_
    rintro e1 w1 ⟨rfl, s, T⟩
    have hs : TieS w1 m own (seq, es) s := ⟨T.so, T.ss, T.sn, T.so2, T.nil, hf, fun j hj => by
      have h1 := (T.new j hj).1
      exact ⟨fun e => by have := hF.mlt m.bm (.inl rfl); omega, fun e => by have := hF.mlt j (.inr e); omega, fun e => by have := h.nob j e; omega⟩⟩
    refine ⟨rfl, ⟨⟨_, _, T.fb, ?_, fun i hi => ?_⟩, h.nobM T.kept.size⟩, T.kept⟩
    · simp only [takeK, e]
      exact (hT.kept T.kept).put hs
    · simp only [takeO, e]
      by_cases hip : i = p
      · subst hip
        simp
        exact (((hO i hi).kept T.kept).put hs).out own
      · simp [hip, hi]
        exact ((hO i hi).kept T.kept).put hs
end Go.Proofs.Ytgfjgenkpfdofaa
