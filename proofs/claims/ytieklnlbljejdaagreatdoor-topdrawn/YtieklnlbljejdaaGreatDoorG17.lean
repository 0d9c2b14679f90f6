/-
  FloodBase FloodBase2 FloodRead FloodTwo FloodSix
-/
import Derived.Test.YtieklnlbljejdaaGreatDoorG00
import Derived.Test.YtieklnlbljejdaaGreatDoorG09
import Derived.Test.YtieklnlbljejdaaGreatDoorG13
import Derived.Test.YtieklnlbljejdaaGreatDoorG14
import Derived.Test.YtieklnlbljejdaaGreatDoorG15
import Derived.Test.YtieklnlbljejdaaGreatDoorG16
import Derived.BigQuiet
namespace Go.Proofs.YtieklnlbljejdaaGreatDoor
open Go.RowKit St
abbrev PS := Int × List Opt
structure TieS (w : World) (m : FM) (k : Int) (q : PS) (s : SV) : Prop where
 own : s.own = k
 seq : s.seq = q.1
 n : s.n = q.2.length
 opt : OptR w s.a s.n q.2
 nil : NilOk s.a s.cap
 ok : stF k q.1 q.2 = 0
 lt : ∀ j, Value.ownBlock (.slice s.a s.n s.cap) = some j → j < w.heap.size
 far : ∀ j, Value.ownBlock (.slice s.a s.n s.cap) = some j → j ≠ m.bm ∧ j ∉ m.bs ∧ ¬ m.no j
def Tie (w : World) (m : FM) (f : Int → Option SV) (F : Int → Option PS) : Prop := ∀ k, inR k → match F k with
 | none => f k = none
 | some q => ∃ s, f k = some s ∧ TieS w m k q s
theorem TieS.kept {w w' : World} {m : FM} {k : Int} {q : PS} {s : SV} (h : TieS w m k q s) (hk : KeptM w w' m) : TieS w' m k q s := ⟨h.own, h.seq, h.n, h.opt.keptM (cap := s.cap) hk (fun j hj => ⟨(h.far j hj).1, (h.far j hj).2.1⟩), h.nil, h.ok, fun j hj => Nat.lt_of_lt_of_le (h.lt j hj) hk.size, h.far⟩
theorem Tie.kept {w w' : World} {m : FM} {f : Int → Option SV} {F : Int → Option PS} (h : Tie w m f F) (hk : KeptM w w' m) : Tie w' m f F := by
 intro k hr
 have := h k hr
 cases e : F k with
 | none => rw [e] at this; exact this
 | some q => rw [e] at this; obtain ⟨s, h1, h2⟩ := this; exact ⟨s, h1, h2.kept hk⟩
theorem Tie.at_none {w : World} {m : FM} {f : Int → Option SV} {F : Int → Option PS} (h : Tie w m f F) {k : Int} (hr : inR k) (e : F k = none) : f k = none := by have := h k hr; rw [e] at this; exact this
theorem Tie.at_some {w : World} {m : FM} {f : Int → Option SV} {F : Int → Option PS} (h : Tie w m f F) {k : Int} (hr : inR k) {q : PS} (e : F k = some q) : ∃ s, f k = some s ∧ TieS w m k q s := by have := h k hr; rw [e] at this; exact this
def updF (F : Int → Option PS) (k : Int) (q : PS) : Int → Option PS := fun x => if x = k then some q else F x
def delF (F : Int → Option PS) (k : Int) : Int → Option PS := fun x => if x = k then none else F x
theorem Tie.put {w : World} {m : FM} {f : Int → Option SV} {F : Int → Option PS} (h : Tie w m f F) {k : Int} {q : PS} {s : SV} (hs : TieS w m k q s) : Tie w m (upd f k s) (updF F k q) := by
 intro x hr
 by_cases e : x = k
 · subst e
   simp only [updF, upd, if_true]
   exact ⟨s, rfl, hs⟩
 · have := h x hr
   simp only [updF, upd, if_neg e]
   exact this
theorem Tie.out {w : World} {m : FM} {f : Int → Option SV} {F : Int → Option PS} (h : Tie w m f F) (k : Int) : Tie w m (del f k) (delF F k) := by
 intro x hr
 by_cases e : x = k
 · subst e
   simp only [delF, del, if_true]
 · have := h x hr
   simp only [delF, del, if_neg e]
   exact this
structure BR (w : World) (B : Nat) (m : FM) (n : Nat) (K : Int → Option PS) (O : Nat → Int → Option PS) : Prop where
 ex : ∃ kn ow, FB w B m n kn ow ∧ Tie w m kn K ∧ ∀ i, i < m.bs.length → Tie w m (ow i) (O i)
 nob : ∀ j, m.no j → j < w.heap.size
theorem BR.nobM {w w' : World} {B : Nat} {m : FM} {n : Nat} {K : Int → Option PS} {O : Nat → Int → Option PS} (h : BR w B m n K O) (hs : w.heap.size ≤ w'.heap.size) : ∀ j, m.no j → j < w'.heap.size := fun j hj => Nat.lt_of_lt_of_le (h.nob j hj) hs
def newF (K : Int → Option PS) (own seq : Int) (es : List Opt) : Int := match K own with | none => 1 | some q => newS seq es q.1 q.2
theorem newer_base (B : Nat) (m : FM) (k : Nat) (kn : Int → Option SV) (ow : Nat → Int → Option SV) (K : Int → Option PS) (own seq : Int) (a : Option Addr) (n cap : Nat) (es : List Opt) (w : World) (h : FB w B m k kn ow) (ht : Tie w m kn K) (hr : inR own) (ho : OptR w a n es) (hn : n ≤ 1000000) :
 Calls Tryz.prog 217 #[.pointer (some ⟨B, 0, none⟩), .agg #[.int .i64 own, .int .i64 seq, .slice a n cap]] w fun e w' => e = .returned (.int .i64 (newF K own seq es)) ∧ Below w.heap.size w w' := by
 cases e : K own with
 | none =>
   have hv : newF K own seq es = 1 := by rw [newF, e]
   rw [hv]
   exact newer_none B m k kn ow own seq a n cap w h hr (ht.at_none hr e)
 | some q =>
   obtain ⟨s, h1, h2⟩ := ht.at_some hr e
   have hv : newF K own seq es = newS seq es s.seq q.2 := by rw [newF, e, h2.seq]
   rw [hv]
   exact newer_some B m k kn ow own seq a n cap es s q.2 w h hr h1 ho hn h2.opt
def takeK (K : Int → Option PS) (own seq : Int) (es : List Opt) : Int → Option PS := if 0 < newF K own seq es then updF K own (seq, es) else K
def takeO (K : Int → Option PS) (O : Nat → Int → Option PS) (p : Nat) (own seq : Int) (es : List Opt) : Nat → Int → Option PS := fun i =>
 if 0 < newF K own seq es then (if i = p then delF (updF (O p) own (seq, es)) own else updF (O i) own (seq, es))
 else if newF K own seq es < 0 then (if i = p then (match K own with | none => O p | some q => updF (O p) own q) else O i)
 else (if i = p then delF (O p) own else O i)
theorem newF_range (K : Int → Option PS) (own seq : Int) (es : List Opt) (h : ∀ q : PS, newS seq es q.1 q.2 = -1 ∨ newS seq es q.1 q.2 = 0 ∨ newS seq es q.1 q.2 = 1) : newF K own seq es = -1 ∨ newF K own seq es = 0 ∨ newF K own seq es = 1 := by
 unfold newF
 cases K own with
 | none => exact .inr (.inr rfl)
 | some q => exact h q
theorem take_base (B : Nat) (m : FM) (k : Nat) (K : Int → Option PS) (O : Nat → Int → Option PS) (p : Nat) (own seq : Int) (a : Option Addr) (n cap : Nat) (es : List Opt) (w : World) (h : BR w B m k K O) (hr : inR own) (hp : p < m.bs.length) (ho : OptR w a n es) (hnil : NilOk a cap) (hk : k ≤ 1000000) (hf : stF own seq es = 0)
 (hS : ∀ q : PS, newS seq es q.1 q.2 = -1 ∨ newS seq es q.1 q.2 = 0 ∨ newS seq es q.1 q.2 = 1) :
 Calls Tryz.prog 190 #[.pointer (some ⟨B, 0, none⟩), .int .i64 (p : Int), .agg #[.int .i64 own, .int .i64 seq, .slice a n cap]] w fun e w' => e = .returned (.tuple #[.int .i64 (newF K own seq es), .nilIface]) ∧ BR w' B m (k + 1 + m.bs.length) (takeK K own seq es) (takeO K O p own seq es) ∧ KeptM w w' m := by
 obtain ⟨kn, ow, hF, hT, hO⟩ := h.ex
 have hn : n ≤ 6 := by have := (stF_zero hf).2.2.1; rw [ho.1] at this; exact this
 have hm : n ≤ maxLen := by unfold maxLen; omega
 have hnw : ∀ W, Below w.heap.size w W → Calls Tryz.prog 217 #[.pointer (some ⟨B, 0, none⟩), .agg #[.int .i64 own, .int .i64 seq, .slice a n cap]] W fun e w' => e = .returned (.int .i64 (newF K own seq es)) ∧ Below W.heap.size W w' := fun W hb =>
  newer_base B m k kn ow K own seq a n cap es W (hF.below hb) (hT.kept (KeptM.of_below m hb)) hr (ho.below hb) (by omega)
 rcases newF_range K own seq es hS with e | e | e
 · rw [e] at hnw ⊢
   cases eK : K own with
   | none => rw [newF, eK] at e; cases e
   | some q =>
     obtain ⟨s, h1, h2⟩ := hT.at_some hr eK
     refine (take_neg B m k kn ow p own seq a n cap es w hF hr hp ho hm hf s h1 hk hnw).mono ?_
     rintro e1 w1 ⟨rfl, F1, M1⟩
     refine ⟨rfl, ⟨⟨_, _, F1.mono (by omega), ?_, fun i hi => ?_⟩, h.nobM M1.size⟩, M1⟩
     · simp only [takeK, e]
       exact hT.kept M1
     · simp only [takeO, e, eK]
       by_cases hip : i = p
       · subst hip
         simp
         exact ((hO i hi).kept M1).put (h2.kept M1)
       · simp [hip]
         exact (hO i hi).kept M1
 · rw [e] at hnw ⊢
   refine (take_zero B m k kn ow p own seq a n cap es w hF hr hp ho hm hf hnw).mono ?_
   rintro e1 w1 ⟨rfl, F1, M1⟩
   refine ⟨rfl, ⟨⟨_, _, F1.mono (by omega), ?_, fun i hi => ?_⟩, h.nobM M1.size⟩, M1⟩
   · simp only [takeK, e]
     exact hT.kept M1
   · simp only [takeO, e]
     by_cases hip : i = p
     · subst hip
       simp
       exact ((hO i hi).kept M1).out own
     · simp [hip]
       exact (hO i hi).kept M1
 · rw [e] at hnw ⊢
   refine (take_pos B m k kn ow p own seq a n cap es w hF hr hp ho hm hnil hk hf hnw).mono ?_
   rintro e1 w1 ⟨rfl, s, T⟩
   have hs : TieS w1 m own (seq, es) s := ⟨T.so, T.ss, T.sn, T.so2, T.nil, hf, fun j hj => (T.new j hj).2, fun j hj => by
    have h1 := (T.new j hj).1
    exact ⟨fun e => by have := hF.mlt m.bm (.inl rfl); omega, fun e => by have := hF.mlt j (.inr e); omega, fun e => by have := h.nob j e; omega⟩⟩
   refine ⟨rfl, ⟨⟨_, _, T.fb, ?_, fun i hi => ?_⟩, h.nobM T.kept.size⟩, T.kept⟩
   · simp only [takeK, e]
     exact (hT.kept T.kept).put hs
   · simp only [takeO, e]
     by_cases hip : i = p
     · subst hip
       simp
       exact (((hO i hi).kept T.kept).put hs).out own
     · simp [hip, hi]
       exact ((hO i hi).kept T.kept).put hs
end Go.Proofs.YtieklnlbljejdaaGreatDoor

namespace Go.Proofs.YtieklnlbljejdaaGreatDoor
open Go.RowKit St
def overF (F G : Int → Option PS) : Int → Option PS := fun k => if (G k).isSome = true then G k else F k
theorem Tie.over {w : World} {m : FM} {f g : Int → Option SV} {F G : Int → Option PS} (h : Tie w m f F) (hg : Tie w m g G) : Tie w m (Go.Proofs.YtieklnlbljejdaaGreatDoor.over f g) (overF F G) := by
 intro k hr
 have h1 := h k hr
 have h2 := hg k hr
 cases e : G k with
 | none =>
   rw [e] at h2
   have e1 : overF F G k = F k := by simp [overF, e]
   have e2 : Go.Proofs.YtieklnlbljejdaaGreatDoor.over f g k = f k := by simp [Go.Proofs.YtieklnlbljejdaaGreatDoor.over, h2]
   rw [e1, e2]
   exact h1
 | some q =>
   rw [e] at h2
   obtain ⟨s, h3, h4⟩ := h2
   have e1 : overF F G k = some q := by simp [overF, e]
   have e2 : Go.Proofs.YtieklnlbljejdaaGreatDoor.over f g k = some s := by simp [Go.Proofs.YtieklnlbljejdaaGreatDoor.over, h3]
   rw [e1, e2]
   exact ⟨s, rfl, h4⟩
theorem part_base (B : Nat) (m : FM) (k : Nat) (K : Int → Option PS) (O : Nat → Int → Option PS) (p : Nat) (w : World) (h : BR w B m k K O) (hp : p < m.bs.length) :
 Calls Tryz.prog 124 #[.pointer (some ⟨B, 0, none⟩), .int .i64 (p : Int)] w fun e w' => e = .returned (.tuple #[]) ∧ BR w' B m k K (fun i => if i = p then fun _ => none else O i) ∧ KeptM w w' m := by
 obtain ⟨kn, ow, hF, hT, hO⟩ := h.ex
 refine (part_yes B m k kn ow p w hF hp).mono ?_
 rintro e w1 ⟨rfl, F1, M1⟩
 refine ⟨rfl, ⟨⟨_, _, F1, hT.kept M1, fun i hi => ?_⟩, h.nobM M1.size⟩, M1⟩
 by_cases hip : i = p
 · simp only [if_pos hip]
   exact fun _ _ => rfl
 · simp only [if_neg hip]
   exact (hO i hi).kept M1
theorem meet_base (B : Nat) (m : FM) (k : Nat) (K : Int → Option PS) (O : Nat → Int → Option PS) (p : Nat) (w : World) (h : BR w B m k K O) (hp : p < m.bs.length) (hk : k ≤ 1000000) :
 Calls Tryz.prog 126 #[.pointer (some ⟨B, 0, none⟩), .int .i64 (p : Int)] w fun e w' => e = .returned .nilIface ∧ BR w' B m (k + k) K (fun i => if i = p then overF (O p) K else O i) ∧ KeptM w w' m := by
 obtain ⟨kn, ow, hF, hT, hO⟩ := h.ex
 refine (meet_yes B m k kn ow p w hF hp hk).mono ?_
 rintro e w1 ⟨rfl, F1, M1⟩
 refine ⟨rfl, ⟨⟨_, _, F1, hT.kept M1, fun i hi => ?_⟩, h.nobM M1.size⟩, M1⟩
 by_cases hip : i = p
 · subst hip
   simp only [if_true]
   exact ((hO i hi).kept M1).over (hT.kept M1)
 · simp only [if_neg hip]
   exact (hO i hi).kept M1
theorem set_base (B : Nat) (m : FM) (k : Nat) (K : Int → Option PS) (O : Nat → Int → Option PS) (own seq : Int) (a : Option Addr) (n cap : Nat) (es : List Opt) (w : World) (h : BR w B m k K O) (hr : inR own) (ho : OptR w a n es) (hnil : NilOk a cap) (hk : k ≤ 1000000) (hf : stF own seq es = 0) :
 Calls Tryz.prog 67 #[.pointer (some ⟨B, 0, none⟩), .agg #[.int .i64 own, .int .i64 seq, .slice a n cap]] w fun e w' => e = .returned .nilIface ∧ BR w' B m (k + 1 + m.bs.length) (updF K own (seq, es)) (fun i => updF (O i) own (seq, es)) ∧ KeptM w w' m := by
 obtain ⟨kn, ow, hF, hT, hO⟩ := h.ex
 refine (set_ok B m k kn ow own seq a n cap es w hF hr ho hnil hk hf).mono ?_
 rintro e w1 ⟨rfl, s, T⟩
 have hs : TieS w1 m own (seq, es) s := ⟨T.so, T.ss, T.sn, T.so2, T.nil, hf, fun j hj => (T.new j hj).2, fun j hj => by
  have h1 := (T.new j hj).1
  exact ⟨fun e => by have := hF.mlt m.bm (.inl rfl); omega, fun e => by have := hF.mlt j (.inr e); omega, fun e => by have := h.nob j e; omega⟩⟩
 refine ⟨rfl, ⟨⟨_, _, T.fb, (hT.kept T.kept).put hs, fun i hi => ?_⟩, h.nobM T.kept.size⟩, T.kept⟩
 simp only [if_pos hi]
 exact ((hO i hi).kept T.kept).put hs
theorem heard_base (B : Nat) (m : FM) (k : Nat) (K : Int → Option PS) (O : Nat → Int → Option PS) (p : Nat) (own seq : Int) (a : Option Addr) (n cap : Nat) (es : List Opt) (w : World) (h : BR w B m k K O) (hr : inR own) (hp : p < m.bs.length) (ho : OptR w a n es) (hf : stF own seq es = 0)
 (hS : ∀ q : PS, newS seq es q.1 q.2 = -1 ∨ newS seq es q.1 q.2 = 0 ∨ newS seq es q.1 q.2 = 1) :
 Calls Tryz.prog 191 #[.pointer (some ⟨B, 0, none⟩), .int .i64 (p : Int), .agg #[.int .i64 own, .int .i64 seq, .slice a n cap]] w fun e w' => e = .returned .nilIface ∧ BR w' B m k K (fun i => if i = p ∧ 0 ≤ newF K own seq es then delF (O p) own else O i) ∧ KeptM w w' m := by
 obtain ⟨kn, ow, hF, hT, hO⟩ := h.ex
 have hn : n ≤ 6 := by have := (stF_zero hf).2.2.1; rw [ho.1] at this; exact this
 have hm : n ≤ maxLen := by unfold maxLen; omega
 have hnw : ∀ W, Below w.heap.size w W → Calls Tryz.prog 217 #[.pointer (some ⟨B, 0, none⟩), .agg #[.int .i64 own, .int .i64 seq, .slice a n cap]] W fun e w' => e = .returned (.int .i64 (newF K own seq es)) ∧ Below W.heap.size W w' := fun W hb =>
  newer_base B m k kn ow K own seq a n cap es W (hF.below hb) (hT.kept (KeptM.of_below m hb)) hr (ho.below hb) (by omega)
 have key : ∀ w1, FB w1 B m k kn (fun i => if i = p then del (ow p) own else ow i) → KeptM w w1 m → 0 ≤ newF K own seq es → BR w1 B m k K (fun i => if i = p ∧ 0 ≤ newF K own seq es then delF (O p) own else O i) := by
  intro w1 F1 M1 h0
  refine ⟨⟨_, _, F1, hT.kept M1, fun i hi => ?_⟩, h.nobM M1.size⟩
  by_cases hip : i = p
  · subst hip
    simp only [if_true, h0, and_self]
    exact ((hO i hi).kept M1).out own
  · simp only [hip, if_false, false_and]
    exact (hO i hi).kept M1
 rcases newF_range K own seq es hS with e | e | e
 · rw [e] at hnw
   refine (heard_neg B m k kn ow p own seq a n cap es w hF hp ho hm hf hnw).mono ?_
   rintro e1 w1 ⟨rfl, b1⟩
   have M1 := KeptM.of_below m b1
   refine ⟨rfl, ⟨⟨_, _, hF.below b1, hT.kept M1, fun i hi => ?_⟩, h.nobM M1.size⟩, M1⟩
   have : ¬ (i = p ∧ 0 ≤ newF K own seq es) := by rw [e]; omega
   simp only [if_neg this]
   exact (hO i hi).kept M1
 · rw [e] at hnw
   refine (heard_zero B m k kn ow p own seq a n cap es w hF hr hp ho hm hf hnw).mono ?_
   rintro e1 w1 ⟨rfl, F1, M1⟩
   exact ⟨rfl, key w1 F1 M1 (by omega), M1⟩
 · rw [e] at hnw
   refine (heard_pos B m k kn ow p own seq a n cap es w hF hr hp ho hm hf hnw).mono ?_
   rintro e1 w1 ⟨rfl, F1, M1⟩
   exact ⟨rfl, key w1 F1 M1 (by omega), M1⟩
theorem new_base (p : Nat) (w : World) (hp : 1 ≤ p ∧ p ≤ 3) :
 Calls Tryz.prog 66 #[.int .i64 (p : Int)] w fun e w' => e = .returned (.tuple #[.pointer (some ⟨w.heap.size + 1, 0, none⟩), .nilIface]) ∧ ∃ m : FM, m.bs.length = p ∧ BR w' (w.heap.size + 1) m 0 (fun _ => none) (fun _ _ => none) ∧ Below w.heap.size w w' ∧ w.heap.size ≤ m.bm ∧ w.heap.size ≤ m.g ∧ (∀ b ∈ m.bs, w.heap.size ≤ b) := by
 refine (new_ok p w hp).mono ?_
 rintro e w1 ⟨rfl, v, bs, hN, hl⟩
 rcases hN.row.2 with ⟨_, e⟩ | ⟨g, cap, e, _⟩
 · omega
 · obtain ⟨g2, cap2, hF⟩ := hN.fb (by omega) (by omega)
   refine ⟨rfl, _, hl, ⟨⟨_, _, hF, fun _ _ => rfl, fun _ _ _ _ => rfl⟩, fun _ h => h.elim⟩, hN.bel, Nat.le_refl _, ?_, fun b hb => ?_⟩
   · have h1 := hF.blk
     rw [hN.blk] at h1
     have h2 : v = FM.sl { bm := w.heap.size, g := g2, cap := cap2, bs := bs } := by simpa using h1
     have := hN.own g2 (by rw [h2]; rfl)
     show w.heap.size ≤ g2
     omega
   · have := hN.ge b hb
     omega
def esOf (F : Int → Option PS) : Int → List Opt := fun k => ((F k).map (·.2)).getD []
theorem Tie.fine {w : World} {m : FM} {f : Int → Option SV} {F : Int → Option PS} (h : Tie w m f F) : Fine w f (esOf F) := by
 intro k s hr hs
 cases e : F k with
 | none => rw [h.at_none hr e] at hs; cases hs
 | some q =>
   obtain ⟨t, h1, h2⟩ := h.at_some hr e
   rw [hs] at h1
   obtain rfl := Option.some.inj h1
   have h3 := stF_zero h2.ok
   have h4 : esOf F k = q.2 := by simp [esOf, e]
   rw [h4]
   exact ⟨h3.1, h2.own, h2.opt, h2.nil, by have := h3.2.2.1; have := h2.n; omega⟩
end Go.Proofs.YtieklnlbljejdaaGreatDoor

namespace Go.Proofs.YtieklnlbljejdaaGreatDoor
open Go.RowKit St
structure Lists (F : Int → Option PS) (n : Nat) (S : Nat → SV) (E : Nat → List Opt) : Prop where
 at_ : ∀ j, j < n → inR (S j).own ∧ F (S j).own = some ((S j).seq, E j)
 ok : ∀ j, j < n → stF (S j).own (S j).seq (E j) = 0
 all : ∀ k, inR k → (F k).isSome = true → ∃ j, j < n ∧ (S j).own = k
 ris : ∀ i j, i < j → j < n → (S i).own < (S j).own
theorem svGet (ts : List SV) (j : Nat) (h : j < ts.length) : ts[j]? = some (ts.getD j SV.zero) := by
 rw [List.getD_eq_getElem?_getD, List.getElem?_eq_getElem h]
 rfl
theorem Risen.lists {w w' : World} {m : FM} {f : Int → Option SV} {F : Int → Option PS} {v : Value} {ts : List SV} (hR : Risen w w' f (esOf F) v ts) (hT : Tie w m f F) :
 ∃ a cap, v = .slice a ts.length cap ∧ StsR w' a ts.length (fun j => ts.getD j SV.zero) (fun j => esOf F (ts.getD j SV.zero).own) ∧ Lists F ts.length (fun j => ts.getD j SV.zero) (fun j => esOf F (ts.getD j SV.zero).own) ∧ ts.length ≤ 6 ∧ (∀ j, Value.ownBlock v = some j → w.heap.size < j) := by
 have hel : ∀ j, j < ts.length → ElOk w w' f (esOf F) v (ts.getD j SV.zero) := fun j hj => hR.el _ (List.mem_of_getElem? (svGet ts j hj))
 have hat : ∀ j, j < ts.length → ∃ q, F (ts.getD j SV.zero).own = some q ∧ q.1 = (ts.getD j SV.zero).seq ∧ q.2 = esOf F (ts.getD j SV.zero).own ∧ stF (ts.getD j SV.zero).own q.1 q.2 = 0 := by
  intro j hj
  have h := hel j hj
  obtain ⟨t, ht, hs⟩ := h.at_
  cases e : F (ts.getD j SV.zero).own with
  | none => rw [hT.at_none h.inr e] at ht; cases ht
  | some q =>
    obtain ⟨t2, h2, h3⟩ := hT.at_some h.inr e
    rw [ht] at h2
    obtain rfl := Option.some.inj h2
    exact ⟨q, rfl, by rw [hs, h3.seq], by unfold esOf; rw [e]; rfl, h3.ok⟩
 have hL : Lists F ts.length (fun j => ts.getD j SV.zero) (fun j => esOf F (ts.getD j SV.zero).own) := by
  refine ⟨fun j hj => ?_, fun j hj => ?_, fun k hk hs => ?_, fun i j hij hj => ?_⟩
  · obtain ⟨q, h1, h2, h3, h4⟩ := hat j hj
    refine ⟨(hel j hj).inr, ?_⟩
    rw [h1, ← h2, ← h3]
  · obtain ⟨q, h1, h2, h3, h4⟩ := hat j hj
    rw [← h2, ← h3]
    exact h4
  · cases e : F k with
    | none => rw [e] at hs; cases hs
    | some q =>
      obtain ⟨t, ht, _⟩ := hT.at_some hk e
      obtain ⟨s, hm, hs2⟩ := hR.all k hk (by rw [ht]; rfl)
      obtain ⟨j, hj, hjs⟩ := List.getElem_of_mem hm
      refine ⟨j, hj, ?_⟩
      have : ts.getD j SV.zero = s := by rw [List.getD_eq_getElem?_getD, List.getElem?_eq_getElem hj]; exact hjs
      show (ts.getD j SV.zero).own = k
      rw [this]
      exact hs2
  · have hp := hR.ris
    have hi : i < ts.length := by omega
    have := List.pairwise_iff_getElem.1 hp i j hi hj hij
    have e1 : ts.getD i SV.zero = ts[i] := by rw [List.getD_eq_getElem?_getD, List.getElem?_eq_getElem hi]; rfl
    have e2 : ts.getD j SV.zero = ts[j] := by rw [List.getD_eq_getElem?_getD, List.getElem?_eq_getElem hj]; rfl
    show (ts.getD i SV.zero).own < (ts.getD j SV.zero).own
    rw [e1, e2]
    exact this
 have h6 : ts.length ≤ 6 := by
  have := len_of_sub (ts.map SV.own) [1, 2, 3, 4, 5, 6] (by rw [List.pairwise_map]; exact hR.ris.imp (fun h => by omega)) (fun x hx => by
   obtain ⟨s, hs, rfl⟩ := List.mem_map.1 hx
   obtain ⟨j, hj, rfl⟩ := List.getElem_of_mem hs
   have := stF_zero (hL.ok j hj)
   have e1 : ts.getD j SV.zero = ts[j] := by rw [List.getD_eq_getElem?_getD, List.getElem?_eq_getElem hj]; rfl
   have h1 := this.1
   rw [e1] at h1
   simp
   omega)
  simpa using this
 have hO : ∀ j, j < ts.length → OptR w' (ts.getD j SV.zero).a (ts.getD j SV.zero).n (esOf F (ts.getD j SV.zero).own) ∧ NilOk (ts.getD j SV.zero).a (ts.getD j SV.zero).cap ∧ (ts.getD j SV.zero).n ≤ maxLen := by
  intro j hj
  have h := hel j hj
  refine ⟨h.opt, h.nil, ?_⟩
  have := (stF_zero (hL.ok j hj)).2.2.1
  rw [h.n]
  unfold maxLen
  omega
 rcases hR.shape with ⟨rfl, rfl⟩ | ⟨g, cap, rfl, hS, hg⟩
 · exact ⟨none, 0, rfl, ⟨.inl rfl, fun j hj => by simp at hj⟩, hL, h6, fun j hj => by simp [Value.ownBlock] at hj⟩
 · refine ⟨_, _, rfl, ⟨.inr ⟨g, 0, rfl, fun j hj => ?_⟩, hO⟩, hL, h6, fun j hj => ?_⟩
   · obtain ⟨c1, c2, c3⟩ := hS.cell j _ (svGet ts j hj)
     rw [show 0 + j * 3 = j * 3 by omega]
     exact ⟨c1, c2, c3⟩
   · have : g = j := by simpa [Value.ownBlock] using hj
     omega
theorem BR.below {w w' : World} {B : Nat} {m : FM} {k : Nat} {K : Int → Option PS} {O : Nat → Int → Option PS} (h : BR w B m k K O) (hb : Below w.heap.size w w') : BR w' B m k K O := by
 obtain ⟨kn, ow, h1, h2, h3⟩ := h.ex
 exact ⟨⟨kn, ow, h1.below hb, h2.kept (KeptM.of_below m hb), fun i hi => (h3 i hi).kept (KeptM.of_below m hb)⟩, h.nobM hb.size⟩
theorem states_base (B : Nat) (m : FM) (k : Nat) (K : Int → Option PS) (O : Nat → Int → Option PS) (w : World) (h : BR w B m k K O) :
 Calls Tryz.prog 110 #[.pointer (some ⟨B, 0, none⟩)] w fun e w' => ∃ a n cap S E, e = .returned (.slice a n cap) ∧ StsR w' a n S E ∧ Lists K n S E ∧ n ≤ 6 ∧ (∀ j, Value.ownBlock (.slice a n cap) = some j → w.heap.size < j) ∧ Below w.heap.size w w' := by
 obtain ⟨kn, ow, hF, hT, hO⟩ := h.ex
 refine (states_any B m k kn ow (esOf K) w hF hT.fine).mono ?_
 rintro e w1 ⟨v, ts, rfl, hR⟩
 obtain ⟨a, cap, rfl, h1, h2, h3, h4⟩ := hR.lists hT
 exact ⟨a, _, cap, _, _, rfl, h1, h2, h3, h4, hR.bel⟩
def ownOf (K : Int → Option PS) (i : Int) : Int := match K i with | none => 0 | some _ => i
def seqAt (K : Int → Option PS) (i : Int) : Int := match K i with | none => 0 | some q => q.1
theorem get_base (B : Nat) (m : FM) (k : Nat) (K : Int → Option PS) (O : Nat → Int → Option PS) (i : Int) (w : World) (h : BR w B m k K O) (hr : inR i) :
 Calls Tryz.prog 177 #[.pointer (some ⟨B, 0, none⟩), .int .i64 i] w fun e w' => ∃ a cap, e = .returned (.tuple #[.agg #[.int .i64 (ownOf K i), .int .i64 (seqAt K i), .slice a (esOf K i).length cap], .bool (K i).isSome]) ∧ OptR w' a (esOf K i).length (esOf K i) ∧ NilOk a cap ∧ (esOf K i).length ≤ 6 ∧ Below w.heap.size w w' := by
 obtain ⟨kn, ow, hF, hT, hO⟩ := h.ex
 cases e : K i with
 | none =>
   have hk := hT.at_none hr e
   refine (get_any B m k kn ow i SV.zero false [] w hF hr (by rw [hk]; rfl) (by rw [hk]; rfl) ⟨rfl, .inl rfl⟩ (by decide) (fun _ => rfl)).mono ?_
   rintro e1 w1 ⟨a, cap, rfl, h1, h2, h3⟩
   have e1 : esOf K i = [] := by simp [esOf, e]
   have e2 : ownOf K i = 0 := by simp [ownOf, e]
   have e3 : seqAt K i = 0 := by simp [seqAt, e]
   rw [e1, e2, e3]
   exact ⟨a, cap, rfl, h1, h2, by simp, h3⟩
 | some q =>
   obtain ⟨s, hs, hq⟩ := hT.at_some hr e
   have h6 := (stF_zero hq.ok).2.2.1
   refine (get_any B m k kn ow i s true q.2 w hF hr (by rw [hs]; rfl) (by rw [hs]; rfl) hq.opt (by rw [hq.n]; omega) hq.nil).mono ?_
   rintro e1 w1 ⟨a, cap, rfl, h1, h2, h3⟩
   have e1 : esOf K i = q.2 := by simp [esOf, e]
   have e2 : ownOf K i = s.own := by simp [ownOf, e, hq.own]
   have e3 : seqAt K i = s.seq := by simp [seqAt, e, hq.seq]
   rw [e1, e2, e3]
   exact ⟨a, cap, rfl, h1, h2, h6, h3⟩
end Go.Proofs.YtieklnlbljejdaaGreatDoor

namespace Go.Proofs.YtieklnlbljejdaaGreatDoor
open Go.RowKit St
theorem SMap.obj {w : World} {b n : Nat} {f : Int → Option SV} (h : SMap w b n f) : ∃ es cl, w.heap[b]? = some (.map es cl) := by
 obtain ⟨D, ⟨es, cl, h1, _⟩, _⟩ := h.own
 exact ⟨es, cl, h1⟩
theorem cells_not_map {w : World} {b g : Nat} {c : Array Value} {t : TypeId} {fr : Nat × Nat} (hc : w.heap[g]? = some (.cells c t fr)) (hm : ∃ es cl, w.heap[b]? = some (.map es cl)) : g ≠ b := by
 obtain ⟨es, cl, hm⟩ := hm
 rintro rfl
 rw [hc] at hm
 cases hm
theorem cell_not_map {w : World} {b : Nat} {p : Addr} {v : Value} (hc : w.cell? p = some v) (hm : ∃ es cl, w.heap[b]? = some (.map es cl)) : p.block ≠ b := by
 obtain ⟨es, cl, hm⟩ := hm
 rintro rfl
 unfold World.cell? at hc
 rw [hm] at hc
 cases hc
theorem BR.maps {w : World} {B : Nat} {m : FM} {k : Nat} {K : Int → Option PS} {O : Nat → Int → Option PS} (h : BR w B m k K O) : ∀ b, (b = m.bm ∨ b ∈ m.bs) → ∃ es cl, w.heap[b]? = some (.map es cl) := by
 obtain ⟨kn, ow, h1, _, _⟩ := h.ex
 intro b hb
 rcases hb with rfl | hb
 · exact h1.km.obj
 · obtain ⟨i, hi, rfl⟩ := List.getElem_of_mem hb
   exact (h1.om i _ (List.getElem?_eq_getElem hi)).obj
theorem BR.mlt {w : World} {B : Nat} {m : FM} {k : Nat} {K : Int → Option PS} {O : Nat → Int → Option PS} (h : BR w B m k K O) : ∀ b, (b = m.bm ∨ b ∈ m.bs) → b < w.heap.size := by
 intro b hb
 obtain ⟨es, cl, h1⟩ := h.maps b hb
 exact (Array.getElem?_eq_some_iff.1 h1).1
theorem KeptM.cell {w w' : World} {B : Nat} {m : FM} {k : Nat} {K : Int → Option PS} {O : Nat → Int → Option PS} (hk : KeptM w w' m) (h : BR w B m k K O) {p : Addr} {v : Value} (hc : w.cell? p = some v) : w'.cell? p = some v := by
 rw [World.cell?_of_block (w := w) (hk.block p.block (World.block_lt_of_cell? w _ hc) (cell_not_map hc (h.maps _ (.inl rfl))) (fun e => cell_not_map hc (h.maps _ (.inr e)) rfl))]
 exact hc
theorem OptR.two {w w' : World} {B : Nat} {m : FM} {k : Nat} {K : Int → Option PS} {O : Nat → Int → Option PS} {a : Option Addr} {n : Nat} {es : List Opt} (h : OptR w a n es) (hk : KeptM w w' m) (hb : BR w B m k K O) : OptR w' a n es := by
 refine ⟨h.1, ?_⟩
 rcases h.2 with h2 | ⟨b, off, rfl, h2⟩
 · exact .inl h2
 · exact .inr ⟨b, off, rfl, fun j hj => ⟨hk.cell hb (h2 j hj).1, hk.cell hb (h2 j hj).2⟩⟩
end Go.Proofs.YtieklnlbljejdaaGreatDoor

namespace Go.Proofs.YtieklnlbljejdaaGreatDoor
open Go.RowKit St
open Go.ChangeMaps Go.MapKept
def zOf : Value → Int
 | .int _ z => z
 | _ => 0
theorem SMap.few6 {w : World} {b n : Nat} {f : Int → Option SV} (h : SMap w b n f) (hf : ∀ k, inR k → (f k).isSome = true → 1 ≤ k ∧ k ≤ 6) : SMap w b 6 f := by
 obtain ⟨D, ⟨es, clock, hb, F, hs, hD⟩, hat⟩ := h.own
 refine ⟨⟨D, ⟨es, clock, hb, F, ?_, hD⟩, hat⟩⟩
 have hkey : ∀ x ∈ es.toList, ∃ z : Int, x.key = .int .i64 z ∧ 1 ≤ z ∧ z ≤ 6 := by
  intro x hx
  obtain ⟨y, hy⟩ := F.reads x hx
  have hk := WideElems.rd_key hy
  obtain ⟨z, hz, hl, hwf⟩ := Maps.keyOf_int_inv Tryz.underlying3 hk
  have hr := inR_of_wf hwf
  refine ⟨z, hz, hf z hr ?_⟩
  cases e : f z with
  | some _ => rfl
  | none =>
    have h0 := hat z hr
    rw [e] at h0
    have h1 := Maps.has_false_of_atKey h0
    rw [hD, Maps.has_eq] at h1
    have hmem : y ∈ (es.toList.map (WideElems.rg Tryz.prog 3 elemR)).foldr DataW.insert [] := (Go.WideShapes.sorted_perm _).mem_iff.2 (List.mem_map.2 ⟨x, hx, WideElems.rg_of hy⟩)
    have := List.any_eq_false.1 h1 y hmem
    rw [hl] at this
    simp [sameKey_int] at this
 have hpw := ((stamped_iff es clock).1 F.stamped).2.2
 have hlen := len_of_sub (es.toList.map (fun x => zOf x.key)) [1, 2, 3, 4, 5, 6] (by
  rw [List.pairwise_map]
  refine hpw.imp_of_mem ?_
  intro x y hx hy hne e
  obtain ⟨a, ha, _⟩ := hkey x hx
  obtain ⟨c, hc, _⟩ := hkey y hy
  rw [ha, hc] at e
  simp only [zOf] at e
  exact hne (by rw [ha, hc, e])) (fun z hz => by
  obtain ⟨x, hx, rfl⟩ := List.mem_map.1 hz
  obtain ⟨a, ha, h1, h2⟩ := hkey x hx
  rw [ha]
  simp only [zOf]
  simp
  omega)
 simpa using hlen
theorem Tie.range {w : World} {m : FM} {f : Int → Option SV} {F : Int → Option PS} (h : Tie w m f F) : ∀ k, inR k → (f k).isSome = true → 1 ≤ k ∧ k ≤ 6 := by
 intro k hr hs
 cases e : F k with
 | none => rw [h.at_none hr e] at hs; cases hs
 | some q =>
   obtain ⟨s, _, h2⟩ := h.at_some hr e
   exact (stF_zero h2.ok).1
theorem BR.six {w : World} {B : Nat} {m : FM} {n : Nat} {K : Int → Option PS} {O : Nat → Int → Option PS} (h : BR w B m n K O) : BR w B m 6 K O := by
 obtain ⟨kn, ow, hF, hT, hO⟩ := h.ex
 exact ⟨⟨kn, ow, ⟨hF.blk, hF.row, hF.km.few6 hT.range, fun i b e => (hF.om i b e).few6 (hO i (List.getElem?_eq_some_iff.1 e).1).range, hF.few, hF.nB, hF.nd⟩, hT, hO⟩, h.nob⟩
theorem BR.avoid {w : World} {B : Nat} {m : FM} {n : Nat} (h : BR w B m n (fun _ => none) (fun _ _ => none)) (no : Nat → Prop) (hno : ∀ j, no j → j < w.heap.size) : BR w B { m with no := no } n (fun _ => none) (fun _ _ => none) := by
 obtain ⟨kn, ow, hF, hT, hO⟩ := h.ex
 exact ⟨⟨kn, ow, ⟨hF.blk, hF.row, hF.km, hF.om, hF.few, hF.nB, hF.nd⟩, fun k hr => hT k hr, fun i hi k hr => hO i hi k hr⟩, hno⟩
end Go.Proofs.YtieklnlbljejdaaGreatDoor
