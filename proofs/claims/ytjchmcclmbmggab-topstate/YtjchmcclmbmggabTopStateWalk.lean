/-
  'TopState' returns true at every three states, and changes nothing that was there.
-/
import Derived.Test.YtjchmcclmbmggabStCheckAll
import Derived.Test.YtjchmcclmbmggabStParse
namespace Go.Proofs.Ytjchmcclmbmggab
open Go.RowKit St
namespace topState

theorem bytes_one (w : World) : Calls Try.prog 30 #[.agg #[.int .i64 1, .int .i64 1, .slice none 0 0]] w fun e w' => e = .returned (.tuple #[.string ⟨#[1, 1, 0, 0]⟩, .nilIface]) ∧ Below w.heap.size w w' := by
  have h := bytes_good 1 1 none 0 0 [] w ⟨rfl, .inl rfl⟩ (by decide +kernel)
  have e : (stB 1 1 []).toArray = #[1, 1, 0, 0] := by decide +kernel
  rw [e] at h
  exact h

/-- A box of a state. -/
def Bx (w : World) (B : Nat) (o s : Int) (v : Value) : Prop := w.heap[B]? = some (.cells #[.int .i64 o, .int .i64 s, v] 62 (0, 0))
theorem Bx.lt {w : World} {B : Nat} {o s : Int} {v : Value} (h : Bx w B o s v) : B < w.heap.size := (Array.getElem?_eq_some_iff.1 h).1
theorem Bx.below {w w' : World} {B : Nat} {o s : Int} {v : Value} (h : Bx w B o s v) (hb : Below w.heap.size w w') : Bx w' B o s v := (hb.block B h.lt).trans h
theorem Bx.c0 {w : World} {B : Nat} {o s : Int} {v : Value} (h : Bx w B o s v) : w.cell? ⟨B, 0, none⟩ = some (.int .i64 o) := cell_of_row w B 0 _ _ (0, 0) h
theorem Bx.c1 {w : World} {B : Nat} {o s : Int} {v : Value} (h : Bx w B o s v) : w.cell? ⟨B, 1, none⟩ = some (.int .i64 s) := cell_of_row w B 1 _ _ (0, 0) h
theorem Bx.c2 {w : World} {B : Nat} {o s : Int} {v : Value} (h : Bx w B o s v) : w.cell? ⟨B, 2, none⟩ = some v := cell_of_row w B 2 _ _ (0, 0) h
theorem Bx.fz {w : World} {B : Nat} {o s : Int} {v : Value} (h : Bx w B o s v) (j : Nat) : w.frozen? ⟨B, j, none⟩ = false := frozen_of_row w B j _ _ h
theorem Bx.set {w : World} {B : Nat} {o s : Int} {v : Value} (h : Bx w B o s v) (x : Int) : Bx (w.setCell ⟨B, 0, none⟩ (.int .i64 x)) B x s v := by
  unfold Bx
  rw [setCell_eq_setRow w B 0 _ _ (0, 0) _ h]
  exact setRow_heap w B _ _ _ (0, 0) h
theorem Bx.other {w : World} {B B' : Nat} {o s : Int} {v : Value} (h : Bx w B o s v) (hne : B ≠ B') (j : Nat) (x : Value) : Bx (w.setCell ⟨B', j, none⟩ x) B o s v := (Below.heap_setCell _ _ _ B hne).trans h
/-- The three boxes. -/
structure B3 (w : World) (X : Nat) (o1 s1 : Int) (v1 : Value) (o2 s2 : Int) (v2 : Value) (o3 s3 : Int) (v3 : Value) : Prop where
  a : Bx w X o1 s1 v1
  b : Bx w (X + 1) o2 s2 v2
  c : Bx w (X + 1 + 1) o3 s3 v3
theorem B3.below {w w' : World} {X : Nat} {o1 s1 : Int} {v1 : Value} {o2 s2 : Int} {v2 : Value} {o3 s3 : Int} {v3 : Value} (h : B3 w X o1 s1 v1 o2 s2 v2 o3 s3 v3) (hb : Below w.heap.size w w') : B3 w' X o1 s1 v1 o2 s2 v2 o3 s3 v3 := ⟨h.a.below hb, h.b.below hb, h.c.below hb⟩
theorem Bx.newN (w : World) (o s : Int) (v : Value) (g : Nat) (hg : w.heap.size = g) : Bx (w.alloc (.cells #[.int .i64 o, .int .i64 s, v] 62)) g o s v := by subst hg; exact heap_alloc_new w _
theorem B3.new (w : World) (o1 s1 : Int) (v1 : Value) (o2 s2 : Int) (v2 : Value) (o3 s3 : Int) (v3 : Value) :
    B3 (((w.alloc (.cells #[.int .i64 o1, .int .i64 s1, v1] 62)).alloc (.cells #[.int .i64 o2, .int .i64 s2, v2] 62)).alloc (.cells #[.int .i64 o3, .int .i64 s3, v3] 62)) w.heap.size o1 s1 v1 o2 s2 v2 o3 s3 v3 :=
  ⟨((Bx.newN w _ _ _ _ rfl).below (below_alloc _ _)).below (below_alloc _ _), (Bx.newN _ _ _ _ _ (by simp)).below (below_alloc _ _), Bx.newN _ _ _ _ _ (by simp)⟩

set_option maxRecDepth 100000 in
set_option maxHeartbeats 8000000 in
theorem walk (o1 s1 : Int) (a : Option Addr) (n ca : Nat) (es : List Opt) (o2 s2 : Int) (b : Option Addr) (m cb : Nat) (fs : List Opt) (o3 s3 : Int) (c : Option Addr) (l cc : Nat) (gs : List Opt) (w : World) (ha : OptR w a n es) (hn : n ≤ maxLen) (hb : OptR w b m fs) (hm : m ≤ maxLen) (hc : OptR w c l gs) (hl : l ≤ maxLen) :
    Calls Try.prog 9 #[.agg #[.int .i64 o1, .int .i64 s1, .slice a n ca], .agg #[.int .i64 o2, .int .i64 s2, .slice b m cb], .agg #[.int .i64 o3, .int .i64 s3, .slice c l cc]] w fun e w' => e = .returned (.bool true) ∧ Below w.heap.size w w' := by
  have hz := zeroState
  have hw0 : Below w.heap.size w (((w.alloc (.cells #[.int .i64 o1, .int .i64 s1, .slice a n ca] 62)).alloc (.cells #[.int .i64 o2, .int .i64 s2, .slice b m cb] 62)).alloc (.cells #[.int .i64 o3, .int .i64 s3, .slice c l cc] 62)) := ((below_alloc _ _).alloc (by simp) _).alloc (by simp; omega) _
  have hB0 := B3.new w o1 s1 (.slice a n ca) o2 s2 (.slice b m cb) o3 s3 (.slice c l cc)
  obtain ⟨W0, hW0⟩ : ∃ W0, ((w.alloc (.cells #[.int .i64 o1, .int .i64 s1, .slice a n ca] 62)).alloc (.cells #[.int .i64 o2, .int .i64 s2, .slice b m cb] 62)).alloc (.cells #[.int .i64 o3, .int .i64 s3, .slice c l cc] 62) = W0 := ⟨_, rfl⟩
  rw [hW0] at hw0 hB0
  have HW : Hid _ := hW0
  clear hW0
  have hck1 := fun W h => check_all o1 s1 a n ca es W hn h
  have hck2 := fun W h => check_all o2 s2 b m cb fs W hm h
  have hck3 := fun W h => check_all o3 s3 c l cc gs W hl h
  have E0 : errV 0 = .nilIface := rfl
  by_cases f1 : stF o1 s1 es = 0
  · rw [f1, E0] at hck1
    by_cases f2 : stF o2 s2 fs = 0
    · rw [f2, E0] at hck2
      by_cases f3 : stF o3 s3 gs = 0
      · rw [f3, E0] at hck3
        have l1 : n ≤ 6 := by have := (stF_zero f1).2.2.1; rw [ha.1] at this; exact this
        have l2 : m ≤ 6 := by have := (stF_zero f2).2.2.1; rw [hb.1] at this; exact this
        have l3 : l ≤ 6 := by have := (stF_zero f3).2.2.1; rw [hc.1] at this; exact this
        have hby := fun W h => bytes_good o1 s1 a n ca es W h f1
        have hpr := parse_bytes o1 s1 es f1
        obtain ⟨S, hS⟩ : ∃ S : ByteArray, S = ⟨(stB o1 s1 es).toArray⟩ := ⟨_, rfl⟩
        have hSl : S.data.toList = stB o1 s1 es := by rw [hS]
        have hSz : S.size ≤ maxLen := by
          have h1 : S.size = S.data.toList.length := by simp
          have h2 : es.length ≤ 6 := by rw [ha.1]; exact l1
          rw [h1, hSl]
          unfold stB maxLen
          simp only [List.length_cons, edB_length]
          omega
        rw [← hS] at hby
        have hpa : ∀ W, Calls Try.prog 35 #[.string S] W fun e w' => ∃ (pa : Option Addr) (pc : Nat), e = .returned (.tuple #[.agg #[.int .i64 o1, .int .i64 s1, .slice pa n pc], .nilIface]) ∧ OptR w' pa n es ∧ Below W.heap.size W w' := fun W => (parse_any S W hSz).mono (by
          rintro e w' ⟨pa, pn, pc, pf, po, pq, pes, rfl, q1, _, q2, q3⟩
          rw [hSl, hpr] at q2
          simp only [Prod.mk.injEq] at q2
          obtain ⟨rfl, rfl, rfl, rfl⟩ := q2
          have hnn : pn = n := by rw [← q1.1, ha.1]
          subst hnn
          exact ⟨pa, pc, rfl, q1, q3⟩)
        obtain ⟨R1, hR1⟩ : ∃ R, newS s1 es s2 fs = R := ⟨_, rfl⟩
        obtain ⟨R2, hR2⟩ : ∃ R, newS s2 fs s3 gs = R := ⟨_, rfl⟩
        obtain ⟨R3, hR3⟩ : ∃ R, newS s2 fs s1 es = R := ⟨_, rfl⟩
        obtain ⟨R4, hR4⟩ : ∃ R, newS s1 es s3 gs = R := ⟨_, rfl⟩
        have nw1 := fun W h h2 => newer_any o1 s1 o2 s2 a b n m ca cb es fs W h h2 (by omega)
        have nw2 := fun W h h2 => newer_any o2 s2 o3 s3 b c m l cb cc fs gs W h h2 (by omega)
        have nw3 := fun W h h2 => newer_any o1 s2 o1 s1 b a m n cb ca fs es W h h2 (by omega)
        have nw4 := fun W h h2 => newer_any o1 s1 o3 s3 a c n l ca cc es gs W h h2 (by omega)
        have hsm := fun W h h2 => sameState_any o1 s1 o1 s2 a b n m ca cb es fs W h h2 (by omega) (by omega)
        obtain ⟨d, hd⟩ : ∃ d, decide (o1 = o1 ∧ s1 = s2 ∧ es = fs) = d := ⟨_, rfl⟩
        rw [hR1] at nw1
        rw [hR2] at nw2
        rw [hR3] at nw3
        rw [hR4] at nw4
        rw [hd] at hsm
        have g1 : (R1 != -R3) = false := by
          have := newS_anti s1 s2 es fs
          rw [hR1, hR3] at this
          simp [this]
        have g2 : -1 ≤ R3 := by have := newS_three s2 s1 fs es; rw [hR3] at this; omega
        have g3 : R3 ≤ 1 := by have := newS_three s2 s1 fs es; rw [hR3] at this; omega
        have g4 : d = (R1 == 0) := by
          rw [← hd, ← hR1, Bool.eq_iff_iff, decide_eq_true_iff, beq_iff_eq, newS_zero]
          simp
        have g5 : 0 < R1 → 0 < R2 → 0 < R4 := by
          intro p1 p2
          rw [← hR1] at p1
          rw [← hR2] at p2
          rw [← hR4]
          exact (newS_trans (by omega) (by omega)).2 (.inl p1)
        have G5 : Hid _ := g5
        clear hd
        subst g4
        clear hR1 hR2 hR3 hR4 f1 f2 f3 hS hSl hSz hpr E0 g5
        have Hck1 : Hid _ := hck1
        have Hck2 : Hid _ := hck2
        have Hck3 : Hid _ := hck3
        have Hby : Hid _ := hby
        have Hpa : Hid _ := hpa
        have Hn1 : Hid _ := nw1
        have Hn2 : Hid _ := nw2
        have Hn3 : Hid _ := nw3
        have Hn4 : Hid _ := nw4
        have Hsm : Hid _ := hsm
        clear hck1 hck2 hck3 hby hpa nw1 nw2 nw3 nw4 hsm
        go_enter Try.func9, Try.ntmps9
        go_wp2_with (fail)
        rw [HW.out]
        refine (bytes_one _).mono ?_
        rintro e w1 ⟨rfl, k1⟩
        have b1 := hB0.below k1
        have h1 := below_chain hw0 k1
        obtain ⟨x0, x1, x2, xl⟩ := And.intro b1.a.c0 (And.intro b1.a.c1 (And.intro b1.a.c2 b1.a.lt))
        clear hB0 k1 hw0
        go_wp2_with (fail)
        refine (Hck1.out _ (ha.below h1)).mono ?_
        rintro e w2 ⟨rfl, k2⟩
        have b2 := b1.below k2
        have h2 := below_chain h1 k2
        clear x0 x1 x2 xl b1 h1 k2
        obtain ⟨x0, x1, x2, xl⟩ := And.intro b2.b.c0 (And.intro b2.b.c1 (And.intro b2.b.c2 b2.b.lt))
        go_wp2_with (fail)
        refine (Hck2.out _ (hb.below h2)).mono ?_
        rintro e w3 ⟨rfl, k3⟩
        have b3 := b2.below k3
        have h3 := below_chain h2 k3
        clear x0 x1 x2 xl b2 h2 k3
        obtain ⟨x0, x1, x2, xl⟩ := And.intro b3.c.c0 (And.intro b3.c.c1 (And.intro b3.c.c2 b3.c.lt))
        go_wp2_with (fail)
        refine (Hck3.out _ (hc.below h3)).mono ?_
        rintro e w4 ⟨rfl, k4⟩
        have b4 := b3.below k4
        have h4 := below_chain h3 k4
        clear x0 x1 x2 xl b3 h3 k4
        obtain ⟨x0, x1, x2, xl⟩ := And.intro b4.a.c0 (And.intro b4.a.c1 (And.intro b4.a.c2 b4.a.lt))
        go_wp2_with (fail)
        refine (Hby.out _ (ha.below h4)).mono ?_
        rintro e w5 ⟨rfl, k5⟩
        have b5 := b4.below k5
        have h5 := below_chain h4 k5
        clear x0 x1 x2 xl b4 h4 k5
        go_wp2_with (fail)
        refine (Hpa.out _).mono ?_
        rintro e w6 ⟨pa, pc, rfl, po, k6⟩
        have b6 := b5.below k6
        have h6 := below_chain h5 k6
        have kx := below_alloc w6 (.cells #[.int .i64 o1, .int .i64 s1, .slice pa n pc] 62)
        have b7 := b6.below kx
        have h7 := below_chain h6 kx
        have po7 := po.below kx
        obtain ⟨x0, x1, x2, xl⟩ := And.intro b6.a.c0 (And.intro b6.a.c1 (And.intro b6.a.c2 b6.a.lt))
        clear b5 h5 k6 b6 h6 kx po
        go_wp2_with (fail)
        refine (sameState_any o1 s1 o1 s1 pa a n n pc ca es es _ po7 (ha.below h7) (by omega) (by omega)).mono ?_
        rintro e w8 ⟨rfl, k8⟩
        simp only [and_self, decide_true]
        have b8 := b7.below k8
        have h8 := below_chain h7 k8
        clear x0 x1 x2 xl b7 h7 k8 po7
        obtain ⟨x0, x1, x2, xl⟩ := And.intro b8.a.c0 (And.intro b8.a.c1 (And.intro b8.a.c2 b8.a.lt))
        obtain ⟨y0, y1, y2, yl⟩ := And.intro b8.b.c0 (And.intro b8.b.c1 (And.intro b8.b.c2 b8.b.lt))
        go_wp2_with (fail)
        refine (Hn1.out _ (ha.below h8) (hb.below h8)).mono ?_
        rintro e w9 ⟨rfl, k9⟩
        have b9 := b8.below k9
        have h9 := below_chain h8 k9
        clear x0 x1 x2 xl y0 y1 y2 yl b8 h8 k9
        obtain ⟨x0, x1, x2, xl⟩ := And.intro b9.b.c0 (And.intro b9.b.c1 (And.intro b9.b.c2 b9.b.lt))
        obtain ⟨y0, y1, y2, yl⟩ := And.intro b9.c.c0 (And.intro b9.c.c1 (And.intro b9.c.c2 b9.c.lt))
        go_wp2_with (fail)
        refine (Hn2.out _ (hb.below h9) (hc.below h9)).mono ?_
        rintro e w10 ⟨rfl, k10⟩
        have b10 := b9.below k10
        have h10 := below_chain h9 k10
        clear x0 x1 x2 xl y0 y1 y2 yl b9 h9 k10
        obtain ⟨x0, x1, x2, xl⟩ := And.intro b10.a.c0 (And.intro b10.a.c1 (And.intro b10.a.c2 b10.a.lt))
        obtain ⟨y0, y1, y2, yl⟩ := And.intro b10.b.c0 (And.intro b10.b.c1 (And.intro b10.b.c2 b10.b.lt))
        have yf := b10.b.fz
        have b11 : B3 (w10.setCell ⟨w.heap.size + 1, 0, none⟩ (.int .i64 o1)) w.heap.size o1 s1 (.slice a n ca) o1 s2 (.slice b m cb) o3 s3 (.slice c l cc) := ⟨b10.a.other (by omega) _ _, b10.b.set _, b10.c.other (by omega) _ _⟩
        have h11 : Below w.heap.size w (w10.setCell ⟨w.heap.size + 1, 0, none⟩ (.int .i64 o1)) := h10.setCell (by show _ ≤ w.heap.size + 1; omega) _
        clear b10 h10
        go_wp2_with (fail)
        refine (Hn3.out _ (hb.below h11) (ha.below h11)).mono ?_
        rintro e w12 ⟨rfl, k12⟩
        have b12 := b11.below k12
        have h12 := below_chain h11 k12
        clear x0 x1 x2 xl y0 y1 y2 yl b11 h11 k12 yf
        obtain ⟨x0, x1, x2, xl⟩ := And.intro b12.a.c0 (And.intro b12.a.c1 (And.intro b12.a.c2 b12.a.lt))
        obtain ⟨y0, y1, y2, yl⟩ := And.intro b12.b.c0 (And.intro b12.b.c1 (And.intro b12.b.c2 b12.b.lt))
        go_wp2_with (fail)
        refine (Hsm.out _ (ha.below h12) (hb.below h12)).mono ?_
        rintro e w13 ⟨rfl, k13⟩
        have b13 := b12.below k13
        have h13 := below_chain h12 k13
        clear x0 x1 x2 xl y0 y1 y2 yl b12 h12 k13
        cases q0 : (R1 == 0)
        · by_cases p1 : 0 < R1
          · by_cases p2 : 0 < R2
            · have p4 := G5.out p1 p2
              obtain ⟨x0, x1, x2, xl⟩ := And.intro b13.a.c0 (And.intro b13.a.c1 (And.intro b13.a.c2 b13.a.lt))
              obtain ⟨y0, y1, y2, yl⟩ := And.intro b13.c.c0 (And.intro b13.c.c1 (And.intro b13.c.c2 b13.c.lt))
              go_wp2_with (fail)
              refine (Hn4.out _ (ha.below h13) (hc.below h13)).mono ?_
              rintro e w14 ⟨rfl, k14⟩
              go_wp2_with (fail)
              go_ret
              exact ⟨by first | rfl | (simp; omega), below_chain h13 k14⟩
            · go_wp2_with (fail)
              go_ret
              exact ⟨by first | rfl | (simp; omega), h13⟩
          · go_wp2_with (fail)
            go_ret
            exact ⟨by first | rfl | (simp; omega), h13⟩
        · have p1 : ¬ 0 < R1 := by have : R1 = 0 := by simpa using q0
                                   omega
          go_wp2_with (fail)
          go_ret
          exact ⟨by first | rfl | (simp; omega), h13⟩
      · have e3 : errV (stF o3 s3 gs) = .iface 111 (.int .i64 (stF o3 s3 gs : Int)) := by simp [errV, f3]
        rw [e3] at hck3
        generalize stF o3 s3 gs = f at hck3
        clear f1 f2 f3 e3 E0
        have Hck1 : Hid _ := hck1
        have Hck2 : Hid _ := hck2
        have Hck3 : Hid _ := hck3
        clear hck1 hck2 hck3
        go_enter Try.func9, Try.ntmps9
        go_wp2_with (fail)
        rw [HW.out]
        refine (bytes_one _).mono ?_
        rintro e w1 ⟨rfl, k1⟩
        have b1 := hB0.below k1
        have h1 := below_chain hw0 k1
        obtain ⟨x0, x1, x2, xl⟩ := And.intro b1.a.c0 (And.intro b1.a.c1 (And.intro b1.a.c2 b1.a.lt))
        go_wp2_with (fail)
        refine (Hck1.out _ (ha.below h1)).mono ?_
        rintro e w2 ⟨rfl, k2⟩
        have b2 := b1.below k2
        have h2 := below_chain h1 k2
        clear x0 x1 x2 xl
        obtain ⟨x0, x1, x2, xl⟩ := And.intro b2.b.c0 (And.intro b2.b.c1 (And.intro b2.b.c2 b2.b.lt))
        go_wp2_with (fail)
        refine (Hck2.out _ (hb.below h2)).mono ?_
        rintro e w3 ⟨rfl, k3⟩
        have b3 := b2.below k3
        have h3 := below_chain h2 k3
        clear x0 x1 x2 xl
        obtain ⟨x0, x1, x2, xl⟩ := And.intro b3.c.c0 (And.intro b3.c.c1 (And.intro b3.c.c2 b3.c.lt))
        go_wp2_with (fail)
        refine (Hck3.out _ (hc.below h3)).mono ?_
        rintro e w4 ⟨rfl, k4⟩
        go_wp2_with (fail)
        go_ret
        exact ⟨rfl, below_chain h3 k4⟩
    · have e2 : errV (stF o2 s2 fs) = .iface 111 (.int .i64 (stF o2 s2 fs : Int)) := by simp [errV, f2]
      rw [e2] at hck2
      generalize stF o2 s2 fs = f at hck2
      clear f1 f2 e2 E0 hck3
      have Hck1 : Hid _ := hck1
      have Hck2 : Hid _ := hck2
      clear hck1 hck2
      go_enter Try.func9, Try.ntmps9
      go_wp2_with (fail)
      rw [HW.out]
      refine (bytes_one _).mono ?_
      rintro e w1 ⟨rfl, k1⟩
      have b1 := hB0.below k1
      have h1 := below_chain hw0 k1
      obtain ⟨x0, x1, x2, xl⟩ := And.intro b1.a.c0 (And.intro b1.a.c1 (And.intro b1.a.c2 b1.a.lt))
      go_wp2_with (fail)
      refine (Hck1.out _ (ha.below h1)).mono ?_
      rintro e w2 ⟨rfl, k2⟩
      have b2 := b1.below k2
      have h2 := below_chain h1 k2
      clear x0 x1 x2 xl
      obtain ⟨x0, x1, x2, xl⟩ := And.intro b2.b.c0 (And.intro b2.b.c1 (And.intro b2.b.c2 b2.b.lt))
      go_wp2_with (fail)
      refine (Hck2.out _ (hb.below h2)).mono ?_
      rintro e w3 ⟨rfl, k3⟩
      go_wp2_with (fail)
      go_ret
      exact ⟨rfl, below_chain h2 k3⟩
  · have e1 : errV (stF o1 s1 es) = .iface 111 (.int .i64 (stF o1 s1 es : Int)) := by simp [errV, f1]
    rw [e1] at hck1
    generalize stF o1 s1 es = f at hck1
    clear f1 e1 E0 hck2 hck3
    have Hck1 : Hid _ := hck1
    clear hck1
    go_enter Try.func9, Try.ntmps9
    go_wp2_with (fail)
    rw [HW.out]
    refine (bytes_one _).mono ?_
    rintro e w1 ⟨rfl, k1⟩
    have b1 := hB0.below k1
    have h1 := below_chain hw0 k1
    obtain ⟨x0, x1, x2, xl⟩ := And.intro b1.a.c0 (And.intro b1.a.c1 (And.intro b1.a.c2 b1.a.lt))
    go_wp2_with (fail)
    refine (Hck1.out _ (ha.below h1)).mono ?_
    rintro e w2 ⟨rfl, k2⟩
    go_wp2_with (fail)
    go_ret
    exact ⟨rfl, below_chain h1 k2⟩
end topState
end Go.Proofs.Ytjchmcclmbmggab
