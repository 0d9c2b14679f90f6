/-
  States that are handed out, one list behind the other.
-/
import Derived.Test.YtgfjgenkpfdofaaSpreadTell
namespace Go.Proofs.Ytgfjgenkpfdofaa
open Go.RowKit St

theorem SR.row {w : World} {g C : Nat} {ts : List SV} (h : SR w g C ts) : Row w 3 (.slice (some ⟨g, 0, none⟩) ts.length C) ts.length (svC ts) := by
  have hlen : ∀ l : List SV, (svC l).length = l.length * 3 := by
    intro l
    induction l with
    | nil => rfl
    | cons x l ih =>
      have e : svC (x :: l) = .int .i64 x.own :: .int .i64 x.seq :: .slice x.a x.n x.cap :: svC l := rfl
      rw [e]
      simp only [List.length_cons, ih]
      omega
  refine ⟨hlen ts, .inr ⟨g, C, rfl, h.lt, h.le, h.cm, fun j u hu => ?_, h.sp⟩⟩
  have hj : j < ts.length * 3 := by rw [← hlen]; exact (List.getElem?_eq_some_iff.1 hu).1
  have hl : j / 3 < ts.length := by omega
  obtain ⟨s0, s1, s2⟩ := svC_get ts (j / 3) ts[j / 3] (List.getElem?_eq_getElem hl)
  obtain ⟨c0, c1, c2⟩ := h.cell (j / 3) ts[j / 3] (List.getElem?_eq_getElem hl)
  rcases (show j = j / 3 * 3 ∨ j = j / 3 * 3 + 1 ∨ j = j / 3 * 3 + 2 by omega) with e | e | e
  · rw [e, s0] at hu
    rw [e, c0, ← Option.some.inj hu]
  · rw [e, s1] at hu
    rw [e, c1, ← Option.some.inj hu]
  · rw [e, s2] at hu
    rw [e, c2, ← Option.some.inj hu]
theorem svC_length (l : List SV) : (svC l).length = l.length * 3 := by
  induction l with
  | nil => rfl
  | cons x l ih =>
    have e : svC (x :: l) = .int .i64 x.own :: .int .i64 x.seq :: .slice x.a x.n x.cap :: svC l := rfl
    rw [e]
    simp only [List.length_cons, ih]
    omega
theorem svC_one (l : List SV) : ∀ u ∈ svC l, u.oneCell' = true := by
  intro u hu
  obtain ⟨s, _, hs⟩ := List.mem_flatMap.1 hu
  exact one_sv s.own s.seq s.a s.n s.cap u hs
/-- A row of states, its edges in blocks of their own. -/
structure Own (w w' : World) (v : Value) (ts : List SV) : Prop where
  row : Row w' 3 v ts.length (svC ts)
  new : ∀ s ∈ ts, ∀ b, Value.ownBlock (.slice s.a s.n s.cap) = some b → w.heap.size < b ∧ b < w'.heap.size ∧ v.ownBlock ≠ some b
  own : ∀ g, v.ownBlock = some g → w.heap.size < g
theorem states_row (B : Nat) (m : FM) (k : Nat) (K : Int → Option PS) (O : Nat → Int → Option PS) (w : World) (h : BR w B m k K O) :
    Calls Try.prog 19 #[.pointer (some ⟨B, 0, none⟩)] w fun e w' => ∃ a cap ts E, e = .returned (.slice a ts.length cap) ∧ Own w w' (.slice a ts.length cap) ts ∧ StsR w' a ts.length (fun j => ts.getD j SV.zero) E ∧ Lists K ts.length (fun j => ts.getD j SV.zero) E ∧ ts.length ≤ 6 ∧ Below w.heap.size w w' := by
  obtain ⟨kn, ow, hF, hT, hO⟩ := h.ex
  refine (states_any B m k kn ow (esOf K) w hF hT.fine).mono ?_
  rintro e w1 ⟨v, ts, rfl, hR⟩
  obtain ⟨a, cap, rfl, h1, h2, h3, h4⟩ := hR.lists hT
  refine ⟨a, cap, ts, _, rfl, ⟨?_, fun s hs b hb => (hR.el s hs).new b hb, h4⟩, h1, h2, h3, hR.bel⟩
  rcases hR.shape with ⟨e1, rfl⟩ | ⟨g, cap', e1, hS, _⟩
  · rw [e1]
    exact Row.nil _ _
  · rw [e1]
    exact hS.row
section
variable {P : Program}
theorem run_append_zero (w : World) (t ty e : TypeId) (i : TypeInfo) (ht : P.underlying t = some (.slice e)) (hi : P.info? e = some i) (base ao : Option Addr) (n cap c : Nat) (hle : n ≤ cap) :
    (Builtin.append_ #[t, t] ty #[.slice base n cap, .slice ao 0 c]).run P w = .ok (.slice base n cap) w := by
  cases base <;> cases ao <;> simp [Builtin.append_, run_underlying ht, sizeOf, typeInfo, hi, Builtin.lenOf, hle, Builtin.firstCells, loadCells, loadCellsFrom, storeCells]
theorem wpList_append_rows (w : World) {ops : Array Oper} {rest : List Oper} {o : Oper} {a : Act} {Q : Exit → Act → World → Prop} (hgd : o.guard = none) (s x : Operand) (t : TypeId)
    (ho : o.op = .call { callee := .builtin .append, args := #[s, x], argTypes := #[t, t] })
    (e : TypeId) (i : TypeInfo) (z : Value) (size bytes : Nat) (ht : P.underlying t = some (.slice e)) (hi : P.info? e = some i) (hz : i.zero = some z)
    (hsize : i.size = size) (hby : i.bytes = bytes) (hzs : z.cells.size = size) (hsz : 0 < size)
    (v : Value) (n : Nat) (xs : List Value) (hs : a.eval s = v) (hown : Row w size v n xs)
    (v2 : Value) (m : Nat) (news : List Value) (hx : a.eval x = v2) (hown2 : Row w size v2 m news) (h1 : ∀ u ∈ news, u.oneCell' = true)
    (h63 : n + m ≤ maxLen) (hbytes : (n + m) * bytes ≤ 140737488355328)
    (h : ∀ v' w', Row w' size v' (n + m) (xs ++ news) → w.grownBy w' v.ownBlock → (v'.ownBlock = v.ownBlock ∨ ∃ k, v'.ownBlock = some k ∧ w.heap.size ≤ k) → wpList P ops Q rest (a.put o.dst v') w') : wpList P ops Q (o :: rest) a w := by
  refine wpList_plain hgd fun K hK => ?_
  have key : ∃ v' w', (Builtin.append_ #[t, t] o.type #[v, v2]).run P w = .ok v' w' ∧ Row w' size v' (n + m) (xs ++ news) ∧ w.grownBy w' v.ownBlock ∧ (v'.ownBlock = v.ownBlock ∨ ∃ k, v'.ownBlock = some k ∧ w.heap.size ≤ k) := by
    by_cases hm : 0 < m
    · rcases hown2.2 with ⟨_, e2⟩ | ⟨g, cap, rfl, hg, hle, hcm, hcell, _⟩
      · omega
      · exact run_append_row (P := P) w t o.type e i z size bytes ht hi hz hsize hby hzs hsz v n xs hown ⟨g, 0, none⟩ m cap news hown2.1 hm (fun j u hu => by rw [add_plain]; exact hcell j u hu) h1 h63 hbytes
    · have hm0 : m = 0 := by omega
      subst hm0
      have hnil : news = [] := List.eq_nil_of_length_eq_zero (by rw [hown2.1]; simp)
      subst hnil
      have g0 : w.grownBy w v.ownBlock := ⟨rfl, rfl, rfl, Nat.le_refl _, fun _ _ _ => rfl⟩
      rcases hown2.2 with ⟨rfl, _⟩ | ⟨g2, cap2, rfl, _⟩
      · rcases hown.2 with ⟨rfl, rfl⟩ | ⟨g, cap, rfl, hg, hle, hcm, hcell, hsp⟩
        · exact ⟨_, w, run_append_zero w t o.type e i ht hi none none 0 0 0 (Nat.le_refl _), by simpa using hown, g0, .inl rfl⟩
        · exact ⟨_, w, run_append_zero w t o.type e i ht hi _ none n cap 0 hle, by simpa using hown, g0, .inl rfl⟩
      · rcases hown.2 with ⟨rfl, rfl⟩ | ⟨g, cap, rfl, hg, hle, hcm, hcell, hsp⟩
        · exact ⟨_, w, run_append_zero w t o.type e i ht hi none _ 0 0 cap2 (Nat.le_refl _), by simpa using hown, g0, .inl rfl⟩
        · exact ⟨_, w, run_append_zero w t o.type e i ht hi _ _ n cap cap2 hle, by simpa using hown, g0, .inl rfl⟩
  obtain ⟨v', w', hr, h2, h3, h4⟩ := key
  unfold Oper.wp execOp
  simp only [ho, resolve, invoke, builtin, Sem.run_bind, Sem.run_pure, Result.andThen_ok, List.map_toArray, List.map_cons, List.map_nil, hs, hx, hr]
  exact hK _ _ (h v' w' h2 h3 h4)
end
theorem svC_append (l r : List SV) : svC l ++ svC r = svC (l ++ r) := by simp [svC]
/-- Both lists behind the append. -/
theorem both_rows {w w1 w2 w3 : World} {v v2 v3 : Value} {t1 t2 : List SV} {a1 a2 : Option Addr} {E1 E2 : Nat → List Opt} (o1 : Own w w1 v t1) (o2 : Own w1 w2 v2 t2) (s1 : StsR w1 a1 t1.length (fun j => t1.getD j SV.zero) E1) (s2 : StsR w2 a2 t2.length (fun j => t2.getD j SV.zero) E2)
    (b2 : Below w1.heap.size w1 w2) (hr : Row w3 3 v3 (t1.length + t2.length) (svC t1 ++ svC t2)) (hg : w2.grownBy w3 v.ownBlock) :
    ∃ a3 cap3, v3 = .slice a3 (t1 ++ t2).length cap3 ∧ StsR w3 a3 (t1 ++ t2).length (fun j => (t1 ++ t2).getD j SV.zero) (fun j => if j < t1.length then E1 j else E2 (j - t1.length)) := by
  rw [svC_append, ← List.length_append] at hr
  have hopt : ∀ j, j < (t1 ++ t2).length → OptR w3 ((t1 ++ t2).getD j SV.zero).a ((t1 ++ t2).getD j SV.zero).n (if j < t1.length then E1 j else E2 (j - t1.length)) ∧ NilOk ((t1 ++ t2).getD j SV.zero).a ((t1 ++ t2).getD j SV.zero).cap ∧ ((t1 ++ t2).getD j SV.zero).n ≤ maxLen := by
    intro j hj
    by_cases h1 : j < t1.length
    · have e : (t1 ++ t2).getD j SV.zero = t1.getD j SV.zero := by simp only [List.getD_eq_getElem?_getD, List.getElem?_append_left h1]
      rw [e, if_pos h1]
      obtain ⟨p1, p2, p3⟩ := s1.opt j h1
      refine ⟨OptR.kept (cap := (t1.getD j SV.zero).cap) (p1.below b2) (fun b hb => ?_), p2, p3⟩
      obtain ⟨q1, q2, q3⟩ := o1.new _ (List.mem_of_getElem? (svGet t1 j h1)) b hb
      exact hg.block b (Nat.lt_of_lt_of_le q2 b2.size) (fun e => q3 e.symm)
    · have e : (t1 ++ t2).getD j SV.zero = t2.getD (j - t1.length) SV.zero := by simp only [List.getD_eq_getElem?_getD, List.getElem?_append_right (show t1.length ≤ j by omega)]
      rw [e, if_neg h1]
      have hj2 : j - t1.length < t2.length := by simp at hj; omega
      obtain ⟨p1, p2, p3⟩ := s2.opt _ hj2
      refine ⟨OptR.kept (cap := (t2.getD (j - t1.length) SV.zero).cap) p1 (fun b hb => ?_), p2, p3⟩
      obtain ⟨q1, q2, q3⟩ := o2.new _ (List.mem_of_getElem? (svGet t2 _ hj2)) b hb
      refine hg.block b q2 (fun e => ?_)
      have := o1.row.lt b e.symm
      omega
  rcases hr.2 with ⟨rfl, e⟩ | ⟨g, cap, rfl, hgl, _⟩
  · rw [e]
    exact ⟨none, 0, rfl, ⟨.inl rfl, fun j hj => by omega⟩⟩
  · refine ⟨_, _, rfl, ⟨.inr ⟨g, 0, rfl, fun j hj => ?_⟩, hopt⟩⟩
    obtain ⟨c0, c1, c2⟩ := svC_get (t1 ++ t2) j _ (svGet _ j hj)
    rw [show 0 + j * 3 = j * 3 by omega]
    exact ⟨Row.cell hr _ _ c0, Row.cell hr _ _ c1, Row.cell hr _ _ c2⟩
/-- A list by rising owners is one alone. -/
theorem Lists.uniq {F : Int → Option PS} {n n' : Nat} {S S' : Nat → SV} {E E' : Nat → List Opt} (h : Lists F n S E) (h' : Lists F n' S' E') : n = n' ∧ ∀ j, j < n → (S j).own = (S' j).own ∧ (S j).seq = (S' j).seq ∧ E j = E' j := by
  have key : ∀ {n n' : Nat} {S S' : Nat → SV} {E E' : Nat → List Opt}, Lists F n S E → Lists F n' S' E' → ∀ j, j < n → j < n' ∧ (S j).own = (S' j).own := by
    intro n n' S S' E E' h h' j
    induction j using Nat.strongRecOn with
    | _ j ih =>
      intro hj
      obtain ⟨hr, hF⟩ := h.at_ j hj
      obtain ⟨i, hi, ho⟩ := h'.all _ hr (by rw [hF]; rfl)
      rcases Nat.lt_trichotomy i j with hlt | heq | hgt
      · have h1 := ih i hlt (by omega)
        have h2 := h.ris i j hlt hj
        omega
      · subst heq
        exact ⟨hi, ho.symm⟩
      · have hjn : j < n' := by omega
        obtain ⟨hr2, hF2⟩ := h'.at_ j hjn
        obtain ⟨i2, hi2, ho2⟩ := h.all _ hr2 (by rw [hF2]; rfl)
        have h3 := h'.ris j i hgt hi
        rcases Nat.lt_trichotomy i2 j with h4 | h4 | h4
        · have h5 := (ih i2 h4 hi2).2
          have h6 := h'.ris i2 j h4 hjn
          omega
        · subst h4
          exact ⟨hjn, ho2⟩
        · have h5 := h.ris j i2 h4 hi2
          omega
  have hn : n = n' := by
    rcases Nat.lt_trichotomy n n' with h1 | h1 | h1
    · have := (key h' h n h1).1
      omega
    · exact h1
    · have := (key h h' n' h1).1
      omega
  refine ⟨hn, fun j hj => ?_⟩
  have ho := (key h h' j hj).2
  have h1 := (h.at_ j hj).2
  have h2 := (h'.at_ j (by omega)).2
  rw [ho, h2] at h1
  have := Option.some.inj h1
  simp only [Prod.mk.injEq] at this
  exact ⟨ho, this.1.symm, this.2.symm⟩
set_option maxRecDepth 100000 in
set_option maxHeartbeats 4000000 in
theorem sameStates_yes (a b : Option Addr) (n ca cb : Nat) (S T : Nat → SV) (E G : Nat → List Opt) (w : World) (hS : StsR w a n S E) (hT : StsR w b n T G) (hn : n ≤ 1000) (h6 : ∀ j, j < n → (E j).length ≤ 6)
    (heq : ∀ j, j < n → (S j).own = (T j).own ∧ (S j).seq = (T j).seq ∧ E j = G j) :
    Calls Try.prog 18 #[.slice a n ca, .slice b n cb] w fun e w' => e = .returned (.bool true) ∧ Below w.heap.size w w' := by
  go_enter Try.func18, Try.ntmps18
  go_wp2_with (fail)
  go_loopw [5] (fun i wr => ∃ k : Nat, k ≤ n ∧ i = .int .i64 k ∧ Below w.heap.size w wr) (fun i _ => n - (intOf i).toNat)
  case atStart => exact ⟨0, Nat.zero_le _, rfl, Below.refl _ _⟩
  case round =>
    obtain ⟨k, hk, rfl, hbel⟩ := hrel
    by_cases hlt : k < n
    · have hlt' : (k : Int) < (n : Int) := by omega
      have r1 := hS.row
      have r2 := hT.row
      rcases r1 with h1 | ⟨b1, o1, rfl, hc1⟩
      · omega
      rcases r2 with h1 | ⟨b2, o2, rfl, hc2⟩
      · omega
      have HF : Hid (∀ W, Below w.heap.size w W → (W.cell? ⟨b1, o1 + k * 3, none⟩ = some (.int .i64 (S k).own) ∧ W.cell? ⟨b1, o1 + k * 3 + 1, none⟩ = some (.int .i64 (S k).seq) ∧ W.cell? ⟨b1, o1 + k * 3 + 2, none⟩ = some (.slice (S k).a (S k).n (S k).cap)) ∧ W.cell? ⟨b2, o2 + k * 3, none⟩ = some (.int .i64 (T k).own) ∧ W.cell? ⟨b2, o2 + k * 3 + 1, none⟩ = some (.int .i64 (T k).seq) ∧ W.cell? ⟨b2, o2 + k * 3 + 2, none⟩ = some (.slice (T k).a (T k).n (T k).cap)) := by
        intro W hW
        obtain ⟨c0, c1, c2⟩ := hc1 k hlt
        obtain ⟨d0, d1, d2⟩ := hc2 k hlt
        have l1 := World.block_lt_of_cell? w _ c0
        have l2 := World.block_lt_of_cell? w _ d0
        exact ⟨⟨(hW.cell (p := ⟨b1, o1 + k * 3, none⟩) l1).trans c0, (hW.cell (p := ⟨b1, o1 + k * 3 + 1, none⟩) l1).trans c1, (hW.cell (p := ⟨b1, o1 + k * 3 + 2, none⟩) l1).trans c2⟩, (hW.cell (p := ⟨b2, o2 + k * 3, none⟩) l2).trans d0, (hW.cell (p := ⟨b2, o2 + k * 3 + 1, none⟩) l2).trans d1, (hW.cell (p := ⟨b2, o2 + k * 3 + 2, none⟩) l2).trans d2⟩
      have HSS : Hid (∀ W, Below w.heap.size w W → Calls Try.prog 24 #[.agg #[.int .i64 (S k).own, .int .i64 (S k).seq, .slice (S k).a (S k).n (S k).cap], .agg #[.int .i64 (T k).own, .int .i64 (T k).seq, .slice (T k).a (T k).n (T k).cap]] W fun e w' => e = .returned (.bool true) ∧ Below W.heap.size W w') := by
        intro W hW
        obtain ⟨e1, e2, e3⟩ := heq k hlt
        have q1 := (hS.opt k hlt).1
        have q2 := (hT.opt k hlt).1
        have l1 := q1.1
        have l2 := q2.1
        have l3 := h6 k hlt
        have := sameState_any (S k).own (S k).seq (T k).own (T k).seq (S k).a (T k).a (S k).n (T k).n (S k).cap (T k).cap (E k) (G k) W (q1.below hW) (q2.below hW) (by omega) (by rw [← e3] at l2; omega)
        rw [decide_eq_true (show (S k).own = (T k).own ∧ (S k).seq = (T k).seq ∧ E k = G k from ⟨e1, e2, e3⟩)] at this
        exact this
      clear hc1 hc2
      generalize (S k).own = so at HF HSS
      generalize (S k).seq = sq at HF HSS
      generalize (S k).a = sa at HF HSS
      generalize (S k).n = sn at HF HSS
      generalize (S k).cap = sc at HF HSS
      generalize (T k).own = uo at HF HSS
      generalize (T k).seq = uq at HF HSS
      generalize (T k).a = ua at HF HSS
      generalize (T k).n = un at HF HSS
      generalize (T k).cap = uc at HF HSS
      have KD : Below w.heap.size w wr.drew := below_drewN hbel 1
      have F0 := HF.out _ KD
      have HB : Hid _ := hbel
      clear hbel
      go_upto_region 6 with fail
      go_region_held3 (fun x => (x.cell? ⟨b1, o1 + k * 3, none⟩ = some (.int .i64 so) ∧ x.cell? ⟨b1, o1 + k * 3 + 1, none⟩ = some (.int .i64 sq) ∧ x.cell? ⟨b1, o1 + k * 3 + 2, none⟩ = some (.slice sa sn sc)) ∧ x.cell? ⟨b2, o2 + k * 3, none⟩ = some (.int .i64 uo) ∧ x.cell? ⟨b2, o2 + k * 3 + 1, none⟩ = some (.int .i64 uq) ∧ x.cell? ⟨b2, o2 + k * 3 + 2, none⟩ = some (.slice ua un uc))
        (first | assumption | exact F0 | exact F1)
        ((go_at_call 24; refine (HSS.out _ KD).mono ?_; rintro e w5 ⟨rfl, k5⟩; have F1 := HF.out _ (below_chain KD k5)))
      all_goals
        have HK5 : Hid _ := below_chain KD k5
        clear F0 F1 k5
        go_wp2_with (fail)
        go_roundw
        case rel => exact ⟨k + 1, by omega, by go_num, HK5.out⟩
        case measure => simp [intOf]; omega
    · have hge : ¬ (k : Int) < (n : Int) := by omega
      go_wp2_with (fail)
      go_ret
      exact ⟨rfl, hbel⟩
end Go.Proofs.Ytgfjgenkpfdofaa
