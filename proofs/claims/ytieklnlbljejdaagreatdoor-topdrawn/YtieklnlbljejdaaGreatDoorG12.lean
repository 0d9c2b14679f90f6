/-
  FloodSort FloodSort2
-/
import Derived.Test.YtieklnlbljejdaaGreatDoorG11
namespace Go.Proofs.YtieklnlbljejdaaGreatDoor
open Go.RowKit St
structure SR (w : World) (g C : Nat) (ss : List SV) : Prop where
 lt : g < w.heap.size
 cell : ∀ j s, ss[j]? = some s → w.cell? ⟨g, j * 3, none⟩ = some (.int .i64 s.own) ∧ w.cell? ⟨g, j * 3 + 1, none⟩ = some (.int .i64 s.seq) ∧ w.cell? ⟨g, j * 3 + 2, none⟩ = some (.slice s.a s.n s.cap)
 sp : ∀ j, j < C * 3 → (w.cell? ⟨g, j, none⟩).isSome = true ∧ w.frozen? ⟨g, j, none⟩ = false
 le : ss.length ≤ C
 cm : C ≤ maxLen
theorem SR.fz {w : World} {g C : Nat} {ss : List SV} (h : SR w g C ss) (j : Nat) (hj : j < ss.length * 3) : w.frozen? ⟨g, j, none⟩ = false := (h.sp j (by have := h.le; omega)).2
theorem SR.below {w w' : World} {g C : Nat} {ss : List SV} (h : SR w g C ss) (hb : Below w.heap.size w w') : SR w' g C ss :=
 ⟨Nat.lt_of_lt_of_le h.lt hb.size, fun j s e => by
  obtain ⟨c0, c1, c2⟩ := h.cell j s e
  exact ⟨(hb.cell (p := ⟨g, j * 3, none⟩) h.lt).trans c0, (hb.cell (p := ⟨g, j * 3 + 1, none⟩) h.lt).trans c1, (hb.cell (p := ⟨g, j * 3 + 2, none⟩) h.lt).trans c2⟩, fun j hj => ⟨by rw [hb.cell (p := ⟨g, j, none⟩) h.lt]; exact (h.sp j hj).1, (hb.frozen (p := ⟨g, j, none⟩) h.lt).trans (h.sp j hj).2⟩, h.le, h.cm⟩
theorem SR.drewN {w : World} {g C : Nat} {ss : List SV} (h : SR w g C ss) (n : Nat) : SR (w.drewN n) g C ss := h.below (below_drewN (Below.refl _ _) n)
def put3 (w : World) (g k : Nat) (s : SV) : World := ((w.setCell ⟨g, k * 3, none⟩ (.int .i64 s.own)).setCell ⟨g, k * 3 + 1, none⟩ (.int .i64 s.seq)).setCell ⟨g, k * 3 + 2, none⟩ (.slice s.a s.n s.cap)
theorem SR.put {w : World} {g C : Nat} {ss : List SV} (h : SR w g C ss) (k : Nat) (hk : k < ss.length) (s : SV) : SR (put3 w g k s) g C (ss.set k s) := by
 have hsome : ∀ j, j < ss.length * 3 → (w.cell? ⟨g, j, none⟩).isSome = true := by
  intro j hj
  have hl : j / 3 < ss.length := by omega
  obtain ⟨c0, c1, c2⟩ := h.cell (j / 3) ss[j / 3] (List.getElem?_eq_getElem hl)
  rcases (show j = j / 3 * 3 ∨ j = j / 3 * 3 + 1 ∨ j = j / 3 * 3 + 2 by omega) with e | e | e
  · rw [e, c0]; rfl
  · rw [e, c1]; rfl
  · rw [e, c2]; rfl
 have e0 : put3 w g k s = w.setCells g (k * 3) [.int .i64 s.own, .int .i64 s.seq, .slice s.a s.n s.cap] := rfl
 have hin := World.cell?_setCells_in g [.int .i64 s.own, .int .i64 s.seq, .slice s.a s.n s.cap] (k * 3) w (fun j hj => hsome _ (by simp at hj; omega))
 refine ⟨by unfold put3; simpa using h.lt, fun j s' e => ?_, fun j hj => ?_, by simpa using h.le, h.cm⟩
 · by_cases hjk : j = k
   · subst hjk
     rw [List.getElem?_set_self hk] at e
     obtain rfl := Option.some.inj e
     rw [e0]
     exact ⟨hin 0 (by simp), hin 1 (by simp), hin 2 (by simp)⟩
   · rw [List.getElem?_set_ne (fun e => hjk e.symm)] at e
     obtain ⟨c0, c1, c2⟩ := h.cell j s' e
     have hout : ∀ o, o < 3 → (w.setCells g (k * 3) [.int .i64 s.own, .int .i64 s.seq, .slice s.a s.n s.cap]).cell? ⟨g, j * 3 + o, none⟩ = w.cell? ⟨g, j * 3 + o, none⟩ := fun o ho => World.cell?_setCells_out g _ _ _ _ (fun _ _ => by show j * 3 + o < k * 3 ∨ k * 3 + 3 ≤ j * 3 + o; omega)
     rw [e0]
     exact ⟨(hout 0 (by decide)).trans c0, (hout 1 (by decide)).trans c1, (hout 2 (by decide)).trans c2⟩
 · rw [e0, World.frozen?_setCells]
   refine ⟨?_, (h.sp j hj).2⟩
   by_cases hq : k * 3 ≤ j ∧ j < k * 3 + 3
   · have := hin (j - k * 3) (by simp; omega)
     rw [show k * 3 + (j - k * 3) = j by omega] at this
     rw [this]
     rfl
   · rw [World.cell?_setCells_out g _ _ _ _ (fun _ _ => by show j < k * 3 ∨ k * 3 + 3 ≤ j; omega)]
     exact (h.sp j hj).1
theorem put3_kept (w : World) (g k : Nat) (s : SV) : w.grownBy (put3 w g k s) (some g) := by
 unfold put3
 exact grownBy_setC (grownBy_setC (grownBy_setC ⟨rfl, rfl, rfl, Nat.le_refl _, fun _ _ _ => rfl⟩ _ _) _ _) _ _
def Ris (l : List SV) : Prop := l.Pairwise (fun x y => x.own < y.own)
set_option maxRecDepth 100000 in
theorem less_any (x y : SV) (w : World) : Calls Tryz.prog 203 #[.agg #[.int .i64 x.own, .int .i64 x.seq, .slice x.a x.n x.cap], .agg #[.int .i64 y.own, .int .i64 y.seq, .slice y.a y.n y.cap]] w fun e w' => e = .returned (.int .i64 (cmpI x.own y.own)) ∧ Below w.heap.size w w' := by
 have hw0 : Below w.heap.size w ((w.alloc (.cells #[.int .i64 x.own, .int .i64 x.seq, .slice x.a x.n x.cap] 40)).alloc (.cells #[.int .i64 y.own, .int .i64 y.seq, .slice y.a y.n y.cap] 40)) := (below_alloc _ _).alloc (by simp) _
 have h1 := compare_any x.own y.own ((w.alloc (.cells #[.int .i64 x.own, .int .i64 x.seq, .slice x.a x.n x.cap] 40)).alloc (.cells #[.int .i64 y.own, .int .i64 y.seq, .slice y.a y.n y.cap] 40))
 go_enter Tryz.func203, Tryz.ntmps203
 go_wp2_with (fail)
 refine h1.mono ?_
 rintro e w1 ⟨rfl, rfl⟩
 go_wp2_with (fail)
 go_ret
 exact ⟨rfl, hw0⟩
structure Down (w wr : World) (g cap n i : Nat) (ss pre mid post : List SV) (x : SV) : Prop where
 sr : SR wr g cap (pre ++ x :: (mid ++ post))
 perm : (pre ++ x :: (mid ++ post)).Perm ss
 ris : Ris (pre ++ mid)
 low : ∀ y ∈ mid, x.own < y.own
 len : pre.length + mid.length = i
 grown : w.grownBy wr (some g)
theorem ris_put {pre mid : List SV} {x : SV} (h : Ris (pre ++ mid)) (hp : ∀ y ∈ pre, y.own < x.own) (hm : ∀ y ∈ mid, x.own < y.own) : Ris (pre ++ x :: mid) := by
 unfold Ris at *
 rw [List.pairwise_append] at h ⊢
 refine ⟨h.1, List.pairwise_cons.2 ⟨hm, h.2.1⟩, fun a ha b hb => ?_⟩
 rcases List.mem_cons.1 hb with rfl | hb
 · exact hp a ha
 · exact h.2.2 a ha b hb
theorem ris_last {pre : List SV} {y x : SV} (h : Ris (pre ++ [y])) (hy : y.own < x.own) : ∀ z ∈ pre ++ [y], z.own < x.own := by
 intro z hz
 rcases List.mem_append.1 hz with hz | hz
 · have := (List.pairwise_append.1 h).2.2 z hz y (by simp)
   omega
 · have : z = y := by simpa using hz
   rw [this]; exact hy
theorem grown_below {w a b : World} {g : Nat} (h : w.grownBy a (some g)) (k : Below a.heap.size a b) : w.grownBy b (some g) :=
 ⟨k.os.trans h.os, k.tape.trans h.tape, k.output.trans h.output, Nat.le_trans h.size k.size, fun i hi hne => (k.block i (Nat.lt_of_lt_of_le hi h.size)).trans (h.block i hi hne)⟩
theorem grown_grown {w a b : World} {g : Nat} (h : w.grownBy a (some g)) (k : a.grownBy b (some g)) : w.grownBy b (some g) :=
 ⟨k.os.trans h.os, k.tape.trans h.tape, k.output.trans h.output, Nat.le_trans h.size k.size, fun i hi hne => (k.block i (Nat.lt_of_lt_of_le hi h.size) hne).trans (h.block i hi hne)⟩
theorem sixc {w w' : World} {g a b c d e f : Nat} {u0 u1 u2 u3 u4 u5 : Value} (k : Below w.heap.size w w') (gl : g < w.heap.size)
 (h : w.cell? ⟨g, a, none⟩ = some u0 ∧ w.cell? ⟨g, b, none⟩ = some u1 ∧ w.cell? ⟨g, c, none⟩ = some u2 ∧ w.cell? ⟨g, d, none⟩ = some u3 ∧ w.cell? ⟨g, e, none⟩ = some u4 ∧ w.cell? ⟨g, f, none⟩ = some u5) :
 w'.cell? ⟨g, a, none⟩ = some u0 ∧ w'.cell? ⟨g, b, none⟩ = some u1 ∧ w'.cell? ⟨g, c, none⟩ = some u2 ∧ w'.cell? ⟨g, d, none⟩ = some u3 ∧ w'.cell? ⟨g, e, none⟩ = some u4 ∧ w'.cell? ⟨g, f, none⟩ = some u5 :=
 ⟨(k.cell (p := ⟨g, a, none⟩) gl).trans h.1, (k.cell (p := ⟨g, b, none⟩) gl).trans h.2.1, (k.cell (p := ⟨g, c, none⟩) gl).trans h.2.2.1, (k.cell (p := ⟨g, d, none⟩) gl).trans h.2.2.2.1, (k.cell (p := ⟨g, e, none⟩) gl).trans h.2.2.2.2.1, (k.cell (p := ⟨g, f, none⟩) gl).trans h.2.2.2.2.2⟩
set_option maxRecDepth 100000 in
set_option maxHeartbeats 8000000 in
theorem insort_any (g n cap : Nat) (ss : List SV) (w : World) (h : SR w g cap ss) (hl : ss.length = n) (hn : n ≤ 12) (hd : ss.Pairwise (fun x y => x.own ≠ y.own)) :
 Calls Tryz.prog 232 #[.slice (some ⟨g, 0, none⟩) n cap, .int .i64 0, .int .i64 (n : Int), .func (.func 203) #[] #[]] w fun e w' => e = .returned (.tuple #[]) ∧ ∃ ts, SR w' g cap ts ∧ ts.Perm ss ∧ Ris ts ∧ w.grownBy w' (some g) := by
 go_enter Tryz.func232, Tryz.ntmps232
 go_wp2_with (fail)
 go_loopw [8] (fun i wr => ∃ (k : Nat) (ts : List SV), 1 ≤ k ∧ (k ≤ n ∨ k = 1) ∧ i = .int .i64 k ∧ SR wr g cap ts ∧ ts.Perm ss ∧ Ris (ts.take k) ∧ w.grownBy wr (some g)) (fun i _ => n - (intOf i).toNat)
 case atStart => exact ⟨1, ss, Nat.le_refl _, .inr rfl, rfl, h, List.Perm.refl _, by unfold Ris; cases ss <;> simp, ⟨rfl, rfl, rfl, Nat.le_refl _, fun _ _ _ => rfl⟩⟩
 case round =>
  obtain ⟨k, ts, hk1, hkn, rfl, hS, hP, hR, hG⟩ := hrel
  have htl : ts.length = n := by rw [hP.length_eq, hl]
  by_cases hlt : k < n
  · have hlt' : (k : Int) < (n : Int) := by omega
    have hD0 : Hid (Down w wr g cap n k ss (ts.take k) [] (ts.drop (k + 1)) (ts[k]'(by omega))) := by
     have e : ts.take k ++ (ts[k]'(by omega)) :: ([] ++ ts.drop (k + 1)) = ts := by
      rw [List.nil_append, ← List.drop_eq_getElem_cons (by omega), List.take_append_drop]
     refine ⟨by rw [e]; exact hS, by rw [e]; exact hP, by rw [List.append_nil]; exact hR, by simp, by simp; omega, hG⟩
    obtain ⟨wo, rfl⟩ : ∃ wo, wo = wr := ⟨_, rfl⟩
    clear hS hP hR hG
    go_wp2_with (fail)
    go_loopw [9] (fun j wr => ∃ (pre mid post : List SV) (x : SV), j = .int .i64 (pre.length : Int) ∧ Down w wr g cap n k ss pre mid post x) (fun j _ => (intOf j).toNat)
    case atStart => exact ⟨_, _, _, _, by simp; omega, hD0.out⟩
    case round =>
     clear hD0
     obtain ⟨pre, mid, post, x, rfl, hD⟩ := hrel
     have hlen : pre.length + mid.length + post.length + 1 = n := by
      have := hD.perm.length_eq
      simp at this
      omega
     rcases List.eq_nil_or_concat pre with rfl | ⟨pr, y, hpe⟩
     · have HE : Hid (∃ ts : List SV, SR wr g cap ts ∧ ts.Perm ss ∧ Ris (ts.take (k + 1)) ∧ w.grownBy wr (some g)) := by
        refine ⟨_, hD.sr, hD.perm, ?_, hD.grown⟩
        have hm := hD.len
        simp only [List.nil_append, List.length_nil, Nat.zero_add] at hm ⊢
        have e : (x :: (mid ++ post)).take (k + 1) = x :: mid := by
         rw [List.take_succ_cons, ← hm, List.take_left]
        rw [e]
        exact ris_put (pre := []) hD.ris (by simp) hD.low
       clear hD
       simp only [List.length_nil, Int.natCast_zero]
       go_wp2_with (fail)
       go_quiet (fail)
       go_wp2_with (fail)
       go_roundw
       case rel =>
        obtain ⟨us, q1, q2, q3, q4⟩ := HE.out
        exact ⟨k + 1, us, by omega, .inl (by omega), by go_num, SR.drewN q1 _, q2, q3, grown_below q4 (below_drewN (Below.refl _ _) _)⟩
       case measure => simp [intOf]; omega
     · rw [List.concat_eq_append] at hpe
       subst hpe
       obtain ⟨P, hP⟩ : ∃ P, pr.length = P := ⟨_, rfl⟩
       have hPl : (pr ++ [y]).length = P + 1 := by simp [hP]
       have gx : ((pr ++ [y]) ++ x :: (mid ++ post))[P + 1]? = some x := by rw [← hPl]; simp
       have gy : ((pr ++ [y]) ++ x :: (mid ++ post))[P]? = some y := by rw [← hP]; simp
       obtain ⟨x0, x1, x2⟩ := hD.sr.cell _ _ gx
       obtain ⟨y0, y1, y2⟩ := hD.sr.cell _ _ gy
       have gl := hD.sr.lt
       have hPn : P + 1 < n := by
        rw [hPl] at hlen
        omega
       have b0 : (0 : Int) ≤ (P : Int) := by omega
       have b1 : (P : Int) < (n : Int) := by omega
       have b2 : (P : Int) + 1 < (n : Int) := by omega
       have b3 : (0 : Int) ≤ (P : Int) + 1 := by omega
       have b4 : (0 : Int) < (P : Int) + 1 := by omega
       have b5 : IntKind.i64.wrap ((P : Int) + 1 - 1) = (P : Int) := by rw [show (P : Int) + 1 - 1 = (P : Int) by omega]; exact IntWalk.i64_in _ ⟨by omega, by omega⟩
       have b6 : IntKind.i64.wrap (P : Int) = (P : Int) := IntWalk.i64_in _ ⟨by omega, by omega⟩
       have hneq : ¬ x.own = y.own := by
        have hd2 := (hD.perm.pairwise_iff (fun {a b} (hab : a.own ≠ b.own) => fun e => hab e.symm)).2 hd
        have h3 := (List.pairwise_append.1 hd2).2.2 y (by simp) x (by simp)
        exact fun e => h3 e.symm
       have eJ : (((pr ++ [y]).length : Nat) : Int) = (P : Int) + 1 := by rw [hPl]; rfl
       rw [eJ]
       have HD : Hid _ := hD
       have HP : Hid _ := hP
       have HN : Hid _ := hneq
       clear hD hP hneq eJ hPl gx gy hlen
       have F0 : wr.drew.cell? ⟨g, (P + 1) * 3, none⟩ = some (.int .i64 x.own) ∧ wr.drew.cell? ⟨g, (P + 1) * 3 + 1, none⟩ = some (.int .i64 x.seq) ∧ wr.drew.cell? ⟨g, (P + 1) * 3 + 2, none⟩ = some (.slice x.a x.n x.cap) ∧ wr.drew.cell? ⟨g, P * 3, none⟩ = some (.int .i64 y.own) ∧ wr.drew.cell? ⟨g, P * 3 + 1, none⟩ = some (.int .i64 y.seq) ∧ wr.drew.cell? ⟨g, P * 3 + 2, none⟩ = some (.slice y.a y.n y.cap) := ⟨x0, x1, x2, y0, y1, y2⟩
       have HC := less_any x y wr.drew
       obtain ⟨cx, hcx⟩ : ∃ cx, cmpI x.own y.own = cx := ⟨_, rfl⟩
       rw [hcx] at HC
       by_cases hlow : x.own < y.own
       · have hc1 : cx = -1 := by rw [← hcx, cmpI, if_pos hlow]
         subst hc1
         clear hcx
         go_wp2_with (fail)
         go_region_held3 (fun v => v.cell? ⟨g, (P + 1) * 3, none⟩ = some (.int .i64 x.own) ∧ v.cell? ⟨g, (P + 1) * 3 + 1, none⟩ = some (.int .i64 x.seq) ∧ v.cell? ⟨g, (P + 1) * 3 + 2, none⟩ = some (.slice x.a x.n x.cap) ∧ v.cell? ⟨g, P * 3, none⟩ = some (.int .i64 y.own) ∧ v.cell? ⟨g, P * 3 + 1, none⟩ = some (.int .i64 y.seq) ∧ v.cell? ⟨g, P * 3 + 2, none⟩ = some (.slice y.a y.n y.cap))
          (first | assumption | exact F0 | exact F1)
          ((go_at_call 203; refine HC.mono ?_; rintro e w5 ⟨rfl, k5⟩; have F1 := sixc k5 gl F0))
         have k5' : Below wr.heap.size wr w5 := below_chain (below_drewN (Below.refl _ _) 1) k5
         have S5 := HD.out.sr.below k5'
         obtain ⟨z0, z1, z2, z3, z4, z5⟩ := F1
         have gl5 := S5.lt
         have hfz : ∀ o, o < (P + 2) * 3 → w5.frozen? ⟨g, o, none⟩ = false := fun o ho => S5.fz o (by have := HP.out; simp; omega)
         have f0 := hfz ((P + 1) * 3) (by omega)
         have f1 := hfz ((P + 1) * 3 + 1) (by omega)
         have f2 := hfz ((P + 1) * 3 + 2) (by omega)
         have f3 := hfz (P * 3) (by omega)
         have f4 := hfz (P * 3 + 1) (by omega)
         have f5 := hfz (P * 3 + 2) (by omega)
         clear hfz HC F0 x0 x1 x2 y0 y1 y2 k5
         have hD6 : Hid (Down w (put3 (put3 w5 g (P + 1) y) g P x).drew g cap n k ss pr (y :: mid) post x) := by
          have hd := HD.out
          have hp := HP.out
          have hset : ((((pr ++ [y]) ++ x :: (mid ++ post)).set (P + 1) y).set P x) = pr ++ x :: ((y :: mid) ++ post) := by
           subst hp
           rw [List.append_assoc, List.set_append_right _ _ (by omega), show pr.length + 1 - pr.length = 1 by omega]
           simp only [List.singleton_append, List.set_cons_succ, List.set_cons_zero]
           rw [List.set_append_right _ _ (by omega), Nat.sub_self]
           rfl
          have hlen : ((pr ++ [y]) ++ x :: (mid ++ post)).length = pr.length + mid.length + post.length + 2 := by simp; omega
          have s6 := ((S5.put (P + 1) (by rw [hlen]; omega) y).put P (by rw [List.length_set, hlen]; omega) x).drewN 1
          rw [hset] at s6
          refine ⟨s6, ?_, ?_, ?_, ?_, ?_⟩
          · refine List.Perm.trans ?_ hd.perm
            rw [List.append_assoc]
            exact List.Perm.append_left pr (by simpa using List.Perm.swap y x (mid ++ post))
          · have := hd.ris
            rw [List.append_assoc] at this
            exact this
          · intro z hz
            rcases List.mem_cons.1 hz with rfl | hz
            · exact hlow
            · exact hd.low z hz
          · have := hd.len
            simp at this ⊢
            omega
          · exact grown_below (grown_grown (grown_grown (grown_below hd.grown k5') (put3_kept _ g (P + 1) y)) (put3_kept _ g P x)) (below_drewN (Below.refl _ _) 1)
         go_wp2_with (fail)
         go_region
         go_wp2_with (fail)
         refine ⟨⟨pr, y :: mid, post, x, ?_, ?_⟩, ?_⟩
         · rw [HP.out]
         · exact hD6.out
         · simp [intOf]
       · have hhi : y.own < x.own := by have h9 : ¬ x.own = y.own := HN.out
                                        omega
         have hc1 : cx = 1 := by rw [← hcx, cmpI, if_neg hlow, if_pos hhi]
         subst hc1
         clear hcx
         go_wp2_with (fail)
         go_region_held3 (fun v => v.cell? ⟨g, (P + 1) * 3, none⟩ = some (.int .i64 x.own) ∧ v.cell? ⟨g, (P + 1) * 3 + 1, none⟩ = some (.int .i64 x.seq) ∧ v.cell? ⟨g, (P + 1) * 3 + 2, none⟩ = some (.slice x.a x.n x.cap) ∧ v.cell? ⟨g, P * 3, none⟩ = some (.int .i64 y.own) ∧ v.cell? ⟨g, P * 3 + 1, none⟩ = some (.int .i64 y.seq) ∧ v.cell? ⟨g, P * 3 + 2, none⟩ = some (.slice y.a y.n y.cap))
          (first | assumption | exact F0 | exact F1)
          ((go_at_call 203; refine HC.mono ?_; rintro e w5 ⟨rfl, k5⟩; have F1 := sixc k5 gl F0))
         have k5' : Below wr.heap.size wr w5 := below_chain (below_drewN (Below.refl _ _) 1) k5
         have HE : Hid (∃ ts : List SV, SR w5 g cap ts ∧ ts.Perm ss ∧ Ris (ts.take (k + 1)) ∧ w.grownBy w5 (some g)) := by
          have hd := HD.out
          refine ⟨_, hd.sr.below k5', hd.perm, ?_, grown_below hd.grown k5'⟩
          have hm := hd.len
          have e : ((pr ++ [y]) ++ x :: (mid ++ post)).take (k + 1) = (pr ++ [y]) ++ x :: mid := by
           rw [show (pr ++ [y]) ++ x :: (mid ++ post) = ((pr ++ [y]) ++ x :: mid) ++ post by simp]
           rw [List.take_left' (by simp at hm ⊢; omega)]
          rw [e]
          exact ris_put hd.ris (ris_last (List.pairwise_append.1 hd.ris).1 hhi) hd.low
         clear HC F0 F1 x0 x1 x2 y0 y1 y2 k5
         go_wp2_with (fail)
         go_roundw
         case rel =>
          obtain ⟨us, q1, q2, q3, q4⟩ := HE.out
          exact ⟨k + 1, us, by omega, .inl (by omega), by go_num, q1, q2, q3, q4⟩
         case measure => simp [intOf]; omega
  · have HE : Hid (∃ ts, SR wr g cap ts ∧ ts.Perm ss ∧ Ris ts ∧ w.grownBy wr (some g)) := by
     refine ⟨ts, hS, hP, ?_, hG⟩
     have : ts.take k = ts := List.take_of_length_le (by omega)
     rwa [this] at hR
    clear hS hP hR hG
    have hge : ¬ (k : Int) < (n : Int) := by omega
    go_wp2_with (fail)
    first | go_end0 | refine bodyPost_ret (results_none rfl _ _ _) rfl ?_
    exact ⟨rfl, HE.out⟩
end Go.Proofs.YtieklnlbljejdaaGreatDoor

namespace Go.Proofs.YtieklnlbljejdaaGreatDoor
open Go.RowKit St
set_option maxRecDepth 100000 in
set_option maxHeartbeats 2000000 in
theorem len_any (n : Nat) (hn : n ≤ 6) (w : World) : Calls Tryz.prog 221 #[.int .u64 (n : Int)] w fun e w' => ∃ r : Int, e = .returned (.int .i64 r) ∧ w = w' := by
 have h64 : ∀ W : World, Calls Tryz.prog 241 #[.int .u64 (n : Int)] W fun e w' => ∃ r : Int, e = .returned (.int .i64 r) ∧ W = w' := by
  intro W
  rcases (show n = 0 ∨ n = 1 ∨ n = 2 ∨ n = 3 ∨ n = 4 ∨ n = 5 ∨ n = 6 by omega) with rfl | rfl | rfl | rfl | rfl | rfl | rfl
  all_goals
   go_enter Tryz.func241, Tryz.ntmps241
   go_wp2
   go_ret
   exact ⟨_, rfl, rfl⟩
 go_enter Tryz.func221, Tryz.ntmps221
 go_wp2_with (fail)
 refine (h64 _).mono ?_
 rintro e w1 ⟨r, rfl, rfl⟩
 go_wp2_with (fail)
 go_ret
 exact ⟨_, rfl, rfl⟩
set_option maxRecDepth 100000 in
set_option maxHeartbeats 2000000 in
theorem pdq_any (g n cap : Nat) (L : Int) (ss : List SV) (w : World) (h : SR w g cap ss) (hl : ss.length = n) (hn : n ≤ 12) (hd : ss.Pairwise (fun x y => x.own ≠ y.own)) :
 Calls Tryz.prog 220 #[.slice (some ⟨g, 0, none⟩) n cap, .int .i64 0, .int .i64 (n : Int), .int .i64 L, .func (.func 203) #[] #[]] w fun e w' => e = .returned (.tuple #[]) ∧ ∃ ts, SR w' g cap ts ∧ ts.Perm ss ∧ Ris ts ∧ w.grownBy w' (some g) := by
 have hc := insort_any g n cap ss w h hl hn hd
 have h12 : (n : Int) ≤ 12 := by omega
 go_enter Tryz.func220, Tryz.ntmps220
 go_wp2_with (fail)
 refine wp_loop_rounds 1 ?_
 rw [rounds_succ]
 go_wp2_with (fail)
 refine hc.mono ?_
 rintro e w1 ⟨rfl, hE⟩
 have HE : Hid _ := hE
 clear hE hc
 go_wp2_with (fail)
 first | go_end0 | refine bodyPost_ret (results_none rfl _ _ _) rfl ?_
 exact ⟨rfl, HE.out⟩
set_option maxRecDepth 100000 in
set_option maxHeartbeats 2000000 in
theorem sort_any (g n cap : Nat) (ss : List SV) (w : World) (h : SR w g cap ss) (hl : ss.length = n) (hn : n ≤ 6) (hd : ss.Pairwise (fun x y => x.own ≠ y.own)) :
 Calls Tryz.prog 202 #[.slice (some ⟨g, 0, none⟩) n cap, .func (.func 203) #[] #[]] w fun e w' => e = .returned (.tuple #[]) ∧ ∃ ts, SR w' g cap ts ∧ ts.Perm ss ∧ Ris ts ∧ w.grownBy w' (some g) := by
 have hle := len_any n hn w
 have h12 : (n : Int) ≤ 6 := by omega
 go_enter Tryz.func202, Tryz.ntmps202
 go_wp2_with (fail)
 refine hle.mono ?_
 rintro e w1 ⟨r, rfl, rfl⟩
 go_wp2_with (fail)
 refine (pdq_any g n cap r ss w h hl (by omega) hd).mono ?_
 rintro e w2 ⟨rfl, hE⟩
 have HE : Hid _ := hE
 clear hE hle
 go_wp2_with (fail)
 first | go_end0 | refine bodyPost_ret (results_none rfl _ _ _) rfl ?_
 exact ⟨rfl, HE.out⟩
end Go.Proofs.YtieklnlbljejdaaGreatDoor
