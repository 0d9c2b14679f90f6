/-
  RtHello RtStep RtTake
-/
import Derived.Test.YtieklnlbljejdaaGreatDoorG29
import Derived.Test.YtieklnlbljejdaaGreatDoorG30
import Derived.Test.YtieklnlbljejdaaGreatDoorG31
namespace Go.Proofs.YtieklnlbljejdaaGreatDoor
open Go.RowKit St
namespace Rt
theorem hear_peer (a c me f s : Int) (b : Bool) (w : World) : Calls Tryz.prog 187 #[.agg #[.int .i64 a, .bool b, .int .i64 c], .int .i64 me, .agg #[.int .i64 f, .int .i64 s]] w fun e w' =>
 e = .returned (.agg #[.int .i64 (peerHear me f s).who, .bool (peerHear me f s).both, .int .i64 (peerHear me f s).left]) ∧ Below w.heap.size w w' := by
 have h := hear_any a c me f s b w
 have e : hearP me f s = ((peerHear me f s).who, (peerHear me f s).both, (peerHear me f s).left) := by
  unfold hearP peerHear
  split
  · rfl
  · simp only [Prod.mk.injEq, true_and, and_true]
    by_cases h : s = me
    · simp [h]
    · simp [h]
 rw [e] at h
 exact h
set_option maxRecDepth 100000 in
set_option maxHeartbeats 4000000 in
theorem takeHello_any (s : ByteArray) (z : Zt) (r : RtM) (i : Nat) (w : World) (h : RtR w z r) (hok : ROk r) (hi : i < r.n) :
 Calls Tryz.prog 134 #[.pointer (some ⟨z.R, 0, none⟩), .int .i64 (i : Int), .string s] w fun e w' => e = .returned (.tuple #[]) ∧ WentR w w' z (if (helR s.data.toList).2.2 = 0 then r.meet i (peerHear r.id (helR s.data.toList).1 (helR s.data.toList).2.1) else r) r.n := by
 have hp := hparse_any s w
 have hi' : (i : Int) < (r.n : Int) := by omega
 have hi0 : (0 : Int) ≤ (i : Int) := by omega
 by_cases hz : (helR s.data.toList).2.2 = 0
 · rw [if_pos hz]
   rw [hz] at hp
   have hf : 1 ≤ (helR s.data.toList).1 ∧ (helR s.data.toList).1 ≤ 6 := by
    unfold helR at hz ⊢
    split at hz
    · rename_i hc
      rw [if_pos hc]
      have := hc.2
      simp only [helB, Bool.and_eq_true, decide_eq_true_eq] at this
      simp only
      omega
    · simp at hz
   have e0 : errV 0 = .nilIface := rfl
   rw [e0] at hp
   generalize (helR s.data.toList).1 = f at hp hf ⊢
   generalize (helR s.data.toList).2.1 = g at hp ⊢
   have hmeet : ∀ W Z, Below w.heap.size w W → w.heap.size ≤ Z → (W.cell? ⟨Z, 0, none⟩ = some (.int .i64 f) ∧ W.cell? ⟨Z, 1, none⟩ = some (.int .i64 g)) → Calls Tryz.prog 74 #[.pointer (some ⟨z.R, 0, none⟩), .int .i64 (i : Int), .agg #[.int .i64 (peerHear r.id f g).who, .bool (peerHear r.id f g).both, .int .i64 (peerHear r.id f g).left]] W fun e w' => e = .returned (.tuple #[]) ∧ WentR w w' z (r.meet i (peerHear r.id f g)) r.n ∧ (w'.cell? ⟨Z, 0, none⟩ = some (.int .i64 f) ∧ w'.cell? ⟨Z, 1, none⟩ = some (.int .i64 g) ∧ w'.cell? ⟨z.R, 0, none⟩ = some (.int .i64 r.id) ∧ w'.cell? ⟨z.R, 1, none⟩ = some (.slice (some ⟨z.g, 0, none⟩) r.n z.cap)) := by
    intro W Z hW hZ hc
    have R := h.below hW
    refine (meet_any z r i (peerHear r.id f g) W R hok hi (PeOk.hear hok.id.1 hf)).mono ?_
    rintro e w' ⟨rfl, hw⟩
    have hnm : ¬ z.mine r.n Z := h.not_mine hZ
    have k0 := hw.c0
    have k1 := hw.c1
    rw [meet_id] at k0
    rw [meet_n] at k1
    exact ⟨rfl, WentR.first h rfl hW (fun _ => hw), hw.cell R (p := ⟨Z, 0, none⟩) hnm hc.1, hw.cell R (p := ⟨Z, 1, none⟩) hnm hc.2, k0, k1⟩
   have hcel : Hid (∀ W, Below w.heap.size w W → W.cell? ⟨z.R, 0, none⟩ = some (.int .i64 r.id) ∧ W.cell? ⟨z.R, 1, none⟩ = some (.slice (some ⟨z.g, 0, none⟩) r.n z.cap) ∧ W.cell? ⟨z.g, i * 71 + 67, none⟩ = some (.int .i64 (r.P i).pe.who) ∧ W.cell? ⟨z.g, i * 71 + 67 + 1, none⟩ = some (.bool (r.P i).pe.both) ∧ W.cell? ⟨z.g, i * 71 + 67 + 2, none⟩ = some (.int .i64 (r.P i).pe.left)) := by
    intro W hW
    have R := h.below hW
    exact ⟨R.c0, R.c1, (R.pt i hi).c67, (R.pt i hi).c68, (R.pt i hi).c69⟩
   obtain ⟨T, hT⟩ : ∃ T : World → Prop, (fun x => WentR w x z (r.meet i (peerHear r.id f g)) r.n) = T := ⟨_, rfl⟩
   have hT' : ∀ x, WentR w x z (r.meet i (peerHear r.id f g)) r.n = T x := fun x => congrFun hT x
   simp only [hT'] at hmeet ⊢
   have hher := hear_peer (r.P i).pe.who (r.P i).pe.left r.id f g (r.P i).pe.both
   generalize (peerHear r.id f g).who = q1 at hmeet hher
   generalize (peerHear r.id f g).both = q2 at hmeet hher
   generalize (peerHear r.id f g).left = q3 at hmeet hher
   generalize (r.P i).pe.who = p1 at hcel hher
   generalize (r.P i).pe.both = p2 at hcel hher
   generalize (r.P i).pe.left = p3 at hcel hher
   generalize r.id = id at hcel hher hmeet
   have hRl := h.lt
   have hgl := h.glt
   generalize z.R = RR at hmeet hcel hRl ⊢
   generalize z.g = G at hcel hgl hmeet
   generalize z.cap = cp at hcel hmeet
   generalize r.n = n at hcel hi' hmeet
   clear h hok hT hT' hz hf
   go_enter Tryz.func134, Tryz.ntmps134
   go_wp2_with (fail)
   refine hp.mono ?_
   rintro e w1 ⟨rfl, b1⟩
   have ba := below_alloc w1 (.cells #[.int .i64 f, .int .i64 g] 230)
   have hA := fun j => World.cell?_alloc_mark w1 #[.int .i64 f, .int .i64 g] 230 (0, 0) j
   have b2 := below_chain b1 ba
   obtain ⟨W2, hW2⟩ : ∃ W2, w1.alloc (.cells #[.int .i64 f, .int .i64 g] 230) = W2 := ⟨_, rfl⟩
   obtain ⟨Z, hZ⟩ : ∃ Z, w1.heap.size = Z := ⟨_, rfl⟩
   rw [hW2] at b2
   have z0 : W2.cell? ⟨Z, 0, none⟩ = some (.int .i64 f) := by rw [← hW2, ← hZ]; exact hA 0
   have z1 : W2.cell? ⟨Z, 1, none⟩ = some (.int .i64 g) := by rw [← hW2, ← hZ]; exact hA 1
   have b3 := below_chain b2 (below_d W2)
   have F00 := hcel.out _ b3
   have F0 : W2.drew.cell? ⟨Z, 0, none⟩ = some (.int .i64 f) ∧ W2.drew.cell? ⟨Z, 1, none⟩ = some (.int .i64 g) ∧ W2.drew.cell? ⟨RR, 0, none⟩ = some (.int .i64 id) ∧ W2.drew.cell? ⟨RR, 1, none⟩ = some (.slice (some ⟨G, 0, none⟩) n cp) := ⟨z0, z1, F00.1, F00.2.1⟩
   have m1 := F00.2.2.1
   have m2 := F00.2.2.2.1
   have m3 := F00.2.2.2.2
   have zl : Z < W2.drew.heap.size := World.block_lt_of_cell? _ _ F0.1
   have hZw : w.heap.size ≤ Z := by rw [← hZ]; exact b1.size
   have gl2 : G < W2.drew.heap.size := World.block_lt_of_cell? _ _ m1
   have hh : Calls Tryz.prog 187 #[.agg #[.int .i64 p1, .bool p2, .int .i64 p3], .int .i64 id, .agg #[.int .i64 f, .int .i64 g]] W2.drew fun e w' => e = .returned (.agg #[.int .i64 q1, .bool q2, .int .i64 q3]) ∧ Below w.heap.size w w' ∧ (w'.cell? ⟨Z, 0, none⟩ = some (.int .i64 f) ∧ w'.cell? ⟨Z, 1, none⟩ = some (.int .i64 g) ∧ w'.cell? ⟨RR, 0, none⟩ = some (.int .i64 id) ∧ w'.cell? ⟨RR, 1, none⟩ = some (.slice (some ⟨G, 0, none⟩) n cp)) := by
    refine (hher W2.drew).mono ?_
    rintro e w' ⟨rfl, b4⟩
    have F4 := hcel.out _ (below_chain b3 b4)
    exact ⟨rfl, below_chain b3 b4, (World.cell?_of_block (a := ⟨Z, 0, none⟩) (b4.block Z zl)).trans F0.1, (World.cell?_of_block (a := ⟨Z, 1, none⟩) (b4.block Z zl)).trans F0.2.1, F4.1, F4.2.1⟩
   clear hp hher hA ba b1 b2
   go_wp2_with (fail)
   try rw [hW2]
   try rw [hZ]
   clear hW2 hZ
   refine wp_region_held_drew (S := fun x => x.cell? ⟨Z, 0, none⟩ = some (.int .i64 f) ∧ x.cell? ⟨Z, 1, none⟩ = some (.int .i64 g) ∧ x.cell? ⟨RR, 0, none⟩ = some (.int .i64 id) ∧ x.cell? ⟨RR, 1, none⟩ = some (.slice (some ⟨G, 0, none⟩) n cp)) (by kernel_rfl) F0 (fun hHeld => ?_)
   refine rt_yes 0 (some 15) rfl rfl (by kernel_rfl) (by kernel_rfl) (by kernel_rfl) (fun _ _ _ h => h) (by rfl) (v := ?_) ?_ (by assumption) ?_
   rotate_left
   · intro wS hSw
     (try dsimp only at hSw)
     go_simp
     try with_reducible rfl
   simp only [Act.put, List.setIfInBounds_toArray, List.set_cons_zero, List.set_cons_succ]
   refine rt_yes 1 (some 16) rfl rfl (by kernel_rfl) (by kernel_rfl) (by kernel_rfl) (fun _ _ _ h => h) (by rfl) (v := ?_) ?_ (by assumption) ?_
   rotate_left
   · intro wS hSw
     (try dsimp only at hSw)
     go_simp
     try with_reducible rfl
   simp only [Act.put, List.setIfInBounds_toArray, List.set_cons_zero, List.set_cons_succ]
   refine rt_yes 2 (some 17) rfl rfl (by kernel_rfl) (by kernel_rfl) (by kernel_rfl) (fun _ _ _ h => h) (by rfl) (v := ?_) ?_ (by assumption) ?_
   rotate_left
   · intro wS hSw
     (try dsimp only at hSw)
     go_simp
     try with_reducible rfl
   simp only [Act.put, List.setIfInBounds_toArray, List.set_cons_zero, List.set_cons_succ]
   refine rt_yes 3 (some 18) rfl rfl (by kernel_rfl) (by kernel_rfl) (by kernel_rfl) (fun _ _ _ h => h) (by rfl) (v := ?_) ?_ (by assumption) ?_
   rotate_left
   · intro wS hSw
     (try dsimp only at hSw)
     go_simp
     try with_reducible rfl
   simp only [Act.put, List.setIfInBounds_toArray, List.set_cons_zero, List.set_cons_succ]
   refine rt_yes 4 (some 19) rfl rfl (by kernel_rfl) (by kernel_rfl) (by kernel_rfl) (fun _ _ _ h => h) (by rfl) (v := ?_) ?_ (by assumption) ?_
   rotate_left
   · intro wS hSw
     (try dsimp only at hSw)
     go_simp
     try with_reducible rfl
   simp only [Act.put, List.setIfInBounds_toArray, List.set_cons_zero, List.set_cons_succ]
   refine rt_yes 5 (some 20) rfl rfl (by kernel_rfl) (by kernel_rfl) (by kernel_rfl) (fun _ _ _ h => h) (by rfl) (v := ?_) ?_ (by assumption) ?_
   rotate_left
   · intro wS hSw
     (try dsimp only at hSw)
     go_simp
     try with_reducible rfl
   simp only [Act.put, List.setIfInBounds_toArray, List.set_cons_zero, List.set_cons_succ]
   refine rt_yes 6 (some 21) rfl rfl (by kernel_rfl) (by kernel_rfl) (by kernel_rfl) (fun _ _ _ h => h) (by rfl) (v := ?_) ?_ (by assumption) ?_
   rotate_left
   · intro wS hSw
     (try dsimp only at hSw)
     go_simp
     try with_reducible rfl
   simp only [Act.put, List.setIfInBounds_toArray, List.set_cons_zero, List.set_cons_succ]
   refine rt_yes 7 (some 22) rfl rfl (by kernel_rfl) (by kernel_rfl) (by kernel_rfl) (fun _ _ _ h => h) (by rfl) (v := ?_) ?_ (by assumption) ?_
   rotate_left
   · intro wS hSw
     (try dsimp only at hSw)
     go_simp
     try with_reducible rfl
   simp only [Act.put, List.setIfInBounds_toArray, List.set_cons_zero, List.set_cons_succ]
   refine rt_yes 8 (some 23) rfl rfl (by kernel_rfl) (by kernel_rfl) (by kernel_rfl) (fun _ _ _ h => h) (by rfl) (v := ?_) ?_ (by assumption) ?_
   rotate_left
   · intro wS hSw
     (try dsimp only at hSw)
     go_simp
     try with_reducible rfl
   simp only [Act.put, List.setIfInBounds_toArray, List.set_cons_zero, List.set_cons_succ]
   refine rt_yes 10 (some 25) rfl rfl (by kernel_rfl) (by kernel_rfl) (by kernel_rfl) (fun _ _ _ h => h) (by rfl) (v := ?_) ?_ (by assumption) ?_
   rotate_left
   · intro wS hSw
     (try dsimp only at hSw)
     go_simp
     try with_reducible rfl
   simp only [Act.put, List.setIfInBounds_toArray, List.set_cons_zero, List.set_cons_succ]
   refine rt_yes 11 (some 26) rfl rfl (by kernel_rfl) (by kernel_rfl) (by kernel_rfl) (fun _ _ _ h => h) (by rfl) (v := ?_) ?_ (by assumption) ?_
   rotate_left
   · intro wS hSw
     (try dsimp only at hSw)
     go_simp
     try with_reducible rfl
   simp only [Act.put, List.setIfInBounds_toArray, List.set_cons_zero, List.set_cons_succ]
   refine rt_yes 12 (some 27) rfl rfl (by kernel_rfl) (by kernel_rfl) (by kernel_rfl) (fun _ _ _ h => h) (by rfl) (v := ?_) ?_ (by assumption) ?_
   rotate_left
   · intro wS hSw
     (try dsimp only at hSw)
     go_simp
     try with_reducible rfl
   simp only [Act.put, List.setIfInBounds_toArray, List.set_cons_zero, List.set_cons_succ]
   refine rt_yes 13 (some 28) rfl rfl (by kernel_rfl) (by kernel_rfl) (by kernel_rfl) (fun _ _ _ h => h) (by rfl) (v := ?_) ?_ (by assumption) ?_
   rotate_left
   · intro wS hSw
     (try dsimp only at hSw)
     go_simp
     try with_reducible rfl
   simp only [Act.put, List.setIfInBounds_toArray, List.set_cons_zero, List.set_cons_succ]
   refine rt_yes 14 (some 29) rfl rfl (by kernel_rfl) (by kernel_rfl) (by kernel_rfl) (fun _ _ _ h => h) (by rfl) (v := ?_) ?_ (by assumption) ?_
   rotate_left
   · intro wS hSw
     (try dsimp only at hSw)
     go_simp
     try with_reducible rfl
   simp only [Act.put, List.setIfInBounds_toArray, List.set_cons_zero, List.set_cons_succ]
   refine wpAnyH_ready (rs := [9]) (by kernel_rfl) (by simp) ?_
   refine AllReadyH.cons (o := _) rfl (fun K hK => ?_) AllReadyH.nil
   go_simp
   refine hK.out _ _ ?_ (fun hHeld => ?_)
   · exact F0
   clear hK K
   refine wpAnyH_ready (rs := [15]) (by kernel_rfl) (by simp) ?_
   refine AllReadyH.cons (o := _) rfl (fun K hK => ?_) AllReadyH.nil
   go_simp
   refine hh.mono ?_
   rintro e w4 ⟨rfl, b4, F1⟩
   (try go_wp2_with (fail))
   refine hK.out _ _ ?_ (fun hHeld => ?_)
   · exact F1
   clear hK K
   refine wpAnyH_ready (rs := [16]) (by kernel_rfl) (by simp) ?_
   refine AllReadyH.cons (o := _) rfl (fun K hK => ?_) AllReadyH.nil
   go_simp
   refine (hmeet _ Z b4 hZw ⟨F1.1, F1.2.1⟩).mono ?_
   rintro e w5 ⟨rfl, hW, F2⟩
   (try go_wp2_with (fail))
   refine hK.out _ _ ?_ (fun hHeld => ?_)
   · exact F2
   clear hK K
   refine wpAnyH_done (by kernel_rfl) ?_ _
   all_goals
    clear hmeet hh F0 F1 F2 hcel
    go_wp2_with (fail)
    first | go_end0 | refine bodyPost_ret (results_none rfl _ _ _) rfl ?_
    exact ⟨rfl, hW⟩
 · rw [if_neg hz]
   have ee : errV (helR s.data.toList).2.2 = .iface 128 (.int .i64 ((helR s.data.toList).2.2 : Int)) := by simp only [errV]; rw [if_neg hz]
   rw [ee] at hp
   generalize (helR s.data.toList).1 = f at hp
   generalize (helR s.data.toList).2.1 = g at hp
   generalize (helR s.data.toList).2.2 = k at hp
   have HR : Hid _ := h
   clear h hok ee hz
   go_enter Tryz.func134, Tryz.ntmps134
   go_wp2_with (fail)
   refine hp.mono ?_
   rintro e w1 ⟨rfl, b1⟩
   have HW : Hid _ := WentR.still HR.out (below_chain b1 (below_alloc w1 (.cells #[.int .i64 f, .int .i64 g] 230)))
   clear hp
   go_wp2_with (fail)
   first | go_end0 | refine bodyPost_ret (results_none rfl _ _ _) rfl ?_
   exact ⟨rfl, HW.out⟩
end Rt
end Go.Proofs.YtieklnlbljejdaaGreatDoor

namespace Go.Proofs.YtieklnlbljejdaaGreatDoor
open Go.RowKit St
namespace Rt
theorem put_m (p : PtM) (c : UInt8) (s : List UInt8) : (p.put c s).m = p.m := by
 unfold PtM.put
 split
 · rfl
 · split <;> rfl
theorem say1_m (p : PtM) (q : APkt) : (say1 p q).m = p.m ∧ (say1 p q).pe = p.pe := by
 unfold say1
 split
 · exact ⟨put_m _ _ _, put_pe _ _ _⟩
 · exact ⟨rfl, rfl⟩
theorem say_m : ∀ (l : List APkt) (p : PtM), (p.say l).m = p.m ∧ (p.say l).pe = p.pe
 | [], _ => ⟨rfl, rfl⟩
 | x :: l, p => by
   have h := say_m l (say1 p x)
   have h1 := say1_m p x
   exact ⟨h.1.trans h1.1, h.2.trans h1.2⟩
theorem packet_m (p : PtM) (s : List UInt8) : (p.packet s).m = p.m ∧ (p.packet s).pe = p.pe := by
 unfold PtM.packet
 simp only
 split
 · exact say_m _ _
 · exact ⟨rfl, rfl⟩
theorem packet_len (p : PtM) (s : List UInt8) : (p.packet s).out.length ≤ p.out.length + 5040 := by
 unfold PtM.packet
 simp only
 split
 · have h1 := takeP_len p.L ((pkParseR s).1, (pkParseR s).2.1, (pkParseR s).2.2.1)
   have h2 := say_len (takeP p.L ((pkParseR s).1, (pkParseR s).2.1, (pkParseR s).2.2.1)).2.1 { p with L := (takeP p.L ((pkParseR s).1, (pkParseR s).2.1, (pkParseR s).2.2.1)).1 }
   have h3 : ({ p with L := (takeP p.L ((pkParseR s).1, (pkParseR s).2.1, (pkParseR s).2.2.1)).1 } : PtM).out.length = p.out.length := rfl
   omega
 · omega
structure Fit (r : RtM) (k : Nat) : Prop where
 inb : r.inb.length ≤ k
 drop : 0 ≤ r.drop ∧ r.drop ≤ k + 1000000000000000
 out : ∀ j, j < r.n → (r.P j).out.length ≤ 6000 * k
theorem Fit.mono {r : RtM} {k l : Nat} (h : Fit r k) (hl : k ≤ l) : Fit r l := ⟨by have := h.inb; omega, by have := h.drop; omega, fun j hj => by have := h.out j hj; omega⟩
theorem Fit.setP {r : RtM} {k : Nat} (h : Fit r k) (i : Nat) (p : PtM) (hp : i < r.n → p.out.length ≤ 6000 * k) : Fit (r.setP i p) k := ⟨h.inb, h.drop, fun j hj => by
 show (updP r.P i p j).out.length ≤ _
 by_cases e : j = i
 · subst e; rw [updP_same]; exact hp hj
 · rw [updP_other _ _ e]; exact h.out j hj⟩
theorem Fit.grow {r : RtM} {k : Nat} (h : Fit r k) (i : Nat) (p : PtM) (hp : p.out.length ≤ (r.P i).out.length + 6000) : Fit (r.setP i p) (k + 1) := (h.mono (Nat.le_succ k)).setP i p (fun hi => by have := h.out i hi; omega)
theorem Fit.congr {r r' : RtM} {k : Nat} (h : Fit r k) (h1 : r'.inb = r.inb) (h2 : r'.drop = r.drop) (h3 : r'.n = r.n) (h4 : r'.P = r.P) : Fit r' k := ⟨by rw [h1]; exact h.inb, by rw [h2]; exact h.drop, fun j hj => by rw [h4]; exact h.out j (by rw [← h3]; exact hj)⟩
theorem behind_same (r : RtM) (s : Int) : (r.behind s).inb = r.inb ∧ (r.behind s).drop = r.drop ∧ (r.behind s).n = r.n ∧ (r.behind s).P = r.P := by
 unfold RtM.behind
 split <;> exact ⟨rfl, rfl, rfl, rfl⟩
theorem change_same (r : RtM) : r.change.inb = r.inb ∧ r.change.drop = r.drop ∧ r.change.n = r.n ∧ r.change.P = r.P := by
 unfold RtM.change
 split
 · exact ⟨rfl, rfl, rfl, rfl⟩
 · exact behind_same _ _
theorem meet_same (r : RtM) (i : Nat) (q : PeerM) : (r.meet i q).inb = r.inb ∧ (r.meet i q).drop = r.drop ∧ (r.meet i q).n = r.n ∧ (r.meet i q).P = updP r.P i { r.P i with pe := q } := by
 unfold RtM.meet
 simp only
 split
 · exact ⟨rfl, rfl, rfl, rfl⟩
 · split
   · obtain ⟨h1, h2, h3, h4⟩ := change_same ({ r.setP i { r.P i with pe := q } with O := fun x => if x = i then fun _ => none else (r.setP i { r.P i with pe := q }).O x } : RtM)
     exact ⟨h1, h2, h3, h4⟩
   · obtain ⟨h1, h2, h3, h4⟩ := change_same ({ r.setP i { r.P i with pe := q } with O := fun x => if x = i then fun _ => none else (r.setP i { r.P i with pe := q }).O x } : RtM)
     exact ⟨h1, h2, h3, h4⟩
theorem Fit.meet {r : RtM} {k : Nat} (h : Fit r k) (i : Nat) (q : PeerM) : Fit (r.meet i q) k := by
 obtain ⟨h1, h2, h3, h4⟩ := meet_same r i q
 exact Fit.congr (h.setP i { r.P i with pe := q } (fun hi => h.out i hi)) h1 h2 h3 h4
theorem Fit.behind {r : RtM} {k : Nat} (h : Fit r k) (s : Int) : Fit (r.behind s) k := by
 obtain ⟨h1, h2, h3, h4⟩ := behind_same r s
 exact h.congr h1 h2 h3 h4
theorem send_n (r : RtM) (t : Msg) : (r.send t).n = r.n ∧ (r.send t).id = r.id := by
 unfold RtM.send
 split
 · exact ⟨rfl, rfl⟩
 · split <;> exact ⟨rfl, rfl⟩
theorem Fit.send {r : RtM} {k : Nat} (h : Fit r k) (t : Msg) : Fit (r.send t) (k + 1) := by
 unfold RtM.send
 split
 · exact ⟨by have := h.inb; simp; omega, by have := h.drop; simp; omega, fun j hj => by have := h.out j hj; simp; omega⟩
 · split
   · exact ⟨by have := h.inb; simp; omega, by have := h.drop; simp; omega, fun j hj => by have := h.out j hj; simp; omega⟩
   · rename_i b _
     exact h.grow b _ (Nat.le_trans (put_len (r.P b) 77 (pku8 t.1 :: pku8 (t.2.1 - 1) :: t.2.2)) (by omega))
theorem Fit.state {r : RtM} {k : Nat} (h : Fit r k) (i : Nat) (l : List UInt8) : Fit (stateM r i l) (k + 1) := by
 unfold stateM
 simp only
 split
 · exact h.mono (Nat.le_succ k)
 · split
   · exact (h.behind _).mono (Nat.le_succ k)
   · have h2 : Fit ({ r with K := takeK r.K (St.parseR l).1 (St.parseR l).2.1 (St.parseR l).2.2.1, O := takeO r.K r.O i (St.parseR l).1 (St.parseR l).2.1 (St.parseR l).2.2.1 } : RtM) k := h.congr rfl rfl rfl rfl
     split
     · exact h2.grow i _ (Nat.le_trans (put_len (r.P i) 65 (stB (St.parseR l).1 (St.parseR l).2.1 (St.parseR l).2.2.1)) (by show (r.P i).out.length + 126 ≤ (r.P i).out.length + 6000; omega))
     · exact h2.mono (Nat.le_succ k)
theorem state_n (r : RtM) (i : Nat) (l : List UInt8) : (stateM r i l).n = r.n ∧ (stateM r i l).id = r.id := by
 unfold stateM
 simp only
 split
 · exact ⟨rfl, rfl⟩
 · split
   · exact ⟨behind_n _ _, behind_id _ _⟩
   · split <;> exact ⟨rfl, rfl⟩
theorem ROk.send {r : RtM} (h : ROk r) (t : Msg) : ROk (r.send t) := by
 unfold RtM.send
 split
 · exact ⟨h.id, h.m, h.pe, h.own, h.rng⟩
 · split
   · exact ⟨h.id, h.m, h.pe, h.own, h.rng⟩
   · exact h.setP _ _ (put_m _ _ _) (fun hi => by rw [put_pe]; exact h.pe _ hi)
theorem ROk.state {r : RtM} (h : ROk r) (i : Nat) (l : List UInt8) : ROk (stateM r i l) := by
 unfold stateM
 simp only
 split
 · exact h
 · rename_i hc
   have hf : (St.parseR l).2.2.2 = 0 := by
    by_cases e : (St.parseR l).2.2.2 = 0
    · exact e
    · exact absurd (.inl e) hc
   have hst : stF (St.parseR l).1 (St.parseR l).2.1 (St.parseR l).2.2.1 = 0 := parseR_ok (l := l) (by rw [← hf])
   split
   · exact h.behind (by have := (stF_zero hst).2.1; omega)
   · rename_i hn
     have h2 : ROk { r with K := takeK r.K (St.parseR l).1 (St.parseR l).2.1 (St.parseR l).2.2.1, O := takeO r.K r.O i (St.parseR l).1 (St.parseR l).2.1 (St.parseR l).2.2.1 } := by
      refine ⟨h.id, h.m, h.pe, ?_, ?_⟩
      · show ∃ q, takeK r.K _ _ _ r.id = some q ∧ _
        unfold takeK
        split
        · rename_i hp
          have hne : r.id ≠ (St.parseR l).1 := fun e => hn ⟨e.symm, hp⟩
          unfold updF
          rw [if_neg hne]
          exact h.own
        · exact h.own
      · show KOk (takeK r.K _ _ _)
        unfold takeK
        split
        · exact h.rng.upd (stF_zero hst).1 _
        · exact h.rng
     split
     · exact h2.setP _ _ (put_m _ _ _) (fun hi => by rw [put_pe]; exact h.pe _ hi)
     · exact h2
end Rt
end Go.Proofs.YtieklnlbljejdaaGreatDoor

namespace Go.Proofs.YtieklnlbljejdaaGreatDoor
open Go.RowKit St
namespace Rt
theorem sendOn_any (z : Zt) (r : RtM) (k : Nat) (t hp : Int) (tx : ByteArray) (w : World) (h : RtR w z r) (hok : ROk r) (hf : Fit r k) (hk : k ≤ 100000) (ht : 0 ≤ t ∧ t ≤ 255) (hh : 0 ≤ hp ∧ hp ≤ 255) (htx : tx.size ≤ 900) :
 Calls Tryz.prog 91 #[.pointer (some ⟨z.R, 0, none⟩), .agg #[.int .i64 t, .int .i64 hp, .string tx]] w fun e w' => e = .returned (.tuple #[]) ∧ WentR w w' z (r.send (t, hp, tx.data.toList)) r.n := by
 by_cases e : t = r.id
 · subst e
   refine (send_here z r hp tx w h (by have := hf.inb; omega)).mono ?_
   rintro e w1 ⟨rfl, hw⟩
   refine ⟨rfl, ?_⟩
   unfold RtM.send
   rw [if_pos rfl]
   exact hw
 · exact send_away z r t hp tx w h hok.rng e ht hh htx (by have := hf.drop; omega) (fun j hj => by have := hf.out j hj; omega)
def msgM (r : RtM) (l : List UInt8) : RtM := if 2 ≤ l.length ∧ l.length ≤ 22 then r.send (((l.getD 0 0).toNat : Int), ((l.getD 1 0).toNat : Int), l.drop 2) else r
set_option maxRecDepth 100000 in
set_option maxHeartbeats 2000000 in
theorem takeMessage_any (s : ByteArray) (z : Zt) (r : RtM) (k : Nat) (w : World) (h : RtR w z r) (hok : ROk r) (hf : Fit r k) (hk : k ≤ 100000) (hs : s.size ≤ 1000) :
 Calls Tryz.prog 137 #[.pointer (some ⟨z.R, 0, none⟩), .string s] w fun e w' => e = .returned (.tuple #[]) ∧ WentR w w' z (msgM r s.data.toList) r.n := by
 have hl : s.data.toList.length = s.size := by simp
 by_cases h2 : 2 ≤ s.size
 · by_cases h22 : s.size ≤ 22
   · have b0 : 0 < s.size := by omega
     have b1 : 1 < s.size := by omega
     have g1 : (2 : Int) ≤ (s.size : Int) := by omega
     have g2 : (s.size : Int) ≤ 22 := by omega
     have hsd : ∀ W, Below w.heap.size w W → Calls Tryz.prog 91 #[.pointer (some ⟨z.R, 0, none⟩), .agg #[.int .i64 (s[0].toNat : Int), .int .i64 (s[1].toNat : Int), .string (s.extract 2 s.size)]] W fun e w' => e = .returned (.tuple #[]) ∧ WentR w w' z (msgM r s.data.toList) r.n := by
      intro W hW
      have l0 := s[0].toNat_lt
      have l1 := s[1].toNat_lt
      refine (sendOn_any z r k (s[0].toNat : Int) (s[1].toNat : Int) (s.extract 2 s.size) W (h.below hW) hok hf hk (by omega) (by omega) (by simp; omega)).mono ?_
      rintro e w1 ⟨rfl, hw⟩
      refine ⟨rfl, WentR.first h rfl hW (fun _ => ?_)⟩
      have hE : msgM r s.data.toList = r.send ((s[0].toNat : Int), (s[1].toNat : Int), (s.extract 2 s.size).data.toList) := by
       unfold msgM
       rw [if_pos ⟨by omega, by omega⟩, byte_get s 0 b0, byte_get s 1 b1]
       rw [extract_mid, List.take_of_length_le (by omega)]
      rw [hE]
      exact hw
     have hs1 := hsd _ (below_d w)
     have hw0 : IntKind.i64.wrap (s[0].toNat : Int) = (s[0].toNat : Int) := IntWalk.i64_in _ ⟨by have := s[0].toNat_lt; omega, by have := s[0].toNat_lt; omega⟩
     have hw1 : IntKind.i64.wrap (s[1].toNat : Int) = (s[1].toNat : Int) := IntWalk.i64_in _ ⟨by have := s[1].toNat_lt; omega, by have := s[1].toNat_lt; omega⟩
     clear hsd hf hok h
     obtain ⟨T, hT⟩ : ∃ T : World → Prop, (fun x => WentR w x z (msgM r s.data.toList) r.n) = T := ⟨_, rfl⟩
     have hT' : ∀ x, WentR w x z (msgM r s.data.toList) r.n = T x := fun x => congrFun hT x
     simp only [hT'] at hs1 ⊢
     clear hT hT'
     go_enter Tryz.func137, Tryz.ntmps137
     go_wp2_with (fail)
     go_region_held3 (fun _ => True)
      (first | trivial)
      (first
        | (go_at_call 91; refine hs1.mono ?_; rintro e w1 ⟨rfl, hw⟩))
     all_goals
      clear hs1
      go_wp2_with (fail)
      first | go_end0 | refine bodyPost_ret (results_none rfl _ _ _) rfl ?_
      exact ⟨rfl, hw⟩
   · have g1 : (2 : Int) ≤ (s.size : Int) := by omega
     have g2 : ¬ (s.size : Int) ≤ 22 := by omega
     have HW : Hid (WentR w w z (msgM r s.data.toList) r.n) := by
      show WentR _ _ _ _ _
      unfold msgM
      rw [if_neg (by omega)]
      exact WentR.refl h
     clear h hok hf
     go_enter Tryz.func137, Tryz.ntmps137
     go_wp2_with (fail)
     first | go_end0 | refine bodyPost_ret (results_none rfl _ _ _) rfl ?_
     exact ⟨rfl, HW.out⟩
 · have g1 : ¬ (2 : Int) ≤ (s.size : Int) := by omega
   have HW : Hid (WentR w w z (msgM r s.data.toList) r.n) := by
    show WentR _ _ _ _ _
    unfold msgM
    rw [if_neg (by omega)]
    exact WentR.refl h
   clear h hok hf
   go_enter Tryz.func137, Tryz.ntmps137
   go_wp2_with (fail)
   first | go_end0 | refine bodyPost_ret (results_none rfl _ _ _) rfl ?_
   exact ⟨rfl, HW.out⟩
end Rt
end Go.Proofs.YtieklnlbljejdaaGreatDoor
