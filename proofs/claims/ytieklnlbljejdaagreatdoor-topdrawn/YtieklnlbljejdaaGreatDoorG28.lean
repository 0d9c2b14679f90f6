/-
  RtChange RtWent NtPure
-/
import Derived.Test.YtieklnlbljejdaaGreatDoorG23
import Derived.Test.YtieklnlbljejdaaGreatDoorG27
namespace Go.Proofs.YtieklnlbljejdaaGreatDoor
open Go.RowKit St
namespace Rt
theorem inR_small {k : Int} (h : -1000000 ≤ k ∧ k ≤ 1000000) : inR k := ⟨by omega, by omega⟩
theorem edgK_es (K : Int → Option PS) (i : Int) : edgK K i = esOf K i := by
 unfold edgK esOf
 cases K i <;> rfl
theorem seqK_at (K : Int → Option PS) (i : Int) : seqK K i = seqAt K i := by
 unfold seqK seqAt
 cases K i <;> rfl
theorem cell_alloc {w : World} {p : Addr} {v : Value} {o : Obj} (h : w.cell? p = some v) : (w.alloc o).cell? p = some v := by
 rw [World.cell?_alloc_lt]
 · exact h
 · exact World.block_lt_of_cell? w _ h
theorem cell2_alloc {w : World} {p q : Addr} {u v : Value} {o : Obj} (h : w.cell? p = some u ∧ w.cell? q = some v) : (w.alloc o).cell? p = some u ∧ (w.alloc o).cell? q = some v := ⟨cell_alloc h.1, cell_alloc h.2⟩
theorem cell_set {w : World} {p : Addr} {v x : Value} {N j : Nat} (h : w.cell? p = some v) (hne : p.block ≠ N) : (w.setCell ⟨N, j, none⟩ x).cell? p = some v := by
 rw [World.cell?_of_block (w := w) (Below.heap_setCell _ _ _ _ hne)]
 exact h
theorem cell_set3 {w : World} {p : Addr} {v a b c : Value} {N : Nat} (h : w.cell? p = some v) (hne : p.block ≠ N) : (((w.setCell ⟨N, 0, none⟩ a).setCell ⟨N, 1, none⟩ b).setCell ⟨N, 2, none⟩ c).cell? p = some v := cell_set (cell_set (cell_set h hne) hne) hne
theorem cell2_set3 {w : World} {p q : Addr} {u v a b c : Value} {N : Nat} (h : w.cell? p = some u ∧ w.cell? q = some v) (hp : p.block ≠ N) (hq : q.block ≠ N) : (((w.setCell ⟨N, 0, none⟩ a).setCell ⟨N, 1, none⟩ b).setCell ⟨N, 2, none⟩ c).cell? p = some u ∧ (((w.setCell ⟨N, 0, none⟩ a).setCell ⟨N, 1, none⟩ b).setCell ⟨N, 2, none⟩ c).cell? q = some v := ⟨cell_set3 h.1 hp, cell_set3 h.2 hq⟩
theorem store3 {w x : World} {N : Nat} {C : Array Value} {t : TypeId} {a b c : Value} (hC : Blk x N C t) (h3 : C.size = 3) (hN : w.heap.size ≤ N) (hb : Below w.heap.size w x) :
 (((x.setCell ⟨N, 0, none⟩ a).setCell ⟨N, 1, none⟩ b).setCell ⟨N, 2, none⟩ c).cell? ⟨N, 1, none⟩ = some b ∧ (((x.setCell ⟨N, 0, none⟩ a).setCell ⟨N, 1, none⟩ b).setCell ⟨N, 2, none⟩ c).cell? ⟨N, 2, none⟩ = some c ∧ Below w.heap.size w (((x.setCell ⟨N, 0, none⟩ a).setCell ⟨N, 1, none⟩ b).setCell ⟨N, 2, none⟩ c) ∧ ∀ j, j ≠ N → (((x.setCell ⟨N, 0, none⟩ a).setCell ⟨N, 1, none⟩ b).setCell ⟨N, 2, none⟩ c).heap[j]? = x.heap[j]? := by
 have h1 := ((hC.set 0 a).set 1 b).set 2 c
 refine ⟨?_, ?_, ((hb.setCell (p := ⟨N, 0, none⟩) hN a).setCell (p := ⟨N, 1, none⟩) hN b).setCell (p := ⟨N, 2, none⟩) hN c, fun j hj => ?_⟩
 · rw [h1.cell 1]; simp [h3]
 · rw [h1.cell 2]; simp [h3]
 · rw [Below.heap_setCell _ _ _ _ hj, Below.heap_setCell _ _ _ _ hj, Below.heap_setCell _ _ _ _ hj]
theorem OptR.not_zero {x x' : World} {N : Nat} {a : Option Addr} {n : Nat} {es : List Opt} {t : TypeId} (h : OptR x a n es) (hN : Blk x N #[.int .i64 0, .int .i64 0, .slice none 0 0] t) (he : ∀ e ∈ es, 1 ≤ e.1) (hw : ∀ j, j ≠ N → x'.heap[j]? = x.heap[j]?) : OptR x' a n es := by
 refine ⟨h.1, ?_⟩
 rcases h.2 with h2 | ⟨b, off, rfl, h2⟩
 · exact .inl h2
 · by_cases h0 : n = 0
   · exact .inl h0
   · have hl : 0 < es.length := by have := h.1; omega
     have hbN : b ≠ N := by
      intro e
      subst e
      have h3 := (h2 0 hl).1
      rw [hN.cell] at h3
      have h4 := he es[0] (List.getElem_mem hl)
      have : off + 0 * 2 = 0 ∨ off + 0 * 2 = 1 ∨ off + 0 * 2 = 2 ∨ 3 ≤ off + 0 * 2 := by omega
      rcases this with e | e | e | e
      · rw [e] at h3; simp at h3; omega
      · rw [e] at h3; simp at h3; omega
      · rw [e] at h3; simp at h3
      · rw [Array.getElem?_eq_none (by simpa using e)] at h3; cases h3
     exact .inr ⟨b, off, rfl, fun j hj => ⟨(World.cell?_of_block (a := ⟨b, _, none⟩) (hw b hbN)).trans (h2 j hj).1, (World.cell?_of_block (a := ⟨b, _, none⟩) (hw b hbN)).trans (h2 j hj).2⟩⟩
theorem below_d (w : World) : Below w.heap.size w w.drew := below_drew (Below.refl _ _)
set_option maxRecDepth 100000 in
set_option maxHeartbeats 1000000 in
theorem behind_any (z : Zt) (r : RtM) (seq : Int) (w : World) (h : RtR w z r) (hok : ROk r) (hs : 0 ≤ seq ∧ seq ≤ 1000000) :
 Calls Tryz.prog 180 #[.pointer (some ⟨z.R, 0, none⟩), .int .i64 seq] w fun e w' => e = .returned (.tuple #[]) ∧ WentR w w' z (r.behind seq) r.n := by
 by_cases hlt : seq < 1000000
 · have HE : Hid (r.behind seq = r.setOwn (seq + 1) (edgesM r)) := by
    show _ = _
    unfold RtM.behind
    rw [if_pos hlt]
   have R0 := h.below (below_d w)
   have he := edgesR_any z r w.drew R0
   have hst : ∀ (w1 : World) (a : Option Addr) (cap : Nat), Made w.drew w1 (.slice a (edgesM r).length cap) (edgesM r) → NilOk a cap → Calls Tryz.prog 67 #[.pointer (some ⟨z.Bb, 0, none⟩), .agg #[.int .i64 r.id, .int .i64 (seq + 1), .slice a (edgesM r).length cap]] w1 fun e w' => e = .returned .nilIface ∧ WentR w w' z (r.behind seq) r.n ∧ (w'.cell? ⟨z.R, 0, none⟩ = some (.int .i64 r.id) ∧ w'.cell? ⟨z.R, 2, none⟩ = some (.pointer (some ⟨z.Bb, 0, none⟩))) := by
    intro w1 a cap hM hnil
    have R1 := R0.below hM.below
    refine (set_base z.Bb z.fm 6 r.K r.O r.id (seq + 1) a (edgesM r).length cap (edgesM r) w1 R1.bs (inR_small (by have := hok.id; omega)) hM.opts.2 hnil (by omega) (edges_ok hok (by omega))).mono ?_
    rintro e w2 ⟨rfl, hB, hk⟩
    refine ⟨rfl, ?_, KeptM.cell hk R1.bs R1.c0, KeptM.cell hk R1.bs R1.c2⟩
    rw [HE.out]
    exact WentR.first h rfl (below_chain (below_d w) hM.below) (fun _ => R1.base hB hk)
   have hed : Calls Tryz.prog 179 #[.pointer (some ⟨z.R, 0, none⟩)] w.drew fun e w' => ∃ a cap, e = .returned (.slice a (edgesM r).length cap) ∧ Made w.drew w' (.slice a (edgesM r).length cap) (edgesM r) ∧ NilOk a cap ∧ (w'.cell? ⟨z.R, 0, none⟩ = some (.int .i64 r.id) ∧ w'.cell? ⟨z.R, 2, none⟩ = some (.pointer (some ⟨z.Bb, 0, none⟩))) := by
    refine he.mono ?_
    rintro e w1 ⟨v, rfl, hM⟩
    obtain ⟨a, cap, rfl, hnil, hle⟩ := hM.shape
    have R1 := R0.below hM.below
    exact ⟨a, cap, rfl, hM, hnil, R1.c0, R1.c2⟩
   have c0 := R0.c0
   have c2 := R0.c2
   have cl := R0.lt
   have hs0 := hs.1
   obtain ⟨n, hn⟩ : ∃ n : World → Prop, (fun x => WentR w x z (r.behind seq) r.n) = n := ⟨_, rfl⟩
   have hn' : ∀ x, WentR w x z (r.behind seq) r.n = n x := fun x => congrFun hn x
   simp only [hn'] at hst ⊢
   generalize edgesM r = es at hst hed
   generalize z.R = RR at hst hed c0 c2 cl ⊢
   generalize z.Bb = Bb at hst hed c2
   generalize r.id = id at hst hed c0
   clear h hok R0 hs he HE hn hn'
   have hwr : IntKind.i64.wrap (seq + 1) = seq + 1 := IntWalk.i64_in _ ⟨by omega, by omega⟩
   have F0 : w.drew.cell? ⟨RR, 0, none⟩ = some (.int .i64 id) ∧ w.drew.cell? ⟨RR, 2, none⟩ = some (.pointer (some ⟨Bb, 0, none⟩)) := ⟨c0, c2⟩
   go_enter Tryz.func180, Tryz.ntmps180
   go_wp2_with (fail)
   go_region_held3 (fun x => x.cell? ⟨RR, 0, none⟩ = some (.int .i64 id) ∧ x.cell? ⟨RR, 2, none⟩ = some (.pointer (some ⟨Bb, 0, none⟩)))
    (first | assumption | exact F0 | exact F1 | exact F2)
    (first
      | (go_at_call 179; refine hed.mono ?_; rintro e w1 ⟨a, cap, rfl, hM, hnil, F1⟩; have HM : Hid _ := hM; clear hM)
      | (go_at_call 67; refine (hst _ _ _ HM.out hnil).mono ?_; rintro e w2 ⟨rfl, hW2, F2⟩))
   all_goals
    clear hst F0 F1 F2
    go_wp2_with (fail)
    first | go_end0 | refine bodyPost_ret (results_none rfl _ _ _) rfl ?_
    exact ⟨rfl, hW2⟩
 · have HE : Hid (r.behind seq = r) := by
    show _ = _
    unfold RtM.behind
    rw [if_neg hlt]
   have HR : Hid _ := h
   clear h hok hs
   go_enter Tryz.func180, Tryz.ntmps180
   go_wp2_with (fail)
   first | go_end0 | refine bodyPost_ret (results_none rfl _ _ _) rfl ?_
   exact ⟨rfl, by rw [HE.out]; exact WentR.refl HR.out⟩
set_option maxRecDepth 100000 in
set_option maxHeartbeats 6000000 in
theorem change_any (z : Zt) (r : RtM) (w : World) (h : RtR w z r) (hok : ROk r) :
 Calls Tryz.prog 125 #[.pointer (some ⟨z.R, 0, none⟩)] w fun e w' => e = .returned (.tuple #[]) ∧ WentR w w' z r.change r.n := by
 have hirng := inR_small (k := r.id) (by have := hok.id; omega)
 have hg : ∀ W, Below w.heap.size w W → Calls Tryz.prog 177 #[.pointer (some ⟨z.Bb, 0, none⟩), .int .i64 r.id] W fun e w' => ∃ a cap, e = .returned (.tuple #[.agg #[.int .i64 (ownOf r.K r.id), .int .i64 (seqAt r.K r.id), .slice a (esOf r.K r.id).length cap], .bool (r.K r.id).isSome]) ∧ OptR w' a (esOf r.K r.id).length (esOf r.K r.id) ∧ Below W.heap.size W w' ∧ (w'.cell? ⟨z.R, 0, none⟩ = some (.int .i64 r.id) ∧ w'.cell? ⟨z.R, 2, none⟩ = some (.pointer (some ⟨z.Bb, 0, none⟩))) := by
  intro W hW
  refine (get_base z.Bb z.fm 6 r.K r.O r.id W (h.below hW).bs hirng).mono ?_
  rintro e w1 ⟨a, cap, rfl, ho, _, _, b1⟩
  have R1 := h.below (below_chain hW b1)
  exact ⟨a, cap, rfl, ho, b1, R1.c0, R1.c2⟩
 have h6 : (esOf r.K r.id).length ≤ 6 := by
  obtain ⟨q, hq, hst⟩ := hok.own
  have := (stF_zero hst).2.2.1
  unfold esOf
  rw [hq]
  exact this
 have hes1 : Hid (∀ e ∈ esOf r.K r.id, 1 ≤ e.1) := by
  obtain ⟨q, hq, hst⟩ := hok.own
  have := edgF_all r.id q.2 0 (stF_zero hst).2.2.2
  unfold esOf
  rw [hq]
  exact fun e he => (this e he).1.1
 have h6e : (edgesM r).length ≤ 6 := by
  have := (edgesFrom_ok hok 6 0 0 (by omega) (by omega)).2
  rw [← edgesM_from] at this
  omega
 have he : ∀ W, Below w.heap.size w W → Calls Tryz.prog 179 #[.pointer (some ⟨z.R, 0, none⟩)] W fun e w' => ∃ a cap, e = .returned (.slice a (edgesM r).length cap) ∧ OptR w' a (edgesM r).length (edgesM r) ∧ Below W.heap.size W w' := by
  intro W hW
  refine (edgesR_any z r W (h.below hW)).mono ?_
  rintro e w1 ⟨v, rfl, hM⟩
  obtain ⟨a, cap, rfl, _, _⟩ := hM.shape
  exact ⟨a, cap, rfl, hM.opts.2, hM.below⟩
 have hsame : Hid (esOf r.K r.id = edgesM r → ∀ W, Below w.heap.size w W → WentR w W z r.change r.n) := by
  intro hE W hW
  have HC : r.change = r := by
   unfold RtM.change
   rw [if_pos ((edgK_es _ _).trans hE)]
  rw [HC]
  exact WentR.still h hW
 have hbh : Hid (esOf r.K r.id ≠ edgesM r → ∀ W, Below w.heap.size w W → Calls Tryz.prog 180 #[.pointer (some ⟨z.R, 0, none⟩), .int .i64 (seqAt r.K r.id)] W fun e w' => e = .returned (.tuple #[]) ∧ WentR w w' z r.change r.n) := by
  intro hE W hW
  have HC : r.change = r.behind (seqAt r.K r.id) := by
   unfold RtM.change
   rw [if_neg (fun e => hE ((edgK_es _ _).symm.trans e)), seqK_at]
  have hsq := hok.seq
  rw [seqK_at] at hsq
  refine (behind_any z r (seqAt r.K r.id) W (h.below hW) hok (by omega)).mono ?_
  rintro e w5 ⟨rfl, hW5⟩
  refine ⟨rfl, ?_⟩
  rw [HC]
  exact WentR.first h rfl hW (fun _ => hW5)
 have R0 := h.below (below_d w)
 have F0 := And.intro R0.c0 R0.c2
 have cl := R0.lt
 obtain ⟨n, hn⟩ : ∃ n : World → Prop, (fun x => WentR w x z r.change r.n) = n := ⟨_, rfl⟩
 have hn' : ∀ x, WentR w x z r.change r.n = n x := fun x => congrFun hn x
 simp only [hn'] at hsame hbh ⊢
 generalize edgesM r = ed at he hsame hbh h6e
 generalize esOf r.K r.id = es at hg hsame hbh h6 hes1
 generalize seqAt r.K r.id = sq at hg hbh
 generalize ownOf r.K r.id = ow at hg
 generalize (r.K r.id).isSome = ok at hg
 generalize z.R = RR at hg he hbh F0 cl ⊢
 generalize z.Bb = Bb at hg F0
 generalize r.id = id at hg F0
 clear h hok R0 hn hn' hirng
 go_enter Tryz.func125, Tryz.ntmps125
 go_wp2_with (fail)
 go_cut [2] (fun v wx => ∃ (Z : Nat) (a : Option Addr) (cap : Nat), v = .pointer (some ⟨Z, 0, none⟩) ∧ wx.cell? ⟨Z, 1, none⟩ = some (.int .i64 sq) ∧ wx.cell? ⟨Z, 2, none⟩ = some (.slice a es.length cap) ∧ OptR wx a es.length es ∧ Below w.heap.size w wx)
 case first =>
  obtain ⟨c0, c2⟩ := F0
  have F0 : w.drew.cell? ⟨RR, 0, none⟩ = some (.int .i64 id) ∧ w.drew.cell? ⟨RR, 2, none⟩ = some (.pointer (some ⟨Bb, 0, none⟩)) := ⟨c0, c2⟩
  have ba := below_drew (below_alloc w (.cells #[.int .i64 0, .int .i64 0, .slice none 0 0] 40))
  have hn3 : Blk (w.alloc (.cells #[.int .i64 0, .int .i64 0, .slice none 0 0] 40)).drew w.heap.size #[.int .i64 0, .int .i64 0, .slice none 0 0] 40 := (Blk.new w _ _).drew
  have hne : RR ≠ w.heap.size := by have h2 : RR < w.heap.size := cl; omega
  go_region_held3 (fun x => x.cell? ⟨RR, 0, none⟩ = some (.int .i64 id) ∧ x.cell? ⟨RR, 2, none⟩ = some (.pointer (some ⟨Bb, 0, none⟩)))
   (first | assumption | exact F0 | exact F1 | exact cell2_alloc F1 | exact cell2_alloc F0 | exact cell2_set3 F1 hne hne)
   (first
     | (go_at_call 177; refine (hg _ (by first | exact below_d w | exact ba)).mono ?_; rintro e w1 ⟨a, cap, rfl, ho, b1, F1⟩; first | (have hn1 := hn3.below b1; have y0 := hn1.cell 0; have y1 := hn1.cell 1; have y2 := hn1.cell 2; have z0 := hn1.frozen 0; have z1 := hn1.frozen 1; have z2 := hn1.frozen 2) | skip))
  all_goals
   go_wp2_with (fail)
   go_meet
   first
    | exact ⟨_, a, cap, rfl, World.cell?_alloc_mark w1 _ _ (0, 0) 1, World.cell?_alloc_mark w1 _ _ (0, 0) 2, ho.below (below_alloc _ _), below_chain (below_chain (below_d w) b1) (below_alloc _ _)⟩
    | (have h5 := store3 (a := .int .i64 ow) (b := .int .i64 sq) (c := .slice a es.length cap) hn1 rfl (Nat.le_refl _) (below_chain ba b1)
       exact ⟨_, a, cap, rfl, h5.1, h5.2.1, OptR.not_zero ho hn1 hes1.out h5.2.2.2, h5.2.2.1⟩)
 case rest =>
  obtain ⟨Z, a, cap, rfl, d1, d2, ho, hbx⟩ := hcut
  have bd := below_chain hbx (below_d wc)
  have F0 : wc.drew.cell? ⟨Z, 1, none⟩ = some (.int .i64 sq) ∧ wc.drew.cell? ⟨Z, 2, none⟩ = some (.slice a es.length cap) := ⟨d1, d2⟩
  have zl : Z < wc.drew.heap.size := World.block_lt_of_cell? wc.drew _ F0.1
  have hed : Calls Tryz.prog 179 #[.pointer (some ⟨RR, 0, none⟩)] wc.drew fun e w' => ∃ a3 cap3, e = .returned (.slice a3 ed.length cap3) ∧ OptR w' a3 ed.length ed ∧ OptR w' a es.length es ∧ Below w.heap.size w w' ∧ (w'.cell? ⟨Z, 1, none⟩ = some (.int .i64 sq) ∧ w'.cell? ⟨Z, 2, none⟩ = some (.slice a es.length cap)) := by
   refine (he _ bd).mono ?_
   rintro e w3 ⟨a3, cap3, rfl, ho3, b3⟩
   exact ⟨a3, cap3, rfl, ho3, (ho.below (below_d wc)).below b3, below_chain bd b3, (World.cell?_of_block (a := ⟨Z, 1, none⟩) (b3.block Z zl)).trans F0.1, (World.cell?_of_block (a := ⟨Z, 2, none⟩) (b3.block Z zl)).trans F0.2⟩
  obtain ⟨bb, hbb⟩ : ∃ bb, decide (es = ed) = bb := ⟨_, rfl⟩
  have heq : ∀ (W : World) (a3 : Option Addr) (cap3 : Nat), OptR W a3 ed.length ed → OptR W a es.length es → Calls Tryz.prog 178 #[.slice a es.length cap, .slice a3 ed.length cap3] W fun e w' => e = .returned (.bool bb) ∧ ∃ k, w' = W.drewN k := by
   intro W a3 cap3 h1 h2
   rw [← hbb]
   exact equal_any a a3 cap cap3 _ _ es ed W h2 h1 (by omega) (by omega)
  clear he hg d1 d2
  go_wp2_with (fail)
  go_region_held3 (fun x => x.cell? ⟨Z, 1, none⟩ = some (.int .i64 sq) ∧ x.cell? ⟨Z, 2, none⟩ = some (.slice a es.length cap))
   (first | assumption | exact F0 | exact F1 | exact F2)
   (first
     | (go_at_call 179; refine hed.mono ?_; rintro e w3 ⟨a3, cap3, rfl, ho3, ho4, b3, F1⟩)
     | (go_at_call 178; refine (heq _ _ _ ho3 ho4).mono ?_; rintro e w4 ⟨rfl, kk, rfl⟩; have F2 : (w3.drewN kk).cell? ⟨Z, 1, none⟩ = some (.int .i64 sq) ∧ (w3.drewN kk).cell? ⟨Z, 2, none⟩ = some (.slice a es.length cap) := F1))
  all_goals
   have b4 := below_drewN b3 kk
   cases bb
   · have hE : es ≠ ed := by simpa using hbb
     have hb5 := hbh.out hE _ b4
     have f1 := F2.1
     have fl : Z < (w3.drewN kk).heap.size := World.block_lt_of_cell? (w3.drewN kk) _ f1
     clear hbh hsame heq hed F0 F1 F2 ho3 ho4
     go_wp2_with (fail)
     refine hb5.mono ?_
     rintro e w5 ⟨rfl, hW⟩
     clear hb5
     go_wp2_with (fail)
     first | go_end0 | refine bodyPost_ret (results_none rfl _ _ _) rfl ?_
     exact ⟨rfl, hW⟩
   · have hE : es = ed := by simpa using hbb
     have hW := hsame.out hE _ b4
     clear hbh hsame heq hed F0 F1 F2 ho3 ho4
     go_wp2_with (fail)
     first | go_end0 | refine bodyPost_ret (results_none rfl _ _ _) rfl ?_
     exact ⟨rfl, hW⟩
end Rt
end Go.Proofs.YtieklnlbljejdaaGreatDoor

namespace Go.Proofs.YtieklnlbljejdaaGreatDoor
open Go.RowKit St
namespace Rt
theorem WentR.thenBy {a b c : World} {z z' : Zt} {r r' : RtM} {n : Nat} (h : WentR a b z r n) (_hR : RtR b z' r) (hl : z.like z') (hm : ∀ k, z'.mine n k → z.mine n k ∨ a.heap.size ≤ k) (hno : ∀ k, z.fm.no k → z'.fm.no k) (k : WentR b c z' r' n) : WentR a c z r' n := by
 have hK := h.kept
 obtain ⟨⟨z2, hR2, hl2, hm2, hno2⟩, hK2⟩ := k
 refine ⟨⟨z2, hR2, Zt.like_trans hl hl2, fun x hx => ?_, fun x hx => hno2 x (hno x hx)⟩, ⟨hK2.os.trans hK.os, hK2.tape.trans hK.tape, hK2.output.trans hK.output, Nat.le_trans hK.size hK2.size, fun x hx h1 h2 h3 => (hK2.block x (Nat.lt_of_lt_of_le hx hK.size) (fun e => ?_) (by rw [hl.bm]; exact h2) (by rw [hl.bs]; exact h3)).trans (hK.block x hx h1 h2 h3)⟩⟩
 · rcases hm2 x hx with e | e
   · exact hm x e
   · exact .inr (Nat.le_trans hK.size e)
 · rcases hm x e with e1 | e1
   · exact h1 e1
   · omega
section
variable {w w' : World} {z : Zt} {r : RtM} {n : Nat}
theorem WentR.c0 (h : WentR w w' z r n) : w'.cell? ⟨z.R, 0, none⟩ = some (.int .i64 r.id) := by
 obtain ⟨⟨z', hR, hl, _⟩, _⟩ := h
 have := hR.c0
 rwa [hl.R] at this
theorem WentR.c1 (h : WentR w w' z r n) : w'.cell? ⟨z.R, 1, none⟩ = some (.slice (some ⟨z.g, 0, none⟩) r.n z.cap) := by
 obtain ⟨⟨z', hR, hl, _⟩, _⟩ := h
 have := hR.c1
 rwa [hl.R, hl.g, hl.cap] at this
theorem WentR.c2 (h : WentR w w' z r n) : w'.cell? ⟨z.R, 2, none⟩ = some (.pointer (some ⟨z.Bb, 0, none⟩)) := by
 obtain ⟨⟨z', hR, hl, _⟩, _⟩ := h
 have := hR.c2
 rwa [hl.R, hl.Bb] at this
theorem WentR.lt (h : WentR w w' z r n) : z.R < w'.heap.size := World.block_lt_of_cell? _ _ h.c0
theorem WentR.pt (h : WentR w w' z r n) {i : Nat} (hi : i < r.n) : ∃ v, PtR w' z.g (i * 71) (z.B i) v (r.P i) := by
 obtain ⟨⟨z', hR, hl, _⟩, _⟩ := h
 have := hR.pt i hi
 rw [hl.g, hl.B] at this
 exact ⟨_, this⟩
theorem WentR.glt (h : WentR w w' z r n) : z.g < w'.heap.size := by
 obtain ⟨⟨z', hR, hl, _⟩, _⟩ := h
 have := hR.glt
 rwa [hl.g] at this
theorem WentR.keep {r0 : RtM} {k : Nat} (h : WentR w w' z r n) (hR : RtR w z r0) (hm : ¬ z.mine n k) {C : Array Value} {t : TypeId} {fr : Nat × Nat} (hc : w.heap[k]? = some (Obj.cells C t fr)) : w'.heap[k]? = w.heap[k]? :=
 h.kept.block k (Array.getElem?_eq_some_iff.1 hc).1 hm (cells_not_map hc (hR.bs.maps _ (.inl rfl))) (fun e => cells_not_map hc (hR.bs.maps _ (.inr e)) rfl)
theorem WentR.cell {r0 : RtM} (h : WentR w w' z r n) (hR : RtR w z r0) {p : Addr} {v : Value} (hm : ¬ z.mine n p.block) (hc : w.cell? p = some v) : w'.cell? p = some v := by
 rw [World.cell?_of_block (w := w) (h.kept.block p.block (World.block_lt_of_cell? w _ hc) hm (cell_not_map hc (hR.bs.maps _ (.inl rfl))) (fun e => cell_not_map hc (hR.bs.maps _ (.inr e)) rfl))]
 exact hc
theorem RtR.not_mine {w : World} {z : Zt} {r : RtM} (h : RtR w z r) {k : Nat} (hk : w.heap.size ≤ k) : ¬ z.mine r.n k := fun e => by have := h.mineLt k e; omega
end
structure Beside (w w' : World) (z : Zt) (r : RtM) (n N : Nat) (C : Array Value) (t : TypeId) : Prop where
 went : WentR w w' z r n
 blk : Blk w' N C t
 nn : r.n = n
 lt : N < w.heap.size
 no : ¬ z.mine n N
theorem Beside.with {w a b : World} {z z' : Zt} {r r' : RtM} {n N : Nat} {C : Array Value} {t : TypeId} (h : Beside w a z r n N C t) (hn : r'.n = n) (hR : RtR a z' r) (hl : z.like z') (hm : ∀ k, z'.mine n k → z.mine n k ∨ w.heap.size ≤ k) (hno : ∀ k, z.fm.no k → z'.fm.no k) (k : WentR a b z' r' n) : Beside w b z r' n N C t := by
 refine ⟨h.went.thenBy hR hl hm hno k, ?_, hn, h.lt, h.no⟩
 refine h.blk.keep (k.keep hR (fun e => ?_) h.blk)
 rcases hm N e with e1 | e1
 · exact h.no e1
 · have := h.lt; omega
theorem WentR.call {w W : World} {z : Zt} {r r' : RtM} {n : Nat} {f : FuncId} {args : Array Value} {E : Ending → Prop} (h : WentR w W z r n) (k : ∀ z1, RtR W z1 r → z.like z1 → Calls Tryz.prog f args W fun e w' => E e ∧ WentR W w' z1 r' n) : Calls Tryz.prog f args W fun e w' => E e ∧ WentR w w' z r' n := by
 obtain ⟨z1, hR, hl, hm, hno⟩ := h.ex
 refine (k z1 hR hl).mono ?_
 rintro e w' ⟨he, hw⟩
 exact ⟨he, h.thenBy hR hl hm hno hw⟩
theorem Beside.call {w W : World} {z : Zt} {r r' : RtM} {n N : Nat} {C : Array Value} {t : TypeId} {f : FuncId} {args : Array Value} {E : Ending → Prop} (h : Beside w W z r n N C t) (hn : r'.n = n) (k : ∀ z1, RtR W z1 r → z.like z1 → Calls Tryz.prog f args W fun e w' => E e ∧ WentR W w' z1 r' n) : Calls Tryz.prog f args W fun e w' => E e ∧ Beside w w' z r' n N C t := by
 obtain ⟨z1, hR, hl, hm, hno⟩ := h.went.ex
 refine (k z1 hR hl).mono ?_
 rintro e w' ⟨he, hw⟩
 exact ⟨he, h.with hn hR hl hm hno hw⟩
theorem part_any (z : Zt) (r : RtM) (i : Nat) (w : World) (h : RtR w z r) (hi : i < r.n) :
 Calls Tryz.prog 124 #[.pointer (some ⟨z.Bb, 0, none⟩), .int .i64 (i : Int)] w fun e w' => e = .returned (.tuple #[]) ∧ WentR w w' z { r with O := fun x => if x = i then fun _ => none else r.O x } r.n := by
 refine (part_base z.Bb z.fm 6 r.K r.O i w h.bs (by rw [h.bl]; exact hi)).mono ?_
 rintro e w1 ⟨rfl, hB, hk⟩
 exact ⟨rfl, h.base hB hk⟩
theorem meetB_any (z : Zt) (r : RtM) (i : Nat) (w : World) (h : RtR w z r) (hi : i < r.n) :
 Calls Tryz.prog 126 #[.pointer (some ⟨z.Bb, 0, none⟩), .int .i64 (i : Int)] w fun e w' => e = .returned .nilIface ∧ WentR w w' z { r with O := fun x => if x = i then overF (r.O i) r.K else r.O x } r.n := by
 refine (meet_base z.Bb z.fm 6 r.K r.O i w h.bs (by rw [h.bl]; exact hi) (by omega)).mono ?_
 rintro e w1 ⟨rfl, hB, hk⟩
 exact ⟨rfl, h.base hB hk⟩
end Rt
end Go.Proofs.YtieklnlbljejdaaGreatDoor

namespace Go.Proofs.YtieklnlbljejdaaGreatDoor
open Go.RowKit St
namespace Rt
def upN {α : Type} (f : Nat → α) (i : Nat) (x : α) : Nat → α := fun j => if j = i then x else f j
theorem upN_same {α : Type} (f : Nat → α) (i : Nat) (x : α) : upN f i x i = x := by simp [upN]
theorem upN_other {α : Type} (f : Nat → α) {i j : Nat} (x : α) (h : j ≠ i) : upN f i x j = f j := by simp [upN, h]
theorem upN_self {α : Type} (f : Nat → α) (i : Nat) : upN f i (f i) = f := by
 funext j
 by_cases e : j = i
 · subst e; exact upN_same _ _ _
 · exact upN_other _ _ e
structure CbM where
 e : Nat → Nat × Nat
 inn : Bool
 on : Nat → List UInt8
structure NtM where
 n : Nat
 R : Nat → RtM
 inb : Nat → List Msg
 ms : Nat → Nat → Int
 nc : Nat
 C : Nat → CbM
def NtM.setR (y : NtM) (i : Nat) (r : RtM) : NtM := { y with R := upN y.R i r }
def NtM.setC (y : NtM) (i : Nat) (c : CbM) : NtM := { y with C := upN y.C i c }
def CbM.put (c : CbM) (d : Nat) (s : List UInt8) : CbM := if c.inn = true ∧ (c.on d).length + s.length ≤ 2000 then { c with on := upN c.on d (c.on d ++ s) } else c
def NtM.gat1 (y : NtM) (i d : Nat) : NtM :=
 (y.setR ((y.C i).e d).1 ((y.R ((y.C i).e d).1).out ((y.C i).e d).2)).setC i ((y.C i).put d ((y.R ((y.C i).e d).1).P ((y.C i).e d).2).out)
def NtM.gatC (y : NtM) : Nat → NtM
 | 0 => y
 | k + 1 => ((y.gatC k).gat1 k 0).gat1 k 1
def NtM.gatI1 (y : NtM) (k : Nat) : NtM := { y with inb := upN y.inb k (y.inb k ++ (y.R k).inb), R := upN y.R k { y.R k with inb := [] } }
def NtM.gatI (y : NtM) : Nat → NtM
 | 0 => y
 | k + 1 => (y.gatI k).gatI1 k
def NtM.gather (y : NtM) : NtM := (y.gatC y.nc).gatI y.n
def NtM.plugAt (y : NtM) (i d : Nat) (up : Bool) : NtM := y.setR ((y.C i).e d).1 ((y.R ((y.C i).e d).1).plug ((y.C i).e d).2 up).1
def NtM.plug1 (y : NtM) (i : Nat) (up : Bool) : NtM := ((y.setC i { y.C i with inn := up, on := fun _ => [] }).plugAt i 0 up).plugAt i 1 up
def NtM.plug (y : NtM) (i : Int) (up : Bool) : NtM × Nat :=
 if i < 0 ∨ (y.nc : Int) ≤ i then (y, 6) else if (y.C i.toNat).inn = up then (y, 7) else ((y.plug1 i.toNat up).gather, 0)
def NtM.tick (y : NtM) (i : Int) : NtM × Nat :=
 if i < 1 ∨ (y.n : Int) < i then (y, 6) else ((y.setR (i - 1).toNat (y.R (i - 1).toNat).tick).gather, 0)
def NtM.recvAt (y : NtM) (i d k : Nat) : NtM :=
 (y.setC i { y.C i with on := upN (y.C i).on d (((y.C i).on d).drop k) }).setR ((y.C i).e (1 - d)).1 ((y.R ((y.C i).e (1 - d)).1).recv ((y.C i).e (1 - d)).2 (((y.C i).on d).take k))
def NtM.deliver (y : NtM) (i d many : Int) : NtM × Nat :=
 if i < 0 ∨ (y.nc : Int) ≤ i ∨ d < 0 ∨ 2 ≤ d then (y, 6) else ((y.recvAt i.toNat d.toNat (min many.toNat ((y.C i.toNat).on d.toNat).length)).gather, 0)
def NtM.spoil (y : NtM) (i d j : Int) (t : UInt8) : NtM × Nat :=
 if i < 0 ∨ (y.nc : Int) ≤ i ∨ d < 0 ∨ 2 ≤ d then (y, 6)
 else if j < 0 ∨ ((((y.C i.toNat).on d.toNat).length : Nat) : Int) ≤ j then (y, 1)
 else ((y.setC i.toNat { y.C i.toNat with on := upN (y.C i.toNat).on d.toNat (((y.C i.toNat).on d.toNat).set j.toNat (((y.C i.toNat).on d.toNat).getD j.toNat 0 ^^^ t)) }).gather, 0)
def NtM.cabsIn (y : NtM) (k : Nat) : List Nat := (List.range y.nc).filter fun c => (y.C c).inn && (((y.C c).e 0).1 == k || ((y.C c).e 1).1 == k)
def NtM.plugs (y : NtM) (up : Bool) : List Nat → NtM
 | [] => y
 | c :: l => (y.plug1 c up).plugs up l
def NtM.restart (y : NtM) (i : Int) : NtM × Nat :=
 if i < 1 ∨ (y.n : Int) < i then (y, 6) else
  ((((y.plugs false (y.cabsIn (i - 1).toNat)).setR (i - 1).toNat (newRt i 3 (y.ms (i - 1).toNat))).plugs true (y.cabsIn (i - 1).toNat)).gather, 0)
def NtM.send (y : NtM) (f t : Int) (tx : List UInt8) : NtM × Nat :=
 if f < 1 ∨ (y.n : Int) < f then (y, 6)
 else if (sendTo (y.R (f - 1).toNat) t tx).2 ≠ 0 then (y, (sendTo (y.R (f - 1).toNat) t tx).2)
 else ((y.setR (f - 1).toNat (sendTo (y.R (f - 1).toNat) t tx).1).gather, 0)
def NtM.ticks (y : NtM) : Nat → NtM
 | 0 => y
 | k + 1 => ((y.ticks k).tick ((k : Int) + 1)).1
def NtM.delivs (y : NtM) : Nat → NtM
 | 0 => y
 | k + 1 => (((y.delivs k).deliver (k : Int) 0 2000).1.deliver (k : Int) 1 2000).1
def NtM.turns (y : NtM) : Nat → NtM
 | 0 => y
 | k + 1 => (y.turns k).delivs y.nc
def NtM.round (y : NtM) : NtM := (y.ticks y.n).turns 12
structure Cab where
 a : Int
 pa : Int
 b : Int
 pb : Int
 m : Int
def lookE : List (Int × Int × Int) → Int → Int → Option Int
 | [], _, _ => none
 | x :: l, r, p => if x.1 = r ∧ x.2.1 = p then some x.2.2 else lookE l r p
def cabEs (l : List Cab) : List (Int × Int × Int) := l.flatMap fun c => [(c.a, c.pa, c.m), (c.b, c.pb, c.m)]
def msOf (l : List Cab) (i p : Nat) : Int := (lookE (cabEs l) ((i : Int) + 1) (p : Int)).getD 1
def endOk (many r p : Int) : Bool := decide (1 ≤ r) && decide (r ≤ many) && decide (0 ≤ p) && decide (p < 3)
def cabF (many : Int) : List Cab → List (Int × Int × Int) → Nat
 | [], _ => 0
 | c :: l, E =>
   if c.m < 1 ∨ 20 < c.m then 1
   else if endOk many c.a c.pa = false then 1
   else if (lookE E c.a c.pa).isSome = true then 8
   else if endOk many c.b c.pb = false then 1
   else if (lookE (E ++ [(c.a, c.pa, c.m)]) c.b c.pb).isSome = true then 8
   else cabF many l (E ++ [(c.a, c.pa, c.m), (c.b, c.pb, c.m)])
def netF (many : Int) (l : List Cab) : Nat := if many < 1 ∨ 6 < many then 1 else if 9 < l.length then 2 else cabF many l []
def Cab.at (c : Cab) (d : Nat) : Nat × Nat := if d = 0 then ((c.a - 1).toNat, c.pa.toNat) else ((c.b - 1).toNat, c.pb.toNat)
def cabAt (l : List Cab) (k : Nat) : CbM := ⟨(l.getD k ⟨1, 0, 1, 0, 1⟩).at, false, fun _ => []⟩
def newNt (many : Nat) (l : List Cab) : NtM := ⟨many, fun i => newRt ((i : Int) + 1) 3 (msOf l i), fun _ => [], msOf l, l.length, cabAt l⟩
end Rt
end Go.Proofs.YtieklnlbljejdaaGreatDoor
