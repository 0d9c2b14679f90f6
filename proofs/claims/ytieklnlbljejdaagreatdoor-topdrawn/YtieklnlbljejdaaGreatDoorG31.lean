/-
  RtTell RtState
-/
import Derived.Test.YtieklnlbljejdaaGreatDoorG29
namespace Go.Proofs.YtieklnlbljejdaaGreatDoor
open Go.RowKit St
namespace Rt
theorem putAll_snoc : ∀ (l : List (Int × PS)) (p : PtM) (q : Int × PS), p.putAll (l ++ [q]) = (p.putAll l).put 83 (stB q.1 q.2.1 q.2.2)
 | [], _, _ => rfl
 | x :: l, p, q => by
   show (p.put 83 (stB x.1 x.2.1 x.2.2)).putAll (l ++ [q]) = ((p.put 83 (stB x.1 x.2.1 x.2.2)).putAll l).put _ _
   exact putAll_snoc l _ q
theorem putAll_len : ∀ (l : List (Int × PS)) (p : PtM), (p.putAll l).out.length ≤ p.out.length + 126 * l.length
 | [], p => by simp [PtM.putAll]
 | x :: l, p => by
   have h1 := putAll_len l (p.put 83 (stB x.1 x.2.1 x.2.2))
   have h2 := put_len p 83 (stB x.1 x.2.1 x.2.2)
   have e : p.putAll (x :: l) = (p.put 83 (stB x.1 x.2.1 x.2.2)).putAll l := rfl
   rw [e, List.length_cons]
   omega
theorem put_pe (p : PtM) (c : UInt8) (s : List UInt8) : (p.put c s).pe = p.pe := by
 unfold PtM.put
 split
 · rfl
 · split <;> rfl
theorem setP_setP (r : RtM) (i : Nat) (p q : PtM) : (r.setP i p).setP i q = r.setP i q := by
 have : updP (updP r.P i p) i q = updP r.P i q := by
  funext x
  unfold updP
  by_cases e : x = i
  · simp [e]
  · simp [e]
 show ({ r with P := updP (updP r.P i p) i q } : RtM) = { r with P := updP r.P i q }
 rw [this]
def tellM (r : RtM) (i : Nat) : RtM :=
 let p := (r.P i).put 72 [pku8 r.id, pku8 (r.P i).pe.who]
 r.setP i (if (r.P i).pe.both = true then p.putAll (owedL (r.O i)) else p)
theorem OptR.went {w w' : World} {z : Zt} {r r0 : RtM} {n : Nat} (h : WentR w w' z r n) (hR : RtR w z r0) {a : Option Addr} {m cap : Nat} {es : List Opt} (ho : OptR w a m es) (hm : ∀ j, Value.ownBlock (.slice a m cap) = some j → ¬ z.mine n j) : OptR w' a m es := by
 refine ⟨ho.1, ?_⟩
 rcases ho.2 with h2 | ⟨b, off, rfl, h2⟩
 · exact .inl h2
 · exact .inr ⟨b, off, rfl, fun j hj => ⟨h.cell hR (p := ⟨b, _, none⟩) (hm b rfl) (h2 j hj).1, h.cell hR (p := ⟨b, _, none⟩) (hm b rfl) (h2 j hj).2⟩⟩
theorem StsR.went {w w' : World} {z : Zt} {r r0 : RtM} {n : Nat} (h : WentR w w' z r n) (hR : RtR w z r0) {a : Option Addr} {m cap : Nat} {S : Nat → SV} {E : Nat → List Opt} (hs : StsR w a m S E) (h1 : ∀ j, Value.ownBlock (.slice a m cap) = some j → ¬ z.mine n j) (h2 : ∀ i, i < m → ∀ j, Value.ownBlock (.slice (S i).a (S i).n (S i).cap) = some j → ¬ z.mine n j) : StsR w' a m S E := by
 refine ⟨?_, fun j hj => ⟨OptR.went h hR (hs.opt j hj).1 (h2 j hj), (hs.opt j hj).2⟩⟩
 rcases hs.row with h3 | ⟨b, off, rfl, h3⟩
 · exact .inl h3
 · refine .inr ⟨b, off, rfl, fun j hj => ?_⟩
   obtain ⟨c1, c2, c3⟩ := h3 j hj
   exact ⟨h.cell hR (p := ⟨b, _, none⟩) (h1 b rfl) c1, h.cell hR (p := ⟨b, _, none⟩) (h1 b rfl) c2, h.cell hR (p := ⟨b, _, none⟩) (h1 b rfl) c3⟩
set_option maxRecDepth 100000 in
set_option maxHeartbeats 4000000 in
theorem tell_any (z : Zt) (r : RtM) (i : Nat) (w : World) (h : RtR w z r) (hok : ROk r) (hi : i < r.n) (hout : (r.P i).out.length ≤ 700000000) :
 Calls Tryz.prog 85 #[.pointer (some ⟨z.R, 0, none⟩), .int .i64 (i : Int)] w fun e w' => e = .returned (.tuple #[]) ∧ WentR w w' z (tellM r i) r.n := by
 have hi' : (i : Int) < (r.n : Int) := by omega
 have hi0 : (0 : Int) ≤ (i : Int) := by omega
 obtain ⟨p, hp⟩ : ∃ p, r.P i = p := ⟨_, rfl⟩
 rw [hp] at hout
 have hcel : Hid (∀ W, Below w.heap.size w W → W.cell? ⟨z.R, 0, none⟩ = some (.int .i64 r.id) ∧ W.cell? ⟨z.g, i * 71 + 67, none⟩ = some (.int .i64 p.pe.who) ∧ W.cell? ⟨z.g, i * 71 + 67 + 1, none⟩ = some (.bool p.pe.both) ∧ W.cell? ⟨z.g, i * 71 + 67 + 2, none⟩ = some (.int .i64 p.pe.left)) := by
  intro W hW
  have R := h.below hW
  rw [← hp]
  exact ⟨R.c0, (R.pt i hi).c67, (R.pt i hi).c68, (R.pt i hi).c69⟩
 have hpe := hok.pe i hi
 rw [hp] at hpe
 have hsay : ∀ W, Below w.heap.size w W → Calls Tryz.prog 149 #[.agg #[.int .i64 p.pe.who, .bool p.pe.both, .int .i64 p.pe.left], .int .i64 r.id] W fun e w' => e = .returned (.agg #[.int .i64 r.id, .int .i64 p.pe.who]) ∧ Below w.heap.size w w' ∧ (w'.cell? ⟨z.R, 0, none⟩ = some (.int .i64 r.id) ∧ w'.cell? ⟨z.g, i * 71 + 67, none⟩ = some (.int .i64 p.pe.who) ∧ w'.cell? ⟨z.g, i * 71 + 67 + 1, none⟩ = some (.bool p.pe.both) ∧ w'.cell? ⟨z.g, i * 71 + 67 + 2, none⟩ = some (.int .i64 p.pe.left)) := by
  intro W hW
  refine (says_any p.pe.who p.pe.left r.id p.pe.both W).mono ?_
  rintro e w1 ⟨rfl, b1⟩
  exact ⟨rfl, below_chain hW b1, hcel.out _ (below_chain hW b1)⟩
 have hbyt : ∀ W, Below w.heap.size w W → Calls Tryz.prog 148 #[.agg #[.int .i64 r.id, .int .i64 p.pe.who]] W fun e w' => e = .returned (.tuple #[.string ⟨#[u8 r.id, u8 p.pe.who]⟩, .nilIface]) ∧ Below w.heap.size w w' ∧ (w'.cell? ⟨z.R, 0, none⟩ = some (.int .i64 r.id) ∧ w'.cell? ⟨z.g, i * 71 + 67, none⟩ = some (.int .i64 p.pe.who) ∧ w'.cell? ⟨z.g, i * 71 + 67 + 1, none⟩ = some (.bool p.pe.both) ∧ w'.cell? ⟨z.g, i * 71 + 67 + 2, none⟩ = some (.int .i64 p.pe.left)) := by
  intro W hW
  have h1 := hok.id
  have h2 := hpe.who
  refine (hbytes_good r.id p.pe.who W h1.1 h1.2 h2.1 h2.2 (by simp [helB]; omega)).mono ?_
  rintro e w1 ⟨rfl, b1⟩
  exact ⟨rfl, below_chain hW b1, hcel.out _ (below_chain hW b1)⟩
 obtain ⟨p1, hp1⟩ : ∃ p1, p.put 72 [pku8 r.id, pku8 p.pe.who] = p1 := ⟨_, rfl⟩
 have hpl : p1.out.length ≤ 700000126 := by
  rw [← hp1]
  have := put_len p 72 [pku8 r.id, pku8 p.pe.who]
  omega
 have hpb : p1.pe = p.pe := by rw [← hp1]; exact put_pe _ _ _
 obtain ⟨r1, hr1⟩ : ∃ r1, r.setP i p1 = r1 := ⟨_, rfl⟩
 have hn1 : r1.n = r.n := by rw [← hr1]; rfl
 have hP1 : r1.P i = p1 := by rw [← hr1]; exact updP_same _ _ _
 have hO1 : r1.O = r.O := by rw [← hr1]; rfl
 have hput : Hid (∀ W, Below w.heap.size w W → Calls Tryz.prog 150 #[.pointer (some ⟨z.g, i * 71, none⟩), .string ⟨#[72]⟩, .string ⟨#[u8 r.id, u8 p.pe.who]⟩] W fun e w' => e = .returned (.tuple #[]) ∧ WentR w w' z r1 r.n) := by
  intro W hW
  have R := h.below hW
  have hpt := R.pt i hi
  rw [hp] at hpt
  refine (put_any z.g (i * 71) (z.B i) (z.v i) p ⟨#[72]⟩ ⟨#[u8 r.id, u8 p.pe.who]⟩ 72 W hpt rfl (by show 2 ≤ 1000; omega) (by omega)).mono ?_
  rintro e w1 ⟨rfl, hw⟩
  have hw2 : WentP W w1 z.g (i * 71) (z.B i) (z.v i) p1 := by rw [← hp1]; exact hw
  rw [← hr1]
  exact ⟨rfl, WentR.first h rfl hW (fun _ => R.port hi hw2)⟩
 have hE : tellM r i = r.setP i (if p.pe.both = true then p1.putAll (owedL (r.O i)) else p1) := by
  unfold tellM
  rw [hp]
  simp only [hp1]
 have HE0 : Hid (p.pe.both = false → tellM r i = r1) := by
  intro e
  rw [hE, if_neg (by simp [e]), hr1]
 have HE1 : Hid (p.pe.both = true → tellM r i = r1.setP i (p1.putAll (owedL (r.O i)))) := by
  intro e
  rw [hE, if_pos e, ← hr1]
  exact (setP_setP r i p1 _).symm
 have b0 := below_d w
 have R0 := h.below b0
 have c1 := h.c1
 have cl := h.lt
 have gl0 := h.glt
 have F0 : w.drew.cell? ⟨z.R, 0, none⟩ = some (.int .i64 r.id) ∧ w.drew.cell? ⟨z.g, i * 71 + 67, none⟩ = some (.int .i64 p.pe.who) ∧ w.drew.cell? ⟨z.g, i * 71 + 67 + 1, none⟩ = some (.bool p.pe.both) ∧ w.drew.cell? ⟨z.g, i * 71 + 67 + 2, none⟩ = some (.int .i64 p.pe.left) := hcel.out _ b0
 have HR : Hid _ := h
 clear h hok hpe R0 hE hp
 go_enter Tryz.func85, Tryz.ntmps85
 go_wp2_with (fail)
 go_region_held3 (fun x => x.cell? ⟨z.R, 0, none⟩ = some (.int .i64 r.id) ∧ x.cell? ⟨z.g, i * 71 + 67, none⟩ = some (.int .i64 p.pe.who) ∧ x.cell? ⟨z.g, i * 71 + 67 + 1, none⟩ = some (.bool p.pe.both) ∧ x.cell? ⟨z.g, i * 71 + 67 + 2, none⟩ = some (.int .i64 p.pe.left))
  (first | assumption | exact F0 | exact F1 | exact F2)
  (first
    | (go_at_call 149; refine (hsay _ b0).mono ?_; rintro e w1 ⟨rfl, b1, F1⟩)
    | (go_at_call 148; refine (hbyt _ b1).mono ?_; rintro e w2 ⟨rfl, b2, F2⟩))
 all_goals
  have hpt := hput.out _ b2
  clear hsay hbyt hput hcel F0 F1 F2 c1 cl gl0
  go_wp2_with (fail)
  refine hpt.mono ?_
  rintro e W4 ⟨rfl, hW4⟩
  obtain ⟨v4, hv4⟩ := hW4.pt (i := i) (by rw [hn1]; exact hi)
  have g8 : W4.cell? ⟨z.g, i * 71 + 67 + 1, none⟩ = some (.bool p.pe.both) := by
   have := hv4.c68
   rw [hP1, hpb] at this
   exact this
  have gl := hW4.glt
  have k2 := hW4.c2
  have kl := hW4.lt
  clear hpt hv4 b1 b2
  cases hb : p.pe.both with
  | false =>
    rw [hb] at g8
    have HW : Hid (WentR w W4 z (tellM r i) r.n) := by show WentR _ _ _ _ _; rw [HE0.out hb]; exact hW4
    clear hW4 HE0 HE1
    go_wp2_with (fail)
    first | go_end0 | refine bodyPost_ret (results_none rfl _ _ _) rfl ?_
    exact ⟨rfl, HW.out⟩
  | true =>
    rw [hb] at g8
    have HE := HE1.out hb
    obtain ⟨z4, R4, hl4, hm4, hno4⟩ := hW4.ex
    have how := owed_new z4.Bb z4.fm 6 r1.K r1.O i W4 R4.bs (by rw [R4.bl, hn1]; exact hi)
    rw [hl4.Bb] at how
    have HF : Hid (∀ W, WentR W4 W z4 (tellM r i) r.n → WentR w W z (tellM r i) r.n) := fun W hw => hW4.thenBy R4 hl4 hm4 hno4 hw
    have HR4 : Hid _ := R4
    have HEq : Hid _ := HE
    clear hW4 HE HE0 HE1 R4 hm4 hno4
    go_wp2_with (fail)
    refine how.mono ?_
    rintro e W5 ⟨a, m, cap, S, E, rfl, hS, hL, h6, hnew, hnewE, b5⟩
    have hol := owed_list hL
    rw [hO1] at hol
    have R5 := HR4.out.below b5
    have hm1 : ∀ j, Value.ownBlock (.slice a m cap) = some j → ¬ z4.mine r.n j := fun j hj => by
     have := HR4.out.not_mine (Nat.le_of_lt (hnew j hj))
     rwa [hn1] at this
    have hm2 : ∀ x, x < m → ∀ j, Value.ownBlock (.slice (S x).a (S x).n (S x).cap) = some j → ¬ z4.mine r.n j := fun x hx j hj => by
     have := HR4.out.not_mine (Nat.le_of_lt (hnewE x hx j hj))
     rwa [hn1] at this
    have HSt : Hid (∀ wr rr, WentR W5 wr z4 rr r.n → StsR wr a m S E) := fun wr rr hw => StsR.went (cap := cap) hw R5 hS hm1 hm2
    have HSok : Hid (∀ x, x < m → stF (S x).own (S x).seq (E x) = 0) := hL.ok
    have hol2 : Hid (∀ k, k < m → (owedL (r.O i)).take (k + 1) = (owedL (r.O i)).take k ++ [((S k).own, ((S k).seq, E k))]) := by
     intro k hk
     have hlen : k < (owedL (r.O i)).length := by rw [hol]; simpa using hk
     rw [List.take_succ_eq_append_getElem hlen]
     congr 2
     simp [hol]
    have hol3 : Hid ((owedL (r.O i)).length = m) := by show _ = _; rw [hol]; simp
    have HF5 : Hid (∀ W, WentR W5 W z4 (tellM r i) r.n → WentR w W z (tellM r i) r.n) := fun W hw => HF.out W (WentR.first HR4.out hn1 b5 (fun _ => hw))
    have H0 : Hid (WentR W5 W5 z4 (r1.setP i (p1.putAll ((owedL (r.O i)).take 0))) r.n) := by
     show WentR _ _ _ _ _
     have e : r1.setP i (p1.putAll ((owedL (r.O i)).take 0)) = r1 := by
      show r1.setP i p1 = r1
      rw [← hr1, setP_setP]
     rw [e, ← hn1]
     exact WentR.refl R5
    have hG4 : z4.g = z.g := hl4.g
    have HG4 : Hid _ := hG4
    clear how hS hL hnew hnewE hol R5 hm1 hm2 HF hG4 b5 HR4 hl4 k2 kl g8 gl
    go_wp2_with (fail)
    go_loopw [46] (fun x wr => ∃ k : Nat, k ≤ m ∧ x = .int .i64 k ∧ WentR W5 wr z4 (r1.setP i (p1.putAll ((owedL (r.O i)).take k))) r.n) (fun x _ => m - (intOf x).toNat)
    case atStart => exact ⟨0, Nat.zero_le _, rfl, H0.out⟩
    case round =>
     obtain ⟨k, hk, rfl, hwk⟩ := hrel
     by_cases hlt : k < m
     · have hlt' : (k : Int) < (m : Int) := by omega
       have hk0 : (0 : Int) ≤ (k : Int) := by omega
       have SR := HSt.out _ _ hwk
       rcases SR.row with h0 | ⟨b, off, rfl, hrow⟩
       · omega
       obtain ⟨x0, x1, x2⟩ := hrow k hlt
       have hop := (SR.opt k hlt).1
       have hst := HSok.out k hlt
       have HTk := hol2.out k hlt
       have xl := World.block_lt_of_cell? _ _ x0
       have ba := below_alloc wr (.cells #[.int .i64 (S k).own, .int .i64 (S k).seq, .slice (S k).a (S k).n (S k).cap] 40)
       have hwa := hwk.below (by show r1.n = r.n; exact hn1) ba
       obtain ⟨pk, hpk⟩ : ∃ pk, p1.putAll ((owedL (r.O i)).take k) = pk := ⟨_, rfl⟩
       have hlk : pk.out.length ≤ 800000000 := by
        rw [← hpk]
        have h1 := putAll_len ((owedL (r.O i)).take k) p1
        have h2 : ((owedL (r.O i)).take k).length ≤ k := List.length_take_le _ _
        omega
       have hps : Calls Tryz.prog 152 #[.pointer (some ⟨z.g, i * 71, none⟩), .string ⟨#[83]⟩, .agg #[.int .i64 (S k).own, .int .i64 (S k).seq, .slice (S k).a (S k).n (S k).cap]] (wr.alloc (.cells #[.int .i64 (S k).own, .int .i64 (S k).seq, .slice (S k).a (S k).n (S k).cap] 40)) fun e w' => e = .returned (.tuple #[]) ∧ WentR W5 w' z4 (r1.setP i (p1.putAll ((owedL (r.O i)).take (k + 1)))) r.n := by
        rw [HTk, putAll_snoc]
        rw [hpk] at hwa ⊢
        refine hwa.call fun z1 R1 hl => ?_
        have hi1 : i < (r1.setP i pk).n := by show i < r1.n; rw [hn1]; exact hi
        have hpt1 := R1.pt i hi1
        have hPk : (r1.setP i pk).P i = pk := updP_same _ _ _
        rw [hPk] at hpt1
        rw [← HG4.out, ← hl.g]
        refine (putState_port ⟨#[83]⟩ 83 (S k).own (S k).seq (S k).a (S k).n (S k).cap (E k) z1.g (i * 71) (z1.B i) (z1.v i) pk _ hpt1 rfl (hop.below ba) hst hlk).mono ?_
        rintro e w6 ⟨rfl, hw6⟩
        have h7 := R1.port hi1 hw6
        rw [setP_setP] at h7
        exact ⟨rfl, by rw [show r.n = (r1.setP i pk).n from hn1.symm]; exact h7⟩
       clear SR hrow hop hst HTk hwa hwk hpk hlk ba
       go_wp2_with (fail)
       refine hps.mono ?_
       rintro e w6 ⟨rfl, hw6⟩
       have HW6 : Hid _ := hw6
       clear hps hw6
       go_wp2_with (fail)
       go_roundw
       case rel => exact ⟨k + 1, by omega, by go_num, HW6.out⟩
       case measure => simp [intOf]; omega
     · have hge : ¬ (k : Int) < (m : Int) := by omega
       have HW : Hid (WentR w wr z (tellM r i) r.n) := by
        show WentR _ _ _ _ _
        refine HF5.out _ ?_
        rw [HEq.out]
        have e1 : (owedL (r.O i)).take k = owedL (r.O i) := List.take_of_length_le (by have := hol3.out; omega)
        rw [e1] at hwk
        exact hwk
       clear hwk
       go_wp2_with (fail)
       first | go_end0 | refine bodyPost_ret (results_none rfl _ _ _) rfl ?_
       exact ⟨rfl, HW.out⟩
end Rt
end Go.Proofs.YtieklnlbljejdaaGreatDoor

namespace Go.Proofs.YtieklnlbljejdaaGreatDoor
open Go.RowKit St
namespace Rt
theorem takeB_any (z : Zt) (r : RtM) (i : Nat) (own seq : Int) (a : Option Addr) (n cap : Nat) (es : List Opt) (w : World) (h : RtR w z r) (hi : i < r.n) (ho : OptR w a n es) (hnil : NilOk a cap) (hf : stF own seq es = 0) :
 Calls Tryz.prog 190 #[.pointer (some ⟨z.Bb, 0, none⟩), .int .i64 (i : Int), .agg #[.int .i64 own, .int .i64 seq, .slice a n cap]] w fun e w' => e = .returned (.tuple #[.int .i64 (newF r.K own seq es), .nilIface]) ∧ WentR w w' z { r with K := takeK r.K own seq es, O := takeO r.K r.O i own seq es } r.n ∧ OptR w' a n es ∧ ∀ p v, w.cell? p = some v → w'.cell? p = some v := by
 refine (take_base z.Bb z.fm 6 r.K r.O i own seq a n cap es w h.bs (inR_small (by have := (stF_zero hf).1; omega)) (by rw [h.bl]; exact hi) ho hnil (by omega) hf (fun _ => newS_three _ _ _ _)).mono ?_
 rintro e w1 ⟨rfl, hB, hk⟩
 exact ⟨rfl, h.base hB hk, ho.two hk h.bs, fun p v hc => KeptM.cell hk h.bs hc⟩
def stateM (r : RtM) (i : Nat) (l : List UInt8) : RtM :=
 let q := St.parseR l
 if q.2.2.2 ≠ 0 ∨ (r.P i).pe.both = false then r
 else if q.1 = r.id ∧ 0 < newF r.K q.1 q.2.1 q.2.2.1 then r.behind q.2.1
 else
  let r2 : RtM := { r with K := takeK r.K q.1 q.2.1 q.2.2.1, O := takeO r.K r.O i q.1 q.2.1 q.2.2.1 }
  if 0 ≤ newF r.K q.1 q.2.1 q.2.2.1 then r2.setP i ((r2.P i).put 65 (stB q.1 q.2.1 q.2.2.1)) else r2
def S3 (x : World) (Z : Nat) (own seq : Int) (v : Value) : Prop := x.cell? ⟨Z, 0, none⟩ = some (.int .i64 own) ∧ x.cell? ⟨Z, 1, none⟩ = some (.int .i64 seq) ∧ x.cell? ⟨Z, 2, none⟩ = some v
theorem S3.below {x y : World} {Z : Nat} {own seq : Int} {v : Value} (h : S3 x Z own seq v) (hb : Below x.heap.size x y) : S3 y Z own seq v := by
 have zl := World.block_lt_of_cell? _ _ h.1
 exact ⟨(World.cell?_of_block (a := ⟨Z, 0, none⟩) (hb.block Z zl)).trans h.1, (World.cell?_of_block (a := ⟨Z, 1, none⟩) (hb.block Z zl)).trans h.2.1, (World.cell?_of_block (a := ⟨Z, 2, none⟩) (hb.block Z zl)).trans h.2.2⟩
set_option maxRecDepth 100000 in
set_option maxHeartbeats 8000000 in
theorem takeState_any (s : ByteArray) (z : Zt) (r : RtM) (i : Nat) (w : World) (h : RtR w z r) (hok : ROk r) (hi : i < r.n) (hs : s.size ≤ 1000) (hout : (r.P i).out.length ≤ 800000000) :
 Calls Tryz.prog 135 #[.pointer (some ⟨z.R, 0, none⟩), .int .i64 (i : Int), .string s] w fun e w' => e = .returned (.tuple #[]) ∧ WentR w w' z (stateM r i s.data.toList) r.n := by
 have hp := parse_any2 s w (by unfold maxLen; omega)
 have hi' : (i : Int) < (r.n : Int) := by omega
 have hi0 : (0 : Int) ≤ (i : Int) := by omega
 have HR : Hid _ := h
 have HOk : Hid _ := hok
 clear h hok
 go_enter Tryz.func135, Tryz.ntmps135
 go_wp2_with (fail)
 refine hp.mono ?_
 rintro e w1 ⟨a, n, cap, f, own, seq, os, rfl, ho, hle, hR, b1, hnil⟩
 clear hp
 have ba := below_alloc w1 (.cells #[.int .i64 own, .int .i64 seq, .slice a n cap] 40)
 have hA := fun j => World.cell?_alloc_mark w1 #[.int .i64 own, .int .i64 seq, .slice a n cap] 40 (0, 0) j
 by_cases hf : f = 0
 · subst hf
   have e0 : errV 0 = .nilIface := rfl
   rw [e0]
   cases hb : (r.P i).pe.both with
   | false =>
     have hE : stateM r i s.data.toList = r := by
      unfold stateM
      rw [hR]
      simp only
      rw [if_pos (.inr hb)]
     have R2 := HR.out.below (below_chain b1 ba)
     have HW : Hid (WentR w (w1.alloc (.cells #[.int .i64 own, .int .i64 seq, .slice a n cap] 40)) z (stateM r i s.data.toList) r.n) := by
      show WentR _ _ _ _ _
      rw [hE]
      exact WentR.still HR.out (below_chain b1 ba)
     have c1 := R2.c1
     have cl := R2.lt
     have gl := R2.glt
     have g1 := (R2.pt i hi).c68
     rw [hb] at g1
     clear hR ho hE R2 hA ba
     go_wp2_with (fail)
     first | go_end0 | refine bodyPost_ret (results_none rfl _ _ _) rfl ?_
     exact ⟨rfl, HW.out⟩
   | true =>
     have hst := parseR_ok hR
     have b2 := below_chain b1 ba
     obtain ⟨W2, hW2⟩ : ∃ W2, w1.alloc (.cells #[.int .i64 own, .int .i64 seq, .slice a n cap] 40) = W2 := ⟨_, rfl⟩
     obtain ⟨Z, hZ⟩ : ∃ Z, w1.heap.size = Z := ⟨_, rfl⟩
     have ho2 := ho.below ba
     rw [hW2] at b2 ho2
     have S2 : S3 W2 Z own seq (.slice a n cap) := by rw [← hW2, ← hZ]; exact ⟨hA 0, hA 1, hA 2⟩
     have hZw : w.heap.size ≤ Z := by rw [← hZ]; exact b1.size
     have R2 := HR.out.below b2
     have c1 := R2.c1
     have cl := R2.lt
     have gl := R2.glt
     have g1 := (R2.pt i hi).c68
     rw [hb] at g1
     have hirng := inR_small (k := r.id) (by have := HOk.out.id; omega)
     have hget : ∀ W, Below W2.heap.size W2 W → Calls Tryz.prog 177 #[.pointer (some ⟨z.Bb, 0, none⟩), .int .i64 r.id] W fun e w' => ∃ b cb, e = .returned (.tuple #[.agg #[.int .i64 (ownOf r.K r.id), .int .i64 (seqAt r.K r.id), .slice b (esOf r.K r.id).length cb], .bool (r.K r.id).isSome]) ∧ OptR w' b (esOf r.K r.id).length (esOf r.K r.id) ∧ Below W.heap.size W w' ∧ (w'.cell? ⟨z.R, 0, none⟩ = some (.int .i64 r.id) ∧ w'.cell? ⟨z.R, 2, none⟩ = some (.pointer (some ⟨z.Bb, 0, none⟩))) := by
      intro W hW
      refine (get_base z.Bb z.fm 6 r.K r.O r.id W (R2.below hW).bs hirng).mono ?_
      rintro e w3 ⟨b, cb, rfl, hob, _, _, b3⟩
      have R3 := (R2.below hW).below b3
      exact ⟨b, cb, rfl, hob, b3, R3.c0, R3.c2⟩
     have hes1 : Hid (∀ e ∈ esOf r.K r.id, 1 ≤ e.1) := by
      obtain ⟨q, hq, hst⟩ := HOk.out.own
      have := edgF_all r.id q.2 0 (stF_zero hst).2.2.2
      unfold esOf
      rw [hq]
      exact fun e he => (this e he).1.1
     have hn6 : n ≤ 6 := by have := (stF_zero hst).2.2.1; rw [ho.1] at this; exact this
     have hnw : Hid (∀ W b cb, OptR W a n os → OptR W b (esOf r.K r.id).length (esOf r.K r.id) → Calls Tryz.prog 189 #[.agg #[.int .i64 own, .int .i64 seq, .slice a n cap], .agg #[.int .i64 (ownOf r.K r.id), .int .i64 (seqAt r.K r.id), .slice b (esOf r.K r.id).length cb]] W fun e w' => e = .returned (.int .i64 (newS seq os (seqAt r.K r.id) (esOf r.K r.id))) ∧ Below W.heap.size W w') := fun W b cb h1 h2 => newer_any own seq _ _ a b n _ cap cb os _ W h1 h2 (by omega)
     have hnF : Hid (own = r.id → newF r.K own seq os = newS seq os (seqAt r.K r.id) (esOf r.K r.id)) := by
      intro e
      obtain ⟨q, hq, _⟩ := HOk.out.own
      unfold newF seqAt esOf
      rw [e, hq]
      rfl
     have hsq : (1 ≤ own ∧ own ≤ 6) ∧ (1 ≤ seq ∧ seq ≤ 1000000) := ⟨(stF_zero hst).1, (stF_zero hst).2.1⟩
     have hbeh : Hid (own = r.id → 0 < newF r.K own seq os → ∀ W, Below W2.heap.size W2 W → Calls Tryz.prog 180 #[.pointer (some ⟨z.R, 0, none⟩), .int .i64 seq] W fun e w' => e = .returned (.tuple #[]) ∧ WentR w w' z (stateM r i s.data.toList) r.n) := by
      intro e1 e2 W hW
      have hE : stateM r i s.data.toList = r.behind seq := by
       unfold stateM
       rw [hR]
       simp only
       rw [if_neg (by simp [hb]), if_pos ⟨e1, e2⟩]
      refine (behind_any z r seq W (R2.below hW) HOk.out (by omega)).mono ?_
      rintro e w5 ⟨rfl, hW5⟩
      exact ⟨rfl, by rw [hE]; exact WentR.first HR.out rfl (below_chain b2 hW) (fun _ => hW5)⟩
     obtain ⟨r3, hr3⟩ : ∃ r3 : RtM, ({ r with K := takeK r.K own seq os, O := takeO r.K r.O i own seq os } : RtM) = r3 := ⟨_, rfl⟩
     obtain ⟨nf, hnf⟩ : ∃ nf, newF r.K own seq os = nf := ⟨_, rfl⟩
     have htk : Hid (∀ W, Below W2.heap.size W2 W → OptR W a n os → Calls Tryz.prog 190 #[.pointer (some ⟨z.Bb, 0, none⟩), .int .i64 (i : Int), .agg #[.int .i64 own, .int .i64 seq, .slice a n cap]] W fun e w' => e = .returned (.tuple #[.int .i64 nf, .nilIface]) ∧ WentR w w' z r3 r.n ∧ OptR w' a n os ∧ ∀ p v, W.cell? p = some v → w'.cell? p = some v) := by
      intro W hW hoW
      refine (takeB_any z r i own seq a n cap os W (R2.below hW) hi hoW hnil hst).mono ?_
      rintro e w5 ⟨rfl, hW5, ho5, hc5⟩
      rw [hr3] at hW5
      rw [hnf]
      exact ⟨rfl, WentR.first HR.out rfl (below_chain b2 hW) (fun _ => hW5), ho5, hc5⟩
     have hP3 : r3.P = r.P := by rw [← hr3]
     have hn3 : r3.n = r.n := by rw [← hr3]
     have hput : Hid (¬ (own = r.id ∧ 0 < nf) → 0 ≤ nf → ∀ W, WentR w W z r3 r.n → OptR W a n os → Calls Tryz.prog 152 #[.pointer (some ⟨z.g, i * 71, none⟩), .string ⟨#[65]⟩, .agg #[.int .i64 own, .int .i64 seq, .slice a n cap]] W fun e w' => e = .returned (.tuple #[]) ∧ WentR w w' z (stateM r i s.data.toList) r.n) := by
      intro e1 e2 W hW hoW
      have hE : stateM r i s.data.toList = r3.setP i ((r3.P i).put 65 (stB own seq os)) := by
       unfold stateM
       rw [hR]
       simp only
       rw [if_neg (by simp [hb]), hnf, if_neg e1, if_pos e2, hr3, hP3]
      rw [hE]
      refine hW.call (r' := r3.setP i ((r3.P i).put 65 (stB own seq os))) fun z1 R1 hl => ?_
      rw [← hl.g]
      have hi3 : i < r3.n := by rw [hn3]; exact hi
      refine (putState_port ⟨#[65]⟩ 65 own seq a n cap os z1.g (i * 71) (z1.B i) (z1.v i) (r3.P i) W (R1.pt i hi3) rfl hoW hst (by rw [hP3]; exact hout)).mono ?_
      rintro e w6 ⟨rfl, hw6⟩
      have := R1.port hi3 hw6
      rw [hn3] at this
      exact ⟨rfl, this⟩
     have hend : Hid (¬ (own = r.id ∧ 0 < nf) → ¬ 0 ≤ nf → ∀ W, WentR w W z r3 r.n → WentR w W z (stateM r i s.data.toList) r.n) := by
      intro e1 e2 W hW
      have hE : stateM r i s.data.toList = r3 := by
       unfold stateM
       rw [hR]
       simp only
       rw [if_neg (by simp [hb]), hnf, if_neg e1, if_neg e2, hr3]
      rw [hE]
      exact hW
     rw [hnf] at hbeh hnF
     obtain ⟨T, hT⟩ : ∃ T : World → Prop, (fun x => WentR w x z (stateM r i s.data.toList) r.n) = T := ⟨_, rfl⟩
     have hT' : ∀ x, WentR w x z (stateM r i s.data.toList) r.n = T x := fun x => congrFun hT x
     simp only [hT'] at hbeh hput hend
     have HT : Hid _ := hT'
     obtain ⟨T3, hT3⟩ : ∃ T : World → Prop, (fun x => WentR w x z r3 r.n) = T := ⟨_, rfl⟩
     have hT3' : ∀ x, WentR w x z r3 r.n = T3 x := fun x => congrFun hT3 x
     have HR3 : Hid (∀ x, T3 x → x.cell? ⟨z.R, 1, none⟩ = some (.slice (some ⟨z.g, 0, none⟩) r.n z.cap)) := fun x hx => by
      rw [← hT3'] at hx
      have := hx.c1
      rw [hn3] at this
      exact this
     simp only [hT3'] at htk hput hend
     have HT3d : Hid (∀ x, T3 x → T3 x.drew) := fun x hx => by
      rw [← hT3'] at hx ⊢
      exact hx.below hn3 (below_d x)
     have HR0 : Hid (∀ W, Below W2.heap.size W2 W → W.cell? ⟨z.R, 0, none⟩ = some (.int .i64 r.id) ∧ W.cell? ⟨z.R, 2, none⟩ = some (.pointer (some ⟨z.Bb, 0, none⟩))) := fun W hW => ⟨(R2.below hW).c0, (R2.below hW).c2⟩
     clear hT hT' hT3 hT3' R2 hR hirng HR HOk b1 ba hA ho hout hP3 hn3 hr3 hnf hst
     go_wp2_with (fail)
     try rw [hW2]
     try rw [hZ]
     clear hW2 hZ
     generalize ownOf r.K r.id = ow at hget hnw
     generalize seqAt r.K r.id = sq at hget hnw hnF
     generalize esOf r.K r.id = es at hget hnw hnF hes1
     generalize (r.K r.id).isSome = okb at hget
     go_cut [8] (fun v wx => ∃ (Y : Nat) (b : Option Addr) (cb : Nat), v = .pointer (some ⟨Y, 0, none⟩) ∧ S3 wx Y ow sq (.slice b es.length cb) ∧ OptR wx b es.length es ∧ Below W2.heap.size W2 wx)
     case first =>
      have F0 := HR0.out _ (below_d W2)
      have F0 : W2.drew.cell? ⟨z.R, 0, none⟩ = some (.int .i64 r.id) ∧ W2.drew.cell? ⟨z.R, 2, none⟩ = some (.pointer (some ⟨z.Bb, 0, none⟩)) := F0
      have ba : Below W2.heap.size W2 (W2.alloc (.cells #[.int .i64 0, .int .i64 0, .slice none 0 0] 40)).drew := below_drew (below_alloc W2 _)
      have hn3 : Blk (W2.alloc (.cells #[.int .i64 0, .int .i64 0, .slice none 0 0] 40)).drew W2.heap.size #[.int .i64 0, .int .i64 0, .slice none 0 0] 40 := (Blk.new W2 _ _).drew
      have hne : z.R ≠ W2.heap.size := by omega
      clear hnw hnF hbeh htk hput hend HR3 c1 g1 gl S2 ho2
      go_region_held3 (fun x => x.cell? ⟨z.R, 0, none⟩ = some (.int .i64 r.id) ∧ x.cell? ⟨z.R, 2, none⟩ = some (.pointer (some ⟨z.Bb, 0, none⟩)))
       (first | assumption | exact F0 | exact F1 | exact cell2_alloc F1 | exact cell2_alloc F0 | exact cell2_set3 F1 hne hne)
       (first
         | (go_at_call 177; refine (hget _ (by first | exact below_d W2 | exact ba)).mono ?_; rintro e w3 ⟨b, cb, rfl, hob, b3, F1⟩; first | (have hn1 := hn3.below b3; have y0 := hn1.cell 0; have y1 := hn1.cell 1; have y2 := hn1.cell 2; have z0 := hn1.frozen 0; have z1 := hn1.frozen 1; have z2 := hn1.frozen 2) | skip))
      all_goals
       go_wp2_with (fail)
       go_meet
       first
        | exact ⟨_, b, cb, rfl, ⟨World.cell?_alloc_mark w3 _ _ (0, 0) 0, World.cell?_alloc_mark w3 _ _ (0, 0) 1, World.cell?_alloc_mark w3 _ _ (0, 0) 2⟩, hob.below (below_alloc _ _), below_chain (below_chain (below_d W2) b3) (below_alloc _ _)⟩
        | (have h5 := store3 (a := .int .i64 ow) (b := .int .i64 sq) (c := .slice b es.length cb) hn1 rfl (Nat.le_refl _) (below_chain ba b3)
           have h6 := ((hn1.set 0 (.int .i64 ow)).set 1 (.int .i64 sq)).set 2 (.slice b es.length cb)
           exact ⟨_, b, cb, rfl, ⟨h6.cell 0, h5.1, h5.2.1⟩, OptR.not_zero hob hn1 hes1.out h5.2.2.2, h5.2.2.1⟩)
     case rest =>
      obtain ⟨Y, b, cb, rfl, SY, hob, hbx⟩ := hcut
      have SZ := S2.below hbx
      have hoa := ho2.below hbx
      have hR0 := HR0.out _ hbx
      have zl := World.block_lt_of_cell? _ _ SZ.1
      have yl := World.block_lt_of_cell? _ _ SY.1
      have rl := World.block_lt_of_cell? _ _ hR0.1
      cases q1 : (own == r.id) with
      | false =>
        have hno : ¬ (own = r.id ∧ 0 < nf) := fun e => by simp [e.1] at q1
        obtain ⟨d0, d1, d2⟩ := SZ
        have d3 := hR0.1
        clear hnw hnF hget
        go_wp2_with (fail)
        go_quiet (fail)
        have b5 := below_drewN hbx nq
        obtain ⟨W5, hW5⟩ : ∃ W5, wc.drewN nq = W5 := ⟨_, rfl⟩
        rw [hW5] at b5
        rw [hW5]
        clear hW5 d0 d1 d2 d3 hR0 hoa hob SY hbx zl yl rl
        -- W5: a world behind region 3; b5 : Below W2 W5
        have SZ5 := S2.below b5
        have ho5 := ho2.below b5
        have R5 := HR0.out _ (below_chain b5 (below_d W5))
        have ht5 := htk.out _ (below_chain b5 (below_d W5)) (ho5.below (below_d W5))
        have F5 : W5.drew.cell? ⟨z.R, 2, none⟩ = some (.pointer (some ⟨z.Bb, 0, none⟩)) ∧ W5.drew.cell? ⟨Z, 0, none⟩ = some (.int .i64 own) ∧ W5.drew.cell? ⟨Z, 1, none⟩ = some (.int .i64 seq) ∧ W5.drew.cell? ⟨Z, 2, none⟩ = some (.slice a n cap) := ⟨R5.2, SZ5⟩
        have hT5 : Calls Tryz.prog 190 #[.pointer (some ⟨z.Bb, 0, none⟩), .int .i64 (i : Int), .agg #[.int .i64 own, .int .i64 seq, .slice a n cap]] W5.drew fun e w' => e = .returned (.tuple #[.int .i64 nf, .nilIface]) ∧ T3 w' ∧ OptR w' a n os ∧ (w'.cell? ⟨z.R, 2, none⟩ = some (.pointer (some ⟨z.Bb, 0, none⟩)) ∧ w'.cell? ⟨Z, 0, none⟩ = some (.int .i64 own) ∧ w'.cell? ⟨Z, 1, none⟩ = some (.int .i64 seq) ∧ w'.cell? ⟨Z, 2, none⟩ = some (.slice a n cap)) := by
         refine ht5.mono ?_
         rintro e w6 ⟨rfl, h1, h2, h3⟩
         exact ⟨rfl, h1, h2, h3 _ _ F5.1, h3 _ _ F5.2.1, h3 _ _ F5.2.2.1, h3 _ _ F5.2.2.2⟩
        clear ht5 htk R5 SZ5 ho5
        go_wp2_with (fail)
        go_region_held3 (fun x => x.cell? ⟨z.R, 2, none⟩ = some (.pointer (some ⟨z.Bb, 0, none⟩)) ∧ x.cell? ⟨Z, 0, none⟩ = some (.int .i64 own) ∧ x.cell? ⟨Z, 1, none⟩ = some (.int .i64 seq) ∧ x.cell? ⟨Z, 2, none⟩ = some (.slice a n cap))
         (first | assumption | exact F5 | exact F6)
         (first
           | (go_at_call 190; refine hT5.mono ?_; rintro e w6 ⟨rfl, hT6, ho6, F6⟩))
        all_goals
         have m1 := HR3.out _ hT6
         by_cases hn0 : 0 ≤ nf
         · have hp7 := hput.out hno hn0
           have F7 : w6.drew.cell? ⟨z.R, 1, none⟩ = some (.slice (some ⟨z.g, 0, none⟩) r.n z.cap) ∧ w6.drew.cell? ⟨Z, 0, none⟩ = some (.int .i64 own) ∧ w6.drew.cell? ⟨Z, 1, none⟩ = some (.int .i64 seq) ∧ w6.drew.cell? ⟨Z, 2, none⟩ = some (.slice a n cap) := ⟨m1, F6.2⟩
           have hp8 := hp7 w6.drew (HT3d.out _ hT6) (ho6.below (below_d w6))
           have m1' : w6.drew.cell? ⟨z.R, 1, none⟩ = some (.slice (some ⟨z.g, 0, none⟩) r.n z.cap) := F7.1
           have m2 : w6.drew.cell? ⟨Z, 0, none⟩ = some (.int .i64 own) := F7.2.1
           have m3 : w6.drew.cell? ⟨Z, 1, none⟩ = some (.int .i64 seq) := F7.2.2.1
           have m4 : w6.drew.cell? ⟨Z, 2, none⟩ = some (.slice a n cap) := F7.2.2.2
           have m5 := World.block_lt_of_cell? _ _ m1'
           have m6 := World.block_lt_of_cell? _ _ m2
           clear hT5 hput hend hp7 F5 F6 F7 hbeh
           go_wp2_with (fail)
           go_region_with (go_at_call 152; refine hp8.mono ?_; rintro e w8 ⟨rfl, hW8⟩)
           all_goals
            clear hp8
            go_wp2_with (fail)
            first | go_end0 | refine bodyPost_ret (results_none rfl _ _ _) rfl ?_
            exact ⟨rfl, by rw [HT.out]; exact hW8⟩
         · have hW8 := hend.out hno (by omega) _ hT6
           clear hT5 hput hend F5 F6 hbeh
           go_wp2_with (fail)
           first | go_end0 | refine bodyPost_ret (results_none rfl _ _ _) rfl ?_
           exact ⟨rfl, by rw [HT.out]; exact hW8⟩
      | true =>
        have HID : Hid (own = r.id) := by show own = r.id; simpa using q1
        have hns := hnF.out HID.out
        obtain ⟨d0, d1, d2⟩ := SZ
        obtain ⟨y0, y1, y2⟩ := SY
        have F0 : wc.drew.cell? ⟨z.R, 0, none⟩ = some (.int .i64 r.id) ∧ wc.drew.cell? ⟨Z, 0, none⟩ = some (.int .i64 own) ∧ wc.drew.cell? ⟨Z, 1, none⟩ = some (.int .i64 seq) ∧ wc.drew.cell? ⟨Z, 2, none⟩ = some (.slice a n cap) ∧ wc.drew.cell? ⟨Y, 0, none⟩ = some (.int .i64 ow) ∧ wc.drew.cell? ⟨Y, 1, none⟩ = some (.int .i64 sq) ∧ wc.drew.cell? ⟨Y, 2, none⟩ = some (.slice b es.length cb) := ⟨hR0.1, d0, d1, d2, y0, y1, y2⟩
        have hw0 := hnw.out wc.drew b cb (hoa.below (below_d wc)) (hob.below (below_d wc))
        rw [← hns] at hw0
        clear hns
        have hw1 : Calls Tryz.prog 189 #[.agg #[.int .i64 own, .int .i64 seq, .slice a n cap], .agg #[.int .i64 ow, .int .i64 sq, .slice b es.length cb]] wc.drew fun e w' => e = .returned (.int .i64 nf) ∧ Below W2.heap.size W2 w' ∧ (w'.cell? ⟨z.R, 0, none⟩ = some (.int .i64 r.id) ∧ w'.cell? ⟨Z, 0, none⟩ = some (.int .i64 own) ∧ w'.cell? ⟨Z, 1, none⟩ = some (.int .i64 seq) ∧ w'.cell? ⟨Z, 2, none⟩ = some (.slice a n cap) ∧ w'.cell? ⟨Y, 0, none⟩ = some (.int .i64 ow) ∧ w'.cell? ⟨Y, 1, none⟩ = some (.int .i64 sq) ∧ w'.cell? ⟨Y, 2, none⟩ = some (.slice b es.length cb)) := by
         refine hw0.mono ?_
         rintro e w5 ⟨rfl, b5⟩
         have bb := below_chain hbx (below_chain (below_d wc) b5)
         have SY5 := S3.below (x := wc.drew) ⟨y0, y1, y2⟩ b5
         exact ⟨rfl, bb, (HR0.out _ bb).1, (S2.below bb).1, (S2.below bb).2.1, (S2.below bb).2.2, SY5.1, SY5.2.1, SY5.2.2⟩
        clear hnw hnF hget hw0 d0 d1 d2 y0 y1 y2 hR0 hoa hob
        go_wp2_with (fail)
        go_region_held3 (fun x => x.cell? ⟨z.R, 0, none⟩ = some (.int .i64 r.id) ∧ x.cell? ⟨Z, 0, none⟩ = some (.int .i64 own) ∧ x.cell? ⟨Z, 1, none⟩ = some (.int .i64 seq) ∧ x.cell? ⟨Z, 2, none⟩ = some (.slice a n cap) ∧ x.cell? ⟨Y, 0, none⟩ = some (.int .i64 ow) ∧ x.cell? ⟨Y, 1, none⟩ = some (.int .i64 sq) ∧ x.cell? ⟨Y, 2, none⟩ = some (.slice b es.length cb))
         (first | assumption | exact F0 | exact F1)
         (first
           | (go_at_call 189; refine hw1.mono ?_; rintro e W5 ⟨rfl, b5, F1⟩))
        all_goals
         by_cases h0 : 0 < nf
         · have hb5 := hbeh.out HID.out h0 _ b5
           have m3 := F1.2.2.1
           have m6 := World.block_lt_of_cell? _ _ m3
           clear hw1 htk hput hend F0 F1 hbeh
           go_wp2_with (fail)
           refine hb5.mono ?_
           rintro e w8 ⟨rfl, hW8⟩
           clear hb5
           go_wp2_with (fail)
           first | go_end0 | refine bodyPost_ret (results_none rfl _ _ _) rfl ?_
           exact ⟨rfl, by rw [HT.out]; exact hW8⟩
         · have hno : ¬ (own = r.id ∧ 0 < nf) := fun e => h0 e.2
           clear hw1 F0 F1 hbx zl yl rl
           -- W5: a world behind region 3; b5 : Below W2 W5
           have SZ5 := S2.below b5
           have ho5 := ho2.below b5
           have R5 := HR0.out _ (below_chain b5 (below_d W5))
           have ht5 := htk.out _ (below_chain b5 (below_d W5)) (ho5.below (below_d W5))
           have F5 : W5.drew.cell? ⟨z.R, 2, none⟩ = some (.pointer (some ⟨z.Bb, 0, none⟩)) ∧ W5.drew.cell? ⟨Z, 0, none⟩ = some (.int .i64 own) ∧ W5.drew.cell? ⟨Z, 1, none⟩ = some (.int .i64 seq) ∧ W5.drew.cell? ⟨Z, 2, none⟩ = some (.slice a n cap) := ⟨R5.2, SZ5⟩
           have hT5 : Calls Tryz.prog 190 #[.pointer (some ⟨z.Bb, 0, none⟩), .int .i64 (i : Int), .agg #[.int .i64 own, .int .i64 seq, .slice a n cap]] W5.drew fun e w' => e = .returned (.tuple #[.int .i64 nf, .nilIface]) ∧ T3 w' ∧ OptR w' a n os ∧ (w'.cell? ⟨z.R, 2, none⟩ = some (.pointer (some ⟨z.Bb, 0, none⟩)) ∧ w'.cell? ⟨Z, 0, none⟩ = some (.int .i64 own) ∧ w'.cell? ⟨Z, 1, none⟩ = some (.int .i64 seq) ∧ w'.cell? ⟨Z, 2, none⟩ = some (.slice a n cap)) := by
            refine ht5.mono ?_
            rintro e w6 ⟨rfl, h1, h2, h3⟩
            exact ⟨rfl, h1, h2, h3 _ _ F5.1, h3 _ _ F5.2.1, h3 _ _ F5.2.2.1, h3 _ _ F5.2.2.2⟩
           clear ht5 htk R5 SZ5 ho5
           go_wp2_with (fail)
           go_region_held3 (fun x => x.cell? ⟨z.R, 2, none⟩ = some (.pointer (some ⟨z.Bb, 0, none⟩)) ∧ x.cell? ⟨Z, 0, none⟩ = some (.int .i64 own) ∧ x.cell? ⟨Z, 1, none⟩ = some (.int .i64 seq) ∧ x.cell? ⟨Z, 2, none⟩ = some (.slice a n cap))
            (first | assumption | exact F5 | exact F6)
            (first
              | (go_at_call 190; refine hT5.mono ?_; rintro e w6 ⟨rfl, hT6, ho6, F6⟩))
           all_goals
            have m1 := HR3.out _ hT6
            by_cases hn0 : 0 ≤ nf
            · have hp7 := hput.out hno hn0
              have F7 : w6.drew.cell? ⟨z.R, 1, none⟩ = some (.slice (some ⟨z.g, 0, none⟩) r.n z.cap) ∧ w6.drew.cell? ⟨Z, 0, none⟩ = some (.int .i64 own) ∧ w6.drew.cell? ⟨Z, 1, none⟩ = some (.int .i64 seq) ∧ w6.drew.cell? ⟨Z, 2, none⟩ = some (.slice a n cap) := ⟨m1, F6.2⟩
              have hp8 := hp7 w6.drew (HT3d.out _ hT6) (ho6.below (below_d w6))
              have m1' : w6.drew.cell? ⟨z.R, 1, none⟩ = some (.slice (some ⟨z.g, 0, none⟩) r.n z.cap) := F7.1
              have m2 : w6.drew.cell? ⟨Z, 0, none⟩ = some (.int .i64 own) := F7.2.1
              have m3 : w6.drew.cell? ⟨Z, 1, none⟩ = some (.int .i64 seq) := F7.2.2.1
              have m4 : w6.drew.cell? ⟨Z, 2, none⟩ = some (.slice a n cap) := F7.2.2.2
              have m5 := World.block_lt_of_cell? _ _ m1'
              have m6 := World.block_lt_of_cell? _ _ m2
              clear hT5 hput hend hp7 F5 F6 F7 hbeh
              go_wp2_with (fail)
              go_region_with (go_at_call 152; refine hp8.mono ?_; rintro e w8 ⟨rfl, hW8⟩)
              all_goals
               clear hp8
               go_wp2_with (fail)
               first | go_end0 | refine bodyPost_ret (results_none rfl _ _ _) rfl ?_
               exact ⟨rfl, by rw [HT.out]; exact hW8⟩
            · have hW8 := hend.out hno (by omega) _ hT6
              clear hT5 hput hend F5 F6 hbeh
              go_wp2_with (fail)
              first | go_end0 | refine bodyPost_ret (results_none rfl _ _ _) rfl ?_
              exact ⟨rfl, by rw [HT.out]; exact hW8⟩
 · have ee : errV f = .iface 128 (.int .i64 (f : Int)) := by simp only [errV]; rw [if_neg hf]
   rw [ee]
   have hE : stateM r i s.data.toList = r := by
    unfold stateM
    rw [hR]
    simp only
    rw [if_pos (.inl hf)]
   have HW : Hid (WentR w (w1.alloc (.cells #[.int .i64 own, .int .i64 seq, .slice a n cap] 40)) z (stateM r i s.data.toList) r.n) := by
    show WentR _ _ _ _ _
    rw [hE]
    exact WentR.still HR.out (below_chain b1 ba)
   clear hR ho hf ee hE
   go_wp2_with (fail)
   first | go_end0 | refine bodyPost_ret (results_none rfl _ _ _) rfl ?_
   exact ⟨rfl, HW.out⟩
end Rt
end Go.Proofs.YtieklnlbljejdaaGreatDoor
