/-
  A base of states as it lies in memory; has, check, newer.
-/
import Derived.Test.YtgfjgenkpfdofaaFloodMap
import Derived.Test.YtgfjgenkpfdofaaStCheckAll
namespace Go.Proofs.Ytgfjgenkpfdofaa
open Go.RowKit St

/-- Where a base's maps lie: what is known, the row of what is owed, each port's. -/
structure FM where
  bm : Nat
  g : Nat
  cap : Nat
  bs : List Nat
  /-- blocks of others: no edges of the base lie there. -/
  no : Nat → Prop := fun _ => False
def FM.sl (m : FM) : Value := .slice (some ⟨m.g, 0, none⟩) m.bs.length m.cap
def FM.row (m : FM) : List Value := m.bs.map fun b => Value.map (some b)
/-- The base in block B: its two cells, the row, the maps (at most n entries each). -/
structure FB (w : World) (B : Nat) (m : FM) (n : Nat) (kn : Int → Option SV) (ow : Nat → Int → Option SV) : Prop where
  blk : w.heap[B]? = some (.cells #[.map (some m.bm), m.sl] 69 (0, 0))
  row : Row w 1 m.sl m.bs.length m.row
  km : SMap w m.bm n kn
  om : ∀ i b, m.bs[i]? = some b → SMap w b n (ow i)
  few : m.bs.length ≤ 3
  nB : m.bm ≠ B ∧ m.g ≠ B ∧ m.bm ≠ m.g ∧ (∀ b ∈ m.bs, b ≠ B ∧ b ≠ m.g ∧ b ≠ m.bm)
  nd : m.bs.Nodup
theorem FB.lt {w : World} {B : Nat} {m : FM} {n : Nat} {kn : Int → Option SV} {ow : Nat → Int → Option SV} (h : FB w B m n kn ow) : B < w.heap.size := (Array.getElem?_eq_some_iff.1 h.blk).1
theorem FB.c0 {w : World} {B : Nat} {m : FM} {n : Nat} {kn : Int → Option SV} {ow : Nat → Int → Option SV} (h : FB w B m n kn ow) : w.cell? ⟨B, 0, none⟩ = some (.map (some m.bm)) := cell_of_row w B 0 _ _ (0, 0) h.blk
theorem FB.c1 {w : World} {B : Nat} {m : FM} {n : Nat} {kn : Int → Option SV} {ow : Nat → Int → Option SV} (h : FB w B m n kn ow) : w.cell? ⟨B, 1, none⟩ = some m.sl := cell_of_row w B 1 _ _ (0, 0) h.blk
theorem FB.below {w w' : World} {B : Nat} {m : FM} {n : Nat} {kn : Int → Option SV} {ow : Nat → Int → Option SV} (h : FB w B m n kn ow) (hb : Below w.heap.size w w') : FB w' B m n kn ow :=
  ⟨(hb.block B h.lt).trans h.blk, h.row.below hb, h.km.below hb, fun i b e => (h.om i b e).below hb, h.few, h.nB, h.nd⟩
theorem FB.port {w : World} {B : Nat} {m : FM} {n : Nat} {kn : Int → Option SV} {ow : Nat → Int → Option SV} (h : FB w B m n kn ow) (i : Nat) (b : Nat) (e : m.bs[i]? = some b) : w.cell? ⟨m.g, i, none⟩ = some (.map (some b)) := by
  refine Row.cell h.row i _ ?_
  unfold FM.row
  rw [List.getElem?_map, e]
  rfl

set_option maxRecDepth 100000 in
theorem has_any (B : Nat) (m : FM) (n : Nat) (kn : Int → Option SV) (ow : Nat → Int → Option SV) (port : Int) (w : World) (h : FB w B m n kn ow) :
    Calls Try.prog 32 #[.pointer (some ⟨B, 0, none⟩), .int .i64 port] w fun e w' => e = .returned (.bool (decide (0 ≤ port) && decide (port < (m.bs.length : Int)))) ∧ w = w' := by
  have hl := h.lt
  have c1 : w.cell? ⟨B, 1, none⟩ = some (.slice (some ⟨m.g, 0, none⟩) m.bs.length m.cap) := h.c1
  have hf := h.few
  by_cases h0 : 0 ≤ port
  · by_cases h1 : port < (m.bs.length : Int)
    · have hv : (decide (0 ≤ port) && decide (port < (m.bs.length : Int))) = true := by simp [h0, h1]
      rw [hv]
      clear hv h
      go_enter Try.func32, Try.ntmps32
      go_wp2
      go_ret
      exact ⟨by first | rfl | (simp; omega), rfl⟩
    · have hv : (decide (0 ≤ port) && decide (port < (m.bs.length : Int))) = false := by simp [h1]
      rw [hv]
      clear hv h
      go_enter Try.func32, Try.ntmps32
      go_wp2
      go_ret
      exact ⟨by first | rfl | (simp; omega), rfl⟩
  · have hv : (decide (0 ≤ port) && decide (port < (m.bs.length : Int))) = false := by simp [h0]
    rw [hv]
    clear hv h
    go_enter Try.func32, Try.ntmps32
    go_wp2
    go_ret
    exact ⟨by first | rfl | (simp; omega), rfl⟩

/-- What is wrong with a port and a state that is named there. -/
def chkF (ports : Nat) (port own seq : Int) (es : List Opt) : Nat := if 0 ≤ port ∧ port < (ports : Int) then stF own seq es else 1
set_option maxRecDepth 100000 in
theorem fcheck_any (B : Nat) (m : FM) (k : Nat) (kn : Int → Option SV) (ow : Nat → Int → Option SV) (port own seq : Int) (a : Option Addr) (n cap : Nat) (es : List Opt) (w : World) (h : FB w B m k kn ow) (hn : n ≤ maxLen) (ho : OptR w a n es) :
    Calls Try.prog 29 #[.pointer (some ⟨B, 0, none⟩), .int .i64 port, .agg #[.int .i64 own, .int .i64 seq, .slice a n cap]] w fun e w' => e = .returned (errV (chkF m.bs.length port own seq es)) ∧ Below w.heap.size w w' := by
  have hk := below_alloc w (.cells #[.int .i64 own, .int .i64 seq, .slice a n cap] 35)
  have hh := has_any B m k kn ow port _ (h.below hk)
  have hc := check_all own seq a n cap es _ hn (ho.below hk)
  have E1 : Hid (errV 1 = .iface 64 (.int .i64 1)) := rfl
  by_cases hp : 0 ≤ port ∧ port < (m.bs.length : Int)
  · have hv : (decide (0 ≤ port) && decide (port < (m.bs.length : Int))) = true := by simp [hp.1, hp.2]
    have hf : chkF m.bs.length port own seq es = stF own seq es := by rw [chkF, if_pos hp]
    rw [hv] at hh
    rw [hf]
    clear hv hf h
    go_enter Try.func29, Try.ntmps29
    go_wp2_with (fail)
    refine hh.mono ?_
    rintro e w1 ⟨rfl, rfl⟩
    go_wp2_with (fail)
    refine hc.mono ?_
    rintro e w2 ⟨rfl, k2⟩
    go_wp2_with (fail)
    go_ret
    exact ⟨rfl, below_chain hk k2⟩
  · have hv : (decide (0 ≤ port) && decide (port < (m.bs.length : Int))) = false := by
      simp only [Bool.and_eq_false_iff, decide_eq_false_iff_not]
      omega
    have hf : Hid (chkF m.bs.length port own seq es = 1) := by show _ = _; rw [chkF, if_neg hp]
    rw [hv] at hh
    clear hv h
    go_enter Try.func29, Try.ntmps29
    go_wp2_with (fail)
    refine hh.mono ?_
    rintro e w1 ⟨rfl, rfl⟩
    go_wp2_with (fail)
    rw [hf.out, E1.out]
    go_ret
    exact ⟨rfl, hk⟩
end Go.Proofs.Ytgfjgenkpfdofaa
