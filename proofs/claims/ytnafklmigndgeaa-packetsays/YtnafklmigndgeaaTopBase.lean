/-
  'TopFrame' returns true at every text and cut, and changes nothing that was there.
-/
import Derived.Test.YtnafklmigndgeaaMakeWalk
import Derived.Test.YtnafklmigndgeaaSameWalk
import Derived.OpenShut
namespace Go.Proofs.Ytnafklmigndgeaa
open Go.RowKit Plain

theorem rd_new (W : World) : Rd (W.alloc (.cells Z35 35)) W.heap.size [] false false := ⟨Z35, heap_alloc_last W _, RdC.zero⟩

theorem fx : (frameL [120]).length = 5 ∨ (frameL [120]).length = 6 ∨ (frameL [120]).length = 7 := by decide +kernel
theorem fx2 : 5 ≤ (ByteArray.mk (frameL [120]).toArray).size ∧ (ByteArray.mk (frameL [120]).toArray).size ≤ 1000 := by
  have h : (ByteArray.mk (frameL [120]).toArray).size = (frameL [120]).length := by show (frameL [120]).toArray.size = _; rw [List.size_toArray]
  have := fx
  rw [h]
  omega
theorem make_x (w : World) : Calls Try.prog 10 #[.string ⟨#[120]⟩] w fun e w' => ∃ F : ByteArray, e = .returned (.tuple #[.string F, .nilIface]) ∧ 5 ≤ F.size ∧ F.size ≤ 1000 ∧ Below w.heap.size w w' := by
  have h := make_yes ⟨#[120]⟩ w (by decide)
  have e : (ByteArray.mk #[120]).data.toList = [120] := rfl
  rw [e] at h
  refine h.mono ?_
  rintro e w' ⟨h1, h2⟩
  exact ⟨_, h1, fx2.1, fx2.2, h2⟩
theorem assert64 (k : Int) (w : World) : (Instr.typeAssert (.iface 64 (.int .i64 k)) 25 64 true).run Try.prog w = .ok (.tuple #[.int .i64 k, .bool true]) w := by kernel_rfl
set_option maxRecDepth 100000 in
theorem number_err (k : Int) (w : World) : Calls Try.prog 28 #[.iface 64 (.int .i64 k)] w fun e w' => e = .returned (.int .i64 k) ∧ w = w' := by
  have hta := assert64
  go_enter Try.func28, Try.ntmps28
  go_wp2
  go_ret
  exact ⟨rfl, rfl⟩


theorem run_append_none {P : Program} (w : World) (t ty e : TypeId) (i : TypeInfo) (sz : Nat) (ht : P.underlying t = some (.slice e)) (hi : P.info? e = some i)
    (v : Value) (n : Nat) (xs : List Value) (h : Row w sz v n xs) : (Builtin.append_ #[t, t] ty #[v, .slice none 0 0]).run P w = .ok v w := by
  rcases h.2 with ⟨rfl, rfl⟩ | ⟨g, cap, rfl, _, hnc, _⟩
  · simp [Builtin.append_, run_underlying ht, sizeOf, typeInfo, hi, Builtin.lenOf, Builtin.firstCells]
  · simp [Builtin.append_, run_underlying ht, sizeOf, typeInfo, hi, Builtin.lenOf, Builtin.firstCells, hnc, storeCells]
theorem wpList_append_none {P : Program} (w : World) {ops : Array Oper} {rest : List Oper} {o : Oper} {a : Act} {Q : Exit → Act → World → Prop} (hgd : o.guard = none) (s x : Operand) (t : TypeId)
    (ho : o.op = .call { callee := .builtin .append, args := #[s, x], argTypes := #[t, t] })
    (e : TypeId) (i : TypeInfo) (sz : Nat) (ht : P.underlying t = some (.slice e)) (hi : P.info? e = some i)
    (v : Value) (n : Nat) (xs : List Value) (hs : a.eval s = v) (hown : Row w sz v n xs) (hx : a.eval x = .slice none 0 0)
    (h : wpList P ops Q rest (a.put o.dst v) w) : wpList P ops Q (o :: rest) a w := by
  refine wpList_plain hgd fun K hK => ?_
  have hrun := run_append_none (P := P) w t o.type e i sz ht hi v n xs hown
  unfold Oper.wp
  simp [execOp, ho, resolve, invoke, builtin, hs, hx, hrun, Result.andThen]
  exact hK _ _ h

theorem all_nil (b : Nat) (st st' : RState) (s : ByteArray) (w : World) (h : Rd w b st.1 st.2.1 st.2.2) (hs : s.size ≤ 100000) (hA : allR st s.data.toList = ([], 0, st')) :
    Calls Try.prog 15 #[.pointer (some ⟨b, 0, none⟩), .string s] w fun e w' => e = .returned (.tuple #[.slice none 0 0, .int .i64 0]) ∧ Rd w' b st'.1 st'.2.1 st'.2.2 ∧ w.grownBy w' (some b) := by
  have hq := all_any b st s w h hs
  rw [hA] at hq
  refine hq.mono ?_
  rintro e w' ⟨v, rfl, h1, h2, h3, h4, h5⟩
  rw [h3 rfl]
  exact ⟨rfl, h4, h5⟩
theorem all_one (b : Nat) (st st' : RState) (l : List UInt8) (s : ByteArray) (w : World) (h : Rd w b st.1 st.2.1 st.2.2) (hs : s.size ≤ 100000) (hA : allR st s.data.toList = ([l], 0, st')) :
    Calls Try.prog 15 #[.pointer (some ⟨b, 0, none⟩), .string s] w fun e w' => ∃ g cap, e = .returned (.tuple #[.slice (some ⟨g, 0, none⟩) 1 cap, .int .i64 0]) ∧ Row w' 1 (.slice (some ⟨g, 0, none⟩) 1 cap) 1 [.string ⟨l.toArray⟩] ∧ w.heap.size ≤ g ∧ Rd w' b st'.1 st'.2.1 st'.2.2 ∧ w.grownBy w' (some b) := by
  have hq := all_any b st s w h hs
  rw [hA] at hq
  refine hq.mono ?_
  rintro e w' ⟨v, rfl, h1, h2, h3, h4, h5⟩
  rcases h1.2 with ⟨_, hn⟩ | ⟨g, cap, rfl, _⟩
  · simp at hn
  · exact ⟨g, cap, rfl, h1, h2 g rfl, h4, h5⟩
theorem pieces (l : List UInt8) (h : l.length ≤ 60) (c : Nat) : ∃ st : RState, (allR ([], false, false) ((frameL l).take c) = ([], 0, st) ∧ allR st ((frameL l).drop c) = ([l], 0, ([], false, false))) ∨
    (allR ([], false, false) ((frameL l).take c) = ([l], 0, st) ∧ allR st ((frameL l).drop c) = ([], 0, ([], false, false))) := by
  have h1 := allR_frame l h
  rw [← List.take_append_drop c (frameL l), allR_append] at h1
  obtain ⟨x1, y1, st, e1⟩ : ∃ x y z, allR ([], false, false) ((frameL l).take c) = (x, y, z) := ⟨_, _, _, rfl⟩
  rw [e1] at h1
  obtain ⟨x2, y2, st2, e2⟩ : ∃ x y z, allR st ((frameL l).drop c) = (x, y, z) := ⟨_, _, _, rfl⟩
  simp only [e2, Prod.mk.injEq] at h1
  obtain ⟨h2, h3, h4⟩ := h1
  refine ⟨st, ?_⟩
  rw [e1, e2]
  have hy1 : y1 = 0 := by omega
  have hy2 : y2 = 0 := by omega
  subst hy1 hy2
  rcases x1 with _ | ⟨a, x1⟩
  · left
    simp at h2
    exact ⟨rfl, by rw [h2, h4]⟩
  · right
    simp at h2
    obtain ⟨rfl, rfl, rfl⟩ := h2
    exact ⟨rfl, by rw [h4]⟩
theorem Row.kept_rd {w w' : World} {b g n cap : Nat} {xs : List Value} (h : Row w 1 (.slice (some ⟨g, 0, none⟩) n cap) n xs) (hg : w.grownBy w' (some b)) (hne : b ≠ g) : Row w' 1 (.slice (some ⟨g, 0, none⟩) n cap) n xs :=
  h.kept hg fun k hk => by
    have : g = k := by simpa [Value.ownBlock] using hk
    intro e
    simp at e
    omega
theorem below_grown {w a c : World} {b : Nat} (h : Below w.heap.size w a) (hg : a.grownBy c (some b)) (hb : w.heap.size ≤ b) : Below w.heap.size w c :=
  h.grown hg h.size (fun k hk => by simp at hk; omega)
theorem below_grown0 {w a c : World} (h : Below w.heap.size w a) (hg : a.grownBy c none) : Below w.heap.size w c :=
  h.grown hg h.size (fun k hk => by simp at hk)
theorem below_drewN {w a : World} {B : Nat} (h : Below B w a) (n : Nat) : Below B w (a.drewN n) := ⟨h.os, h.tape, h.output, h.size, h.block⟩
theorem below_chain {w a b : World} (h : Below w.heap.size w a) (k : Below a.heap.size a b) : Below w.heap.size w b := h.trans (k.mono h.size)
theorem strs_one (s : ByteArray) : strs [s.data.toList] = [.string s] := by simp [strs]
theorem same_one (s : ByteArray) (va vb : Value) (w : World) (ha : Reads w va 1 [.string s]) (hb : Reads w vb 1 [.string s]) :
    Calls Try.prog 17 #[va, vb] w fun e w' => e = .returned (.bool true) ∧ ∃ m, w' = w.drewN m :=
  sameTexts_true va vb 1 [s.data.toList] w (by rw [strs_one]; exact ha) (by rw [strs_one]; exact hb) (by decide)
theorem one_made (w : World) (s : ByteArray) : Reads (w.alloc (.cells #[.string s] 9)) (.slice (some ⟨w.heap.size, 0, none⟩) 1 1) 1 [.string s] :=
  (Row.made w 1 9 #[.string s] (0, 0) 1 1 [.string s] rfl rfl (Nat.le_refl _) (by decide) (.inl rfl) (by simp)).reads
theorem and_mask (a : Int) : ∃ m : Nat, m ≤ 1023 ∧ bits .and .i64 a 1023 = (m : Int) := by
  have e : (BitVec.ofInt 64 a &&& BitVec.ofInt 64 1023).toNat ≤ 1023 := by
    rw [BitVec.toNat_and]
    exact Nat.and_le_right
  refine ⟨(BitVec.ofInt 64 a &&& BitVec.ofInt 64 1023).toNat, e, ?_⟩
  show IntKind.i64.wrap ((BitVec.ofInt 64 a &&& BitVec.ofInt 64 1023).toNat : Int) = _
  rw [IntKind.wrap_i64]
  omega

end Go.Proofs.Ytnafklmigndgeaa
