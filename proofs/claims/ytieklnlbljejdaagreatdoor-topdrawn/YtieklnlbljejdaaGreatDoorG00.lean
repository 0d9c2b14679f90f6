/-
  Rowlib Base
-/
import Derived.WalkKit
import Derived.Laws.IdiomStrings
import Derived.Laws.IdiomCopy
import Derived.ArgAppend
import Derived.Test.YtieklnlbljejdaaGreatDoorRows
import Derived.WalkSpells
import Derived.WalkLawsBesides
import Derived.Handy
import Derived.Deep.QuietTactic
import Derived.BigQuiet
import Derived.Deep.RegionLaw
import Derived.Deep.RegionHeld3
import Derived.Deep.DrawnRows
namespace Go.Proofs.YtieklnlbljejdaaGreatDoor
open Go.RowKit
theorem add_plain (g j : Nat) : (⟨g, 0, none⟩ : Addr).add j = ⟨g, j, none⟩ := by unfold Addr.add; split <;> simp_all
theorem add_plain' (g o j : Nat) : (⟨g, o, none⟩ : Addr).add j = ⟨g, o + j, none⟩ := by unfold Addr.add; split <;> simp_all
def Row (w : World) (sz : Nat) (v : Value) (n : Nat) (xs : List Value) : Prop :=
 xs.length = n * sz ∧
 ((v = .slice none 0 0 ∧ n = 0) ∨
  ∃ g cap, v = .slice (some ⟨g, 0, none⟩) n cap ∧ g < w.heap.size ∧ n ≤ cap ∧ cap ≤ maxLen ∧ (∀ j u, xs[j]? = some u → w.cell? ⟨g, j, none⟩ = some u) ∧
    ∀ j, j < cap * sz → (w.cell? ⟨g, j, none⟩).isSome = true ∧ w.frozen? ⟨g, j, none⟩ = false)
theorem Row.nil (w : World) (sz : Nat) : Row w sz (.slice none 0 0) 0 [] := ⟨by simp, .inl ⟨rfl, rfl⟩⟩
theorem Row.lt {w : World} {sz : Nat} {v : Value} {n : Nat} {xs : List Value} (h : Row w sz v n xs) : ∀ k, v.ownBlock = some k → k < w.heap.size := by
 intro k hk
 rcases h.2 with ⟨rfl, _⟩ | ⟨g, cap, rfl, hg, _⟩
 · simp [Value.ownBlock] at hk
 · simp [Value.ownBlock] at hk
   subst hk
   exact hg
theorem Row.keep {w w' : World} {sz : Nat} {v : Value} {n : Nat} {xs : List Value} (h : Row w sz v n xs) (hs : w.heap.size ≤ w'.heap.size) (hb : ∀ k, v.ownBlock = some k → w'.heap[k]? = w.heap[k]?) : Row w' sz v n xs := by
 refine ⟨h.1, ?_⟩
 rcases h.2 with hn | ⟨g, cap, rfl, hg, h1, h2, h3, h4⟩
 · exact .inl hn
 · have e := hb g rfl
   have ec : ∀ j, w'.cell? ⟨g, j, none⟩ = w.cell? ⟨g, j, none⟩ := fun j => World.cell?_of_block (a := ⟨g, j, none⟩) e
   have ef : ∀ j, w'.frozen? ⟨g, j, none⟩ = w.frozen? ⟨g, j, none⟩ := fun j => World.frozen?_of_block (a := ⟨g, j, none⟩) e
   exact .inr ⟨g, cap, rfl, by omega, h1, h2, fun j u hu => by rw [ec]; exact h3 j u hu, fun j hj => by rw [ec, ef]; exact h4 j hj⟩
theorem Row.kept {w w' : World} {sz : Nat} {v : Value} {n : Nat} {xs : List Value} {row : Option Nat} (h : Row w sz v n xs) (hg : w.grownBy w' row) (hne : ∀ k, v.ownBlock = some k → row ≠ some k) : Row w' sz v n xs :=
 h.keep hg.size fun k hk => hg.block k (h.lt k hk) (fun e => hne k hk e.symm)
theorem Row.alloc {w : World} {sz : Nat} {v : Value} {n : Nat} {xs : List Value} (h : Row w sz v n xs) (o : Obj) : Row (w.alloc o) sz v n xs :=
 h.keep (by simp) fun k hk => Below.heap_alloc w o k (h.lt k hk)
theorem Row.drew {w : World} {sz : Nat} {v : Value} {n : Nat} {xs : List Value} (h : Row w sz v n xs) : Row w.drew sz v n xs :=
 h.keep (Nat.le_refl _) fun _ _ => rfl
theorem Row.below {w w' : World} {sz : Nat} {v : Value} {n : Nat} {xs : List Value} (h : Row w sz v n xs) (hb : Below w.heap.size w w') : Row w' sz v n xs :=
 h.keep hb.size fun k hk => hb.block k (h.lt k hk)
theorem Row.of_owns {w : World} {base : Nat} {e : TypeId} {sz : Nat} {v : Value} {n : Nat} {xs : List Value} (h : w.ownsRow base e sz v n xs) : Row w sz v n xs := by
 refine ⟨h.1, ?_⟩
 rcases h.2 with hn | ⟨g, cap, cur, rfl, hb, hg, h1, h2, h3, h4⟩
 · exact .inl hn
 · refine .inr ⟨g, cap, rfl, (Array.getElem?_eq_some_iff.1 hg).1, h1, h2, fun j u hu => ?_, fun j hj => ⟨?_, ?_⟩⟩
   · have := h.cells (g := g) rfl j u hu
     rwa [add_plain] at this
   · rw [cell_of_row w g j cur e (0, 0) hg]
     simp; omega
   · exact frozen_of_row w g j cur e hg
theorem Row.made (w : World) (sz : Nat) (e : TypeId) (C : Array Value) (fr : Nat × Nat) (n cap : Nat) (xs : List Value) (hx : xs.length = n * sz) (hc : C.size = cap * sz) (hn : n ≤ cap) (hm : cap ≤ maxLen) (hfr : fr = (0, 0) ∨ C.size ≤ fr.1)
 (ht : ∀ (j : Nat) (u : Value), xs[j]? = some u → C[j]? = some u) : Row (w.alloc (.cells C e fr)) sz (.slice (some ⟨w.heap.size, 0, none⟩) n cap) n xs := by
 refine ⟨hx, .inr ⟨w.heap.size, cap, rfl, by simp, hn, hm, fun j u hu => ?_, fun j hj => ⟨?_, ?_⟩⟩⟩
 · rw [World.cell?_alloc_mark]; exact ht j u hu
 · rw [World.cell?_alloc_mark]; simp; omega
 · obtain ⟨lo, hi⟩ := fr
   rw [World.frozen?_alloc_mark]
   rcases hfr with e1 | e1
   · simp only [Prod.mk.injEq] at e1
     obtain ⟨rfl, rfl⟩ := e1
     simp
   · simp only at e1
     have : ¬ lo ≤ j := by omega
     simp [this]
theorem Row.cell {w : World} {sz : Nat} {g n n' cap : Nat} {xs : List Value} (h : Row w sz (.slice (some ⟨g, 0, none⟩) n' cap) n xs) (j : Nat) (u : Value) (hu : xs[j]? = some u) : w.cell? ⟨g, j, none⟩ = some u := by
 rcases h.2 with ⟨e, _⟩ | ⟨g', cap', e, _, _, _, hc, _⟩
 · simp at e
 · simp at e
   obtain ⟨rfl, rfl, rfl⟩ := e
   exact hc j u hu
theorem cells_one (w : World) (x : Value) (t : TypeId) : ∀ (j : Nat) (u : Value), [x][j]? = some u → (w.alloc (.cells #[x] t)).cell? ((⟨w.heap.size, 0, none⟩ : Addr).add j) = some u := by
 intro j u hu
 rw [add_plain, World.cell?_alloc_mark]
 simpa using hu
theorem cells_two (w : World) (x y : Value) (t : TypeId) : ∀ (j : Nat) (u : Value), [x, y][j]? = some u → (w.alloc (.cells #[x, y] t)).cell? ((⟨w.heap.size, 0, none⟩ : Addr).add j) = some u := by
 intro j u hu
 rw [add_plain, World.cell?_alloc_mark]
 simpa using hu
theorem one_int (k : IntKind) (x : Int) : ∀ u ∈ [Value.int k x], u.oneCell' = true := by simp [Value.oneCell']
theorem one_ints (k l : IntKind) (x y : Int) : ∀ u ∈ [Value.int k x, Value.int l y], u.oneCell' = true := by simp [Value.oneCell']
theorem one_string (s : ByteArray) : ∀ u ∈ [Value.string s], u.oneCell' = true := by simp [Value.oneCell']
theorem row_step {w wr w2 : World} {o : Obj} {g g2 g1 sz n n' cap : Nat} {xs : List Value} (hgr : (wr.alloc o).grownBy w2 (some g)) (hown : some g = some g2 ∨ wr.heap.size + 1 ≤ g2)
 (hS : Row wr sz (.slice (some ⟨g1, 0, none⟩) n' cap) n xs) (hgw : w.heap.size ≤ g) (hne : g ≠ g1) (hbel : Below w.heap.size w wr) :
 Row w2 sz (.slice (some ⟨g1, 0, none⟩) n' cap) n xs ∧ w.heap.size ≤ g2 ∧ g2 ≠ g1 ∧ Below w.heap.size w w2 := by
 have h1 : g1 < wr.heap.size := hS.lt g1 rfl
 have hz := hbel.size
 have hs : (wr.alloc o).heap.size = wr.heap.size + 1 := by simp
 refine ⟨(hS.alloc o).kept hgr (fun k hk => ?_), ?_, ?_, ?_⟩
 · have : g1 = k := by simpa [Value.ownBlock] using hk
   intro e
   simp at e
   omega
 · rcases hown with h | h
   · simp at h; omega
   · omega
 · rcases hown with h | h
   · simp at h; omega
   · omega
 · refine (hbel.alloc hz o).grown hgr (by omega) (fun k hk => ?_)
   simp at hk
   omega
theorem row_step1 {w wr w2 : World} {o : Obj} {g g2 : Nat} (hgr : (wr.alloc o).grownBy w2 (some g)) (hown : some g = some g2 ∨ wr.heap.size + 1 ≤ g2)
 (hgw : w.heap.size ≤ g) (hbel : Below w.heap.size w wr) : w.heap.size ≤ g2 ∧ Below w.heap.size w w2 := by
 have hz := hbel.size
 have hs : (wr.alloc o).heap.size = wr.heap.size + 1 := by simp
 refine ⟨?_, ?_⟩
 · rcases hown with h | h
   · simp at h; omega
   · omega
 · refine (hbel.alloc hz o).grown hgr (by omega) (fun k hk => ?_)
   simp at hk
   omega
section
variable {P : Program}
theorem run_append_row (w : World) (t ty e : TypeId) (i : TypeInfo) (z : Value) (size bytes : Nat) (ht : P.underlying t = some (.slice e)) (hi : P.info? e = some i) (hz : i.zero = some z)
 (hsize : i.size = size) (hby : i.bytes = bytes) (hzs : z.cells.size = size) (hsz : 0 < size)
 (v : Value) (n : Nat) (xs : List Value) (hown : Row w size v n xs)
 (a : Addr) (m c : Nat) (news : List Value) (hl : news.length = m * size) (hm : 0 < m) (hnews : ∀ j u, news[j]? = some u → w.cell? (a.add j) = some u) (h1 : ∀ u ∈ news, u.oneCell' = true)
 (h63 : n + m ≤ maxLen) (hbytes : (n + m) * bytes ≤ 140737488355328) :
 ∃ v' w', (Builtin.append_ #[t, t] ty #[v, .slice (some a) m c]).run P w = .ok v' w' ∧ Row w' size v' (n + m) (xs ++ news) ∧ w.grownBy w' v.ownBlock ∧
   (v'.ownBlock = v.ownBlock ∨ ∃ k, v'.ownBlock = some k ∧ w.heap.size ≤ k) := by
 rcases hown.2 with ⟨rfl, rfl⟩ | ⟨g, cap, rfl, hg, hnc, hcm, hcell, hsp⟩
 · have hx : xs = [] := List.eq_nil_of_length_eq_zero (by simpa using hown.1)
   subst hx
   obtain ⟨v', w', hr, ho, hg, hnil⟩ := run_append_own (P := P) w w.heap.size t ty e i z size bytes ht hi hz hsize hby hzs hsz (.slice none 0 0) 0 [] (World.ownsRow_nil _ _ _ _) a m c news hl hnews h1 h63 hbytes (Nat.le_refl _)
   refine ⟨v', w', hr, Row.of_owns ho, hg, ?_⟩
   rcases ho.2 with ⟨e1, e2⟩ | ⟨g, cap, cur, rfl, hb, _⟩
   · omega
   · exact .inr ⟨g, rfl, hb⟩
 · by_cases hr : n + m ≤ cap
   · subst hsize
     have hfit : n * i.size + news.length ≤ cap * i.size := by rw [hl, ← Nat.add_mul]; exact Nat.mul_le_mul_right _ hr
     have hin : ∀ j, j < news.length → (w.cell? ⟨g, 0 + n * i.size + j, none⟩).isSome = true ∧ w.frozen? ⟨g, 0 + n * i.size + j, none⟩ = false := fun j hj => hsp _ (by omega)
     have hrun := run_append_room_cells (P := P) w t ty e i ht hi g 0 n cap a m c news hl hnews h1 hr (fun j hj => (hin j hj).1) (fun j hj => (hin j hj).2)
     have hblk : ∀ (vs : List Value) (o : Nat) (w : World), (w.setCells g o vs).heap.size = w.heap.size ∧ (w.setCells g o vs).os = w.os ∧ (w.setCells g o vs).tape = w.tape ∧ (w.setCells g o vs).output = w.output ∧ ∀ k, k ≠ g → (w.setCells g o vs).heap[k]? = w.heap[k]? := by
      intro vs
      induction vs with
      | nil => intro o w; exact ⟨rfl, rfl, rfl, rfl, fun _ _ => rfl⟩
      | cons u r ih =>
        intro o w
        have := ih (o + 1) (w.setCell ⟨g, o, none⟩ u)
        have b1 : Below 0 w (w.setCell ⟨g, o, none⟩ u) := (Below.refl 0 w).setCell (Nat.zero_le _) _
        refine ⟨this.1.trans (by simp), this.2.1.trans b1.os, this.2.2.1.trans b1.tape, this.2.2.2.1.trans b1.output, fun k hk => (this.2.2.2.2 k hk).trans (Below.heap_setCell _ _ _ k hk)⟩
     have B := hblk news (0 + n * i.size) w
     refine ⟨_, _, hrun, ⟨by rw [List.length_append, hown.1, hl, Nat.add_mul], .inr ⟨g, cap, rfl, by rw [B.1]; exact hg, hr, hcm, fun j u hu => ?_, fun j hj => ?_⟩⟩, ⟨B.2.1, B.2.2.1, B.2.2.2.1, by rw [B.1]; exact Nat.le_refl _, fun k _ hk => B.2.2.2.2 k (fun e => hk (by simp [Value.ownBlock, e]))⟩, .inl rfl⟩
     · rcases Nat.lt_or_ge j xs.length with hj | hj
       · rw [List.getElem?_append_left hj] at hu
         rw [World.cell?_setCells_out g _ _ _ _ (fun _ _ => .inl (by show j < 0 + n * i.size; have := hown.1; omega))]
         exact hcell j u hu
       · rw [List.getElem?_append_right hj] at hu
         have hj2 : j - xs.length < news.length := (List.getElem?_eq_some_iff.1 hu).1
         have := World.cell?_setCells_in g news (0 + n * i.size) w (fun k hk => (hin k hk).1) (j - xs.length) hj2
         have e1 : 0 + n * i.size + (j - xs.length) = j := by have := hown.1; omega
         rw [e1] at this
         rw [this, ← hu, List.getElem?_eq_getElem hj2]
     · rw [World.frozen?_setCells]
       refine ⟨?_, (hsp j hj).2⟩
       by_cases hq : n * i.size ≤ j ∧ j < n * i.size + news.length
       · have := World.cell?_setCells_in g news (0 + n * i.size) w (fun k hk => (hin k hk).1) (j - n * i.size) (by omega)
         have e1 : 0 + n * i.size + (j - n * i.size) = j := by omega
         rw [e1] at this
         rw [this]; rfl
       · rw [World.cell?_setCells_out g _ _ _ _ (fun _ _ => by show j < 0 + n * i.size ∨ 0 + n * i.size + news.length ≤ j; omega)]
         exact (hsp j hj).1
   · obtain ⟨v', w', hrun, ho, hgr⟩ := run_append_arg_grows (P := P) w t ty e i z size bytes ht hi hz hsize hby hzs hsz ⟨g, 0, none⟩ n cap xs hown.1 (fun j u hj => by rw [add_plain]; exact hcell j u hj) a m c news hl hnews (by omega) h63 hbytes
     refine ⟨v', w', hrun, Row.of_owns ho, ⟨hgr.os, hgr.tape, hgr.output, hgr.size, fun k hk _ => hgr.block k hk (by simp)⟩, ?_⟩
     rcases ho.2 with ⟨e1, e2⟩ | ⟨g', cap', cur, rfl, hb, _⟩
     · omega
     · exact .inr ⟨g', rfl, hb⟩
theorem wpList_append_row (w : World) {ops : Array Oper} {rest : List Oper} {o : Oper} {a : Act} {Q : Exit → Act → World → Prop} (hgd : o.guard = none) (s x : Operand) (t : TypeId)
 (ho : o.op = .call { callee := .builtin .append, args := #[s, x], argTypes := #[t, t] })
 (e : TypeId) (i : TypeInfo) (z : Value) (size bytes : Nat) (ht : P.underlying t = some (.slice e)) (hi : P.info? e = some i) (hz : i.zero = some z)
 (hsize : i.size = size) (hby : i.bytes = bytes) (hzs : z.cells.size = size) (hsz : 0 < size)
 (v : Value) (n : Nat) (xs : List Value) (hs : a.eval s = v) (hown : Row w size v n xs)
 (ad : Addr) (m c : Nat) (news : List Value) (hx : a.eval x = .slice (some ad) m c) (hl : news.length = m * size) (hm : 0 < m) (hnews : ∀ j u, news[j]? = some u → w.cell? (ad.add j) = some u) (h1 : ∀ u ∈ news, u.oneCell' = true)
 (h63 : n + m ≤ maxLen) (hbytes : (n + m) * bytes ≤ 140737488355328)
 (h : ∀ g' cap' w', Row w' size (.slice (some ⟨g', 0, none⟩) (n + m) cap') (n + m) (xs ++ news) → w.grownBy w' v.ownBlock → (v.ownBlock = some g' ∨ w.heap.size ≤ g') → wpList P ops Q rest (a.put o.dst (.slice (some ⟨g', 0, none⟩) (n + m) cap')) w') : wpList P ops Q (o :: rest) a w := by
 refine wpList_plain hgd fun K hK => ?_
 obtain ⟨v', w', hr, h2, h3, h4⟩ := run_append_row (P := P) w t o.type e i z size bytes ht hi hz hsize hby hzs hsz v n xs hown ad m c news hl hm hnews h1 h63 hbytes
 unfold Oper.wp execOp
 simp only [ho, resolve, invoke, builtin, Sem.run_bind, Sem.run_pure, Result.andThen_ok, List.map_toArray, List.map_cons, List.map_nil, hs, hx, hr]
 rcases h2.2 with ⟨_, hn⟩ | ⟨g', cap', rfl, _⟩
 · omega
 · refine hK _ _ (h g' cap' w' h2 h3 ?_)
   rcases h4 with h4 | ⟨k, h4, hk⟩
   · exact .inl h4.symm
   · simp [Value.ownBlock] at h4
     subst h4
     exact .inr hk
def cells8 (l : List UInt8) : List Value := l.map fun b => Value.int .u8 (b.toNat : Int)
theorem cells8_length (l : List UInt8) : (cells8 l).length = l.length := by simp [cells8]
theorem cells8_append (a b : List UInt8) : cells8 (a ++ b) = cells8 a ++ cells8 b := by simp [cells8]
theorem cells8_get (l : List UInt8) (j : Nat) (h : j < l.length) : (cells8 l)[j]? = some (.int .u8 (l[j].toNat : Int)) := by simp [cells8, h]
theorem run_bytes_row (w : World) (src dst e : TypeId) (s : ByteArray) (hs : P.underlying src = some .string) (hd : P.underlying dst = some (.slice e)) (he : P.underlying e = some (.int .u8)) (hm : s.size ≤ maxLen) :
 ∃ cap C fr, (convert src dst (.string s)).run P w = .ok (.slice (some ⟨w.heap.size, 0, none⟩) s.size cap) (w.drew.alloc (.cells C e fr)) ∧ Row (w.alloc (.cells C e fr)) 1 (.slice (some ⟨w.heap.size, 0, none⟩) s.size cap) s.size (cells8 s.data.toList) := by
 refine ⟨_, _, _, run_bytes_of_string w src dst e s hs hd he, ?_⟩
 have hge := grownCap_ge w s.size 0 e
 refine Row.made w 1 e _ _ _ _ _ (by simp [cells8]) ?_ hge (grownCap_le_maxLen w _ _ _ hm) (.inr (Nat.le_refl _)) ?_
 · simp [bytesRow]; omega
 · intro j u hu
   have hj : j < s.data.size := by
    have := (List.getElem?_eq_some_iff.1 hu).1
    simpa [cells8] using this
   rw [bytesRow_at s _ j hj]
   rw [cells8_get _ j (by simpa using hj)] at hu
   simpa using hu
theorem Row.back {w : World} {v : Value} {n : Nat} {l : List UInt8} (h : Row w 1 v n (cells8 l)) (src dst e : TypeId) (hs : P.underlying src = some (.slice e)) (he : P.underlying e = some (.int .u8)) (hd : P.underlying dst = some .string) :
 (convert src dst v).run P w = .ok (.string ⟨l.toArray⟩) w := by
 have hn : l.length = n := by have := h.1; simpa [cells8] using this
 rcases h.2 with ⟨rfl, rfl⟩ | ⟨g, cap, rfl, hg, hnc, hcm, hcell, hsp⟩
 · have : l = [] := List.eq_nil_of_length_eq_zero hn
   subst this
   rw [run_convert_bytes_string w src dst e _ _ _ hs he hd]
   simp [Conv.bytesToString]
   rfl
 · subst hn
   exact run_convert_bytes_back w src dst e ⟨g, 0, none⟩ cap l hs he hd fun j hj => by rw [add_plain]; exact hcell j _ (cells8_get l j hj)
end
end Go.Proofs.YtieklnlbljejdaaGreatDoor

namespace Go.Proofs.YtieklnlbljejdaaGreatDoor
open Go.RowKit
theorem below_chain {w a b : World} (h : Below w.heap.size w a) (k : Below a.heap.size a b) : Below w.heap.size w b := h.trans (k.mono h.size)
theorem below_drewN {w a : World} {B : Nat} (h : Below B w a) (n : Nat) : Below B w (a.drewN n) := ⟨h.os, h.tape, h.output, h.size, h.block⟩
theorem below_alloc (w : World) (o : Obj) : Below w.heap.size w (w.alloc o) := (Below.refl _ _).alloc (Nat.le_refl _) _
def errV (k : Nat) : Value := if k = 0 then .nilIface else .iface 128 (.int .i64 (k : Int))
abbrev Opt := Int × Int
def OptR (w : World) (a : Option Addr) (n : Nat) (os : List Opt) : Prop :=
 os.length = n ∧ (n = 0 ∨ ∃ b off, a = some ⟨b, off, none⟩ ∧ ∀ j (h : j < os.length), w.cell? ⟨b, off + j * 2, none⟩ = some (.int .i64 os[j].1) ∧ w.cell? ⟨b, off + j * 2 + 1, none⟩ = some (.int .i64 os[j].2))
theorem OptR.below {w w' : World} {a : Option Addr} {n : Nat} {os : List Opt} (h : OptR w a n os) (hb : Below w.heap.size w w') : OptR w' a n os := by
 refine ⟨h.1, ?_⟩
 rcases h.2 with h2 | ⟨b, off, rfl, h2⟩
 · exact .inl h2
 · refine .inr ⟨b, off, rfl, fun j hj => ?_⟩
   obtain ⟨c1, c2⟩ := h2 j hj
   exact ⟨(hb.cell (World.block_lt_of_cell? w _ c1)).trans c1, (hb.cell (World.block_lt_of_cell? w _ c2)).trans c2⟩
theorem OptR.drewN {w : World} {a : Option Addr} {n : Nat} {os : List Opt} (h : OptR w a n os) (m : Nat) : OptR (w.drewN m) a n os := h
theorem OptR.nil (w : World) (a : Option Addr) : OptR w a 0 [] := ⟨rfl, .inl rfl⟩
theorem OptR.take {w : World} {a : Option Addr} {n : Nat} {os : List Opt} (h : OptR w a n os) (k : Nat) (hk : k ≤ n) : OptR w a k (os.take k) := by
 refine ⟨by simp [h.1]; omega, ?_⟩
 rcases h.2 with h2 | ⟨b, off, rfl, h2⟩
 · exact .inl (by omega)
 · refine .inr ⟨b, off, rfl, fun j hj => ?_⟩
   have hj' : j < os.length := by simp at hj; omega
   have := h2 j hj'
   simpa using this
theorem step_append_row {P : Program} {ops : Array Oper} {o : Oper} {a : Act} {w : World} {K : Act → World → Prop} {Q : Exit → Act → World → Prop} {E : Prop}
 (hgd : o.guard = none) (s x : Operand) (t : TypeId) (ho : o.op = .call { callee := .builtin .append, args := #[s, x], argTypes := #[t, t] })
 (e : TypeId) (i : TypeInfo) (z : Value) (size bytes : Nat) (ht : P.underlying t = some (.slice e)) (hi : P.info? e = some i) (hz : i.zero = some z)
 (hsize : i.size = size) (hby : i.bytes = bytes) (hzs : z.cells.size = size) (hsz : 0 < size)
 (v : Value) (n : Nat) (xs : List Value) (hs : a.eval s = v) (hown : Row w size v n xs)
 (ad : Addr) (m c : Nat) (news : List Value) (hx : a.eval x = .slice (some ad) m c) (hl : news.length = m * size) (hm : 0 < m) (hnews : ∀ j u, news[j]? = some u → w.cell? (ad.add j) = some u) (h1 : ∀ u ∈ news, u.oneCell' = true)
 (h63 : n + m ≤ maxLen) (hbytes : (n + m) * bytes ≤ 140737488355328)
 (h : ∀ g' cap' w', Row w' size (.slice (some ⟨g', 0, none⟩) (n + m) cap') (n + m) (xs ++ news) → w.grownBy w' v.ownBlock → (v.ownBlock = some g' ∨ w.heap.size ≤ g') → K (a.put o.dst (.slice (some ⟨g', 0, none⟩) (n + m) cap')) w') :
 if Region.wanted o (yielded ops a.tmps) = true then Oper.wp P o a w K Q else E := by
 have hw : Region.wanted o (yielded ops a.tmps) = true := by simp [Region.wanted, hgd]
 rw [if_pos hw]
 obtain ⟨v', w', hr, h2, h3, h4⟩ := run_append_row (P := P) w t o.type e i z size bytes ht hi hz hsize hby hzs hsz v n xs hown ad m c news hl hm hnews h1 h63 hbytes
 unfold Oper.wp execOp
 simp only [ho, resolve, invoke, builtin, Sem.run_bind, Sem.run_pure, Result.andThen_ok, List.map_toArray, List.map_cons, List.map_nil, hs, hx, hr]
 rcases h2.2 with ⟨_, hn⟩ | ⟨g', cap', rfl, _⟩
 · omega
 · refine h g' cap' w' h2 h3 ?_
   rcases h4 with h4 | ⟨k, h4, hk⟩
   · exact .inl h4.symm
   · simp [Value.ownBlock] at h4
     subst h4
     exact .inr hk
def optCells (os : List Opt) : List Value := os.flatMap fun o => [.int .i64 o.1, .int .i64 o.2]
theorem optCells_snoc (os : List Opt) (o : Opt) : optCells (os ++ [o]) = optCells os ++ [.int .i64 o.1, .int .i64 o.2] := by simp [optCells]
theorem optCells_length (os : List Opt) : (optCells os).length = 2 * os.length := by
 induction os with
 | nil => rfl
 | cons o r ih => simp only [optCells, List.flatMap_cons, List.length_append, List.length_cons, List.length_nil] at ih ⊢; omega
theorem optCells_get : ∀ (os : List Opt) (j : Nat) (h : j < os.length), (optCells os)[j * 2]? = some (.int .i64 os[j].1) ∧ (optCells os)[j * 2 + 1]? = some (.int .i64 os[j].2)
 | o :: r, 0, _ => by simp [optCells]
 | o :: r, j + 1, h => by
   have ih := optCells_get r j (by simpa using h)
   have e1 : optCells (o :: r) = .int .i64 o.1 :: .int .i64 o.2 :: optCells r := by simp [optCells]
   rw [e1, show (j + 1) * 2 = j * 2 + 1 + 1 by omega]
   exact ih
theorem Row.opts {w : World} {ao : Option Addr} {k cp : Nat} {os : List Opt} (h : Row w 2 (.slice ao k cp) k (optCells os)) : OptR w ao k os := by
 have hl : os.length = k := by have := h.1; rw [optCells_length] at this; omega
 refine ⟨hl, ?_⟩
 rcases h.2 with ⟨_, hn⟩ | ⟨g, cap, he, _, _, _, hc, _⟩
 · exact .inl hn
 · have e1 : ao = some ⟨g, 0, none⟩ := by simp at he; exact he.1
   refine .inr ⟨g, 0, e1, fun j hj => ?_⟩
   obtain ⟨h1, h2⟩ := optCells_get os j hj
   rw [Nat.zero_add]
   exact ⟨hc _ _ h1, hc _ _ h2⟩
theorem Row.cap_le {w : World} {sz : Nat} {ao : Option Addr} {k cp : Nat} {xs : List Value} (h : Row w sz (.slice ao k cp) k xs) : k ≤ cp := by
 rcases h.2 with ⟨he, hn⟩ | ⟨g, cap, he, _, hnc, _⟩
 · omega
 · simp at he
   omega
theorem grow_below {w x w' : World} {v : Value} (hbel : Below w.heap.size w x) (hg : x.grownBy w' v.ownBlock) (hnew : ∀ j, v.ownBlock = some j → w.heap.size ≤ j) : Below w.heap.size w w' :=
 hbel.grown hg hbel.size hnew
theorem grow_new {B n : Nat} {v : Value} {g : Nat} (hown : v.ownBlock = some g ∨ n ≤ g) (hs : B ≤ n) (hnew : ∀ j, v.ownBlock = some j → B ≤ j) : B ≤ g := by
 rcases hown with h | h
 · exact hnew g h
 · exact Nat.le_trans hs h
theorem grown_cell {x w' : World} {row : Option Nat} {b off : Nat} {u : Value} (hg : x.grownBy w' row) (hne : row ≠ some b) (hc : x.cell? ⟨b, off, none⟩ = some u) : w'.cell? ⟨b, off, none⟩ = some u :=
 (World.cell?_of_block (a := ⟨b, off, none⟩) (hg.block b (World.block_lt_of_cell? x _ hc) (fun e => hne e.symm))).trans hc
theorem own_some {g n cap j : Nat} {B : Nat} (h : B ≤ g) (hj : Value.ownBlock (.slice (some ⟨g, 0, none⟩) n cap) = some j) : B ≤ j := by
 have : g = j := by simpa [Value.ownBlock] using hj
 omega
theorem own_none {B j : Nat} (hj : Value.ownBlock (.slice none 0 0) = some j) : B ≤ j := by simp [Value.ownBlock] at hj
theorem cells_twoN (w : World) (x y : Value) (t : TypeId) (g : Nat) (hg : w.heap.size = g) : ∀ (j : Nat) (u : Value), [x, y][j]? = some u → (w.alloc (.cells #[x, y] t)).cell? ((⟨g, 0, none⟩ : Addr).add j) = some u := by
 subst hg
 exact cells_two w x y t
structure Made (w w' : World) (v : Value) (os : List Opt) : Prop where
 row : Row w' 2 v os.length (optCells os)
 new : ∀ j, v.ownBlock = some j → w.heap.size ≤ j
 below : Below w.heap.size w w'
theorem one_opts (os : List Opt) : ∀ u ∈ optCells os, u.oneCell' = true := by
 intro u hu
 simp [optCells] at hu
 obtain ⟨x, y, _, h⟩ := hu
 rcases h with rfl | rfl <;> rfl
theorem OptR.cells {w : World} {b off n : Nat} {os : List Opt} (h : OptR w (some ⟨b, off, none⟩) n os) (hn : 0 < n) : ∀ (j : Nat) (u : Value), (optCells os)[j]? = some u → w.cell? ((⟨b, off, none⟩ : Addr).add j) = some u := by
 intro j u hu
 rcases h.2 with h0 | ⟨b', off', he, hc⟩
 · omega
 · simp only [Option.some.injEq, Addr.mk.injEq] at he
   obtain ⟨rfl, rfl, _⟩ := he
   have hj : j < 2 * os.length := by have := (List.getElem?_eq_some_iff.1 hu).1; rwa [optCells_length] at this
   have hq : j / 2 < os.length := by omega
   obtain ⟨g1, g2⟩ := optCells_get os (j / 2) hq
   obtain ⟨c1, c2⟩ := hc (j / 2) hq
   rw [add_plain']
   rcases Nat.mod_two_eq_zero_or_one j with h2 | h2
   · have e : j / 2 * 2 = j := by omega
     rw [e] at g1 c1
     rw [hu] at g1
     rw [c1, g1]
   · have e : j / 2 * 2 + 1 = j := by omega
     rw [e] at g2
     rw [hu] at g2
     rw [show off + j / 2 * 2 + 1 = off + j by omega] at c2
     rw [c2, g2]
def NilOk (a : Option Addr) (cap : Nat) : Prop := a = none → cap = 0
theorem Made.shape {w w' : World} {v : Value} {os : List Opt} (h : Made w w' v os) : ∃ a cap, v = .slice a os.length cap ∧ NilOk a cap ∧ os.length ≤ cap := by
 rcases h.row.2 with ⟨rfl, h0⟩ | ⟨g, cap, rfl, _, h1, _⟩
 · rw [h0]
   exact ⟨none, 0, rfl, fun _ => rfl, Nat.le_refl _⟩
 · exact ⟨some ⟨g, 0, none⟩, cap, rfl, fun h => by simp at h, h1⟩
theorem Made.opts {w w' : World} {a : Option Addr} {n cap : Nat} {os : List Opt} (h : Made w w' (.slice a n cap) os) : n = os.length ∧ OptR w' a n os := by
 have hn : n = os.length := by
  rcases h.row.2 with ⟨e, h0⟩ | ⟨g, cap, e, _⟩
  · simp at e; omega
  · simp at e; omega
 have hr := h.row
 rw [← hn] at hr
 exact ⟨hn, hr.opts⟩
theorem Made.from {w x w' : World} {v : Value} {os : List Opt} (h : Made x w' v os) (hb : Below w.heap.size w x) : Made w w' v os :=
 ⟨h.row, fun j hj => Nat.le_trans hb.size (h.new j hj), below_chain hb h.below⟩
theorem OptR.kept {w w' : World} {a : Option Addr} {n cap : Nat} {os : List Opt} (h : OptR w a n os) (hb : ∀ k, Value.ownBlock (.slice a n cap) = some k → w'.heap[k]? = w.heap[k]?) : OptR w' a n os := by
 refine ⟨h.1, ?_⟩
 rcases h.2 with h2 | ⟨b, off, rfl, h2⟩
 · exact .inl h2
 · refine .inr ⟨b, off, rfl, fun j hj => ?_⟩
   have e := hb b rfl
   obtain ⟨c1, c2⟩ := h2 j hj
   exact ⟨(World.cell?_of_block (a := ⟨b, off + j * 2, none⟩) e).trans c1, (World.cell?_of_block (a := ⟨b, off + j * 2 + 1, none⟩) e).trans c2⟩
def optOwn (a : Option Addr) (n : Nat) : Option Nat := if n = 0 then none else a.map (·.block)
theorem optOwn_own {a : Option Addr} {n cap k : Nat} (h : optOwn a n = some k) : Value.ownBlock (.slice a n cap) = some k := by
 unfold optOwn at h
 split at h
 · cases h
 · cases a with
   | none => cases h
   | some x => simpa [Value.ownBlock] using h
theorem OptR.keptO {w w' : World} {a : Option Addr} {n : Nat} {os : List Opt} (h : OptR w a n os) (hb : ∀ k, optOwn a n = some k → w'.heap[k]? = w.heap[k]?) : OptR w' a n os := by
 by_cases h0 : n = 0
 · exact ⟨h.1, .inl h0⟩
 · refine h.kept (cap := 0) (fun k hk => hb k ?_)
   unfold optOwn
   rw [if_neg h0]
   cases a with
   | none => cases hk
   | some x => simpa [Value.ownBlock] using hk
def Blk (w : World) (B : Nat) (C : Array Value) (t : TypeId) : Prop := w.heap[B]? = some (.cells C t (0, 0))
theorem Blk.lt {w : World} {B : Nat} {C : Array Value} {t : TypeId} (h : Blk w B C t) : B < w.heap.size := (Array.getElem?_eq_some_iff.1 h).1
theorem Blk.cell {w : World} {B : Nat} {C : Array Value} {t : TypeId} (h : Blk w B C t) (j : Nat) : w.cell? ⟨B, j, none⟩ = C[j]? := cell_of_row w B j C _ (0, 0) h
theorem Blk.frozen {w : World} {B : Nat} {C : Array Value} {t : TypeId} (h : Blk w B C t) (j : Nat) : w.frozen? ⟨B, j, none⟩ = false := frozen_of_row w B j C _ h
theorem Blk.set {w : World} {B : Nat} {C : Array Value} {t : TypeId} (h : Blk w B C t) (j : Nat) (x : Value) : Blk (w.setCell ⟨B, j, none⟩ x) B (C.setIfInBounds j x) t := by
 unfold Blk
 rw [setCell_eq_setRow w B j C _ (0, 0) x h]
 exact setRow_heap w B C _ _ (0, 0) h
theorem Blk.other {w : World} {B B' j : Nat} {C : Array Value} {t : TypeId} (h : Blk w B C t) (hne : B ≠ B') (x : Value) : Blk (w.setCell ⟨B', j, none⟩ x) B C t :=
 (Below.heap_setCell _ _ _ B hne).trans h
theorem Blk.keep {w w' : World} {B : Nat} {C : Array Value} {t : TypeId} (h : Blk w B C t) (hb : w'.heap[B]? = w.heap[B]?) : Blk w' B C t := hb.trans h
theorem Blk.below {w w' : World} {B : Nat} {C : Array Value} {t : TypeId} (h : Blk w B C t) (hb : Below w.heap.size w w') : Blk w' B C t := h.keep (hb.block B h.lt)
theorem Blk.drewN {w : World} {B : Nat} {C : Array Value} {t : TypeId} (h : Blk w B C t) (n : Nat) : Blk (w.drewN n) B C t := h
theorem Blk.new (w : World) (C : Array Value) (t : TypeId) : Blk (w.alloc (.cells C t)) w.heap.size C t := heap_alloc_new w _
theorem Blk.newN (w : World) (C : Array Value) (t : TypeId) (g : Nat) (hg : w.heap.size = g) : Blk (w.alloc (.cells C t)) g C t := by subst hg; exact Blk.new w C t
theorem below_drew {w a : World} {B : Nat} (h : Below B w a) : Below B w a.drew := ⟨h.os, h.tape, h.output, h.size, h.block⟩
theorem byte_get (s : ByteArray) (k : Nat) (h : k < s.size) : s.data.toList.getD k 0 = s[k] := by
 have h' : k < s.data.toList.length := by simpa using h
 rw [List.getD_eq_getElem?_getD, List.getElem?_eq_getElem h']
 rfl
theorem grownBy_setC {a w : World} {b : Nat} (h : a.grownBy w (some b)) (j : Nat) (v : Value) : a.grownBy (w.setCell ⟨b, j, none⟩ v) (some b) := by
 have b1 : Below 0 w (w.setCell ⟨b, j, none⟩ v) := (Below.refl 0 w).setCell (Nat.zero_le _) _
 exact ⟨b1.os.trans h.os, b1.tape.trans h.tape, b1.output.trans h.output, Nat.le_trans h.size b1.size, fun i hi hne => (Below.heap_setCell _ _ _ i (fun e => hne (by rw [e]))).trans (h.block i hi hne)⟩
theorem drewN_drewN (w : World) (a b : Nat) : (w.drewN a).drewN b = w.drewN (a + b) := by go_simp
end Go.Proofs.YtieklnlbljejdaaGreatDoor
