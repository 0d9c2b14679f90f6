/-
  Two ends who talk: what comes of it, as numbers alone.
-/
import Derived.Test.YtakckdeadchflabDoorLinkTalk2
namespace Go.Proofs.YtakckdeadchflabDoor
open Go.RowKit

theorem quiet_ok (n : Nat) (sa sb : LS) : talkOk n sa [] sb [] := by
  induction n with
  | zero => trivial
  | succ n ih => exact ⟨trivial, trivial, by simp, by simp [dlvO], by simp [dlvO], ih⟩
theorem quiet_F (n : Nat) (sa sb : LS) : talkF n sa [] sb [] = (sa, [], sb, []) := by
  induction n with
  | zero => rfl
  | succ n ih => exact ih
/-- Numbers that an end may ask for. -/
structure Nums (a b : Int) : Prop where
  a1 : 40 ≤ a
  a2 : a ≤ 255
  b1 : 1 ≤ b
  b2 : b ≤ 255
theorem Nums.asks {a b : Int} (h : Nums a b) : asksL a b = [(1, a), (5, b)] := by
  obtain ⟨h1, h2, h3, h4⟩ := h
  simp [asksL, show 0 < a by omega, show 0 < b by omega]
theorem Nums.size {a b : Int} (h : Nums a b) : sizeOfL (asksL a b) = a := by rw [h.asks]; rfl
theorem Nums.judge {a b y : Int} (h : Nums a b) (hne : b ≠ y) : judgeR y (asksL a b) = (2, asksL a b) := by
  rw [h.asks]
  obtain ⟨h1, h2, h3, h4⟩ := h
  have h0 : ¬ b = 0 := by omega
  have h40 : ¬ a < 40 := by omega
  simp [judgeR, unkL, isUnk, betL, bet1, h0, h40, hne]
theorem Nums.pack {a b : Int} (h : Nums a b) (code i : Int) (c1 : 1 ≤ code) (c2 : code ≤ 4) (i1 : 0 ≤ i) (i2 : i ≤ 255) : packF code i (asksL a b) = 0 := by
  rw [h.asks]
  obtain ⟨h1, h2, h3, h4⟩ := h
  have e1 : isB i = true := by simp [isB, i1, i2]
  have e2 : isB a = true := by simp [isB]; omega
  have e3 : isB b = true := by simp [isB]; omega
  have e4 : isB 1 = true := rfl
  have e5 : isB 5 = true := rfl
  unfold packF
  rw [if_neg (by simp [e1]; omega), if_neg (by simp), if_neg (by simp; omega)]
  simp [optF, e2, e3, e4, e5]
theorem pack_none (code i : Int) (c1 : 5 ≤ code) (c2 : code ≤ 6) (i1 : 0 ≤ i) (i2 : i ≤ 255) : packF code i [] = 0 := by
  have e1 : isB i = true := by simp [isB, i1, i2]
  unfold packF
  rw [if_neg (by simp [e1]; omega), if_neg (by simp), if_neg (by simp)]
  rfl
/-- An end that asks; one that is Opened. -/
def asking (S M ow : Int) : LS := ⟨S, M, S, M, S, M, 6, 255, 3, 3, ow⟩
def opened (S M P ow : Int) : LS := ⟨S, M, S, M, S, M, 9, P, 4, 3, ow⟩
def reqP (S M ow : Int) : APkt := (1, ow, asksL S M)
/-- One that has said that it takes what it was asked. -/
def saidYes (S M P lf ow : Int) : LS := ⟨S, M, S, M, S, M, 8, P, lf, 3, ow⟩
def closing (S M P ow : Int) : LS := ⟨S, M, S, M, S, M, 4, P, 3, 3, ow⟩
def stopping (S M P ow : Int) : LS := ⟨S, M, S, M, S, M, 5, P, 0, 3, ow⟩
def closed (S M ow : Int) : LS := ⟨S, M, S, M, S, M, 2, 255, 3, 3, ow⟩
theorem t1 (x y j : Int) (a b i : Int) : takeS (asking x y j) (reqP a b i) = saidYes x y (sizeOfL (asksL a b)) 3 j := by kernel_rfl
theorem o1 (x y j : Int) (a b i : Int) : takeO (asking x y j) (reqP a b i) = [(2, i, asksL a b)] := by kernel_rfl
theorem t2 (x y P lf j i : Int) (os : List Opt) : takeS (saidYes x y P lf j) (2, i, os) = opened x y P j := by kernel_rfl
theorem o2 (x y P lf j i : Int) (os : List Opt) : takeO (saidYes x y P lf j) (2, i, os) = [] := by kernel_rfl
theorem t3 (x y P j : Int) (a b i : Int) : takeS (opened x y P j) (reqP a b i) = saidYes x y (sizeOfL (asksL a b)) (4 - 1) ((j + 1) % 256) := by kernel_rfl
theorem o3 (x y P j : Int) (a b i : Int) : takeO (opened x y P j) (reqP a b i) = [(1, (j + 1) % 256, asksL x y), (2, i, asksL a b)] := by kernel_rfl
theorem t4 (x y P j i : Int) : takeS (opened x y P j) (5, i, []) = stopping x y P j := by kernel_rfl
theorem o4 (x y P j i : Int) : takeO (opened x y P j) (5, i, []) = [(6, i, [])] := by kernel_rfl
theorem t5 (x y P j i : Int) : takeS (closing x y P j) (6, i, []) = closed x y j := by kernel_rfl
theorem o5 (x y P j i : Int) : takeO (closing x y P j) (6, i, []) = [] := by kernel_rfl
section
variable {a b x y i j : Int} (ha : Nums a b) (hx : Nums x y)
include ha hx
theorem both_F : talkF 8 (asking a b i) [reqP a b i] (asking x y j) [reqP x y j] = (opened a b x i, [], opened x y a j, []) := by
  rw [talkF]
  simp only [dlvS, dlvO, t1, o1, List.append_nil, List.nil_append, List.cons_append, t2, o2]
  rw [talkF]
  simp only [dlvS, dlvO, t2, o2, List.append_nil]
  rw [quiet_F, ha.size, hx.size]
theorem fitReq (hne : b ≠ y) (i1 : 0 ≤ i) (i2 : i ≤ 255) (st : Int) (P lf : Int) (hst : (stepI st 6).2.2 = 0) : Fit ⟨x, y, x, y, x, y, st, P, lf, 3, j⟩ (reqP a b i) :=
  ⟨ha.pack 1 i (by decide) (by decide) i1 i2, .inl ⟨rfl, by have := hx.b1; show 0 ≤ y; omega, hx.b2, ha.judge hne, hst⟩⟩
omit hx in
theorem fitAck (i1 : 0 ≤ i) (i2 : i ≤ 255) (P lf : Int) : Fit (saidYes a b P lf i) (2, i, asksL a b) :=
  ⟨ha.pack 2 i (by decide) (by decide) i1 i2, .inr (.inl ⟨rfl, rfl, rfl, (show (stepI 8 8).2.2 = 0 by decide +kernel)⟩)⟩
omit ha hx in
theorem bd3 (i1 : 0 ≤ i) (i2 : i ≤ 255) (st P lf : Int) (l1 : -100 ≤ lf) (l2 : lf ≤ 100) : Bd ⟨a, b, a, b, a, b, st, P, lf, 3, i⟩ 100 := ⟨i1, i2, l1, l2⟩
theorem both_ok (hne : b ≠ y) (i1 : 0 ≤ i) (i2 : i ≤ 255) (j1 : 0 ≤ j) (j2 : j ≤ 255) : talkOk 8 (asking a b i) [reqP a b i] (asking x y j) [reqP x y j] := by
  rw [talkOk]
  simp only [dlvOk, dlvS, dlvO, t1, o1, List.append_nil, List.nil_append, List.cons_append, t2, o2]
  refine ⟨⟨fitReq ha hx hne i1 i2 6 255 3 (by decide +kernel), bd3 j1 j2 _ _ _ (by decide) (by decide), trivial⟩, ⟨fitReq hx ha hne.symm j1 j2 6 255 3 (by decide +kernel), bd3 i1 i2 _ _ _ (by decide) (by decide), fitAck ha i1 i2 _ _, bd3 i1 i2 _ _ _ (by decide) (by decide), trivial⟩, by simp, by simp, by simp, ?_⟩
  rw [talkOk]
  simp only [dlvOk, dlvS, dlvO, t2, o2, List.append_nil]
  exact ⟨⟨fitAck hx j1 j2 _ _, bd3 j1 j2 _ _ _ (by decide) (by decide), trivial⟩, trivial, by simp, by simp, by simp, quiet_ok _ _ _⟩
theorem left_F : talkF 8 (asking a b i) [reqP a b i] (opened x y a j) [] = (opened a b x i, [], opened x y a ((j + 1) % 256), []) := by
  rw [talkF]
  have e : ((1, (j + 1) % 256, asksL x y) : APkt) = reqP x y ((j + 1) % 256) := rfl
  simp only [dlvS, dlvO, t3, o3, e, t1, o1, List.append_nil, List.nil_append, t2, o2]
  rw [talkF]
  simp only [dlvS, dlvO, t2, o2, List.append_nil]
  rw [quiet_F, ha.size, hx.size]
theorem left_ok (hne : b ≠ y) (i1 : 0 ≤ i) (i2 : i ≤ 255) (j1 : 0 ≤ j) (j2 : j ≤ 255) : talkOk 8 (asking a b i) [reqP a b i] (opened x y a j) [] := by
  have k1 : 0 ≤ (j + 1) % 256 := by omega
  have k2 : (j + 1) % 256 ≤ 255 := by omega
  have e : ((1, (j + 1) % 256, asksL x y) : APkt) = reqP x y ((j + 1) % 256) := rfl
  rw [talkOk]
  simp only [dlvOk, dlvS, dlvO, t3, o3, e, t1, o1, List.append_nil, List.nil_append, t2, o2]
  refine ⟨⟨fitReq ha hx hne i1 i2 9 a 4 (by decide +kernel), bd3 j1 j2 _ _ _ (by decide) (by decide), trivial⟩, ⟨fitReq hx ha hne.symm k1 k2 6 255 3 (by decide +kernel), bd3 i1 i2 _ _ _ (by decide) (by decide), fitAck ha i1 i2 _ _, bd3 i1 i2 _ _ _ (by decide) (by decide), trivial⟩, by simp, by simp, by simp, ?_⟩
  rw [talkOk]
  simp only [dlvOk, dlvS, dlvO, t2, o2, List.append_nil]
  exact ⟨⟨fitAck hx k1 k2 _ _, bd3 k1 k2 _ _ _ (by decide) (by decide), trivial⟩, trivial, by simp, by simp, by simp, quiet_ok _ _ _⟩
theorem right_F : talkF 8 (opened a b x i) [] (asking x y j) [reqP x y j] = (opened a b x ((i + 1) % 256), [], opened x y a j, []) := by
  have e : ((1, (i + 1) % 256, asksL a b) : APkt) = reqP a b ((i + 1) % 256) := rfl
  rw [talkF]
  simp only [dlvS, dlvO, t3, o3, e, List.append_nil]
  rw [talkF]
  simp only [dlvS, dlvO, t1, o1, List.append_nil, List.nil_append, t2, o2]
  rw [quiet_F, ha.size, hx.size]
theorem right_ok (hne : b ≠ y) (i1 : 0 ≤ i) (i2 : i ≤ 255) (j1 : 0 ≤ j) (j2 : j ≤ 255) : talkOk 8 (opened a b x i) [] (asking x y j) [reqP x y j] := by
  have k1 : 0 ≤ (i + 1) % 256 := by omega
  have k2 : (i + 1) % 256 ≤ 255 := by omega
  have e : ((1, (i + 1) % 256, asksL a b) : APkt) = reqP a b ((i + 1) % 256) := rfl
  rw [talkOk]
  simp only [dlvOk, dlvS, dlvO, t3, o3, e, List.append_nil]
  refine ⟨trivial, ⟨fitReq hx ha hne.symm j1 j2 9 x 4 (by decide +kernel), bd3 i1 i2 _ _ _ (by decide) (by decide), trivial⟩, by simp, by simp, by simp, ?_⟩
  rw [talkOk]
  simp only [dlvOk, dlvS, dlvO, t1, o1, List.append_nil, List.nil_append, t2, o2]
  exact ⟨⟨fitReq ha hx hne k1 k2 6 255 3 (by decide +kernel), bd3 j1 j2 _ _ _ (by decide) (by decide), fitAck hx j1 j2 _ _, bd3 j1 j2 _ _ _ (by decide) (by decide), trivial⟩, ⟨fitAck ha k1 k2 _ _, bd3 k1 k2 _ _ _ (by decide) (by decide), trivial⟩, by simp, by simp, by simp, quiet_ok _ _ _⟩
end
theorem end_F (a b P x y Q i j : Int) : talkF 8 (closing a b P i) [(5, i, [])] (opened x y Q j) [] = (closed a b i, [], stopping x y Q j, []) := by
  rw [talkF]
  simp only [dlvS, dlvO, t4, o4, t5, o5, List.append_nil, List.nil_append]
  rw [quiet_F]
theorem end_ok (a b P x y Q i j : Int) (i1 : 0 ≤ i) (i2 : i ≤ 255) (j1 : 0 ≤ j) (j2 : j ≤ 255) : talkOk 8 (closing a b P i) [(5, i, [])] (opened x y Q j) [] := by
  rw [talkOk]
  simp only [dlvOk, dlvS, dlvO, t4, o4, t5, o5, List.append_nil, List.nil_append]
  exact ⟨⟨⟨pack_none 5 i (by decide) (by decide) i1 i2, .inr (.inr (.inl ⟨rfl, (show (stepI 9 10).2.2 = 0 by decide +kernel)⟩))⟩, bd3 j1 j2 _ _ _ (by decide) (by decide), trivial⟩, ⟨⟨pack_none 6 i (by decide) (by decide) i1 i2, .inr (.inr (.inr ⟨rfl, (show (stepI 4 11).2.2 = 0 by decide +kernel)⟩))⟩, bd3 i1 i2 _ _ _ (by decide) (by decide), trivial⟩, by simp, by simp, by simp, quiet_ok _ _ _⟩
end Go.Proofs.YtakckdeadchflabDoor
