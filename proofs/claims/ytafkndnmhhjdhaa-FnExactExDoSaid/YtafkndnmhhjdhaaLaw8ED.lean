/- FnExactExDo answers true for all arguments. -/
import Derived.Test.YtafkndnmhhjdhaaSAf
set_option linter.unusedSimpArgs false
set_option linter.unusedVariables false
set_option maxHeartbeats 6400000
namespace Go.Proofs.Ytafkndnmhhjdhaa
open Go Go.Abs Go.RowKit Go.Dial Go.Clos
variable {w0 : World}

set_option maxRecDepth 8000 in
theorem law8ED (σ : AHeap) (x y z : Int) (v1 v2 : Value) (ps : List (List UInt8)) (cs : List Cl) (c : Dd) (hE : ExL σ x y z v1 v2 ps cs) (hD : DdL c) :
  ACall Try.prog w0 7 [.agg #[.int .i64 x, .int .i64 y, .int .i64 z, v1, v2], ddA c] σ fun r _ => r = .bool true := by
 obtain ⟨e, he⟩ : ∃ e : Ex, e = ⟨⟨x, y, z⟩, ps, cs⟩ := ⟨_, rfl⟩
 have hv : ExV σ (exV v1 v2 e) e := by rw [he]; exact ⟨v1, v2, rfl, hE.tt, hE.cc⟩
 have hqq : (.agg #[.int .i64 x, .int .i64 y, .int .i64 z, v1, v2] : Value) = .agg #[.int .i64 e.s.O, .int .i64 e.s.E, .int .i64 e.s.M, v1, v2] := by rw [he]
 have q1 : e.ps.length ≤ maxLen := by rw [he]; exact hE.tl
 have q2 : ∀ t ∈ e.ps, t.length ≤ maxLen := by rw [he]; exact hE.tw
 have q3 : e.cs.length ≤ maxLen := by rw [he]; exact hE.cl
 rw [hqq]
 clear hE hqq he
 have hx := hD.wt
 unfold maxLen at hx
 clear hD
 have hdd := fun (T : AHeap) => toDd_at (w0 := w0) T c
 have hsd := fun (T : AHeap) (m : Int) (h : 0 ≤ m ∧ m ≤ 1048576) => szDd_at (w0 := w0) T c m h hx
 unfold ddA at *
 refine acall_go mixed Try.func7 rfl good7 fun pr => ?_
 simp -implicitDefEqProofs (disch := omega) only [Nat.reduceEqDiff, ↓reduceIte, vcu, ↓vcd]
 refine r_boxed fun b σ0 nb s0 eb => ?_
 replace eb : σ0 b = some ⟨[.int .i64 e.s.O, .int .i64 e.s.E, .int .i64 e.s.M, v1, v2], false⟩ := eb
 try simp -implicitDefEqProofs (disch := omega) only [Nat.reduceEqDiff, ↓reduceIte, vcu, ↓vcd]
 refine r_boxed fun bd σ1 nd s1 ed => ?_
 replace ed : σ1 bd = some ⟨[.int .i64 c.k, .int .i64 c.l, .string (tx c.t)], false⟩ := ed
 replace eb := s1 _ _ eb
 replace hv := (hv.sub s0).sub s1
 clear s1 nd s0 nb
 have sa : Sub σ1 σ1 := Sub.refl _
 have hsz := szEx_calls (w0 := w0) σ1 _ e hv q1 q2 q3
 unfold exV at hsz
 have l1 : lds σ1 b 0 5 = some [.int .i64 e.s.O, .int .i64 e.s.E, .int .i64 e.s.M, v1, v2] := by rw [lds_of (sa _ _ eb) (by simp)]; rfl
 simp -implicitDefEqProofs (disch := omega) only [Nat.reduceEqDiff, ↓reduceIte, vcu, ↓vcd, l1, co33, co27, co52, co48]
 refine hsz.mono ?_
 rintro _ _ ⟨⟨n, rfl, hn, hc⟩, rfl⟩
 rename_i σ1
 clear hsz
 simp -implicitDefEqProofs (disch := omega) only [Nat.reduceEqDiff, ↓reduceIte, vcu, ↓vcd, opK_some]
 by_cases hneg : n < 0
 ·simp -implicitDefEqProofs (disch := omega) only [Nat.reduceEqDiff, ↓reduceIte, vcu, ↓vcd]
  refine fin_one Try.results7 ?_
  simp -implicitDefEqProofs (disch := omega) only [Nat.reduceEqDiff, ↓reduceIte, vcu, ↓vcd]
 have hb := hc.resolve_left hneg
 clear hc q1 q2 q3
 have l2 : lds σ1 bd 0 3 = some [.int .i64 c.k, .int .i64 c.l, .string (tx c.t)] := by rw [lds_of (sa _ _ ed) (by simp)]; rfl
 simp -implicitDefEqProofs (disch := omega) only [Nat.reduceEqDiff, ↓reduceIte, vcu, ↓vcd, l2, co33, co27, co52, co48]
 refine (hsd σ1 n ⟨by omega, hn⟩).mono ?_
 rintro _ _ ⟨rfl, rfl⟩
 rename_i σ1
 simp -implicitDefEqProofs (disch := omega) only [Nat.reduceEqDiff, ↓reduceIte, vcu, ↓vcd, opK_some]
 by_cases hbig : n < (c.t.length : Int)
 ·rw [if_pos hbig]
  simp -implicitDefEqProofs (disch := omega) only [Nat.reduceEqDiff, ↓reduceIte, vcu, ↓vcd]
  refine fin_one Try.results7 ?_
  simp -implicitDefEqProofs (disch := omega) only [Nat.reduceEqDiff, ↓reduceIte, vcu, ↓vcd]
 rw [if_neg hbig]
 have hl : c.t.length ≤ 1048576 := by omega
 have hng : decide (n - (c.t.length : Int) < 0) = false := by rw [decide_eq_false_iff_not]; omega
 clear hsd hx
 have hto := fun (T : AHeap) (h : Sub σ1 T) => toEx_calls (w0 := w0) T _ e (hv.sub h) hb
 unfold exV at hto
 have hsp := fun (T : AHeap) (a1 a2 : Value) (h : ExV T (exV a1 a2 e) e) => exDo_calls (w0 := w0) T (exV a1 a2 e) e c h hb hl
 have him := fun (T : AHeap) (a1 a2 : Value) (h : ExV T (exV a1 a2 e) e) => implED_calls (w0 := w0) T (exV a1 a2 e) e c h hb hl
 have hB := exDoB e c
 generalize exDo e c = R at hsp him hB
 obtain ⟨f, ok⟩ := R
 dsimp only at hsp him hB
 unfold exV ddA at hsp him
 simp -implicitDefEqProofs (disch := omega) only [Nat.reduceEqDiff, ↓reduceIte, vcu, ↓vcd, hng]
 have l3 : lds σ1 b 0 5 = some [.int .i64 e.s.O, .int .i64 e.s.E, .int .i64 e.s.M, v1, v2] := by rw [lds_of (sa _ _ eb) (by simp)]; rfl
 have l4 : lds σ1 bd 0 3 = some [.int .i64 c.k, .int .i64 c.l, .string (tx c.t)] := by rw [lds_of (sa _ _ ed) (by simp)]; rfl
 refine acodeB_monoX (Q' := fun en a' T => en = .normal ∧ (a' 2 = .pointer (some ⟨b, 0, none⟩) ∧ a' 3 = .pointer (some ⟨bd, 0, none⟩)) ∧ ∃ p y1 y2, a' 6 = .pointer (some ⟨p, 0, none⟩) ∧ a' 7 = .bool ok ∧ Sub σ1 T ∧ T p = some ⟨[.int .i64 f.s.O, .int .i64 f.s.E, .int .i64 f.s.M, y1, y2], false⟩ ∧ OwnX σ1 T (exV y1 y2 f) f ∧ σ1 p = none ∧ (∀ n z, y1 ≠ .slice (some ⟨p, 0, none⟩) n z) ∧ (∀ n z, y2 ≠ .slice (some ⟨p, 0, none⟩) n z))
  (region_tree mixed (quiets [0, 2] (.two 1 (.two 3 (.two 4 (quiets [5, 6, 7] (.one 8 (.one 9 (quiets [10] .stop)))) 8 (.one 4 (quiets [5, 6, 7] (.one 9 (quiets [10] .stop))))) 8 (.one 3 (.one 4 (quiets [5, 6, 7] (.one 9 (quiets [10] .stop)))))) 8 (.one 1 (.one 3 (.one 4 (quiets [5, 6, 7] (.one 9 (quiets [10] .stop)))))))) [([0, 2], Sub σ1)] (by kernel_rfl) (by kernel_rfl) (fun p hp => by simp only [List.mem_singleton] at hp; subst hp; exact Sub.refl _) ?_) ?_
 ·refine tree_quiets σ1 _ _ _ sf1 (by kernel_rfl) (by kernel_rfl) ?_
  simp -implicitDefEqProofs (disch := omega) only [Nat.reduceEqDiff, ↓reduceIte, vcu, ↓vcd, pickOps_nil, pickOps_cons, pickO_some, List.getElem?_cons_succ, List.getElem?_cons_zero, l3, l4, co33, co27, co52, co48]
  refine tree_two rfl rfl ?_ ?_
  ·try simp -implicitDefEqProofs (disch := omega) only [Nat.reduceEqDiff, ↓reduceIte, vcu, ↓vcd]
   refine (hto _ (sa.trans (Sub.refl σ1))).mono ?_
   rintro _ A5 ⟨a5, w5a, w5b, rfl, p5a, p5b⟩
   try simp -implicitDefEqProofs (disch := omega) only [Nat.reduceEqDiff, ↓reduceIte, vcu, ↓vcd, opK_some, exV]
   have B5 := (Sub.refl σ1).trans a5
   refine ⟨keep_of rfl (fun p hp => by simp only [List.mem_singleton] at hp; subst hp; exact .inr B5), ?_⟩
   refine tree_two rfl rfl ?_ ?_
   ·try simp -implicitDefEqProofs (disch := omega) only [Nat.reduceEqDiff, ↓reduceIte, vcu, ↓vcd]
    refine (hdd _).mono ?_
    rintro _ _ ⟨rfl, rfl⟩
    rename_i A5
    simp -implicitDefEqProofs (disch := omega) only [Nat.reduceEqDiff, ↓reduceIte, vcu, ↓vcd, opK_some]
    refine ⟨.inl rfl, ?_⟩
    refine tree_two rfl rfl ?_ ?_
    ·try simp -implicitDefEqProofs (disch := omega) only [Nat.reduceEqDiff, ↓reduceIte, vcu, ↓vcd]
     refine (hsp _ _ _ ⟨w5a, w5b, rfl, p5a.texts, p5b.tris⟩).mono ?_
     rintro _ A6 ⟨_, rfl, a6, y1, y2, rfl, oy1, oy2⟩
     have own6 : OwnX σ1 A6 (exV y1 y2 f) f := OwnX.older ⟨y1, y2, rfl, oy1, oy2⟩ B5
     have ownp : OwnX A5 A6 (exV y1 y2 f) f := ⟨y1, y2, rfl, oy1, oy2⟩
     have hone := exC_one own6
     unfold exV
     simp -implicitDefEqProofs (disch := omega) only [Nat.reduceEqDiff, ↓reduceIte, vcu, ↓vcd, opK_some]
     have B6 := B5.trans a6
     refine ⟨keep_of rfl (fun p hp => by simp only [List.mem_singleton] at hp; subst hp; exact .inr B6), ?_⟩
     refine tree_quiets _ _ _ _ sf0 (by kernel_rfl) (by kernel_rfl) ?_
     simp -implicitDefEqProofs (disch := omega) only [Nat.reduceEqDiff, ↓reduceIte, vcu, ↓vcd, pickOps_nil, pickOps_cons, pickO_some, List.getElem?_cons_succ, List.getElem?_cons_zero, List.getElem?_toArray, List.getElem?_cons_zero, List.getElem?_cons_succ]
     refine tree_one rfl ?_
     try simp -implicitDefEqProofs (disch := omega) only [Nat.reduceEqDiff, ↓reduceIte, vcu, ↓vcd]
     refine r_new ze33 fun p A7 np a7 ep7 => ?_
     replace ep7 : A7 p = some ⟨[.int .i64 0, .int .i64 0, .int .i64 0, .slice none 0 0, .slice none 0 0], false⟩ := ep7
     try simp -implicitDefEqProofs (disch := omega) only [Nat.reduceEqDiff, ↓reduceIte, vcu, ↓vcd]
     have fp := free_sub B6 np
     have B7 := B6.trans a7
     have ownb := OwnX.sub own6 a7
     refine ⟨keep_of rfl (fun p hp => by simp only [List.mem_singleton] at hp; subst hp; exact .inr B7), ?_⟩
     refine tree_one rfl ?_
     refine r_sets (g := p) (i := 0) (C := [.int .i64 0, .int .i64 0, .int .i64 0, .slice none 0 0, .slice none 0 0]) z9q z9co33 (by simp -implicitDefEqProofs (disch := omega) only [Nat.reduceEqDiff, ↓reduceIte, vcu, ↓vcd]; exact hone) z9z ep7 z9l fun T3 k3 e3 => ?_
     replace e3 : T3 p = some ⟨[.int .i64 f.s.O, .int .i64 f.s.E, .int .i64 f.s.M, y1, y2], false⟩ := e3
     have P3 : Sub σ1 T3 := k3.sub B7 fp
     have own9 : OwnX σ1 T3 (exV y1 y2 f) f := ownX_store own6 np a7 k3
     have d1 : ∀ n z, y1 ≠ .slice (some ⟨p, 0, none⟩) n z := by
      rintro n z rfl
      rcases oy1 with ⟨h, _⟩ | ⟨g, h, hg, hn⟩ <;> cases h
      rw [np] at hg; cases hg
     have d2 : ∀ n z, y2 ≠ .slice (some ⟨p, 0, none⟩) n z := by
      rintro n z rfl
      rcases oy2 with ⟨h, _⟩ | ⟨g, h, hg, hn⟩ <;> cases h
      rw [np] at hg; cases hg
     try simp -implicitDefEqProofs (disch := omega) only [Nat.reduceEqDiff, ↓reduceIte, vcu, ↓vcd]
     refine ⟨keep_of rfl (fun p hp => by simp only [List.mem_singleton] at hp; subst hp; exact .inr P3), ?_⟩
     refine tree_quiets _ _ _ _ sf0 (by kernel_rfl) (by kernel_rfl) ?_
     simp -implicitDefEqProofs (disch := omega) only [Nat.reduceEqDiff, ↓reduceIte, vcu, ↓vcd, pickOps_nil, pickOps_cons, pickO_some, List.getElem?_cons_succ, List.getElem?_cons_zero]
     refine tree_stop ?_
     exact ⟨by first | trivial | rfl, ⟨by first | trivial | rfl | simp -implicitDefEqProofs (disch := omega) only [Nat.reduceEqDiff, ↓reduceIte, vcu, ↓vcd], by first | trivial | rfl | simp -implicitDefEqProofs (disch := omega) only [Nat.reduceEqDiff, ↓reduceIte, vcu, ↓vcd]⟩, p, y1, y2, by first | trivial | rfl | simp -implicitDefEqProofs (disch := omega) only [Nat.reduceEqDiff, ↓reduceIte, vcu, ↓vcd], by first | trivial | rfl | simp -implicitDefEqProofs (disch := omega) only [Nat.reduceEqDiff, ↓reduceIte, vcu, ↓vcd], P3, e3, own9, fp, d1, d2⟩
    ·try simp -implicitDefEqProofs (disch := omega) only [Nat.reduceEqDiff, ↓reduceIte, vcu, ↓vcd]
     refine r_new ze33 fun p A8 np a8 ep8 => ?_
     replace ep8 : A8 p = some ⟨[.int .i64 0, .int .i64 0, .int .i64 0, .slice none 0 0, .slice none 0 0], false⟩ := ep8
     try simp -implicitDefEqProofs (disch := omega) only [Nat.reduceEqDiff, ↓reduceIte, vcu, ↓vcd]
     have fp := free_sub B5 np
     have B8 := B5.trans a8
     replace p5a := p5a.sub a8
     replace p5b := p5b.sub a8
     refine ⟨keep_of rfl (fun p hp => by simp only [List.mem_singleton] at hp; subst hp; exact .inr B8), ?_⟩
     refine tree_one rfl ?_
     try simp -implicitDefEqProofs (disch := omega) only [Nat.reduceEqDiff, ↓reduceIte, vcu, ↓vcd]
     refine (hsp _ _ _ ⟨w5a, w5b, rfl, p5a.texts, p5b.tris⟩).mono ?_
     rintro _ A9 ⟨_, rfl, a9, y1, y2, rfl, oy1, oy2⟩
     have own9 : OwnX σ1 A9 (exV y1 y2 f) f := OwnX.older ⟨y1, y2, rfl, oy1, oy2⟩ B8
     have ownp : OwnX A8 A9 (exV y1 y2 f) f := ⟨y1, y2, rfl, oy1, oy2⟩
     have hone := exC_one own9
     unfold exV
     simp -implicitDefEqProofs (disch := omega) only [Nat.reduceEqDiff, ↓reduceIte, vcu, ↓vcd, opK_some]
     have B9 := B8.trans a9
     have ep9 := a9 _ _ ep8
     refine ⟨keep_of rfl (fun p hp => by simp only [List.mem_singleton] at hp; subst hp; exact .inr B9), ?_⟩
     refine tree_quiets _ _ _ _ sf0 (by kernel_rfl) (by kernel_rfl) ?_
     simp -implicitDefEqProofs (disch := omega) only [Nat.reduceEqDiff, ↓reduceIte, vcu, ↓vcd, pickOps_nil, pickOps_cons, pickO_some, List.getElem?_cons_succ, List.getElem?_cons_zero, List.getElem?_toArray, List.getElem?_cons_zero, List.getElem?_cons_succ]
     refine tree_one rfl ?_
     refine r_sets (g := p) (i := 0) (C := [.int .i64 0, .int .i64 0, .int .i64 0, .slice none 0 0, .slice none 0 0]) z9q z9co33 (by simp -implicitDefEqProofs (disch := omega) only [Nat.reduceEqDiff, ↓reduceIte, vcu, ↓vcd]; exact hone) z9z ep9 z9l fun T3 k3 e3 => ?_
     replace e3 : T3 p = some ⟨[.int .i64 f.s.O, .int .i64 f.s.E, .int .i64 f.s.M, y1, y2], false⟩ := e3
     have P3 : Sub σ1 T3 := k3.sub B9 fp
     have own9 : OwnX σ1 T3 (exV y1 y2 f) f := (ownp.kept k3 ep8).older B8
     have d1 : ∀ n z, y1 ≠ .slice (some ⟨p, 0, none⟩) n z := by
      rintro n z rfl
      rcases oy1 with ⟨h, _⟩ | ⟨g, h, hg, hn⟩ <;> cases h
      rw [ep8] at hn; cases hn
     have d2 : ∀ n z, y2 ≠ .slice (some ⟨p, 0, none⟩) n z := by
      rintro n z rfl
      rcases oy2 with ⟨h, _⟩ | ⟨g, h, hg, hn⟩ <;> cases h
      rw [ep8] at hn; cases hn
     try simp -implicitDefEqProofs (disch := omega) only [Nat.reduceEqDiff, ↓reduceIte, vcu, ↓vcd]
     refine ⟨keep_of rfl (fun p hp => by simp only [List.mem_singleton] at hp; subst hp; exact .inr P3), ?_⟩
     refine tree_quiets _ _ _ _ sf0 (by kernel_rfl) (by kernel_rfl) ?_
     simp -implicitDefEqProofs (disch := omega) only [Nat.reduceEqDiff, ↓reduceIte, vcu, ↓vcd, pickOps_nil, pickOps_cons, pickO_some, List.getElem?_cons_succ, List.getElem?_cons_zero]
     refine tree_stop ?_
     exact ⟨by first | trivial | rfl, ⟨by first | trivial | rfl | simp -implicitDefEqProofs (disch := omega) only [Nat.reduceEqDiff, ↓reduceIte, vcu, ↓vcd], by first | trivial | rfl | simp -implicitDefEqProofs (disch := omega) only [Nat.reduceEqDiff, ↓reduceIte, vcu, ↓vcd]⟩, p, y1, y2, by first | trivial | rfl | simp -implicitDefEqProofs (disch := omega) only [Nat.reduceEqDiff, ↓reduceIte, vcu, ↓vcd], by first | trivial | rfl | simp -implicitDefEqProofs (disch := omega) only [Nat.reduceEqDiff, ↓reduceIte, vcu, ↓vcd], P3, e3, own9, fp, d1, d2⟩
   ·try simp -implicitDefEqProofs (disch := omega) only [Nat.reduceEqDiff, ↓reduceIte, vcu, ↓vcd]
    refine r_new ze33 fun p A10 np a10 ep10 => ?_
    replace ep10 : A10 p = some ⟨[.int .i64 0, .int .i64 0, .int .i64 0, .slice none 0 0, .slice none 0 0], false⟩ := ep10
    try simp -implicitDefEqProofs (disch := omega) only [Nat.reduceEqDiff, ↓reduceIte, vcu, ↓vcd]
    have fp := free_sub B5 np
    have B10 := B5.trans a10
    replace p5a := p5a.sub a10
    replace p5b := p5b.sub a10
    refine ⟨keep_of rfl (fun p hp => by simp only [List.mem_singleton] at hp; subst hp; exact .inr B10), ?_⟩
    refine tree_one rfl ?_
    try simp -implicitDefEqProofs (disch := omega) only [Nat.reduceEqDiff, ↓reduceIte, vcu, ↓vcd]
    refine (hdd _).mono ?_
    rintro _ _ ⟨rfl, rfl⟩
    rename_i A10
    simp -implicitDefEqProofs (disch := omega) only [Nat.reduceEqDiff, ↓reduceIte, vcu, ↓vcd, opK_some]
    refine ⟨.inl rfl, ?_⟩
    refine tree_one rfl ?_
    try simp -implicitDefEqProofs (disch := omega) only [Nat.reduceEqDiff, ↓reduceIte, vcu, ↓vcd]
    refine (hsp _ _ _ ⟨w5a, w5b, rfl, p5a.texts, p5b.tris⟩).mono ?_
    rintro _ A11 ⟨_, rfl, a11, y1, y2, rfl, oy1, oy2⟩
    have own11 : OwnX σ1 A11 (exV y1 y2 f) f := OwnX.older ⟨y1, y2, rfl, oy1, oy2⟩ B10
    have ownp : OwnX A10 A11 (exV y1 y2 f) f := ⟨y1, y2, rfl, oy1, oy2⟩
    have hone := exC_one own11
    unfold exV
    simp -implicitDefEqProofs (disch := omega) only [Nat.reduceEqDiff, ↓reduceIte, vcu, ↓vcd, opK_some]
    have B11 := B10.trans a11
    have ep11 := a11 _ _ ep10
    refine ⟨keep_of rfl (fun p hp => by simp only [List.mem_singleton] at hp; subst hp; exact .inr B11), ?_⟩
    refine tree_quiets _ _ _ _ sf0 (by kernel_rfl) (by kernel_rfl) ?_
    simp -implicitDefEqProofs (disch := omega) only [Nat.reduceEqDiff, ↓reduceIte, vcu, ↓vcd, pickOps_nil, pickOps_cons, pickO_some, List.getElem?_cons_succ, List.getElem?_cons_zero, List.getElem?_toArray, List.getElem?_cons_zero, List.getElem?_cons_succ]
    refine tree_one rfl ?_
    refine r_sets (g := p) (i := 0) (C := [.int .i64 0, .int .i64 0, .int .i64 0, .slice none 0 0, .slice none 0 0]) z9q z9co33 (by simp -implicitDefEqProofs (disch := omega) only [Nat.reduceEqDiff, ↓reduceIte, vcu, ↓vcd]; exact hone) z9z ep11 z9l fun T3 k3 e3 => ?_
    replace e3 : T3 p = some ⟨[.int .i64 f.s.O, .int .i64 f.s.E, .int .i64 f.s.M, y1, y2], false⟩ := e3
    have P3 : Sub σ1 T3 := k3.sub B11 fp
    have own9 : OwnX σ1 T3 (exV y1 y2 f) f := (ownp.kept k3 ep10).older B10
    have d1 : ∀ n z, y1 ≠ .slice (some ⟨p, 0, none⟩) n z := by
     rintro n z rfl
     rcases oy1 with ⟨h, _⟩ | ⟨g, h, hg, hn⟩ <;> cases h
     rw [ep10] at hn; cases hn
    have d2 : ∀ n z, y2 ≠ .slice (some ⟨p, 0, none⟩) n z := by
     rintro n z rfl
     rcases oy2 with ⟨h, _⟩ | ⟨g, h, hg, hn⟩ <;> cases h
     rw [ep10] at hn; cases hn
    try simp -implicitDefEqProofs (disch := omega) only [Nat.reduceEqDiff, ↓reduceIte, vcu, ↓vcd]
    refine ⟨keep_of rfl (fun p hp => by simp only [List.mem_singleton] at hp; subst hp; exact .inr P3), ?_⟩
    refine tree_quiets _ _ _ _ sf0 (by kernel_rfl) (by kernel_rfl) ?_
    simp -implicitDefEqProofs (disch := omega) only [Nat.reduceEqDiff, ↓reduceIte, vcu, ↓vcd, pickOps_nil, pickOps_cons, pickO_some, List.getElem?_cons_succ, List.getElem?_cons_zero]
    refine tree_stop ?_
    exact ⟨by first | trivial | rfl, ⟨by first | trivial | rfl | simp -implicitDefEqProofs (disch := omega) only [Nat.reduceEqDiff, ↓reduceIte, vcu, ↓vcd], by first | trivial | rfl | simp -implicitDefEqProofs (disch := omega) only [Nat.reduceEqDiff, ↓reduceIte, vcu, ↓vcd]⟩, p, y1, y2, by first | trivial | rfl | simp -implicitDefEqProofs (disch := omega) only [Nat.reduceEqDiff, ↓reduceIte, vcu, ↓vcd], by first | trivial | rfl | simp -implicitDefEqProofs (disch := omega) only [Nat.reduceEqDiff, ↓reduceIte, vcu, ↓vcd], P3, e3, own9, fp, d1, d2⟩
  ·try simp -implicitDefEqProofs (disch := omega) only [Nat.reduceEqDiff, ↓reduceIte, vcu, ↓vcd]
   refine r_new ze33 fun p A12 np a12 ep12 => ?_
   replace ep12 : A12 p = some ⟨[.int .i64 0, .int .i64 0, .int .i64 0, .slice none 0 0, .slice none 0 0], false⟩ := ep12
   try simp -implicitDefEqProofs (disch := omega) only [Nat.reduceEqDiff, ↓reduceIte, vcu, ↓vcd]
   have fp := free_sub (Sub.refl σ1) np
   have B12 := (Sub.refl σ1).trans a12
   refine ⟨keep_of rfl (fun p hp => by simp only [List.mem_singleton] at hp; subst hp; exact .inr B12), ?_⟩
   refine tree_one rfl ?_
   try simp -implicitDefEqProofs (disch := omega) only [Nat.reduceEqDiff, ↓reduceIte, vcu, ↓vcd]
   refine (hto _ (sa.trans B12)).mono ?_
   rintro _ A13 ⟨a13, w13a, w13b, rfl, p13a, p13b⟩
   try simp -implicitDefEqProofs (disch := omega) only [Nat.reduceEqDiff, ↓reduceIte, vcu, ↓vcd, opK_some, exV]
   have B13 := B12.trans a13
   have ep13 := a13 _ _ ep12
   refine ⟨keep_of rfl (fun p hp => by simp only [List.mem_singleton] at hp; subst hp; exact .inr B13), ?_⟩
   refine tree_one rfl ?_
   try simp -implicitDefEqProofs (disch := omega) only [Nat.reduceEqDiff, ↓reduceIte, vcu, ↓vcd]
   refine (hdd _).mono ?_
   rintro _ _ ⟨rfl, rfl⟩
   rename_i A13
   simp -implicitDefEqProofs (disch := omega) only [Nat.reduceEqDiff, ↓reduceIte, vcu, ↓vcd, opK_some]
   refine ⟨.inl rfl, ?_⟩
   refine tree_one rfl ?_
   try simp -implicitDefEqProofs (disch := omega) only [Nat.reduceEqDiff, ↓reduceIte, vcu, ↓vcd]
   refine (hsp _ _ _ ⟨w13a, w13b, rfl, p13a.texts, p13b.tris⟩).mono ?_
   rintro _ A14 ⟨_, rfl, a14, y1, y2, rfl, oy1, oy2⟩
   have own14 : OwnX σ1 A14 (exV y1 y2 f) f := OwnX.older ⟨y1, y2, rfl, oy1, oy2⟩ B13
   have ownp : OwnX A13 A14 (exV y1 y2 f) f := ⟨y1, y2, rfl, oy1, oy2⟩
   have hone := exC_one own14
   unfold exV
   simp -implicitDefEqProofs (disch := omega) only [Nat.reduceEqDiff, ↓reduceIte, vcu, ↓vcd, opK_some]
   have B14 := B13.trans a14
   have ep14 := a14 _ _ ep13
   refine ⟨keep_of rfl (fun p hp => by simp only [List.mem_singleton] at hp; subst hp; exact .inr B14), ?_⟩
   refine tree_quiets _ _ _ _ sf0 (by kernel_rfl) (by kernel_rfl) ?_
   simp -implicitDefEqProofs (disch := omega) only [Nat.reduceEqDiff, ↓reduceIte, vcu, ↓vcd, pickOps_nil, pickOps_cons, pickO_some, List.getElem?_cons_succ, List.getElem?_cons_zero, List.getElem?_toArray, List.getElem?_cons_zero, List.getElem?_cons_succ]
   refine tree_one rfl ?_
   refine r_sets (g := p) (i := 0) (C := [.int .i64 0, .int .i64 0, .int .i64 0, .slice none 0 0, .slice none 0 0]) z9q z9co33 (by simp -implicitDefEqProofs (disch := omega) only [Nat.reduceEqDiff, ↓reduceIte, vcu, ↓vcd]; exact hone) z9z ep14 z9l fun T3 k3 e3 => ?_
   replace e3 : T3 p = some ⟨[.int .i64 f.s.O, .int .i64 f.s.E, .int .i64 f.s.M, y1, y2], false⟩ := e3
   have P3 : Sub σ1 T3 := k3.sub B14 fp
   have own9 : OwnX σ1 T3 (exV y1 y2 f) f := (ownp.kept k3 ep13).older B13
   have d1 : ∀ n z, y1 ≠ .slice (some ⟨p, 0, none⟩) n z := by
    rintro n z rfl
    rcases oy1 with ⟨h, _⟩ | ⟨g, h, hg, hn⟩ <;> cases h
    rw [ep13] at hn; cases hn
   have d2 : ∀ n z, y2 ≠ .slice (some ⟨p, 0, none⟩) n z := by
    rintro n z rfl
    rcases oy2 with ⟨h, _⟩ | ⟨g, h, hg, hn⟩ <;> cases h
    rw [ep13] at hn; cases hn
   try simp -implicitDefEqProofs (disch := omega) only [Nat.reduceEqDiff, ↓reduceIte, vcu, ↓vcd]
   refine ⟨keep_of rfl (fun p hp => by simp only [List.mem_singleton] at hp; subst hp; exact .inr P3), ?_⟩
   refine tree_quiets _ _ _ _ sf0 (by kernel_rfl) (by kernel_rfl) ?_
   simp -implicitDefEqProofs (disch := omega) only [Nat.reduceEqDiff, ↓reduceIte, vcu, ↓vcd, pickOps_nil, pickOps_cons, pickO_some, List.getElem?_cons_succ, List.getElem?_cons_zero]
   refine tree_stop ?_
   exact ⟨by first | trivial | rfl, ⟨by first | trivial | rfl | simp -implicitDefEqProofs (disch := omega) only [Nat.reduceEqDiff, ↓reduceIte, vcu, ↓vcd], by first | trivial | rfl | simp -implicitDefEqProofs (disch := omega) only [Nat.reduceEqDiff, ↓reduceIte, vcu, ↓vcd]⟩, p, y1, y2, by first | trivial | rfl | simp -implicitDefEqProofs (disch := omega) only [Nat.reduceEqDiff, ↓reduceIte, vcu, ↓vcd], by first | trivial | rfl | simp -implicitDefEqProofs (disch := omega) only [Nat.reduceEqDiff, ↓reduceIte, vcu, ↓vcd], P3, e3, own9, fp, d1, d2⟩
 rintro _ a15 T15 ⟨rfl, ⟨fr15_2, fr15_3⟩, cw, u15a, u15b, fr15_6, fr15_7, r15, ew, ⟨p15a', p15b', pe, p15a, p15b⟩, nw, ddwa, ddwb⟩
 unfold exV at pe
 cases pe
 replace sa := sa.trans r15
 have sw : Sub T15 T15 := Sub.refl _
 have l16 : lds T15 b 0 5 = some [.int .i64 e.s.O, .int .i64 e.s.E, .int .i64 e.s.M, v1, v2] := by rw [lds_of (sa _ _ eb) (by simp)]; rfl
 simp -implicitDefEqProofs (disch := omega) only [Nat.reduceEqDiff, ↓reduceIte, vcu, ↓vcd, fr15_2, fr15_3, fr15_6, fr15_7, l16, co33, co27, co52, co48]
 have bx_a := sa
 have bx_w := sw
 refine (hto _ sa).mono ?_
 rintro _ T17 ⟨r17, u17a, u17b, rfl, p17a, p17b⟩
 replace sa := sa.trans r17
 replace sw := sw.trans r17
 have o18 := exC_one (show OwnX T15 T17 (exV u17a u17b e) e from ⟨u17a, u17b, rfl, p17a, p17b⟩)
 simp -implicitDefEqProofs (disch := omega) only [Nat.reduceEqDiff, ↓reduceIte, vcu, ↓vcd, opK_some, exV]
 refine r_local (cs := #[.int .i64 e.s.O, .int .i64 e.s.E, .int .i64 e.s.M, u17a, u17b]) ze33 (by decide) z9q (by rw [co33]; rfl) rfl o18 (Nat.zero_lt_succ _) fun cx T18 nx r18 ex => ?_
 replace ex : T18 cx = some ⟨[.int .i64 e.s.O, .int .i64 e.s.E, .int .i64 e.s.M, u17a, u17b], false⟩ := ex
 have ddxa : ∀ n z, u17a ≠ .slice (some ⟨cx, 0, none⟩) n z := by
  rintro n z rfl
  rcases p17a with ⟨h, _⟩ | ⟨g, h, hg, _⟩ <;> cases h
  rw [nx] at hg; cases hg
 have ddxb : ∀ n z, u17b ≠ .slice (some ⟨cx, 0, none⟩) n z := by
  rintro n z rfl
  rcases p17b with ⟨h, _⟩ | ⟨g, h, hg, _⟩ <;> cases h
  rw [nx] at hg; cases hg
 replace sa := sa.trans r18
 replace sw := sw.trans r18
 replace p17a := p17a.sub r18
 replace p17b := p17b.sub r18
 have sx : Sub T18 T18 := Sub.refl _
 have l19 : lds T18 cx 0 5 = some [.int .i64 e.s.O, .int .i64 e.s.E, .int .i64 e.s.M, u17a, u17b] := by rw [lds_of (sx _ _ ex) (by simp)]; rfl
 have l20 : lds T18 bd 0 3 = some [.int .i64 c.k, .int .i64 c.l, .string (tx c.t)] := by rw [lds_of (sa _ _ ed) (by simp)]; rfl
 have bg_a := sa
 have bg_w := sw
 have bg_x := sx
 try simp -implicitDefEqProofs (disch := omega) only [Nat.reduceEqDiff, ↓reduceIte, vcu, ↓vcd, fr15_2, fr15_3, fr15_6, fr15_7]
 refine acodeB_monoX (Q' := fun en a' T => en = .normal ∧ (a' 2 = .pointer (some ⟨b, 0, none⟩) ∧ a' 3 = .pointer (some ⟨bd, 0, none⟩) ∧ a' 6 = .pointer (some ⟨cw, 0, none⟩) ∧ a' 7 = .bool ok ∧ a' 8 = .pointer (some ⟨cx, 0, none⟩)) ∧ ∃ p y1 y2, a' 9 = .pointer (some ⟨p, 0, none⟩) ∧ a' 10 = .bool ok ∧ Sub T18 T ∧ T p = some ⟨[.int .i64 f.s.O, .int .i64 f.s.E, .int .i64 f.s.M, y1, y2], false⟩ ∧ OwnX T18 T (exV y1 y2 f) f ∧ T18 p = none ∧ (∀ n z, y1 ≠ .slice (some ⟨p, 0, none⟩) n z) ∧ (∀ n z, y2 ≠ .slice (some ⟨p, 0, none⟩) n z))
  (region_tree mixed (quiets [0, 1] (.two 2 (.two 3 (quiets [4, 5, 6] (.one 7 (.one 8 (quiets [9] .stop)))) 7 (.one 3 (quiets [4, 5, 6] (.one 8 (quiets [9] .stop))))) 7 (.one 2 (.one 3 (quiets [4, 5, 6] (.one 8 (quiets [9] .stop))))))) [([0, 1], Sub T18)] (by kernel_rfl) (by kernel_rfl) (fun p hp => by simp only [List.mem_singleton] at hp; subst hp; exact Sub.refl _) ?_) ?_
 ·refine tree_quiets T18 _ _ _ sf1 (by kernel_rfl) (by kernel_rfl) ?_
  simp -implicitDefEqProofs (disch := omega) only [Nat.reduceEqDiff, ↓reduceIte, vcu, ↓vcd, pickOps_nil, pickOps_cons, pickO_some, List.getElem?_cons_succ, List.getElem?_cons_zero, fr15_2, fr15_3, fr15_6, fr15_7, l19, l20, co33, co27, co52, co48]
  refine tree_two rfl rfl ?_ ?_
  ·try simp -implicitDefEqProofs (disch := omega) only [Nat.reduceEqDiff, ↓reduceIte, vcu, ↓vcd, fr15_2, fr15_3, fr15_6, fr15_7]
   refine (hdd _).mono ?_
   rintro _ _ ⟨rfl, rfl⟩
   rename_i T18
   simp -implicitDefEqProofs (disch := omega) only [Nat.reduceEqDiff, ↓reduceIte, vcu, ↓vcd, opK_some]
   refine ⟨.inl rfl, ?_⟩
   refine tree_two rfl rfl ?_ ?_
   ·try simp -implicitDefEqProofs (disch := omega) only [Nat.reduceEqDiff, ↓reduceIte, vcu, ↓vcd, fr15_2, fr15_3, fr15_6, fr15_7]
    refine (him _ _ _ (ExV.sub ⟨u17a, u17b, rfl, p17a.texts, p17b.tris⟩ (Sub.refl T18))).mono ?_
    rintro _ A21 ⟨_, rfl, a21, y1, y2, rfl, oy1, oy2⟩
    have own21 : OwnX T18 A21 (exV y1 y2 f) f := OwnX.older ⟨y1, y2, rfl, oy1, oy2⟩ (Sub.refl T18)
    have ownp : OwnX T18 A21 (exV y1 y2 f) f := ⟨y1, y2, rfl, oy1, oy2⟩
    have hone := exC_one own21
    unfold exV
    simp -implicitDefEqProofs (disch := omega) only [Nat.reduceEqDiff, ↓reduceIte, vcu, ↓vcd, opK_some]
    have B21 := (Sub.refl T18).trans a21
    refine ⟨keep_of rfl (fun p hp => by simp only [List.mem_singleton] at hp; subst hp; exact .inr B21), ?_⟩
    refine tree_quiets _ _ _ _ sf0 (by kernel_rfl) (by kernel_rfl) ?_
    simp -implicitDefEqProofs (disch := omega) only [Nat.reduceEqDiff, ↓reduceIte, vcu, ↓vcd, pickOps_nil, pickOps_cons, pickO_some, List.getElem?_cons_succ, List.getElem?_cons_zero, List.getElem?_toArray, List.getElem?_cons_zero, List.getElem?_cons_succ]
    refine tree_one rfl ?_
    try simp -implicitDefEqProofs (disch := omega) only [Nat.reduceEqDiff, ↓reduceIte, vcu, ↓vcd, fr15_2, fr15_3, fr15_6, fr15_7]
    refine r_new ze33 fun p A22 np a22 ep22 => ?_
    replace ep22 : A22 p = some ⟨[.int .i64 0, .int .i64 0, .int .i64 0, .slice none 0 0, .slice none 0 0], false⟩ := ep22
    try simp -implicitDefEqProofs (disch := omega) only [Nat.reduceEqDiff, ↓reduceIte, vcu, ↓vcd]
    have fp := free_sub B21 np
    have B22 := B21.trans a22
    have ownb := OwnX.sub own21 a22
    refine ⟨keep_of rfl (fun p hp => by simp only [List.mem_singleton] at hp; subst hp; exact .inr B22), ?_⟩
    refine tree_one rfl ?_
    refine r_sets (g := p) (i := 0) (C := [.int .i64 0, .int .i64 0, .int .i64 0, .slice none 0 0, .slice none 0 0]) z9q z9co33 (by simp -implicitDefEqProofs (disch := omega) only [Nat.reduceEqDiff, ↓reduceIte, vcu, ↓vcd]; exact hone) z9z ep22 z9l fun T3 k3 e3 => ?_
    replace e3 : T3 p = some ⟨[.int .i64 f.s.O, .int .i64 f.s.E, .int .i64 f.s.M, y1, y2], false⟩ := e3
    have P3 : Sub T18 T3 := k3.sub B22 fp
    have own9 : OwnX T18 T3 (exV y1 y2 f) f := ownX_store own21 np a22 k3
    have d1 : ∀ n z, y1 ≠ .slice (some ⟨p, 0, none⟩) n z := by
     rintro n z rfl
     rcases oy1 with ⟨h, _⟩ | ⟨g, h, hg, hn⟩ <;> cases h
     rw [np] at hg; cases hg
    have d2 : ∀ n z, y2 ≠ .slice (some ⟨p, 0, none⟩) n z := by
     rintro n z rfl
     rcases oy2 with ⟨h, _⟩ | ⟨g, h, hg, hn⟩ <;> cases h
     rw [np] at hg; cases hg
    try simp -implicitDefEqProofs (disch := omega) only [Nat.reduceEqDiff, ↓reduceIte, vcu, ↓vcd]
    refine ⟨keep_of rfl (fun p hp => by simp only [List.mem_singleton] at hp; subst hp; exact .inr P3), ?_⟩
    refine tree_quiets _ _ _ _ sf0 (by kernel_rfl) (by kernel_rfl) ?_
    simp -implicitDefEqProofs (disch := omega) only [Nat.reduceEqDiff, ↓reduceIte, vcu, ↓vcd, pickOps_nil, pickOps_cons, pickO_some, List.getElem?_cons_succ, List.getElem?_cons_zero]
    refine tree_stop ?_
    exact ⟨by first | trivial | rfl, ⟨by first | trivial | rfl | simp -implicitDefEqProofs (disch := omega) only [Nat.reduceEqDiff, ↓reduceIte, vcu, ↓vcd] | simp -implicitDefEqProofs (disch := omega) only [Nat.reduceEqDiff, ↓reduceIte, vcu, ↓vcd, fr15_2, fr15_3, fr15_6, fr15_7], by first | trivial | rfl | simp -implicitDefEqProofs (disch := omega) only [Nat.reduceEqDiff, ↓reduceIte, vcu, ↓vcd] | simp -implicitDefEqProofs (disch := omega) only [Nat.reduceEqDiff, ↓reduceIte, vcu, ↓vcd, fr15_2, fr15_3, fr15_6, fr15_7], by first | trivial | rfl | simp -implicitDefEqProofs (disch := omega) only [Nat.reduceEqDiff, ↓reduceIte, vcu, ↓vcd] | simp -implicitDefEqProofs (disch := omega) only [Nat.reduceEqDiff, ↓reduceIte, vcu, ↓vcd, fr15_2, fr15_3, fr15_6, fr15_7], by first | trivial | rfl | simp -implicitDefEqProofs (disch := omega) only [Nat.reduceEqDiff, ↓reduceIte, vcu, ↓vcd] | simp -implicitDefEqProofs (disch := omega) only [Nat.reduceEqDiff, ↓reduceIte, vcu, ↓vcd, fr15_2, fr15_3, fr15_6, fr15_7], by first | trivial | rfl | simp -implicitDefEqProofs (disch := omega) only [Nat.reduceEqDiff, ↓reduceIte, vcu, ↓vcd] | simp -implicitDefEqProofs (disch := omega) only [Nat.reduceEqDiff, ↓reduceIte, vcu, ↓vcd, fr15_2, fr15_3, fr15_6, fr15_7]⟩, p, y1, y2, by first | trivial | rfl | simp -implicitDefEqProofs (disch := omega) only [Nat.reduceEqDiff, ↓reduceIte, vcu, ↓vcd] | simp -implicitDefEqProofs (disch := omega) only [Nat.reduceEqDiff, ↓reduceIte, vcu, ↓vcd, fr15_2, fr15_3, fr15_6, fr15_7], by first | trivial | rfl | simp -implicitDefEqProofs (disch := omega) only [Nat.reduceEqDiff, ↓reduceIte, vcu, ↓vcd] | simp -implicitDefEqProofs (disch := omega) only [Nat.reduceEqDiff, ↓reduceIte, vcu, ↓vcd, fr15_2, fr15_3, fr15_6, fr15_7], P3, e3, own9, fp, d1, d2⟩
   ·try simp -implicitDefEqProofs (disch := omega) only [Nat.reduceEqDiff, ↓reduceIte, vcu, ↓vcd, fr15_2, fr15_3, fr15_6, fr15_7]
    refine r_new ze33 fun p A23 np a23 ep23 => ?_
    replace ep23 : A23 p = some ⟨[.int .i64 0, .int .i64 0, .int .i64 0, .slice none 0 0, .slice none 0 0], false⟩ := ep23
    try simp -implicitDefEqProofs (disch := omega) only [Nat.reduceEqDiff, ↓reduceIte, vcu, ↓vcd]
    have fp := free_sub (Sub.refl T18) np
    have B23 := (Sub.refl T18).trans a23
    refine ⟨keep_of rfl (fun p hp => by simp only [List.mem_singleton] at hp; subst hp; exact .inr B23), ?_⟩
    refine tree_one rfl ?_
    try simp -implicitDefEqProofs (disch := omega) only [Nat.reduceEqDiff, ↓reduceIte, vcu, ↓vcd, fr15_2, fr15_3, fr15_6, fr15_7]
    refine (him _ _ _ (ExV.sub ⟨u17a, u17b, rfl, p17a.texts, p17b.tris⟩ B23)).mono ?_
    rintro _ A24 ⟨_, rfl, a24, y1, y2, rfl, oy1, oy2⟩
    have own24 : OwnX T18 A24 (exV y1 y2 f) f := OwnX.older ⟨y1, y2, rfl, oy1, oy2⟩ B23
    have ownp : OwnX A23 A24 (exV y1 y2 f) f := ⟨y1, y2, rfl, oy1, oy2⟩
    have hone := exC_one own24
    unfold exV
    simp -implicitDefEqProofs (disch := omega) only [Nat.reduceEqDiff, ↓reduceIte, vcu, ↓vcd, opK_some]
    have B24 := B23.trans a24
    have ep24 := a24 _ _ ep23
    refine ⟨keep_of rfl (fun p hp => by simp only [List.mem_singleton] at hp; subst hp; exact .inr B24), ?_⟩
    refine tree_quiets _ _ _ _ sf0 (by kernel_rfl) (by kernel_rfl) ?_
    simp -implicitDefEqProofs (disch := omega) only [Nat.reduceEqDiff, ↓reduceIte, vcu, ↓vcd, pickOps_nil, pickOps_cons, pickO_some, List.getElem?_cons_succ, List.getElem?_cons_zero, List.getElem?_toArray, List.getElem?_cons_zero, List.getElem?_cons_succ]
    refine tree_one rfl ?_
    refine r_sets (g := p) (i := 0) (C := [.int .i64 0, .int .i64 0, .int .i64 0, .slice none 0 0, .slice none 0 0]) z9q z9co33 (by simp -implicitDefEqProofs (disch := omega) only [Nat.reduceEqDiff, ↓reduceIte, vcu, ↓vcd]; exact hone) z9z ep24 z9l fun T3 k3 e3 => ?_
    replace e3 : T3 p = some ⟨[.int .i64 f.s.O, .int .i64 f.s.E, .int .i64 f.s.M, y1, y2], false⟩ := e3
    have P3 : Sub T18 T3 := k3.sub B24 fp
    have own9 : OwnX T18 T3 (exV y1 y2 f) f := (ownp.kept k3 ep23).older B23
    have d1 : ∀ n z, y1 ≠ .slice (some ⟨p, 0, none⟩) n z := by
     rintro n z rfl
     rcases oy1 with ⟨h, _⟩ | ⟨g, h, hg, hn⟩ <;> cases h
     rw [ep23] at hn; cases hn
    have d2 : ∀ n z, y2 ≠ .slice (some ⟨p, 0, none⟩) n z := by
     rintro n z rfl
     rcases oy2 with ⟨h, _⟩ | ⟨g, h, hg, hn⟩ <;> cases h
     rw [ep23] at hn; cases hn
    try simp -implicitDefEqProofs (disch := omega) only [Nat.reduceEqDiff, ↓reduceIte, vcu, ↓vcd]
    refine ⟨keep_of rfl (fun p hp => by simp only [List.mem_singleton] at hp; subst hp; exact .inr P3), ?_⟩
    refine tree_quiets _ _ _ _ sf0 (by kernel_rfl) (by kernel_rfl) ?_
    simp -implicitDefEqProofs (disch := omega) only [Nat.reduceEqDiff, ↓reduceIte, vcu, ↓vcd, pickOps_nil, pickOps_cons, pickO_some, List.getElem?_cons_succ, List.getElem?_cons_zero]
    refine tree_stop ?_
    exact ⟨by first | trivial | rfl, ⟨by first | trivial | rfl | simp -implicitDefEqProofs (disch := omega) only [Nat.reduceEqDiff, ↓reduceIte, vcu, ↓vcd] | simp -implicitDefEqProofs (disch := omega) only [Nat.reduceEqDiff, ↓reduceIte, vcu, ↓vcd, fr15_2, fr15_3, fr15_6, fr15_7], by first | trivial | rfl | simp -implicitDefEqProofs (disch := omega) only [Nat.reduceEqDiff, ↓reduceIte, vcu, ↓vcd] | simp -implicitDefEqProofs (disch := omega) only [Nat.reduceEqDiff, ↓reduceIte, vcu, ↓vcd, fr15_2, fr15_3, fr15_6, fr15_7], by first | trivial | rfl | simp -implicitDefEqProofs (disch := omega) only [Nat.reduceEqDiff, ↓reduceIte, vcu, ↓vcd] | simp -implicitDefEqProofs (disch := omega) only [Nat.reduceEqDiff, ↓reduceIte, vcu, ↓vcd, fr15_2, fr15_3, fr15_6, fr15_7], by first | trivial | rfl | simp -implicitDefEqProofs (disch := omega) only [Nat.reduceEqDiff, ↓reduceIte, vcu, ↓vcd] | simp -implicitDefEqProofs (disch := omega) only [Nat.reduceEqDiff, ↓reduceIte, vcu, ↓vcd, fr15_2, fr15_3, fr15_6, fr15_7], by first | trivial | rfl | simp -implicitDefEqProofs (disch := omega) only [Nat.reduceEqDiff, ↓reduceIte, vcu, ↓vcd] | simp -implicitDefEqProofs (disch := omega) only [Nat.reduceEqDiff, ↓reduceIte, vcu, ↓vcd, fr15_2, fr15_3, fr15_6, fr15_7]⟩, p, y1, y2, by first | trivial | rfl | simp -implicitDefEqProofs (disch := omega) only [Nat.reduceEqDiff, ↓reduceIte, vcu, ↓vcd] | simp -implicitDefEqProofs (disch := omega) only [Nat.reduceEqDiff, ↓reduceIte, vcu, ↓vcd, fr15_2, fr15_3, fr15_6, fr15_7], by first | trivial | rfl | simp -implicitDefEqProofs (disch := omega) only [Nat.reduceEqDiff, ↓reduceIte, vcu, ↓vcd] | simp -implicitDefEqProofs (disch := omega) only [Nat.reduceEqDiff, ↓reduceIte, vcu, ↓vcd, fr15_2, fr15_3, fr15_6, fr15_7], P3, e3, own9, fp, d1, d2⟩
  ·try simp -implicitDefEqProofs (disch := omega) only [Nat.reduceEqDiff, ↓reduceIte, vcu, ↓vcd, fr15_2, fr15_3, fr15_6, fr15_7]
   refine r_new ze33 fun p A25 np a25 ep25 => ?_
   replace ep25 : A25 p = some ⟨[.int .i64 0, .int .i64 0, .int .i64 0, .slice none 0 0, .slice none 0 0], false⟩ := ep25
   try simp -implicitDefEqProofs (disch := omega) only [Nat.reduceEqDiff, ↓reduceIte, vcu, ↓vcd]
   have fp := free_sub (Sub.refl T18) np
   have B25 := (Sub.refl T18).trans a25
   refine ⟨keep_of rfl (fun p hp => by simp only [List.mem_singleton] at hp; subst hp; exact .inr B25), ?_⟩
   refine tree_one rfl ?_
   try simp -implicitDefEqProofs (disch := omega) only [Nat.reduceEqDiff, ↓reduceIte, vcu, ↓vcd, fr15_2, fr15_3, fr15_6, fr15_7]
   refine (hdd _).mono ?_
   rintro _ _ ⟨rfl, rfl⟩
   rename_i A25
   simp -implicitDefEqProofs (disch := omega) only [Nat.reduceEqDiff, ↓reduceIte, vcu, ↓vcd, opK_some]
   refine ⟨.inl rfl, ?_⟩
   refine tree_one rfl ?_
   try simp -implicitDefEqProofs (disch := omega) only [Nat.reduceEqDiff, ↓reduceIte, vcu, ↓vcd, fr15_2, fr15_3, fr15_6, fr15_7]
   refine (him _ _ _ (ExV.sub ⟨u17a, u17b, rfl, p17a.texts, p17b.tris⟩ B25)).mono ?_
   rintro _ A26 ⟨_, rfl, a26, y1, y2, rfl, oy1, oy2⟩
   have own26 : OwnX T18 A26 (exV y1 y2 f) f := OwnX.older ⟨y1, y2, rfl, oy1, oy2⟩ B25
   have ownp : OwnX A25 A26 (exV y1 y2 f) f := ⟨y1, y2, rfl, oy1, oy2⟩
   have hone := exC_one own26
   unfold exV
   simp -implicitDefEqProofs (disch := omega) only [Nat.reduceEqDiff, ↓reduceIte, vcu, ↓vcd, opK_some]
   have B26 := B25.trans a26
   have ep26 := a26 _ _ ep25
   refine ⟨keep_of rfl (fun p hp => by simp only [List.mem_singleton] at hp; subst hp; exact .inr B26), ?_⟩
   refine tree_quiets _ _ _ _ sf0 (by kernel_rfl) (by kernel_rfl) ?_
   simp -implicitDefEqProofs (disch := omega) only [Nat.reduceEqDiff, ↓reduceIte, vcu, ↓vcd, pickOps_nil, pickOps_cons, pickO_some, List.getElem?_cons_succ, List.getElem?_cons_zero, List.getElem?_toArray, List.getElem?_cons_zero, List.getElem?_cons_succ]
   refine tree_one rfl ?_
   refine r_sets (g := p) (i := 0) (C := [.int .i64 0, .int .i64 0, .int .i64 0, .slice none 0 0, .slice none 0 0]) z9q z9co33 (by simp -implicitDefEqProofs (disch := omega) only [Nat.reduceEqDiff, ↓reduceIte, vcu, ↓vcd]; exact hone) z9z ep26 z9l fun T3 k3 e3 => ?_
   replace e3 : T3 p = some ⟨[.int .i64 f.s.O, .int .i64 f.s.E, .int .i64 f.s.M, y1, y2], false⟩ := e3
   have P3 : Sub T18 T3 := k3.sub B26 fp
   have own9 : OwnX T18 T3 (exV y1 y2 f) f := (ownp.kept k3 ep25).older B25
   have d1 : ∀ n z, y1 ≠ .slice (some ⟨p, 0, none⟩) n z := by
    rintro n z rfl
    rcases oy1 with ⟨h, _⟩ | ⟨g, h, hg, hn⟩ <;> cases h
    rw [ep25] at hn; cases hn
   have d2 : ∀ n z, y2 ≠ .slice (some ⟨p, 0, none⟩) n z := by
    rintro n z rfl
    rcases oy2 with ⟨h, _⟩ | ⟨g, h, hg, hn⟩ <;> cases h
    rw [ep25] at hn; cases hn
   try simp -implicitDefEqProofs (disch := omega) only [Nat.reduceEqDiff, ↓reduceIte, vcu, ↓vcd]
   refine ⟨keep_of rfl (fun p hp => by simp only [List.mem_singleton] at hp; subst hp; exact .inr P3), ?_⟩
   refine tree_quiets _ _ _ _ sf0 (by kernel_rfl) (by kernel_rfl) ?_
   simp -implicitDefEqProofs (disch := omega) only [Nat.reduceEqDiff, ↓reduceIte, vcu, ↓vcd, pickOps_nil, pickOps_cons, pickO_some, List.getElem?_cons_succ, List.getElem?_cons_zero]
   refine tree_stop ?_
   exact ⟨by first | trivial | rfl, ⟨by first | trivial | rfl | simp -implicitDefEqProofs (disch := omega) only [Nat.reduceEqDiff, ↓reduceIte, vcu, ↓vcd] | simp -implicitDefEqProofs (disch := omega) only [Nat.reduceEqDiff, ↓reduceIte, vcu, ↓vcd, fr15_2, fr15_3, fr15_6, fr15_7], by first | trivial | rfl | simp -implicitDefEqProofs (disch := omega) only [Nat.reduceEqDiff, ↓reduceIte, vcu, ↓vcd] | simp -implicitDefEqProofs (disch := omega) only [Nat.reduceEqDiff, ↓reduceIte, vcu, ↓vcd, fr15_2, fr15_3, fr15_6, fr15_7], by first | trivial | rfl | simp -implicitDefEqProofs (disch := omega) only [Nat.reduceEqDiff, ↓reduceIte, vcu, ↓vcd] | simp -implicitDefEqProofs (disch := omega) only [Nat.reduceEqDiff, ↓reduceIte, vcu, ↓vcd, fr15_2, fr15_3, fr15_6, fr15_7], by first | trivial | rfl | simp -implicitDefEqProofs (disch := omega) only [Nat.reduceEqDiff, ↓reduceIte, vcu, ↓vcd] | simp -implicitDefEqProofs (disch := omega) only [Nat.reduceEqDiff, ↓reduceIte, vcu, ↓vcd, fr15_2, fr15_3, fr15_6, fr15_7], by first | trivial | rfl | simp -implicitDefEqProofs (disch := omega) only [Nat.reduceEqDiff, ↓reduceIte, vcu, ↓vcd] | simp -implicitDefEqProofs (disch := omega) only [Nat.reduceEqDiff, ↓reduceIte, vcu, ↓vcd, fr15_2, fr15_3, fr15_6, fr15_7]⟩, p, y1, y2, by first | trivial | rfl | simp -implicitDefEqProofs (disch := omega) only [Nat.reduceEqDiff, ↓reduceIte, vcu, ↓vcd] | simp -implicitDefEqProofs (disch := omega) only [Nat.reduceEqDiff, ↓reduceIte, vcu, ↓vcd, fr15_2, fr15_3, fr15_6, fr15_7], by first | trivial | rfl | simp -implicitDefEqProofs (disch := omega) only [Nat.reduceEqDiff, ↓reduceIte, vcu, ↓vcd] | simp -implicitDefEqProofs (disch := omega) only [Nat.reduceEqDiff, ↓reduceIte, vcu, ↓vcd, fr15_2, fr15_3, fr15_6, fr15_7], P3, e3, own9, fp, d1, d2⟩
 rintro _ a27 T27 ⟨rfl, ⟨fr27_2, fr27_3, fr27_6, fr27_7, fr27_8⟩, cg, u27a, u27b, fr27_9, fr27_10, r27, eg, ⟨p27a', p27b', pe, p27a, p27b⟩, ng, ddga, ddgb⟩
 unfold exV at pe
 cases pe
 replace sa := sa.trans r27
 replace sw := sw.trans r27
 replace sx := sx.trans r27
 have sg : Sub T27 T27 := Sub.refl _
 have l28 : lds T27 cg 0 5 = some [.int .i64 f.s.O, .int .i64 f.s.E, .int .i64 f.s.M, u27a, u27b] := by rw [lds_of (sg _ _ eg) (by simp)]; rfl
 have l29 : lds T27 cw 0 5 = some [.int .i64 f.s.O, .int .i64 f.s.E, .int .i64 f.s.M, u15a, u15b] := by rw [lds_of (sw _ _ ew) (by simp)]; rfl
 have l31 : lds T27 cg 0 5 = some [.int .i64 f.s.O, .int .i64 f.s.E, .int .i64 f.s.M, u27a, u27b] := by rw [lds_of (sg _ _ eg) (by simp)]; rfl
 have l32 : lds T27 cw 0 5 = some [.int .i64 f.s.O, .int .i64 f.s.E, .int .i64 f.s.M, u15a, u15b] := by rw [lds_of (sw _ _ ew) (by simp)]; rfl
 have h33 := eqEx_calls (w0 := w0) T27 (exV u27a u27b f) (exV u15a u15b f) f f ⟨u27a, u27b, rfl, (p27a.sub sg).texts, (p27b.sub sg).tris⟩ ⟨u15a, u15b, rfl, (p15a.sub sw).texts, (p15b.sub sw).tris⟩ hB hB
 unfold exV at h33
 simp -implicitDefEqProofs (disch := omega) only [Nat.reduceEqDiff, ↓reduceIte, vcu, ↓vcd, fr27_2, fr27_3, fr27_6, fr27_7, fr27_8, fr27_9, fr27_10, l31, l32, co33, co27, co52, co48]
 refine (h33).mono ?_
 rintro _ _ ⟨rfl, rfl⟩
 rename_i T27
 simp -implicitDefEqProofs (disch := omega) only [Nat.reduceEqDiff, ↓reduceIte, vcu, ↓vcd, opK_some, List.getElem?_toArray, List.getElem?_cons_zero, List.getElem?_cons_succ, eq_self, decide_true, Bool.not_true, beq_self_eq_true, ne_eq, not_true_eq_false, fr27_2, fr27_3, fr27_6, fr27_7, fr27_8, fr27_9, fr27_10]
 have l34 : lds T27 cx 0 5 = some [.int .i64 e.s.O, .int .i64 e.s.E, .int .i64 e.s.M, u17a, u17b] := by rw [lds_of (sx _ _ ex) (by simp)]; rfl
 have l35 : lds T27 b 0 5 = some [.int .i64 e.s.O, .int .i64 e.s.E, .int .i64 e.s.M, v1, v2] := by rw [lds_of (sa _ _ eb) (by simp)]; rfl
 refine region_tree mixed (quiets [0, 1] (.one 2 (.one 3 (quiets [4] .stop)))) [([0, 1], Sub T27)] (by kernel_rfl) (by kernel_rfl) (fun p hp => by simp only [List.mem_singleton] at hp; subst hp; exact Sub.refl _) ?_
 refine tree_quiets T27 _ _ _ sf1 (by kernel_rfl) (by kernel_rfl) ?_
 simp -implicitDefEqProofs (disch := omega) only [Nat.reduceEqDiff, ↓reduceIte, vcu, ↓vcd, pickOps_nil, pickOps_cons, pickO_some, List.getElem?_cons_succ, List.getElem?_cons_zero, fr27_2, fr27_3, fr27_6, fr27_7, fr27_8, fr27_9, fr27_10, l34, l35, co33, co27, co52, co48]
 refine tree_one rfl ?_
 try simp -implicitDefEqProofs (disch := omega) only [Nat.reduceEqDiff, ↓reduceIte, vcu, ↓vcd, fr27_2, fr27_3, fr27_6, fr27_7, fr27_8, fr27_9, fr27_10]
 refine (hto _ sa).mono ?_
 rintro _ T36 ⟨r36, u36a, u36b, rfl, p36a, p36b⟩
 replace sa := sa.trans r36
 replace sw := sw.trans r36
 replace sx := sx.trans r36
 replace sg := sg.trans r36
 have h37 := eqEx_calls (w0 := w0) T36 (exV u17a u17b e) (exV u36a u36b e) e e ⟨u17a, u17b, rfl, (p17a.sub sx).texts, (p17b.sub sx).tris⟩ ⟨u36a, u36b, rfl, p36a.texts, p36b.tris⟩ hb hb
 unfold exV at h37
 simp -implicitDefEqProofs (disch := omega) only [Nat.reduceEqDiff, ↓reduceIte, vcu, ↓vcd, opK_some, exV]
 refine ⟨keep_of rfl (fun p hp => by simp only [List.mem_singleton] at hp; subst hp; exact .inr r36), ?_⟩
 refine tree_one rfl ?_
 try simp -implicitDefEqProofs (disch := omega) only [Nat.reduceEqDiff, ↓reduceIte, vcu, ↓vcd]
 refine (h37).mono ?_
 rintro _ _ ⟨rfl, rfl⟩
 rename_i T36
 simp -implicitDefEqProofs (disch := omega) only [Nat.reduceEqDiff, ↓reduceIte, vcu, ↓vcd, opK_some]
 refine ⟨.inl rfl, ?_⟩
 refine tree_quiets _ _ _ _ sf0 (by kernel_rfl) (by kernel_rfl) ?_
 simp -implicitDefEqProofs (disch := omega) only [Nat.reduceEqDiff, ↓reduceIte, vcu, ↓vcd, pickOps_nil, pickOps_cons, pickO_some, List.getElem?_cons_succ, List.getElem?_cons_zero, eq_self, decide_true, Bool.not_true]
 refine tree_stop ?_
 try simp -implicitDefEqProofs (disch := omega) only [Nat.reduceEqDiff, ↓reduceIte, vcu, ↓vcd]
 have l38 : lds T36 cx 0 5 = some [.int .i64 e.s.O, .int .i64 e.s.E, .int .i64 e.s.M, u17a, u17b] := by rw [lds_of (sx _ _ ex) (by simp)]; rfl
 simp -implicitDefEqProofs (disch := omega) only [Nat.reduceEqDiff, ↓reduceIte, vcu, ↓vcd, fr27_2, fr27_3, fr27_6, fr27_7, fr27_8, fr27_9, fr27_10, l38, co33, co27, co52, co48]
 refine (markX_kp T15 T18 T36 u17a u17b e 1 ⟨u17a, u17b, rfl, p17a, p17b⟩ sx hb (by omega)).mono ?_
 rintro _ M39 ⟨rfl, ox, kx, -⟩
 replace sa := kx.sub bx_a sa
 replace sw := kx.sub bx_w sw
 replace p27a := kx.ownS (p27a.sub sg) bg_x
 replace p27b := kx.ownC (p27b.sub sg) bg_x
 replace eg := kx.cell (sg _ _ eg) (free_sub bg_x ng)
 clear sg
 have sg : Sub M39 M39 := Sub.refl _
 have hm0 : decide (1 + (e.ps.length : Int) + 3 * e.cs.length < 0) = false := by rw [decide_eq_false_iff_not]; omega
 simp -implicitDefEqProofs (disch := omega) only [Nat.reduceEqDiff, ↓reduceIte, vcu, ↓vcd, opK_some]
 have l40 : lds M39 cg 0 5 = some [.int .i64 f.s.O, .int .i64 f.s.E, .int .i64 f.s.M, u27a, u27b] := by rw [lds_of (sg _ _ eg) (by simp)]; rfl
 have l41 : lds M39 cw 0 5 = some [.int .i64 f.s.O, .int .i64 f.s.E, .int .i64 f.s.M, u15a, u15b] := by rw [lds_of (sw _ _ ew) (by simp)]; rfl
 have h42 := eqEx_calls (w0 := w0) M39 (exV u27a u27b f) (exV u15a u15b f) f f ⟨u27a, u27b, rfl, (p27a.sub sg).texts, (p27b.sub sg).tris⟩ ⟨u15a, u15b, rfl, (p15a.sub sw).texts, (p15b.sub sw).tris⟩ hB hB
 unfold exV at h42
 simp -implicitDefEqProofs (disch := omega) only [Nat.reduceEqDiff, ↓reduceIte, vcu, ↓vcd, hm0, fr27_2, fr27_3, fr27_6, fr27_7, fr27_8, fr27_9, fr27_10, l40, l41, co33, co27, co52, co48]
 refine (h42).mono ?_
 rintro _ _ ⟨rfl, rfl⟩
 rename_i M39
 simp -implicitDefEqProofs (disch := omega) only [Nat.reduceEqDiff, ↓reduceIte, vcu, ↓vcd, opK_some, List.getElem?_toArray, List.getElem?_cons_zero, List.getElem?_cons_succ, eq_self, decide_true, Bool.not_true, beq_self_eq_true, ne_eq, not_true_eq_false, fr27_2, fr27_3, fr27_6, fr27_7, fr27_8, fr27_9, fr27_10]
 have l43 : lds M39 cg 0 5 = some [.int .i64 f.s.O, .int .i64 f.s.E, .int .i64 f.s.M, u27a, u27b] := by rw [lds_of (sg _ _ eg) (by simp)]; rfl
 simp -implicitDefEqProofs (disch := omega) only [Nat.reduceEqDiff, ↓reduceIte, vcu, ↓vcd, fr27_2, fr27_3, fr27_6, fr27_7, fr27_8, fr27_9, fr27_10, l43, co33, co27, co52, co48]
 refine (markX_kp T18 M39 M39 u27a u27b f 1 ⟨u27a, u27b, rfl, p27a, p27b⟩ sg hB (by omega)).mono ?_
 rintro r M44 ⟨hr, om, kg, kk⟩
 generalize hqm : (1 : Int) + f.ps.length + 3 * f.cs.length = qm at hr
 subst hr
 have hq0 : decide (qm < 0) = false := by rw [decide_eq_false_iff_not, ← hqm]; omega
 replace sa := kg.sub bg_a sa
 replace sw := kg.sub bg_w sw
 replace eg := kk _ _ (sg _ _ eg) ddga ddgb
 clear sg
 have sg : Sub M44 M44 := Sub.refl _
 simp -implicitDefEqProofs (disch := omega) only [Nat.reduceEqDiff, ↓reduceIte, vcu, ↓vcd, opK_some]
 have l46 : lds M44 cg 0 5 = some [.int .i64 f.s.O, .int .i64 f.s.E, .int .i64 f.s.M, u27a, u27b] := by rw [lds_of (sg _ _ eg) (by simp)]; rfl
 simp -implicitDefEqProofs (disch := omega) only [Nat.reduceEqDiff, ↓reduceIte, vcu, ↓vcd, opK_some, fr27_2, fr27_3, fr27_6, fr27_7, fr27_8, fr27_9, fr27_10, l46, co33, co27, co52, co48]
 have h45 := heldEx_calls (w0 := w0) M44 (exV u27a u27b f) f 1 (om.ex.sub sg) hB (by omega)
 unfold exV at h45
 refine h45.mono ?_
 rintro r _ ⟨hr, rfl⟩
 rename_i M44
 rw [hqm] at hr
 subst hr
 simp -implicitDefEqProofs (disch := omega) only [Nat.reduceEqDiff, ↓reduceIte, vcu, ↓vcd, hq0, fr27_2, fr27_3, fr27_6, fr27_7, fr27_8, fr27_9, fr27_10, opK_some, List.getElem?_toArray, List.getElem?_cons_zero, List.getElem?_cons_succ, eq_self, decide_true, Bool.not_true, beq_self_eq_true, ne_eq, not_true_eq_false]
 have l47 : lds M44 b 0 5 = some [.int .i64 e.s.O, .int .i64 e.s.E, .int .i64 e.s.M, v1, v2] := by rw [lds_of (sa _ _ eb) (by simp)]; rfl
 have l48 : lds M44 bd 0 3 = some [.int .i64 c.k, .int .i64 c.l, .string (tx c.t)] := by rw [lds_of (sa _ _ ed) (by simp)]; rfl
 refine acodeB_monoX (Q' := fun en a' T => en = .normal ∧ (a' 6 = .pointer (some ⟨cw, 0, none⟩) ∧ a' 7 = .bool ok ∧ a' 9 = .pointer (some ⟨cg, 0, none⟩) ∧ a' 12 = .int .i64 qm) ∧ ∃ p y1 y2, a' 14 = .pointer (some ⟨p, 0, none⟩) ∧ a' 15 = .bool ok ∧ Sub M44 T ∧ T p = some ⟨[.int .i64 f.s.O, .int .i64 f.s.E, .int .i64 f.s.M, y1, y2], false⟩ ∧ OwnX M44 T (exV y1 y2 f) f ∧ M44 p = none ∧ (∀ n z, y1 ≠ .slice (some ⟨p, 0, none⟩) n z) ∧ (∀ n z, y2 ≠ .slice (some ⟨p, 0, none⟩) n z))
  (region_tree mixed (quiets [0, 2] (.two 1 (.two 3 (.two 4 (quiets [5, 6, 7] (.one 8 (.one 9 (quiets [10] .stop)))) 8 (.one 4 (quiets [5, 6, 7] (.one 9 (quiets [10] .stop))))) 8 (.one 3 (.one 4 (quiets [5, 6, 7] (.one 9 (quiets [10] .stop)))))) 8 (.one 1 (.one 3 (.one 4 (quiets [5, 6, 7] (.one 9 (quiets [10] .stop)))))))) [([0, 2], Sub M44)] (by kernel_rfl) (by kernel_rfl) (fun p hp => by simp only [List.mem_singleton] at hp; subst hp; exact Sub.refl _) ?_) ?_
 ·refine tree_quiets M44 _ _ _ sf1 (by kernel_rfl) (by kernel_rfl) ?_
  simp -implicitDefEqProofs (disch := omega) only [Nat.reduceEqDiff, ↓reduceIte, vcu, ↓vcd, pickOps_nil, pickOps_cons, pickO_some, List.getElem?_cons_succ, List.getElem?_cons_zero, fr27_2, fr27_3, fr27_6, fr27_7, fr27_8, fr27_9, fr27_10, l47, l48, co33, co27, co52, co48]
  refine tree_two rfl rfl ?_ ?_
  ·try simp -implicitDefEqProofs (disch := omega) only [Nat.reduceEqDiff, ↓reduceIte, vcu, ↓vcd, fr27_2, fr27_3, fr27_6, fr27_7, fr27_8, fr27_9, fr27_10]
   refine (hto _ (sa.trans (Sub.refl M44))).mono ?_
   rintro _ A49 ⟨a49, w49a, w49b, rfl, p49a, p49b⟩
   try simp -implicitDefEqProofs (disch := omega) only [Nat.reduceEqDiff, ↓reduceIte, vcu, ↓vcd, opK_some, exV]
   have B49 := (Sub.refl M44).trans a49
   refine ⟨keep_of rfl (fun p hp => by simp only [List.mem_singleton] at hp; subst hp; exact .inr B49), ?_⟩
   refine tree_two rfl rfl ?_ ?_
   ·try simp -implicitDefEqProofs (disch := omega) only [Nat.reduceEqDiff, ↓reduceIte, vcu, ↓vcd, fr27_2, fr27_3, fr27_6, fr27_7, fr27_8, fr27_9, fr27_10]
    refine (hdd _).mono ?_
    rintro _ _ ⟨rfl, rfl⟩
    rename_i A49
    simp -implicitDefEqProofs (disch := omega) only [Nat.reduceEqDiff, ↓reduceIte, vcu, ↓vcd, opK_some]
    refine ⟨.inl rfl, ?_⟩
    refine tree_two rfl rfl ?_ ?_
    ·try simp -implicitDefEqProofs (disch := omega) only [Nat.reduceEqDiff, ↓reduceIte, vcu, ↓vcd, fr27_2, fr27_3, fr27_6, fr27_7, fr27_8, fr27_9, fr27_10]
     refine (him _ _ _ ⟨w49a, w49b, rfl, p49a.texts, p49b.tris⟩).mono ?_
     rintro _ A50 ⟨_, rfl, a50, y1, y2, rfl, oy1, oy2⟩
     have own50 : OwnX M44 A50 (exV y1 y2 f) f := OwnX.older ⟨y1, y2, rfl, oy1, oy2⟩ B49
     have ownp : OwnX A49 A50 (exV y1 y2 f) f := ⟨y1, y2, rfl, oy1, oy2⟩
     have hone := exC_one own50
     unfold exV
     simp -implicitDefEqProofs (disch := omega) only [Nat.reduceEqDiff, ↓reduceIte, vcu, ↓vcd, opK_some]
     have B50 := B49.trans a50
     refine ⟨keep_of rfl (fun p hp => by simp only [List.mem_singleton] at hp; subst hp; exact .inr B50), ?_⟩
     refine tree_quiets _ _ _ _ sf0 (by kernel_rfl) (by kernel_rfl) ?_
     simp -implicitDefEqProofs (disch := omega) only [Nat.reduceEqDiff, ↓reduceIte, vcu, ↓vcd, pickOps_nil, pickOps_cons, pickO_some, List.getElem?_cons_succ, List.getElem?_cons_zero, List.getElem?_toArray, List.getElem?_cons_zero, List.getElem?_cons_succ]
     refine tree_one rfl ?_
     try simp -implicitDefEqProofs (disch := omega) only [Nat.reduceEqDiff, ↓reduceIte, vcu, ↓vcd, fr27_2, fr27_3, fr27_6, fr27_7, fr27_8, fr27_9, fr27_10]
     refine r_new ze33 fun p A51 np a51 ep51 => ?_
     replace ep51 : A51 p = some ⟨[.int .i64 0, .int .i64 0, .int .i64 0, .slice none 0 0, .slice none 0 0], false⟩ := ep51
     try simp -implicitDefEqProofs (disch := omega) only [Nat.reduceEqDiff, ↓reduceIte, vcu, ↓vcd]
     have fp := free_sub B50 np
     have B51 := B50.trans a51
     have ownb := OwnX.sub own50 a51
     refine ⟨keep_of rfl (fun p hp => by simp only [List.mem_singleton] at hp; subst hp; exact .inr B51), ?_⟩
     refine tree_one rfl ?_
     refine r_sets (g := p) (i := 0) (C := [.int .i64 0, .int .i64 0, .int .i64 0, .slice none 0 0, .slice none 0 0]) z9q z9co33 (by simp -implicitDefEqProofs (disch := omega) only [Nat.reduceEqDiff, ↓reduceIte, vcu, ↓vcd]; exact hone) z9z ep51 z9l fun T3 k3 e3 => ?_
     replace e3 : T3 p = some ⟨[.int .i64 f.s.O, .int .i64 f.s.E, .int .i64 f.s.M, y1, y2], false⟩ := e3
     have P3 : Sub M44 T3 := k3.sub B51 fp
     have own9 : OwnX M44 T3 (exV y1 y2 f) f := ownX_store own50 np a51 k3
     have d1 : ∀ n z, y1 ≠ .slice (some ⟨p, 0, none⟩) n z := by
      rintro n z rfl
      rcases oy1 with ⟨h, _⟩ | ⟨g, h, hg, hn⟩ <;> cases h
      rw [np] at hg; cases hg
     have d2 : ∀ n z, y2 ≠ .slice (some ⟨p, 0, none⟩) n z := by
      rintro n z rfl
      rcases oy2 with ⟨h, _⟩ | ⟨g, h, hg, hn⟩ <;> cases h
      rw [np] at hg; cases hg
     try simp -implicitDefEqProofs (disch := omega) only [Nat.reduceEqDiff, ↓reduceIte, vcu, ↓vcd]
     refine ⟨keep_of rfl (fun p hp => by simp only [List.mem_singleton] at hp; subst hp; exact .inr P3), ?_⟩
     refine tree_quiets _ _ _ _ sf0 (by kernel_rfl) (by kernel_rfl) ?_
     simp -implicitDefEqProofs (disch := omega) only [Nat.reduceEqDiff, ↓reduceIte, vcu, ↓vcd, pickOps_nil, pickOps_cons, pickO_some, List.getElem?_cons_succ, List.getElem?_cons_zero]
     refine tree_stop ?_
     exact ⟨by first | trivial | rfl, ⟨by first | trivial | rfl | simp -implicitDefEqProofs (disch := omega) only [Nat.reduceEqDiff, ↓reduceIte, vcu, ↓vcd] | simp -implicitDefEqProofs (disch := omega) only [Nat.reduceEqDiff, ↓reduceIte, vcu, ↓vcd, fr27_2, fr27_3, fr27_6, fr27_7, fr27_8, fr27_9, fr27_10], by first | trivial | rfl | simp -implicitDefEqProofs (disch := omega) only [Nat.reduceEqDiff, ↓reduceIte, vcu, ↓vcd] | simp -implicitDefEqProofs (disch := omega) only [Nat.reduceEqDiff, ↓reduceIte, vcu, ↓vcd, fr27_2, fr27_3, fr27_6, fr27_7, fr27_8, fr27_9, fr27_10], by first | trivial | rfl | simp -implicitDefEqProofs (disch := omega) only [Nat.reduceEqDiff, ↓reduceIte, vcu, ↓vcd] | simp -implicitDefEqProofs (disch := omega) only [Nat.reduceEqDiff, ↓reduceIte, vcu, ↓vcd, fr27_2, fr27_3, fr27_6, fr27_7, fr27_8, fr27_9, fr27_10], by first | trivial | rfl | simp -implicitDefEqProofs (disch := omega) only [Nat.reduceEqDiff, ↓reduceIte, vcu, ↓vcd] | simp -implicitDefEqProofs (disch := omega) only [Nat.reduceEqDiff, ↓reduceIte, vcu, ↓vcd, fr27_2, fr27_3, fr27_6, fr27_7, fr27_8, fr27_9, fr27_10]⟩, p, y1, y2, by first | trivial | rfl | simp -implicitDefEqProofs (disch := omega) only [Nat.reduceEqDiff, ↓reduceIte, vcu, ↓vcd] | simp -implicitDefEqProofs (disch := omega) only [Nat.reduceEqDiff, ↓reduceIte, vcu, ↓vcd, fr27_2, fr27_3, fr27_6, fr27_7, fr27_8, fr27_9, fr27_10], by first | trivial | rfl | simp -implicitDefEqProofs (disch := omega) only [Nat.reduceEqDiff, ↓reduceIte, vcu, ↓vcd] | simp -implicitDefEqProofs (disch := omega) only [Nat.reduceEqDiff, ↓reduceIte, vcu, ↓vcd, fr27_2, fr27_3, fr27_6, fr27_7, fr27_8, fr27_9, fr27_10], P3, e3, own9, fp, d1, d2⟩
    ·try simp -implicitDefEqProofs (disch := omega) only [Nat.reduceEqDiff, ↓reduceIte, vcu, ↓vcd, fr27_2, fr27_3, fr27_6, fr27_7, fr27_8, fr27_9, fr27_10]
     refine r_new ze33 fun p A52 np a52 ep52 => ?_
     replace ep52 : A52 p = some ⟨[.int .i64 0, .int .i64 0, .int .i64 0, .slice none 0 0, .slice none 0 0], false⟩ := ep52
     try simp -implicitDefEqProofs (disch := omega) only [Nat.reduceEqDiff, ↓reduceIte, vcu, ↓vcd]
     have fp := free_sub B49 np
     have B52 := B49.trans a52
     replace p49a := p49a.sub a52
     replace p49b := p49b.sub a52
     refine ⟨keep_of rfl (fun p hp => by simp only [List.mem_singleton] at hp; subst hp; exact .inr B52), ?_⟩
     refine tree_one rfl ?_
     try simp -implicitDefEqProofs (disch := omega) only [Nat.reduceEqDiff, ↓reduceIte, vcu, ↓vcd, fr27_2, fr27_3, fr27_6, fr27_7, fr27_8, fr27_9, fr27_10]
     refine (him _ _ _ ⟨w49a, w49b, rfl, p49a.texts, p49b.tris⟩).mono ?_
     rintro _ A53 ⟨_, rfl, a53, y1, y2, rfl, oy1, oy2⟩
     have own53 : OwnX M44 A53 (exV y1 y2 f) f := OwnX.older ⟨y1, y2, rfl, oy1, oy2⟩ B52
     have ownp : OwnX A52 A53 (exV y1 y2 f) f := ⟨y1, y2, rfl, oy1, oy2⟩
     have hone := exC_one own53
     unfold exV
     simp -implicitDefEqProofs (disch := omega) only [Nat.reduceEqDiff, ↓reduceIte, vcu, ↓vcd, opK_some]
     have B53 := B52.trans a53
     have ep53 := a53 _ _ ep52
     refine ⟨keep_of rfl (fun p hp => by simp only [List.mem_singleton] at hp; subst hp; exact .inr B53), ?_⟩
     refine tree_quiets _ _ _ _ sf0 (by kernel_rfl) (by kernel_rfl) ?_
     simp -implicitDefEqProofs (disch := omega) only [Nat.reduceEqDiff, ↓reduceIte, vcu, ↓vcd, pickOps_nil, pickOps_cons, pickO_some, List.getElem?_cons_succ, List.getElem?_cons_zero, List.getElem?_toArray, List.getElem?_cons_zero, List.getElem?_cons_succ]
     refine tree_one rfl ?_
     refine r_sets (g := p) (i := 0) (C := [.int .i64 0, .int .i64 0, .int .i64 0, .slice none 0 0, .slice none 0 0]) z9q z9co33 (by simp -implicitDefEqProofs (disch := omega) only [Nat.reduceEqDiff, ↓reduceIte, vcu, ↓vcd]; exact hone) z9z ep53 z9l fun T3 k3 e3 => ?_
     replace e3 : T3 p = some ⟨[.int .i64 f.s.O, .int .i64 f.s.E, .int .i64 f.s.M, y1, y2], false⟩ := e3
     have P3 : Sub M44 T3 := k3.sub B53 fp
     have own9 : OwnX M44 T3 (exV y1 y2 f) f := (ownp.kept k3 ep52).older B52
     have d1 : ∀ n z, y1 ≠ .slice (some ⟨p, 0, none⟩) n z := by
      rintro n z rfl
      rcases oy1 with ⟨h, _⟩ | ⟨g, h, hg, hn⟩ <;> cases h
      rw [ep52] at hn; cases hn
     have d2 : ∀ n z, y2 ≠ .slice (some ⟨p, 0, none⟩) n z := by
      rintro n z rfl
      rcases oy2 with ⟨h, _⟩ | ⟨g, h, hg, hn⟩ <;> cases h
      rw [ep52] at hn; cases hn
     try simp -implicitDefEqProofs (disch := omega) only [Nat.reduceEqDiff, ↓reduceIte, vcu, ↓vcd]
     refine ⟨keep_of rfl (fun p hp => by simp only [List.mem_singleton] at hp; subst hp; exact .inr P3), ?_⟩
     refine tree_quiets _ _ _ _ sf0 (by kernel_rfl) (by kernel_rfl) ?_
     simp -implicitDefEqProofs (disch := omega) only [Nat.reduceEqDiff, ↓reduceIte, vcu, ↓vcd, pickOps_nil, pickOps_cons, pickO_some, List.getElem?_cons_succ, List.getElem?_cons_zero]
     refine tree_stop ?_
     exact ⟨by first | trivial | rfl, ⟨by first | trivial | rfl | simp -implicitDefEqProofs (disch := omega) only [Nat.reduceEqDiff, ↓reduceIte, vcu, ↓vcd] | simp -implicitDefEqProofs (disch := omega) only [Nat.reduceEqDiff, ↓reduceIte, vcu, ↓vcd, fr27_2, fr27_3, fr27_6, fr27_7, fr27_8, fr27_9, fr27_10], by first | trivial | rfl | simp -implicitDefEqProofs (disch := omega) only [Nat.reduceEqDiff, ↓reduceIte, vcu, ↓vcd] | simp -implicitDefEqProofs (disch := omega) only [Nat.reduceEqDiff, ↓reduceIte, vcu, ↓vcd, fr27_2, fr27_3, fr27_6, fr27_7, fr27_8, fr27_9, fr27_10], by first | trivial | rfl | simp -implicitDefEqProofs (disch := omega) only [Nat.reduceEqDiff, ↓reduceIte, vcu, ↓vcd] | simp -implicitDefEqProofs (disch := omega) only [Nat.reduceEqDiff, ↓reduceIte, vcu, ↓vcd, fr27_2, fr27_3, fr27_6, fr27_7, fr27_8, fr27_9, fr27_10], by first | trivial | rfl | simp -implicitDefEqProofs (disch := omega) only [Nat.reduceEqDiff, ↓reduceIte, vcu, ↓vcd] | simp -implicitDefEqProofs (disch := omega) only [Nat.reduceEqDiff, ↓reduceIte, vcu, ↓vcd, fr27_2, fr27_3, fr27_6, fr27_7, fr27_8, fr27_9, fr27_10]⟩, p, y1, y2, by first | trivial | rfl | simp -implicitDefEqProofs (disch := omega) only [Nat.reduceEqDiff, ↓reduceIte, vcu, ↓vcd] | simp -implicitDefEqProofs (disch := omega) only [Nat.reduceEqDiff, ↓reduceIte, vcu, ↓vcd, fr27_2, fr27_3, fr27_6, fr27_7, fr27_8, fr27_9, fr27_10], by first | trivial | rfl | simp -implicitDefEqProofs (disch := omega) only [Nat.reduceEqDiff, ↓reduceIte, vcu, ↓vcd] | simp -implicitDefEqProofs (disch := omega) only [Nat.reduceEqDiff, ↓reduceIte, vcu, ↓vcd, fr27_2, fr27_3, fr27_6, fr27_7, fr27_8, fr27_9, fr27_10], P3, e3, own9, fp, d1, d2⟩
   ·try simp -implicitDefEqProofs (disch := omega) only [Nat.reduceEqDiff, ↓reduceIte, vcu, ↓vcd, fr27_2, fr27_3, fr27_6, fr27_7, fr27_8, fr27_9, fr27_10]
    refine r_new ze33 fun p A54 np a54 ep54 => ?_
    replace ep54 : A54 p = some ⟨[.int .i64 0, .int .i64 0, .int .i64 0, .slice none 0 0, .slice none 0 0], false⟩ := ep54
    try simp -implicitDefEqProofs (disch := omega) only [Nat.reduceEqDiff, ↓reduceIte, vcu, ↓vcd]
    have fp := free_sub B49 np
    have B54 := B49.trans a54
    replace p49a := p49a.sub a54
    replace p49b := p49b.sub a54
    refine ⟨keep_of rfl (fun p hp => by simp only [List.mem_singleton] at hp; subst hp; exact .inr B54), ?_⟩
    refine tree_one rfl ?_
    try simp -implicitDefEqProofs (disch := omega) only [Nat.reduceEqDiff, ↓reduceIte, vcu, ↓vcd, fr27_2, fr27_3, fr27_6, fr27_7, fr27_8, fr27_9, fr27_10]
    refine (hdd _).mono ?_
    rintro _ _ ⟨rfl, rfl⟩
    rename_i A54
    simp -implicitDefEqProofs (disch := omega) only [Nat.reduceEqDiff, ↓reduceIte, vcu, ↓vcd, opK_some]
    refine ⟨.inl rfl, ?_⟩
    refine tree_one rfl ?_
    try simp -implicitDefEqProofs (disch := omega) only [Nat.reduceEqDiff, ↓reduceIte, vcu, ↓vcd, fr27_2, fr27_3, fr27_6, fr27_7, fr27_8, fr27_9, fr27_10]
    refine (him _ _ _ ⟨w49a, w49b, rfl, p49a.texts, p49b.tris⟩).mono ?_
    rintro _ A55 ⟨_, rfl, a55, y1, y2, rfl, oy1, oy2⟩
    have own55 : OwnX M44 A55 (exV y1 y2 f) f := OwnX.older ⟨y1, y2, rfl, oy1, oy2⟩ B54
    have ownp : OwnX A54 A55 (exV y1 y2 f) f := ⟨y1, y2, rfl, oy1, oy2⟩
    have hone := exC_one own55
    unfold exV
    simp -implicitDefEqProofs (disch := omega) only [Nat.reduceEqDiff, ↓reduceIte, vcu, ↓vcd, opK_some]
    have B55 := B54.trans a55
    have ep55 := a55 _ _ ep54
    refine ⟨keep_of rfl (fun p hp => by simp only [List.mem_singleton] at hp; subst hp; exact .inr B55), ?_⟩
    refine tree_quiets _ _ _ _ sf0 (by kernel_rfl) (by kernel_rfl) ?_
    simp -implicitDefEqProofs (disch := omega) only [Nat.reduceEqDiff, ↓reduceIte, vcu, ↓vcd, pickOps_nil, pickOps_cons, pickO_some, List.getElem?_cons_succ, List.getElem?_cons_zero, List.getElem?_toArray, List.getElem?_cons_zero, List.getElem?_cons_succ]
    refine tree_one rfl ?_
    refine r_sets (g := p) (i := 0) (C := [.int .i64 0, .int .i64 0, .int .i64 0, .slice none 0 0, .slice none 0 0]) z9q z9co33 (by simp -implicitDefEqProofs (disch := omega) only [Nat.reduceEqDiff, ↓reduceIte, vcu, ↓vcd]; exact hone) z9z ep55 z9l fun T3 k3 e3 => ?_
    replace e3 : T3 p = some ⟨[.int .i64 f.s.O, .int .i64 f.s.E, .int .i64 f.s.M, y1, y2], false⟩ := e3
    have P3 : Sub M44 T3 := k3.sub B55 fp
    have own9 : OwnX M44 T3 (exV y1 y2 f) f := (ownp.kept k3 ep54).older B54
    have d1 : ∀ n z, y1 ≠ .slice (some ⟨p, 0, none⟩) n z := by
     rintro n z rfl
     rcases oy1 with ⟨h, _⟩ | ⟨g, h, hg, hn⟩ <;> cases h
     rw [ep54] at hn; cases hn
    have d2 : ∀ n z, y2 ≠ .slice (some ⟨p, 0, none⟩) n z := by
     rintro n z rfl
     rcases oy2 with ⟨h, _⟩ | ⟨g, h, hg, hn⟩ <;> cases h
     rw [ep54] at hn; cases hn
    try simp -implicitDefEqProofs (disch := omega) only [Nat.reduceEqDiff, ↓reduceIte, vcu, ↓vcd]
    refine ⟨keep_of rfl (fun p hp => by simp only [List.mem_singleton] at hp; subst hp; exact .inr P3), ?_⟩
    refine tree_quiets _ _ _ _ sf0 (by kernel_rfl) (by kernel_rfl) ?_
    simp -implicitDefEqProofs (disch := omega) only [Nat.reduceEqDiff, ↓reduceIte, vcu, ↓vcd, pickOps_nil, pickOps_cons, pickO_some, List.getElem?_cons_succ, List.getElem?_cons_zero]
    refine tree_stop ?_
    exact ⟨by first | trivial | rfl, ⟨by first | trivial | rfl | simp -implicitDefEqProofs (disch := omega) only [Nat.reduceEqDiff, ↓reduceIte, vcu, ↓vcd] | simp -implicitDefEqProofs (disch := omega) only [Nat.reduceEqDiff, ↓reduceIte, vcu, ↓vcd, fr27_2, fr27_3, fr27_6, fr27_7, fr27_8, fr27_9, fr27_10], by first | trivial | rfl | simp -implicitDefEqProofs (disch := omega) only [Nat.reduceEqDiff, ↓reduceIte, vcu, ↓vcd] | simp -implicitDefEqProofs (disch := omega) only [Nat.reduceEqDiff, ↓reduceIte, vcu, ↓vcd, fr27_2, fr27_3, fr27_6, fr27_7, fr27_8, fr27_9, fr27_10], by first | trivial | rfl | simp -implicitDefEqProofs (disch := omega) only [Nat.reduceEqDiff, ↓reduceIte, vcu, ↓vcd] | simp -implicitDefEqProofs (disch := omega) only [Nat.reduceEqDiff, ↓reduceIte, vcu, ↓vcd, fr27_2, fr27_3, fr27_6, fr27_7, fr27_8, fr27_9, fr27_10], by first | trivial | rfl | simp -implicitDefEqProofs (disch := omega) only [Nat.reduceEqDiff, ↓reduceIte, vcu, ↓vcd] | simp -implicitDefEqProofs (disch := omega) only [Nat.reduceEqDiff, ↓reduceIte, vcu, ↓vcd, fr27_2, fr27_3, fr27_6, fr27_7, fr27_8, fr27_9, fr27_10]⟩, p, y1, y2, by first | trivial | rfl | simp -implicitDefEqProofs (disch := omega) only [Nat.reduceEqDiff, ↓reduceIte, vcu, ↓vcd] | simp -implicitDefEqProofs (disch := omega) only [Nat.reduceEqDiff, ↓reduceIte, vcu, ↓vcd, fr27_2, fr27_3, fr27_6, fr27_7, fr27_8, fr27_9, fr27_10], by first | trivial | rfl | simp -implicitDefEqProofs (disch := omega) only [Nat.reduceEqDiff, ↓reduceIte, vcu, ↓vcd] | simp -implicitDefEqProofs (disch := omega) only [Nat.reduceEqDiff, ↓reduceIte, vcu, ↓vcd, fr27_2, fr27_3, fr27_6, fr27_7, fr27_8, fr27_9, fr27_10], P3, e3, own9, fp, d1, d2⟩
  ·try simp -implicitDefEqProofs (disch := omega) only [Nat.reduceEqDiff, ↓reduceIte, vcu, ↓vcd, fr27_2, fr27_3, fr27_6, fr27_7, fr27_8, fr27_9, fr27_10]
   refine r_new ze33 fun p A56 np a56 ep56 => ?_
   replace ep56 : A56 p = some ⟨[.int .i64 0, .int .i64 0, .int .i64 0, .slice none 0 0, .slice none 0 0], false⟩ := ep56
   try simp -implicitDefEqProofs (disch := omega) only [Nat.reduceEqDiff, ↓reduceIte, vcu, ↓vcd]
   have fp := free_sub (Sub.refl M44) np
   have B56 := (Sub.refl M44).trans a56
   refine ⟨keep_of rfl (fun p hp => by simp only [List.mem_singleton] at hp; subst hp; exact .inr B56), ?_⟩
   refine tree_one rfl ?_
   try simp -implicitDefEqProofs (disch := omega) only [Nat.reduceEqDiff, ↓reduceIte, vcu, ↓vcd, fr27_2, fr27_3, fr27_6, fr27_7, fr27_8, fr27_9, fr27_10]
   refine (hto _ (sa.trans B56)).mono ?_
   rintro _ A57 ⟨a57, w57a, w57b, rfl, p57a, p57b⟩
   try simp -implicitDefEqProofs (disch := omega) only [Nat.reduceEqDiff, ↓reduceIte, vcu, ↓vcd, opK_some, exV]
   have B57 := B56.trans a57
   have ep57 := a57 _ _ ep56
   refine ⟨keep_of rfl (fun p hp => by simp only [List.mem_singleton] at hp; subst hp; exact .inr B57), ?_⟩
   refine tree_one rfl ?_
   try simp -implicitDefEqProofs (disch := omega) only [Nat.reduceEqDiff, ↓reduceIte, vcu, ↓vcd, fr27_2, fr27_3, fr27_6, fr27_7, fr27_8, fr27_9, fr27_10]
   refine (hdd _).mono ?_
   rintro _ _ ⟨rfl, rfl⟩
   rename_i A57
   simp -implicitDefEqProofs (disch := omega) only [Nat.reduceEqDiff, ↓reduceIte, vcu, ↓vcd, opK_some]
   refine ⟨.inl rfl, ?_⟩
   refine tree_one rfl ?_
   try simp -implicitDefEqProofs (disch := omega) only [Nat.reduceEqDiff, ↓reduceIte, vcu, ↓vcd, fr27_2, fr27_3, fr27_6, fr27_7, fr27_8, fr27_9, fr27_10]
   refine (him _ _ _ ⟨w57a, w57b, rfl, p57a.texts, p57b.tris⟩).mono ?_
   rintro _ A58 ⟨_, rfl, a58, y1, y2, rfl, oy1, oy2⟩
   have own58 : OwnX M44 A58 (exV y1 y2 f) f := OwnX.older ⟨y1, y2, rfl, oy1, oy2⟩ B57
   have ownp : OwnX A57 A58 (exV y1 y2 f) f := ⟨y1, y2, rfl, oy1, oy2⟩
   have hone := exC_one own58
   unfold exV
   simp -implicitDefEqProofs (disch := omega) only [Nat.reduceEqDiff, ↓reduceIte, vcu, ↓vcd, opK_some]
   have B58 := B57.trans a58
   have ep58 := a58 _ _ ep57
   refine ⟨keep_of rfl (fun p hp => by simp only [List.mem_singleton] at hp; subst hp; exact .inr B58), ?_⟩
   refine tree_quiets _ _ _ _ sf0 (by kernel_rfl) (by kernel_rfl) ?_
   simp -implicitDefEqProofs (disch := omega) only [Nat.reduceEqDiff, ↓reduceIte, vcu, ↓vcd, pickOps_nil, pickOps_cons, pickO_some, List.getElem?_cons_succ, List.getElem?_cons_zero, List.getElem?_toArray, List.getElem?_cons_zero, List.getElem?_cons_succ]
   refine tree_one rfl ?_
   refine r_sets (g := p) (i := 0) (C := [.int .i64 0, .int .i64 0, .int .i64 0, .slice none 0 0, .slice none 0 0]) z9q z9co33 (by simp -implicitDefEqProofs (disch := omega) only [Nat.reduceEqDiff, ↓reduceIte, vcu, ↓vcd]; exact hone) z9z ep58 z9l fun T3 k3 e3 => ?_
   replace e3 : T3 p = some ⟨[.int .i64 f.s.O, .int .i64 f.s.E, .int .i64 f.s.M, y1, y2], false⟩ := e3
   have P3 : Sub M44 T3 := k3.sub B58 fp
   have own9 : OwnX M44 T3 (exV y1 y2 f) f := (ownp.kept k3 ep57).older B57
   have d1 : ∀ n z, y1 ≠ .slice (some ⟨p, 0, none⟩) n z := by
    rintro n z rfl
    rcases oy1 with ⟨h, _⟩ | ⟨g, h, hg, hn⟩ <;> cases h
    rw [ep57] at hn; cases hn
   have d2 : ∀ n z, y2 ≠ .slice (some ⟨p, 0, none⟩) n z := by
    rintro n z rfl
    rcases oy2 with ⟨h, _⟩ | ⟨g, h, hg, hn⟩ <;> cases h
    rw [ep57] at hn; cases hn
   try simp -implicitDefEqProofs (disch := omega) only [Nat.reduceEqDiff, ↓reduceIte, vcu, ↓vcd]
   refine ⟨keep_of rfl (fun p hp => by simp only [List.mem_singleton] at hp; subst hp; exact .inr P3), ?_⟩
   refine tree_quiets _ _ _ _ sf0 (by kernel_rfl) (by kernel_rfl) ?_
   simp -implicitDefEqProofs (disch := omega) only [Nat.reduceEqDiff, ↓reduceIte, vcu, ↓vcd, pickOps_nil, pickOps_cons, pickO_some, List.getElem?_cons_succ, List.getElem?_cons_zero]
   refine tree_stop ?_
   exact ⟨by first | trivial | rfl, ⟨by first | trivial | rfl | simp -implicitDefEqProofs (disch := omega) only [Nat.reduceEqDiff, ↓reduceIte, vcu, ↓vcd] | simp -implicitDefEqProofs (disch := omega) only [Nat.reduceEqDiff, ↓reduceIte, vcu, ↓vcd, fr27_2, fr27_3, fr27_6, fr27_7, fr27_8, fr27_9, fr27_10], by first | trivial | rfl | simp -implicitDefEqProofs (disch := omega) only [Nat.reduceEqDiff, ↓reduceIte, vcu, ↓vcd] | simp -implicitDefEqProofs (disch := omega) only [Nat.reduceEqDiff, ↓reduceIte, vcu, ↓vcd, fr27_2, fr27_3, fr27_6, fr27_7, fr27_8, fr27_9, fr27_10], by first | trivial | rfl | simp -implicitDefEqProofs (disch := omega) only [Nat.reduceEqDiff, ↓reduceIte, vcu, ↓vcd] | simp -implicitDefEqProofs (disch := omega) only [Nat.reduceEqDiff, ↓reduceIte, vcu, ↓vcd, fr27_2, fr27_3, fr27_6, fr27_7, fr27_8, fr27_9, fr27_10], by first | trivial | rfl | simp -implicitDefEqProofs (disch := omega) only [Nat.reduceEqDiff, ↓reduceIte, vcu, ↓vcd] | simp -implicitDefEqProofs (disch := omega) only [Nat.reduceEqDiff, ↓reduceIte, vcu, ↓vcd, fr27_2, fr27_3, fr27_6, fr27_7, fr27_8, fr27_9, fr27_10]⟩, p, y1, y2, by first | trivial | rfl | simp -implicitDefEqProofs (disch := omega) only [Nat.reduceEqDiff, ↓reduceIte, vcu, ↓vcd] | simp -implicitDefEqProofs (disch := omega) only [Nat.reduceEqDiff, ↓reduceIte, vcu, ↓vcd, fr27_2, fr27_3, fr27_6, fr27_7, fr27_8, fr27_9, fr27_10], by first | trivial | rfl | simp -implicitDefEqProofs (disch := omega) only [Nat.reduceEqDiff, ↓reduceIte, vcu, ↓vcd] | simp -implicitDefEqProofs (disch := omega) only [Nat.reduceEqDiff, ↓reduceIte, vcu, ↓vcd, fr27_2, fr27_3, fr27_6, fr27_7, fr27_8, fr27_9, fr27_10], P3, e3, own9, fp, d1, d2⟩
 rintro _ a59 T59 ⟨rfl, ⟨fr59_6, fr59_7, fr59_9, fr59_12⟩, ch, u59a, u59b, fr59_14, fr59_15, r59, eh, ⟨p59a', p59b', pe, p59a, p59b⟩, nh, ddha, ddhb⟩
 unfold exV at pe
 cases pe
 replace sa := sa.trans r59
 replace sw := sw.trans r59
 replace sg := sg.trans r59
 have sh : Sub T59 T59 := Sub.refl _
 have l60 : lds T59 ch 0 5 = some [.int .i64 f.s.O, .int .i64 f.s.E, .int .i64 f.s.M, u59a, u59b] := by rw [lds_of (sh _ _ eh) (by simp)]; rfl
 have l61 : lds T59 cw 0 5 = some [.int .i64 f.s.O, .int .i64 f.s.E, .int .i64 f.s.M, u15a, u15b] := by rw [lds_of (sw _ _ ew) (by simp)]; rfl
 have h62 := eqEx_calls (w0 := w0) T59 (exV u59a u59b f) (exV u15a u15b f) f f ⟨u59a, u59b, rfl, (p59a.sub sh).texts, (p59b.sub sh).tris⟩ ⟨u15a, u15b, rfl, (p15a.sub sw).texts, (p15b.sub sw).tris⟩ hB hB
 unfold exV at h62
 simp -implicitDefEqProofs (disch := omega) only [Nat.reduceEqDiff, ↓reduceIte, vcu, ↓vcd, fr59_6, fr59_7, fr59_9, fr59_12, fr59_14, fr59_15, l60, l61, co33, co27, co52, co48]
 refine (h62).mono ?_
 rintro _ _ ⟨rfl, rfl⟩
 rename_i T59
 simp -implicitDefEqProofs (disch := omega) only [Nat.reduceEqDiff, ↓reduceIte, vcu, ↓vcd, opK_some, List.getElem?_toArray, List.getElem?_cons_zero, List.getElem?_cons_succ, eq_self, decide_true, Bool.not_true, beq_self_eq_true, ne_eq, not_true_eq_false, fr59_6, fr59_7, fr59_9, fr59_12, fr59_14, fr59_15]
 have l64 : lds T59 cg 0 5 = some [.int .i64 f.s.O, .int .i64 f.s.E, .int .i64 f.s.M, u27a, u27b] := by rw [lds_of (sg _ _ eg) (by simp)]; rfl
 simp -implicitDefEqProofs (disch := omega) only [Nat.reduceEqDiff, ↓reduceIte, vcu, ↓vcd, opK_some, fr59_6, fr59_7, fr59_9, fr59_12, fr59_14, fr59_15, l64, co33, co27, co52, co48]
 have h63 := heldEx_calls (w0 := w0) T59 (exV u27a u27b f) f 1 (om.ex.sub sg) hB (by omega)
 unfold exV at h63
 refine h63.mono ?_
 rintro r _ ⟨hr, rfl⟩
 rename_i T59
 rw [hqm] at hr
 subst hr
 simp -implicitDefEqProofs (disch := omega) only [Nat.reduceEqDiff, ↓reduceIte, vcu, ↓vcd, hq0, fr59_6, fr59_7, fr59_9, fr59_12, fr59_14, fr59_15, opK_some, List.getElem?_toArray, List.getElem?_cons_zero, List.getElem?_cons_succ, eq_self, decide_true, Bool.not_true, beq_self_eq_true, ne_eq, not_true_eq_false]
 refine fin_one Try.results7 ?_
 simp -implicitDefEqProofs (disch := omega) only [Nat.reduceEqDiff, ↓reduceIte, vcu, ↓vcd]

open Go.ChangeShapes Go.WideShapes Go.ChangeAt Go.RowKit

set_option maxRecDepth 100000 in
theorem lifted7 (os : Os) (started : os.Started) (H : Type) (enc : TypeId × Value → H) :
  ReturnsInHanded {} Try.checked os 7 .any (Rows.fnExactExDoSpec.pre6 enc Try.prog Try.f7 Rows.fnExactExDoRow.domain false) (Rows.fnExactExDoSpec.post enc Try.prog Try.f7 false true false false) := by
 refine returnsInHanded_of_change (C := Try.checked) own started (by kernel_rfl) Try.func7
  (ChangeSpec.witness6 (enc := enc) (C := Try.checked) false ⟨#[], #[.agg #[.int .i64 0, .int .i64 0, .int .i64 0, .slice none 0 0, .slice none 0 0], .agg #[.int .i64 0, .int .i64 0, .string ⟨#[]⟩]], []⟩ 8 (by kernel_rfl) (by kernel_rfl) (by kernel_rfl) (by kernel_rfl)) ?_
 intro W base args ds gs before hval hW _ _
 have hW' := hW
 obtain ⟨p, q, hA, hV, -, -, -⟩ := hW'
 rw [Try.params7] at hA hval
 obtain ⟨v0, vs0, d0, ds0, p0, q0, hargs, rfl, rfl, h0, r0⟩ := trodAll_cons hA
 obtain ⟨v1, vs1, d1, ds1, p1, q1, rfl, rfl, rfl, h1, r1⟩ := trodAll_cons r0
 obtain ⟨rfl, rfl, rfl⟩ := trodAll_nil r1
 obtain ⟨rfl, rfl⟩ := trodVars_none hV
 obtain rfl : args = #[v0, v1] := by cases args; simp_all
 obtain ⟨β0, σ0, acs0, dd0, L0, U0, S0, R0, Y0⟩ := start_rec (m := 5) (s := .rcd [.rcd [.int .i64, .int .i64, .int .i64], .slc .str, .slc (.rcd [.int .i64, .int .i64, .int .i64])]) (by kernel_rfl) Try.underlying27 (Start.start W) (hval 0 27 v0 rfl rfl) h0
 obtain ⟨x0, y0, z0, a0, b0, zs0, us0, rfl, E0⟩ := lay_exch Y0
 obtain ⟨β1, σ1, acs1, dd1, L1, U1, S1, R1, Y1⟩ := start_rec (m := 4) (s := .rcd [.int .i64, .int .i64, .str]) (by kernel_rfl) Try.underlying48 S0 (hval 1 48 v1 rfl rfl) h1
 obtain ⟨c1, rfl, w1⟩ := lay_deed Y1
 refine ((law8ED σ1 x0 y0 z0 a0 b0 zs0 us0 c1 (E0.sub U1) w1).2 noProt β1 W [v0, v1] S1.rel (.cons (RelV.mono L1 R0) (.cons R1 (.nil _)))).mono fun e W' h => ?_
 obtain ⟨β', r, r', σ', -, rfl, hr, hrel, rfl⟩ := h
 cases hr
 exact ⟨_, rfl, law_post laidOut hW rfl rfl (by rw [Try.params7]; intro t ht; simp only [List.mem_cons, List.not_mem_nil, or_false, or_self] at ht; rcases ht with rfl | rfl <;> exact ⟨by kernel_rfl, of_decide_eq_true (by kernel_rfl)⟩) rfl Try.underlying4 hrel.below⟩

theorem facts7 : joinedFacts Try.prog 7 Try.f7 Rows.fnExactExDoSpec Rows.fnExactExDoRow = true := by
 unfold joinedFacts
 rw [mayE, liftsE, makeE]
 kernel_rfl

theorem proved7 : Rows.FnExactExDoSaid :=
 OpenClaim.holds_of_wide 7 Try.f7 rfl rfl rfl rfl rfl rfl rfl ⟨rfl, rfl, rfl, rfl, rfl⟩ rfl rfl rfl rfl rfl (by kernel_rfl) Try.func7 facts7 (of_decide_eq_true (by kernel_rfl))
  (by unfold Func.isWrapper; first | (rw [if_pos (by decide +kernel)]; kernel_rfl) | (rw [if_neg (by decide +kernel)]; exact ⟨rfl, rfl⟩))
  (fun os started H enc _ => lifted7 os started H enc)


end Go.Proofs.Ytafkndnmhhjdhaa
