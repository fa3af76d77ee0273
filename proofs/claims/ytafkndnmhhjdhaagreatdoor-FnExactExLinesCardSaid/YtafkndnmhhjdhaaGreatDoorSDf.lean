/- Parts. -/
import Derived.Test.YtafkndnmhhjdhaaGreatDoorSDe
set_option linter.unusedSimpArgs false
set_option linter.unusedVariables false
set_option linter.unusedSectionVars false
namespace Go.Proofs.YtafkndnmhhjdhaaGreatDoor
open Go Go.Abs Go.RowKit Go.Dial Go.Clos
variable {w0 : World}
theorem joinT_len {ps : List (List UInt8)} (h : ∀ x ∈ ps, x.length ≤ 1048576) : ∀ k, (joinT ps k).length ≤ 1048577 * (k + 1)
 | 0 => by
  have : (ps.getD 0 []).length ≤ 1048576 := by
   by_cases h0 : 0 < ps.length
   ·exact h _ (by simp [List.getD, h0])
   ·have : ps = [] := List.eq_nil_of_length_eq_zero (by omega)
    subst this; simp
  show (ps.getD 0 []).length ≤ _; omega
 | k + 1 => by
  have ih := joinT_len h k
  have : (ps.getD (k + 1) []).length ≤ 1048576 := by
   by_cases h0 : k + 1 < ps.length
   ·exact h _ (by simp [List.getD, h0])
   ·simp [List.getD, List.getElem?_eq_none (show ps.length ≤ k + 1 by omega)]
  show (joinT ps k ++ ([44] ++ ps.getD (k + 1) [])).length ≤ _
  rw [List.length_append, List.length_append, List.length_singleton]; omega
theorem kept_erase {σ τ : AHeap} {h : Nat} (hk : Kept h σ τ) : Sub (σ.upd h none) τ := fun x o e => by
 by_cases hx : x = h
 ·subst hx; rw [AHeap.upd_same] at e; cases e
 ·rw [AHeap.upd_ne _ _ hx] at e; exact hk x o hx e
theorem ownX_store {β σ τ υ : AHeap} {v : Value} {e : Ex} {p : Nat} (h : OwnX β σ v e) (hp : σ p = none) (hs : Sub σ τ) (hk : Kept p τ υ) : OwnX β υ v e := by
 obtain ⟨v1, v2, rfl, h1, h2⟩ := h
 exact ⟨v1, v2, rfl, h1.imp id fun ⟨g, a, b, c⟩ => ⟨g, a, hk.at (hs _ _ b) (ne_of' hp b), c⟩, h2.imp id fun ⟨g, a, b, c⟩ => ⟨g, a, hk.at (hs _ _ b) (ne_of' hp b), c⟩⟩
theorem peerS_lt {s : Sp} {cs : List Cl} (h : CV s cs) {x : Int} : peerS cs x ≤ 11 := by
 have hL := h.1.lines
 rcases peerS_spec cs x with hh | ⟨hh, _⟩
 ·have := (Pr.lines h hh).2; omega
 ·omega
theorem viaS_lt {s : Sp} : ∀ {cs : List Cl}, (∀ c ∈ cs, Rg s c) → SV s → ∀ {x : Int}, viaS cs x ≤ 4
 | [], _, _, x => by simp [viaS]
 | c :: cs, h, hS, x => by
  unfold viaS
  split
  ·have := (h c (by simp)).2.2.2; have := hS.2.2.2; omega
  ·exact viaS_lt (fun d hd => h d (by simp [hd])) hS
set_option maxRecDepth 8000 in
set_option maxHeartbeats 3200000 in
theorem exLine_calls (σ : AHeap) (v : Value) (e : Ex) (t : List UInt8) (hv : ExV σ v e) (hb : ExB e) (hl : t.length ≤ 1048576) :
  ACall Tryz.prog w0 6 [v, .string (tx t)] σ fun r σ' => ∃ w, r = .tuple #[w, .string (tx (exLine e t).2)] ∧ Sub σ σ' ∧ OwnX σ σ' w (exLine e t).1 := by
 have hv0 := hv
 obtain ⟨v1, v2, rfl, t1, t2⟩ := hv
 unfold exV
 refine acall_goc mixed Tryz.func6 rfl goodc6 fun pr => ?_
 simp -implicitDefEqProofs (disch := omega) only [Nat.reduceEqDiff, ↓reduceIte, vcu, ↓vcd]
 refine r_boxed fun b τ1 nb s1 eb => ?_
 replace eb : τ1 b = some ⟨[.int .i64 e.s.O, .int .i64 e.s.E, .int .i64 e.s.M, v1, v2], false⟩ := eb
 refine r_new ze32 fun h4 τ3 n4 s3 e4 => ?_
 replace e4 : τ3 h4 = some ⟨[.int .i64 0, .int .i64 0, .int .i64 0, .slice none 0 0, .slice none 0 0], false⟩ := e4
 have nb4 : b ≠ h4 := ne_of' n4 eb
 replace eb := s3 _ _ eb
 have S3 : Sub σ τ3 := s1.trans s3
 have z4 : σ h4 = none := free_sub s1 n4
 have hX3 := hv0.sub S3
 have x5 : lds τ3 b 0 5 = some [.int .i64 e.s.O, .int .i64 e.s.E, .int .i64 e.s.M, v1, v2] := by rw [lds_of eb (by simp)]; rfl
 have hval := exVal_calls (w0 := w0) τ3 _ _ hX3 hb
 unfold exV at hval
 simp -implicitDefEqProofs (disch := omega) only [Nat.reduceEqDiff, ↓reduceIte, vcu, ↓vcd, x5, co32]
 refine hval.mono ?_
 rintro _ _ ⟨rfl, rfl⟩
 rename_i τ3
 by_cases hok : ExOk e
 case neg =>
  rw [decide_eq_false hok]
  have hx : exLine e t = (ex0, []) := if_neg hok
  simp -implicitDefEqProofs (disch := omega) only [Nat.reduceEqDiff, ↓reduceIte, vcu, ↓vcd, opK_some, Bool.not_false]
  rw [r_build]
  refine ⟨(_, #[.int .i64 0, .int .i64 0, .int .i64 0, .slice none 0 0, .slice none 0 0]), ⟨ze32, by first | kernel_rfl | (simp -implicitDefEqProofs (disch := omega) only [Nat.reduceEqDiff, ↓reduceIte, vcu, ↓vcd]; kernel_rfl)⟩, ?_⟩
  simp -implicitDefEqProofs (disch := omega) only [Nat.reduceEqDiff, ↓reduceIte, vcu, ↓vcd]
  refine r_sets (g := h4) (i := 0) (C := [.int .i64 0, .int .i64 0, .int .i64 0, .slice none 0 0, .slice none 0 0]) z9q z9co32 z9r z9z e4 z9l fun T9 k9 e9 => ?_
  replace e9 : T9 h4 = some ⟨[.int .i64 0, .int .i64 0, .int .i64 0, .slice none 0 0, .slice none 0 0], false⟩ := e9
  have l9 : lds T9 h4 0 5 = some [.int .i64 0, .int .i64 0, .int .i64 0, .slice none 0 0, .slice none 0 0] := by rw [lds_of e9 (by simp)]; rfl
  simp -implicitDefEqProofs (disch := omega) only [Nat.reduceEqDiff, ↓reduceIte, vcu, ↓vcd]
  refine fin_ct8 Tryz.results6 T9 (Sub.refl _) (v := exV (.slice none 0 0) (.slice none 0 0) ex0) (by simp -implicitDefEqProofs (disch := omega) only [Nat.reduceEqDiff, ↓reduceIte, vcu, ↓vcd, l9, co32]; rfl) ⟨exV (.slice none 0 0) (.slice none 0 0) ex0, ?_, k9.sub S3 z4, ?_⟩
  ·simp -implicitDefEqProofs (disch := omega) only [Nat.reduceEqDiff, ↓reduceIte, vcu, ↓vcd]
   rw [hx]
   try rfl
  ·rw [hx]
   exact ⟨_, _, rfl, .inl ⟨rfl, rfl⟩, .inl ⟨rfl, rfl⟩⟩
 rw [decide_eq_true hok]
 obtain ⟨hE0, hP, hL, hC, hSep⟩ := id hok
 have hc12 := hC.len
 have hp10 := hP.2
 simp -implicitDefEqProofs (disch := omega) only [Nat.reduceEqDiff, ↓reduceIte, vcu, ↓vcd, opK_some, Bool.not_true]
 refine (readDeed_calls τ3 t hl).mono ?_
 rintro _ _ ⟨rfl, rfl⟩
 rename_i τ3
 unfold ddA
 simp -implicitDefEqProofs (disch := omega) only [Nat.reduceEqDiff, ↓reduceIte, vcu, ↓vcd, opK_some, List.getElem?_toArray, List.getElem?_cons_zero, List.getElem?_cons_succ]
 refine r_new ze48 fun c6 τ4 n6 s4 e6 => ?_
 replace e6 : τ4 c6 = some ⟨[.int .i64 0, .int .i64 0, .string (tx [])], false⟩ := e6
 refine r_sets (g := c6) (i := 0) (C := [.int .i64 0, .int .i64 0, .string (tx [])]) z9q z9co48 z9r z9z e6 z9l fun τ5 k5 ec => ?_
 replace ec : τ5 c6 = some ⟨[.int .i64 (rdP t).1.k, .int .i64 (rdP t).1.l, .string (tx (rdP t).1.t)], false⟩ := ec
 have S5 : Sub τ3 τ5 := k5.sub s4 n6
 simp -implicitDefEqProofs (disch := omega) only [Nat.reduceEqDiff, ↓reduceIte, vcu, ↓vcd]
 refine (cut_calls τ5 t 32 hl).mono ?_
 rintro _ τ6 ⟨gw, rfl, s6, ww, mw⟩
 have S6 := S5.trans s6
 have x56 : lds τ6 b 0 5 = some [.int .i64 e.s.O, .int .i64 e.s.E, .int .i64 e.s.M, v1, v2] := by rw [lds_of (S6 _ _ eb) (by simp)]; rfl
 have hcopy := copyX_rows (w0 := w0) τ6 (exV v1 v2 e) e (hX3.sub S6) hb
 unfold exV at hcopy
 simp -implicitDefEqProofs (disch := omega) only [Nat.reduceEqDiff, ↓reduceIte, vcu, ↓vcd, opK_some, x56, co32]
 refine hcopy.mono ?_
 rintro _ τ7 ⟨g1, g2, rfl, s7, w1, w2, m1, m2⟩
 simp -implicitDefEqProofs (disch := omega) only [Nat.reduceEqDiff, ↓reduceIte, vcu, ↓vcd, opK_some]
 refine r_new ze32 fun h9 τ8 n9 s8 e9 => ?_
 replace e9 : τ8 h9 = some ⟨[.int .i64 0, .int .i64 0, .int .i64 0, .slice none 0 0, .slice none 0 0], false⟩ := e9
 have d91 : g1 ≠ h9 := ne_of' n9 w1
 have d92 : g2 ≠ h9 := ne_of' n9 w2
 refine r_sets (g := h9) (i := 0) (C := [.int .i64 0, .int .i64 0, .int .i64 0, .slice none 0 0, .slice none 0 0]) z9q z9co32 z9r z9z e9 z9l fun T0 k9 f9 => ?_
 replace f9 : T0 h9 = some ⟨exC (.slice (some ⟨g1, 0, none⟩) e.ps.length 1) (.slice (some ⟨g2, 0, none⟩) e.cs.length 3) e, false⟩ := f9
 have SB : Sub τ3 T0 := k9.sub ((S6.trans s7).trans s8) (free_sub (S6.trans s7) n9)
 have SBw : Sub τ6 T0 := k9.sub (s7.trans s8) (free_sub s7 n9)
 have S0 := S3.trans SB
 have r1 := k9.at (s8 _ _ w1) d91
 have r2 := k9.at (s8 _ _ w2) d92
 have f4 := SB _ _ e4
 have wg := SBw _ _ ww
 replace ec := SBw _ _ (s6 _ _ ec)
 have hown : OwnX τ3 T0 (exV (.slice (some ⟨g1, 0, none⟩) e.ps.length 1) (.slice (some ⟨g2, 0, none⟩) e.cs.length 3) e) e :=
  ⟨_, _, rfl, .inr ⟨g1, rfl, r1, free_sub S6 m1⟩, .inr ⟨g2, rfl, r2, free_sub S6 m2⟩⟩
 have hX0 := hX3.sub SB
 have t10 := t1.sub S0
 have t20 := t2.sub S0
 have ln1 := lenT t10
 have ln2 := lenC t20
 have lnw := lenT (own_textsI wg)
 have y5 : ∀ T, Sub T0 T → lds T b 0 5 = some [.int .i64 e.s.O, .int .i64 e.s.E, .int .i64 e.s.M, v1, v2] := fun T h => by rw [lds_of (h _ _ (SB _ _ eb)) (by simp)]; rfl
 have y3 : ∀ T, Sub T0 T → ld T b (0 + 3) = some v1 := fun T h => ld_of (h _ _ (SB _ _ eb)) rfl
 have y4 : ∀ T, Sub T0 T → ld T b (0 + 4) = some v2 := fun T h => ld_of (h _ _ (SB _ _ eb)) rfl
 have y5s := y5 T0 (Sub.refl _)
 have l9s : lds T0 h9 0 5 = some [.int .i64 e.s.O, .int .i64 e.s.E, .int .i64 e.s.M, .slice (some ⟨g1, 0, none⟩) e.ps.length 1, .slice (some ⟨g2, 0, none⟩) e.cs.length 3] := by rw [lds_of f9 (by simp [exC])]; rfl
 have n94 : h9 ≠ h4 := ne_of n9 ((S6.trans s7) _ _ e4)
 have b0 : (T0.upd h4 none) b = some ⟨[.int .i64 e.s.O, .int .i64 e.s.E, .int .i64 e.s.M, v1, v2], false⟩ := by rw [AHeap.upd_ne _ _ nb4]; exact SB _ _ eb
 have b9 : (T0.upd h4 none) h9 = some ⟨exC (.slice (some ⟨g1, 0, none⟩) e.ps.length 1) (.slice (some ⟨g2, 0, none⟩) e.cs.length 3) e, false⟩ := by rw [AHeap.upd_ne _ _ n94]; exact f9
 have y5u : lds (T0.upd h4 none) b 0 5 = some [.int .i64 e.s.O, .int .i64 e.s.E, .int .i64 e.s.M, v1, v2] := by rw [lds_of b0 (by simp)]; rfl
 have y4u : ld (T0.upd h4 none) b (0 + 4) = some v2 := ld_of b0 rfl
 have l9u : lds (T0.upd h4 none) h9 0 5 = some [.int .i64 e.s.O, .int .i64 e.s.E, .int .i64 e.s.M, .slice (some ⟨g1, 0, none⟩) e.ps.length 1, .slice (some ⟨g2, 0, none⟩) e.cs.length 3] := by rw [lds_of b9 (by simp [exC])]; rfl
 have qni : abin Tryz.prog 9 .eql (.string (tx t)) (.string { data := #[110, 105, 103, 104, 116] }) = some (.bool (decide (t = w_night))) := abin_seql (ys := w_night)
 have qca : abin Tryz.prog 9 .eql (.string (tx t)) (.string { data := #[99, 97, 108, 108, 115] }) = some (.bool (decide (t = w_calls))) := abin_seql (ys := w_calls)
 have qpl : abin Tryz.prog 9 .eql (.string (tx t)) (.string { data := #[112, 108, 97, 110] }) = some (.bool (decide (t = w_plan))) := abin_seql (ys := w_plan)
 simp -implicitDefEqProofs (disch := omega) only [Nat.reduceEqDiff, ↓reduceIte, vcu, ↓vcd]
 by_cases hw : (cutT 32 t).length = 2
 case neg =>
  have hask : askN t = -1 := by unfold askN; rw [if_neg hw]
  cases hro : readO t with
  | some d =>
   have hrd : rdP t = (d, true) := by unfold rdP; rw [hro]
   rw [hrd] at ec
   dsimp only at ec
   have hdt : d.t.length ≤ 1048576 := by
    have := (deedT_ok (d := d) (by rw [(readO_some hro).1]; exact (readO_some hro).2)).2.2
    rcases this with h | h
    ·rw [h.2]; simp
    ·have := h.2.2.2; omega
   have hexdo := exDo_calls (w0 := w0) T0 (exV v1 v2 e) e d hX0 hb hdt
   have hE : exDo e d = (match doO e d with | some y => (y, true) | none => (e, false)) := if_pos hok
   have hLX : exLine e t = (match doO e d with | some x => (x, w_ok) | none => (e, refuse e d)) := by unfold exLine lineX; rw [if_pos hok, hro]; dsimp only; cases doO e d <;> rfl
   have lc : lds T0 c6 0 3 = some [.int .i64 d.k, .int .i64 d.l, .string (tx d.t)] := lds_three (ld_of ec rfl) (ld_of ec rfl) (ld_of ec rfl)
   have c0 : ∀ T, Sub T0 T → ld T c6 0 = some (.int .i64 d.k) := fun T h => ld_of (h _ _ ec) rfl
   have c1 : ∀ T, Sub T0 T → ld T c6 1 = some (.int .i64 d.l) := fun T h => ld_of (h _ _ ec) rfl
   have c2 : ∀ T, Sub T0 T → ld T c6 2 = some (.string (tx d.t)) := fun T h => ld_of (h _ _ ec) rfl
   have hline := fun (T : AHeap) (h : Sub T0 T) => lineOf_calls (w0 := w0) T (exV v1 v2 e) e d.t (hX0.sub h) hb
   rw [show lineV e d.t = lineS e.ps d.t from if_pos hok] at hline
   generalize hyb : exDo e d = yb at hexdo hE
   obtain ⟨y, bo⟩ := yb
   unfold ddA exV at hexdo
   unfold exV at hline
   dsimp only at hexdo
   have htt : (rdP t).2 = true := by rw [hrd]
   simp -implicitDefEqProofs (disch := omega) only [Nat.reduceEqDiff, ↓reduceIte, vcu, ↓vcd, hrd, y5s, lc, co32, co48]
   refine hexdo.mono ?_
   rintro _ T1 ⟨_, rfl, p1, y1, y2, rfl, oy1, oy2⟩
   have hoy : OwnX T0 T1 (exV y1 y2 y) y := ⟨y1, y2, rfl, oy1, oy2⟩
   have hone := exC_one hoy
   unfold exV
   simp -implicitDefEqProofs (disch := omega) only [Nat.reduceEqDiff, ↓reduceIte, vcu, ↓vcd, opK_some, List.getElem?_toArray, List.getElem?_cons_zero, List.getElem?_cons_succ]
   refine r_new ze32 fun p T2 np sp ep => ?_
   replace ep : T2 p = some ⟨[.int .i64 0, .int .i64 0, .int .i64 0, .slice none 0 0, .slice none 0 0], false⟩ := ep
   refine r_sets (g := p) (i := 0) (C := [.int .i64 0, .int .i64 0, .int .i64 0, .slice none 0 0, .slice none 0 0]) z9q z9co32 (by simp -implicitDefEqProofs (disch := omega) only [Nat.reduceEqDiff, ↓reduceIte, vcu, ↓vcd]; exact hone) z9z ep z9l fun T3 k3 e3 => ?_
   replace e3 : T3 p = some ⟨exC y1 y2 y, false⟩ := e3
   have P2 := p1.trans sp
   have P3 : Sub T0 T3 := k3.sub P2 (free_sub p1 np)
   have hoy3 : OwnX T0 T3 (exV y1 y2 y) y := ⟨y1, y2, rfl, (oy1.sub sp).imp id fun ⟨g, a1, a2, a3⟩ => ⟨g, a1, k3.at a2 (by
     rcases oy1 with ⟨h, _⟩ | ⟨g', h, h2, _⟩
     ·rw [a1] at h; cases h
     ·rw [a1] at h; cases h; exact ne_of' np h2), a3⟩, (oy2.sub sp).imp id fun ⟨g, a1, a2, a3⟩ => ⟨g, a1, k3.at a2 (by
     rcases oy2 with ⟨h, _⟩ | ⟨g', h, h2, _⟩
     ·rw [a1] at h; cases h
     ·rw [a1] at h; cases h; exact ne_of' np h2), a3⟩⟩
   have f43 := P3 _ _ f4
   have lp : lds T3 p 0 5 = some [.int .i64 y.s.O, .int .i64 y.s.E, .int .i64 y.s.M, y1, y2] := by rw [lds_of e3 (by simp [exC])]; rfl
   cases hdo : doO e d with
   | some y' =>
    rw [hdo] at hE
    cases hE
    have hx : exLine e t = (y, w_ok) := by rw [hLX, hdo]
    simp -implicitDefEqProofs (disch := omega) only [Nat.reduceEqDiff, ↓reduceIte, vcu, ↓vcd, lp, co32]
    have hone9 := exC_one hoy3
    try simp -implicitDefEqProofs (disch := omega) only [Nat.reduceEqDiff, ↓reduceIte, vcu, ↓vcd, lp, co32]
    refine r_sets (g := h4) (i := 0) (C := [.int .i64 0, .int .i64 0, .int .i64 0, .slice none 0 0, .slice none 0 0]) z9q z9co32 (by simp -implicitDefEqProofs (disch := omega) only [Nat.reduceEqDiff, ↓reduceIte, vcu, ↓vcd]; exact hone9) z9z f43 z9l fun T9 k9 e9 => ?_
    replace e9 : T9 h4 = some ⟨exC y1 y2 y, false⟩ := e9
    have l9 : lds T9 h4 0 5 = some [.int .i64 y.s.O, .int .i64 y.s.E, .int .i64 y.s.M, y1, y2] := by rw [lds_of e9 (by simp [exC])]; rfl
    try simp -implicitDefEqProofs (disch := omega) only [Nat.reduceEqDiff, ↓reduceIte, vcu, ↓vcd]
    refine fin_ct8 Tryz.results6 T9 (Sub.refl _) (v := exV y1 y2 y) (by simp -implicitDefEqProofs (disch := omega) only [Nat.reduceEqDiff, ↓reduceIte, vcu, ↓vcd, l9, co32]; rfl) ⟨exV y1 y2 y, ?_, k9.sub (S0.trans P3) z4, ?_⟩
    ·try simp -implicitDefEqProofs (disch := omega) only [Nat.reduceEqDiff, ↓reduceIte, vcu, ↓vcd]
     rw [hx]
     try rfl
    ·rw [hx]
     exact (OwnX.kept hoy3 k9 f4).older S0
   | none =>
    rw [hdo] at hE
    cases hE
    have c03 := c0 T3 P3
    have c13 := c1 T3 P3
    have c23 := c2 T3 P3
    have y33 := y3 T3 P3
    have y53 := y5 T3 P3
    by_cases hk : d.k = 0
    case neg =>
     have dk : decide (d.k ≠ 0) = true := decide_eq_true hk
     have hx : exLine e t = (e, w_no) := by rw [hLX, hdo]; show (e, refuse e d) = _; unfold refuse; rw [if_pos (.inl hk)]
     simp -implicitDefEqProofs (disch := omega) only [Nat.reduceEqDiff, ↓reduceIte, vcu, ↓vcd, c03, dk, lp, co32]
     have hone9 := exC_one hoy3
     try simp -implicitDefEqProofs (disch := omega) only [Nat.reduceEqDiff, ↓reduceIte, vcu, ↓vcd, lp, co32]
     refine r_sets (g := h4) (i := 0) (C := [.int .i64 0, .int .i64 0, .int .i64 0, .slice none 0 0, .slice none 0 0]) z9q z9co32 (by simp -implicitDefEqProofs (disch := omega) only [Nat.reduceEqDiff, ↓reduceIte, vcu, ↓vcd]; exact hone9) z9z f43 z9l fun T9 k9 e9 => ?_
     replace e9 : T9 h4 = some ⟨exC y1 y2 e, false⟩ := e9
     have l9 : lds T9 h4 0 5 = some [.int .i64 e.s.O, .int .i64 e.s.E, .int .i64 e.s.M, y1, y2] := by rw [lds_of e9 (by simp [exC])]; rfl
     try simp -implicitDefEqProofs (disch := omega) only [Nat.reduceEqDiff, ↓reduceIte, vcu, ↓vcd]
     refine fin_ct8 Tryz.results6 T9 (Sub.refl _) (v := exV y1 y2 e) (by simp -implicitDefEqProofs (disch := omega) only [Nat.reduceEqDiff, ↓reduceIte, vcu, ↓vcd, l9, co32]; rfl) ⟨exV y1 y2 e, ?_, k9.sub (S0.trans P3) z4, ?_⟩
     ·try simp -implicitDefEqProofs (disch := omega) only [Nat.reduceEqDiff, ↓reduceIte, vcu, ↓vcd]
      rw [hx]
      try rfl
     ·rw [hx]
      exact (OwnX.kept hoy3 k9 f4).older S0
    have dk : decide (d.k ≠ 0) = false := decide_eq_false fun h => h hk
    by_cases hl2 : (e.ps.length : Int) ≤ d.l
    ·have dl : decide (d.l ≥ (e.ps.length : Int)) = true := decide_eq_true hl2
     have hx : exLine e t = (e, w_no) := by rw [hLX, hdo]; show (e, refuse e d) = _; unfold refuse; rw [if_pos (.inr hl2)]
     simp -implicitDefEqProofs (disch := omega) only [Nat.reduceEqDiff, ↓reduceIte, vcu, ↓vcd, c03, c13, y33, ln1, dk, dl, lp, co32]
     have hone9 := exC_one hoy3
     try simp -implicitDefEqProofs (disch := omega) only [Nat.reduceEqDiff, ↓reduceIte, vcu, ↓vcd, lp, co32]
     refine r_sets (g := h4) (i := 0) (C := [.int .i64 0, .int .i64 0, .int .i64 0, .slice none 0 0, .slice none 0 0]) z9q z9co32 (by simp -implicitDefEqProofs (disch := omega) only [Nat.reduceEqDiff, ↓reduceIte, vcu, ↓vcd]; exact hone9) z9z f43 z9l fun T9 k9 e9 => ?_
     replace e9 : T9 h4 = some ⟨exC y1 y2 e, false⟩ := e9
     have l9 : lds T9 h4 0 5 = some [.int .i64 e.s.O, .int .i64 e.s.E, .int .i64 e.s.M, y1, y2] := by rw [lds_of e9 (by simp [exC])]; rfl
     try simp -implicitDefEqProofs (disch := omega) only [Nat.reduceEqDiff, ↓reduceIte, vcu, ↓vcd]
     refine fin_ct8 Tryz.results6 T9 (Sub.refl _) (v := exV y1 y2 e) (by simp -implicitDefEqProofs (disch := omega) only [Nat.reduceEqDiff, ↓reduceIte, vcu, ↓vcd, l9, co32]; rfl) ⟨exV y1 y2 e, ?_, k9.sub (S0.trans P3) z4, ?_⟩
     ·try simp -implicitDefEqProofs (disch := omega) only [Nat.reduceEqDiff, ↓reduceIte, vcu, ↓vcd]
      rw [hx]
      try rfl
     ·rw [hx]
      exact (OwnX.kept hoy3 k9 f4).older S0
    have dl : decide (d.l ≥ (e.ps.length : Int)) = false := decide_eq_false hl2
    have hrf : refuse e d = if lineS e.ps d.t < 0 then w_wrong else w_busy := by unfold refuse; rw [if_neg (by rintro (h | h) <;> first | exact h hk | exact hl2 h)]
    simp -implicitDefEqProofs (disch := omega) only [Nat.reduceEqDiff, ↓reduceIte, vcu, ↓vcd, c03, c13, c23, y33, y53, ln1, dk, dl, co32]
    refine (hline T3 P3).mono ?_
    rintro _ _ ⟨rfl, rfl⟩
    rename_i T3
    by_cases hln : lineS e.ps d.t < 0
    ·have dn : decide (lineS e.ps d.t < 0) = true := decide_eq_true hln
     have hx : exLine e t = (e, w_wrong) := by rw [hLX, hdo]; show (e, refuse e d) = _; rw [hrf, if_pos hln]
     simp -implicitDefEqProofs (disch := omega) only [Nat.reduceEqDiff, ↓reduceIte, vcu, ↓vcd, opK_some, dn, lp, co32]
     have hone9 := exC_one hoy3
     try simp -implicitDefEqProofs (disch := omega) only [Nat.reduceEqDiff, ↓reduceIte, vcu, ↓vcd, lp, co32]
     refine r_sets (g := h4) (i := 0) (C := [.int .i64 0, .int .i64 0, .int .i64 0, .slice none 0 0, .slice none 0 0]) z9q z9co32 (by simp -implicitDefEqProofs (disch := omega) only [Nat.reduceEqDiff, ↓reduceIte, vcu, ↓vcd]; exact hone9) z9z f43 z9l fun T9 k9 e9 => ?_
     replace e9 : T9 h4 = some ⟨exC y1 y2 e, false⟩ := e9
     have l9 : lds T9 h4 0 5 = some [.int .i64 e.s.O, .int .i64 e.s.E, .int .i64 e.s.M, y1, y2] := by rw [lds_of e9 (by simp [exC])]; rfl
     try simp -implicitDefEqProofs (disch := omega) only [Nat.reduceEqDiff, ↓reduceIte, vcu, ↓vcd]
     refine fin_ct8 Tryz.results6 T9 (Sub.refl _) (v := exV y1 y2 e) (by simp -implicitDefEqProofs (disch := omega) only [Nat.reduceEqDiff, ↓reduceIte, vcu, ↓vcd, l9, co32]; rfl) ⟨exV y1 y2 e, ?_, k9.sub (S0.trans P3) z4, ?_⟩
     ·try simp -implicitDefEqProofs (disch := omega) only [Nat.reduceEqDiff, ↓reduceIte, vcu, ↓vcd]
      rw [hx]
      try rfl
     ·rw [hx]
      exact (OwnX.kept hoy3 k9 f4).older S0
    have dn : decide (lineS e.ps d.t < 0) = false := decide_eq_false hln
    have hx : exLine e t = (e, w_busy) := by rw [hLX, hdo]; show (e, refuse e d) = _; rw [hrf, if_neg hln]
    simp -implicitDefEqProofs (disch := omega) only [Nat.reduceEqDiff, ↓reduceIte, vcu, ↓vcd, opK_some, dn, lp, co32]
    have hone9 := exC_one hoy3
    try simp -implicitDefEqProofs (disch := omega) only [Nat.reduceEqDiff, ↓reduceIte, vcu, ↓vcd, lp, co32]
    refine r_sets (g := h4) (i := 0) (C := [.int .i64 0, .int .i64 0, .int .i64 0, .slice none 0 0, .slice none 0 0]) z9q z9co32 (by simp -implicitDefEqProofs (disch := omega) only [Nat.reduceEqDiff, ↓reduceIte, vcu, ↓vcd]; exact hone9) z9z f43 z9l fun T9 k9 e9 => ?_
    replace e9 : T9 h4 = some ⟨exC y1 y2 e, false⟩ := e9
    have l9 : lds T9 h4 0 5 = some [.int .i64 e.s.O, .int .i64 e.s.E, .int .i64 e.s.M, y1, y2] := by rw [lds_of e9 (by simp [exC])]; rfl
    try simp -implicitDefEqProofs (disch := omega) only [Nat.reduceEqDiff, ↓reduceIte, vcu, ↓vcd]
    refine fin_ct8 Tryz.results6 T9 (Sub.refl _) (v := exV y1 y2 e) (by simp -implicitDefEqProofs (disch := omega) only [Nat.reduceEqDiff, ↓reduceIte, vcu, ↓vcd, l9, co32]; rfl) ⟨exV y1 y2 e, ?_, k9.sub (S0.trans P3) z4, ?_⟩
    ·try simp -implicitDefEqProofs (disch := omega) only [Nat.reduceEqDiff, ↓reduceIte, vcu, ↓vcd]
     rw [hx]
     try rfl
    ·rw [hx]
     exact (OwnX.kept hoy3 k9 f4).older S0
  | none =>
   have hrd : rdP t = (⟨0, 0, []⟩, false) := by unfold rdP; rw [hro]
   by_cases hnt : t = w_night
   ·have dn : decide (t = w_night) = true := decide_eq_true hnt
    simp -implicitDefEqProofs (disch := omega) only [Nat.reduceEqDiff, ↓reduceIte, vcu, ↓vcd, hrd, qni, dn]
    have hni' : nightV e = nightL e.cs := if_pos hok
    have hnr : exRun e (nightL e.cs) = (⟨e.s, e.ps, []⟩, e.cs.length) := by rw [exRun, if_pos hok, night_is hok]
    have hx : exLine e t = (⟨e.s, e.ps, []⟩, w_ok) := by rw [exLine, if_pos hok, hnt, lineX_night]
    have hnl : (nightL e.cs).length ≤ 1048576 := by simp [nightL]; omega
    have hnt2 : ∀ d ∈ nightL e.cs, d.t.length ≤ 1048576 := by
     intro d hd
     simp only [nightL, List.mem_map] at hd
     obtain ⟨c, _, rfl⟩ := hd
     simp
    have hnc := fun (T : AHeap) (h : Sub T0 T) => night_calls (w0 := w0) T (exV v1 v2 e) e (hX0.sub h) hb
    rw [hni'] at hnc
    have hrc := fun (T : AHeap) (h : Sub T0 T) (vd : Value) (hd : Dds T vd (nightL e.cs)) => exRun_calls (w0 := w0) T (exV v1 v2 e) vd e (nightL e.cs) (hX0.sub h) hb hd hnl hnt2
    rw [hnr] at hrc
    unfold exV at hnc hrc
    dsimp only at hrc
    refine acodeB_monoX (Q' := fun en a' T => en = .normal ∧ a' 4 = .pointer (some ⟨h4, 0, none⟩) ∧ ∃ p y1 y2, a' 13 = .pointer (some ⟨p, 0, none⟩) ∧ Sub T0 T ∧ T p = some ⟨exC y1 y2 ⟨e.s, e.ps, []⟩, false⟩ ∧ OwnX T0 T (exV y1 y2 ⟨e.s, e.ps, []⟩) ⟨e.s, e.ps, []⟩)
     (region_tree mixed (quiets [0, 1] (.two 2 (.two 3 (quiets [4, 5, 6] (.one 7 (.one 8 (quiets [9] .stop)))) 7 (.one 3 (quiets [4, 5, 6] (.one 8 (quiets [9] .stop))))) 7 (.one 2 (.one 3 (quiets [4, 5, 6] (.one 8 (quiets [9] .stop))))))) [([0, 1], Sub T0)] (by kernel_rfl) (by kernel_rfl) (fun p hp => by simp only [List.mem_singleton] at hp; subst hp; exact Sub.refl _) ?_) ?_
    ·refine tree_quiets T0 _ _ _ sf1 (by kernel_rfl) (by kernel_rfl) ?_
     simp -implicitDefEqProofs (disch := omega) only [Nat.reduceEqDiff, ↓reduceIte, vcu, ↓vcd, pickOps_nil, pickOps_cons, pickO_some, List.getElem?_cons_succ, List.getElem?_cons_zero, y5s, co32]
     refine tree_two rfl rfl ?_ ?_
     ·try simp -implicitDefEqProofs (disch := omega) only [Nat.reduceEqDiff, ↓reduceIte, vcu, ↓vcd]
      refine (hnc T0 (Sub.refl T0)).mono ?_
      rintro vd1 A1 ⟨a1, od1⟩
      try simp -implicitDefEqProofs (disch := omega) only [Nat.reduceEqDiff, ↓reduceIte, vcu, ↓vcd, opK_some]
      have B1 := Sub.trans (Sub.refl T0) a1
      refine ⟨keep_of rfl (fun p hp => by simp only [List.mem_singleton] at hp; subst hp; exact .inr B1), ?_⟩
      refine tree_two rfl rfl ?_ ?_
      ·try simp -implicitDefEqProofs (disch := omega) only [Nat.reduceEqDiff, ↓reduceIte, vcu, ↓vcd]
       refine (hrc A1 B1 vd1 od1.dds).mono ?_
       rintro _ A2 ⟨_, rfl, a2, y1, y2, rfl, oy1, oy2⟩
       have own2 : OwnX T0 A2 (exV y1 y2 ⟨e.s, e.ps, []⟩) ⟨e.s, e.ps, []⟩ := OwnX.older ⟨y1, y2, rfl, oy1, oy2⟩ B1
       have hone := exC_one own2
       unfold exV
       dsimp only
       simp -implicitDefEqProofs (disch := omega) only [Nat.reduceEqDiff, ↓reduceIte, vcu, ↓vcd, opK_some]
       have B2 := Sub.trans B1 a2
       refine ⟨keep_of rfl (fun p hp => by simp only [List.mem_singleton] at hp; subst hp; exact .inr B2), ?_⟩
       refine tree_quiets _ _ _ _ sf0 (by kernel_rfl) (by kernel_rfl) ?_
       simp -implicitDefEqProofs (disch := omega) only [Nat.reduceEqDiff, ↓reduceIte, vcu, ↓vcd, pickOps_nil, pickOps_cons, pickO_some, List.getElem?_cons_succ, List.getElem?_cons_zero, List.getElem?_toArray, List.getElem?_cons_zero, List.getElem?_cons_succ]
       refine tree_one rfl ?_
       try simp -implicitDefEqProofs (disch := omega) only [Nat.reduceEqDiff, ↓reduceIte, vcu, ↓vcd]
       refine r_new ze32 fun p A3 np3 a3 ep3 => ?_
       replace ep3 : A3 p = some ⟨[.int .i64 0, .int .i64 0, .int .i64 0, .slice none 0 0, .slice none 0 0], false⟩ := ep3
       simp -implicitDefEqProofs (disch := omega) only [Nat.reduceEqDiff, ↓reduceIte, vcu, ↓vcd]
       have B3 := Sub.trans B2 a3
       have fp3 := free_sub B2 np3
       have own3 : OwnX T0 A3 (exV y1 y2 ⟨e.s, e.ps, []⟩) ⟨e.s, e.ps, []⟩ := OwnX.sub own2 a3
       refine ⟨keep_of rfl (fun p hp => by simp only [List.mem_singleton] at hp; subst hp; exact .inr B3), ?_⟩
       refine tree_one rfl ?_
       refine r_sets (g := p) (i := 0) (C := [.int .i64 0, .int .i64 0, .int .i64 0, .slice none 0 0, .slice none 0 0]) z9q z9co32 (by simp -implicitDefEqProofs (disch := omega) only [Nat.reduceEqDiff, ↓reduceIte, vcu, ↓vcd]; exact hone) z9z ep3 z9l fun T3 k3 e3 => ?_
       replace e3 : T3 p = some ⟨exC y1 y2 ⟨e.s, e.ps, []⟩, false⟩ := e3
       have P3 : Sub T0 T3 := k3.sub B3 fp3
       have own9 : OwnX T0 T3 (exV y1 y2 ⟨e.s, e.ps, []⟩) ⟨e.s, e.ps, []⟩ := ownX_store own2 np3 a3 k3
       simp -implicitDefEqProofs (disch := omega) only [Nat.reduceEqDiff, ↓reduceIte, vcu, ↓vcd]
       refine ⟨keep_of rfl (fun p hp => by simp only [List.mem_singleton] at hp; subst hp; exact .inr P3), ?_⟩
       refine tree_quiets _ _ _ _ sf0 (by kernel_rfl) (by kernel_rfl) ?_
       simp -implicitDefEqProofs (disch := omega) only [Nat.reduceEqDiff, ↓reduceIte, vcu, ↓vcd, pickOps_nil, pickOps_cons, pickO_some, List.getElem?_cons_succ, List.getElem?_cons_zero]
       refine tree_stop ?_
       exact ⟨by first | trivial | rfl, by first | trivial | rfl | simp -implicitDefEqProofs (disch := omega) only [Nat.reduceEqDiff, ↓reduceIte, vcu, ↓vcd], p, y1, y2, by first | trivial | rfl | simp -implicitDefEqProofs (disch := omega) only [Nat.reduceEqDiff, ↓reduceIte, vcu, ↓vcd], P3, e3, own9⟩
      ·try simp -implicitDefEqProofs (disch := omega) only [Nat.reduceEqDiff, ↓reduceIte, vcu, ↓vcd]
       refine r_new ze32 fun p A4 np4 a4 ep4 => ?_
       replace ep4 : A4 p = some ⟨[.int .i64 0, .int .i64 0, .int .i64 0, .slice none 0 0, .slice none 0 0], false⟩ := ep4
       simp -implicitDefEqProofs (disch := omega) only [Nat.reduceEqDiff, ↓reduceIte, vcu, ↓vcd]
       have B4 := Sub.trans B1 a4
       have fp4 := free_sub B1 np4
       have od4 := OwnD.sub od1 a4
       refine ⟨keep_of rfl (fun p hp => by simp only [List.mem_singleton] at hp; subst hp; exact .inr B4), ?_⟩
       refine tree_one rfl ?_
       try simp -implicitDefEqProofs (disch := omega) only [Nat.reduceEqDiff, ↓reduceIte, vcu, ↓vcd]
       refine (hrc A4 B4 vd1 od4.dds).mono ?_
       rintro _ A5 ⟨_, rfl, a5, y1, y2, rfl, oy1, oy2⟩
       have own5 : OwnX T0 A5 (exV y1 y2 ⟨e.s, e.ps, []⟩) ⟨e.s, e.ps, []⟩ := OwnX.older ⟨y1, y2, rfl, oy1, oy2⟩ B4
       have ownp5 : OwnX A4 A5 (exV y1 y2 ⟨e.s, e.ps, []⟩) ⟨e.s, e.ps, []⟩ := ⟨y1, y2, rfl, oy1, oy2⟩
       have hone := exC_one own5
       unfold exV
       dsimp only
       simp -implicitDefEqProofs (disch := omega) only [Nat.reduceEqDiff, ↓reduceIte, vcu, ↓vcd, opK_some]
       have B5 := Sub.trans B4 a5
       have ep5 := a5 _ _ ep4
       refine ⟨keep_of rfl (fun p hp => by simp only [List.mem_singleton] at hp; subst hp; exact .inr B5), ?_⟩
       refine tree_quiets _ _ _ _ sf0 (by kernel_rfl) (by kernel_rfl) ?_
       simp -implicitDefEqProofs (disch := omega) only [Nat.reduceEqDiff, ↓reduceIte, vcu, ↓vcd, pickOps_nil, pickOps_cons, pickO_some, List.getElem?_cons_succ, List.getElem?_cons_zero, List.getElem?_toArray, List.getElem?_cons_zero, List.getElem?_cons_succ]
       refine tree_one rfl ?_
       refine r_sets (g := p) (i := 0) (C := [.int .i64 0, .int .i64 0, .int .i64 0, .slice none 0 0, .slice none 0 0]) z9q z9co32 (by simp -implicitDefEqProofs (disch := omega) only [Nat.reduceEqDiff, ↓reduceIte, vcu, ↓vcd]; exact hone) z9z ep5 z9l fun T3 k3 e3 => ?_
       replace e3 : T3 p = some ⟨exC y1 y2 ⟨e.s, e.ps, []⟩, false⟩ := e3
       have P3 : Sub T0 T3 := k3.sub B5 fp4
       have own9 : OwnX T0 T3 (exV y1 y2 ⟨e.s, e.ps, []⟩) ⟨e.s, e.ps, []⟩ := (ownp5.kept k3 ep4).older B4
       simp -implicitDefEqProofs (disch := omega) only [Nat.reduceEqDiff, ↓reduceIte, vcu, ↓vcd]
       refine ⟨keep_of rfl (fun p hp => by simp only [List.mem_singleton] at hp; subst hp; exact .inr P3), ?_⟩
       refine tree_quiets _ _ _ _ sf0 (by kernel_rfl) (by kernel_rfl) ?_
       simp -implicitDefEqProofs (disch := omega) only [Nat.reduceEqDiff, ↓reduceIte, vcu, ↓vcd, pickOps_nil, pickOps_cons, pickO_some, List.getElem?_cons_succ, List.getElem?_cons_zero]
       refine tree_stop ?_
       exact ⟨by first | trivial | rfl, by first | trivial | rfl | simp -implicitDefEqProofs (disch := omega) only [Nat.reduceEqDiff, ↓reduceIte, vcu, ↓vcd], p, y1, y2, by first | trivial | rfl | simp -implicitDefEqProofs (disch := omega) only [Nat.reduceEqDiff, ↓reduceIte, vcu, ↓vcd], P3, e3, own9⟩
     ·try simp -implicitDefEqProofs (disch := omega) only [Nat.reduceEqDiff, ↓reduceIte, vcu, ↓vcd]
      refine r_new ze32 fun p A6 np6 a6 ep6 => ?_
      replace ep6 : A6 p = some ⟨[.int .i64 0, .int .i64 0, .int .i64 0, .slice none 0 0, .slice none 0 0], false⟩ := ep6
      simp -implicitDefEqProofs (disch := omega) only [Nat.reduceEqDiff, ↓reduceIte, vcu, ↓vcd]
      have B6 := Sub.trans (Sub.refl T0) a6
      have fp6 := free_sub (Sub.refl T0) np6
      refine ⟨keep_of rfl (fun p hp => by simp only [List.mem_singleton] at hp; subst hp; exact .inr B6), ?_⟩
      refine tree_one rfl ?_
      try simp -implicitDefEqProofs (disch := omega) only [Nat.reduceEqDiff, ↓reduceIte, vcu, ↓vcd]
      refine (hnc A6 B6).mono ?_
      rintro vd7 A7 ⟨a7, od7⟩
      try simp -implicitDefEqProofs (disch := omega) only [Nat.reduceEqDiff, ↓reduceIte, vcu, ↓vcd, opK_some]
      have B7 := Sub.trans B6 a7
      have ep7 := a7 _ _ ep6
      refine ⟨keep_of rfl (fun p hp => by simp only [List.mem_singleton] at hp; subst hp; exact .inr B7), ?_⟩
      refine tree_one rfl ?_
      try simp -implicitDefEqProofs (disch := omega) only [Nat.reduceEqDiff, ↓reduceIte, vcu, ↓vcd]
      refine (hrc A7 B7 vd7 od7.dds).mono ?_
      rintro _ A8 ⟨_, rfl, a8, y1, y2, rfl, oy1, oy2⟩
      have own8 : OwnX T0 A8 (exV y1 y2 ⟨e.s, e.ps, []⟩) ⟨e.s, e.ps, []⟩ := OwnX.older ⟨y1, y2, rfl, oy1, oy2⟩ B7
      have ownp8 : OwnX A7 A8 (exV y1 y2 ⟨e.s, e.ps, []⟩) ⟨e.s, e.ps, []⟩ := ⟨y1, y2, rfl, oy1, oy2⟩
      have hone := exC_one own8
      unfold exV
      dsimp only
      simp -implicitDefEqProofs (disch := omega) only [Nat.reduceEqDiff, ↓reduceIte, vcu, ↓vcd, opK_some]
      have B8 := Sub.trans B7 a8
      have ep8 := a8 _ _ ep7
      refine ⟨keep_of rfl (fun p hp => by simp only [List.mem_singleton] at hp; subst hp; exact .inr B8), ?_⟩
      refine tree_quiets _ _ _ _ sf0 (by kernel_rfl) (by kernel_rfl) ?_
      simp -implicitDefEqProofs (disch := omega) only [Nat.reduceEqDiff, ↓reduceIte, vcu, ↓vcd, pickOps_nil, pickOps_cons, pickO_some, List.getElem?_cons_succ, List.getElem?_cons_zero, List.getElem?_toArray, List.getElem?_cons_zero, List.getElem?_cons_succ]
      refine tree_one rfl ?_
      refine r_sets (g := p) (i := 0) (C := [.int .i64 0, .int .i64 0, .int .i64 0, .slice none 0 0, .slice none 0 0]) z9q z9co32 (by simp -implicitDefEqProofs (disch := omega) only [Nat.reduceEqDiff, ↓reduceIte, vcu, ↓vcd]; exact hone) z9z ep8 z9l fun T3 k3 e3 => ?_
      replace e3 : T3 p = some ⟨exC y1 y2 ⟨e.s, e.ps, []⟩, false⟩ := e3
      have P3 : Sub T0 T3 := k3.sub B8 fp6
      have own9 : OwnX T0 T3 (exV y1 y2 ⟨e.s, e.ps, []⟩) ⟨e.s, e.ps, []⟩ := (ownp8.kept k3 ep7).older B7
      simp -implicitDefEqProofs (disch := omega) only [Nat.reduceEqDiff, ↓reduceIte, vcu, ↓vcd]
      refine ⟨keep_of rfl (fun p hp => by simp only [List.mem_singleton] at hp; subst hp; exact .inr P3), ?_⟩
      refine tree_quiets _ _ _ _ sf0 (by kernel_rfl) (by kernel_rfl) ?_
      simp -implicitDefEqProofs (disch := omega) only [Nat.reduceEqDiff, ↓reduceIte, vcu, ↓vcd, pickOps_nil, pickOps_cons, pickO_some, List.getElem?_cons_succ, List.getElem?_cons_zero]
      refine tree_stop ?_
      exact ⟨by first | trivial | rfl, by first | trivial | rfl | simp -implicitDefEqProofs (disch := omega) only [Nat.reduceEqDiff, ↓reduceIte, vcu, ↓vcd], p, y1, y2, by first | trivial | rfl | simp -implicitDefEqProofs (disch := omega) only [Nat.reduceEqDiff, ↓reduceIte, vcu, ↓vcd], P3, e3, own9⟩
    rintro _ a' T ⟨rfl, r4, p, y1, y2, r13, PT, ep, hoy⟩
    have f4T := PT _ _ f4
    have lp : lds T p 0 5 = some [.int .i64 e.s.O, .int .i64 e.s.E, .int .i64 e.s.M, y1, y2] := by rw [lds_of ep (by simp [exC])]; rfl
    simp -implicitDefEqProofs (disch := omega) only [Nat.reduceEqDiff, ↓reduceIte, vcu, ↓vcd, r4, r13, lp, co32]
    have hone9 := exC_one hoy
    refine r_sets (g := h4) (i := 0) (C := [.int .i64 0, .int .i64 0, .int .i64 0, .slice none 0 0, .slice none 0 0]) (by simp -implicitDefEqProofs (disch := omega) only [Nat.reduceEqDiff, ↓reduceIte, vcu, ↓vcd, r4]) z9co32 (by simp -implicitDefEqProofs (disch := omega) only [Nat.reduceEqDiff, ↓reduceIte, vcu, ↓vcd]; exact hone9) z9z f4T z9l fun T9 k9 e9 => ?_
    replace e9 : T9 h4 = some ⟨exC y1 y2 ⟨e.s, e.ps, []⟩, false⟩ := e9
    have l9 : lds T9 h4 0 5 = some [.int .i64 e.s.O, .int .i64 e.s.E, .int .i64 e.s.M, y1, y2] := by rw [lds_of e9 (by simp [exC])]; rfl
    simp -implicitDefEqProofs (disch := omega) only [Nat.reduceEqDiff, ↓reduceIte, vcu, ↓vcd, r4]
    refine fin_ct8 Tryz.results6 T9 (Sub.refl _) (v := exV y1 y2 ⟨e.s, e.ps, []⟩) (by simp -implicitDefEqProofs (disch := omega) only [Nat.reduceEqDiff, ↓reduceIte, vcu, ↓vcd, r4, l9, co32]; rfl) ⟨exV y1 y2 ⟨e.s, e.ps, []⟩, ?_, k9.sub (S0.trans PT) z4, ?_⟩
    ·try simp -implicitDefEqProofs (disch := omega) only [Nat.reduceEqDiff, ↓reduceIte, vcu, ↓vcd]
     rw [hx]
     try rfl
    ·rw [hx]
     exact (hoy.kept k9 f4).older S0
   have dn : decide (t = w_night) = false := decide_eq_false hnt
   have hX : exLine e t = (e, askT e t) := by unfold exLine lineX; rw [if_pos hok, hro]; dsimp only; rw [if_neg hnt]
   by_cases hca : t = w_calls
   ·have dc : decide (t = w_calls) = true := decide_eq_true hca
    have hx : exLine e t = (e, decN e.cs.length) := by rw [hX, askT, if_pos hca]
    simp -implicitDefEqProofs (disch := omega) only [Nat.reduceEqDiff, ↓reduceIte, vcu, ↓vcd, hrd, qni, dn, qca, dc]
    refine region_tree mixed (quiets [1] (quiets [0, 2] (quiets [3] (.one 4 (.one 5 (quiets [6] .stop)))))) [([0, 2], Sub (T0.upd h4 none))] (by kernel_rfl) (by kernel_rfl) (fun p hp => by simp only [List.mem_singleton] at hp; subst hp; exact sub_erase _ _) ?_
    refine tree_quiets _ _ _ _ sf0 (by kernel_rfl) (by kernel_rfl) ?_
    simp -implicitDefEqProofs (disch := omega) only [Nat.reduceEqDiff, ↓reduceIte, vcu, ↓vcd, pickOps_nil, pickOps_cons, pickO_some, List.getElem?_cons_succ, List.getElem?_cons_zero]
    refine tree_quiets (T0.upd h4 none) _ _ _ sf1 (by kernel_rfl) (by kernel_rfl) ?_
    simp -implicitDefEqProofs (disch := omega) only [Nat.reduceEqDiff, ↓reduceIte, vcu, ↓vcd, pickOps_nil, pickOps_cons, pickO_some, List.getElem?_cons_succ, List.getElem?_cons_zero, y5u, y4u, l9u, co32]
    refine tree_quiets _ _ _ _ sf0 (by kernel_rfl) (by kernel_rfl) ?_
    simp -implicitDefEqProofs (disch := omega) only [Nat.reduceEqDiff, ↓reduceIte, vcu, ↓vcd, pickOps_nil, pickOps_cons, pickO_some, List.getElem?_cons_succ, List.getElem?_cons_zero, ln2]
    refine tree_one rfl ?_
    try simp -implicitDefEqProofs (disch := omega) only [Nat.reduceEqDiff, ↓reduceIte, vcu, ↓vcd]
    refine (number_calls e.cs.length (by omega) T0).mono ?_
    rintro _ _ ⟨rfl, rfl⟩
    rename_i T0
    simp -implicitDefEqProofs (disch := omega) only [Nat.reduceEqDiff, ↓reduceIte, vcu, ↓vcd, opK_some]
    refine ⟨.inl rfl, ?_⟩
    refine tree_one rfl ?_
    have hone9 := exC_one hown
    refine r_sets (g := h4) (i := 0) (C := [.int .i64 0, .int .i64 0, .int .i64 0, .slice none 0 0, .slice none 0 0]) z9q z9co32 (by simp -implicitDefEqProofs (disch := omega) only [Nat.reduceEqDiff, ↓reduceIte, vcu, ↓vcd]; exact hone9) z9z f4 z9l fun T9 k9 e9 => ?_
    replace e9 : T9 h4 = some ⟨exC (.slice (some ⟨g1, 0, none⟩) e.ps.length 1) (.slice (some ⟨g2, 0, none⟩) e.cs.length 3) e, false⟩ := e9
    have l9 : lds T9 h4 0 5 = some [.int .i64 e.s.O, .int .i64 e.s.E, .int .i64 e.s.M, .slice (some ⟨g1, 0, none⟩) e.ps.length 1, .slice (some ⟨g2, 0, none⟩) e.cs.length 3] := by rw [lds_of e9 (by simp [exC])]; rfl
    simp -implicitDefEqProofs (disch := omega) only [Nat.reduceEqDiff, ↓reduceIte, vcu, ↓vcd]
    refine ⟨keep_of rfl (fun p hp => by simp only [List.mem_singleton] at hp; subst hp; exact .inr (kept_erase k9)), ?_⟩
    refine tree_quiets _ _ _ _ sf0 (by kernel_rfl) (by kernel_rfl) ?_
    simp -implicitDefEqProofs (disch := omega) only [Nat.reduceEqDiff, ↓reduceIte, vcu, ↓vcd, pickOps_nil, pickOps_cons, pickO_some, List.getElem?_cons_succ, List.getElem?_cons_zero]
    refine tree_stop ?_
    try simp -implicitDefEqProofs (disch := omega) only [Nat.reduceEqDiff, ↓reduceIte, vcu, ↓vcd]
    refine fin_ct8 Tryz.results6 T9 (Sub.refl _) (v := exV (.slice (some ⟨g1, 0, none⟩) e.ps.length 1) (.slice (some ⟨g2, 0, none⟩) e.cs.length 3) e) (by simp -implicitDefEqProofs (disch := omega) only [Nat.reduceEqDiff, ↓reduceIte, vcu, ↓vcd, l9, co32]; rfl) ⟨exV (.slice (some ⟨g1, 0, none⟩) e.ps.length 1) (.slice (some ⟨g2, 0, none⟩) e.cs.length 3) e, ?_, k9.sub S0 z4, ?_⟩
    ·try simp -implicitDefEqProofs (disch := omega) only [Nat.reduceEqDiff, ↓reduceIte, vcu, ↓vcd]
     rw [hx]
     try rfl
    ·rw [hx]
     exact (hown.kept k9 e4).older S3
   have dc : decide (t = w_calls) = false := decide_eq_false hca
   by_cases hpl : t = w_plan
   ·have dp : decide (t = w_plan) = true := decide_eq_true hpl
    have hx : exLine e t = (e, joinT e.ps (e.ps.length - 1)) := by rw [hX, askT, if_neg hca, if_pos hpl]
    have hp1 := (ex_plan hok).1
    obtain ⟨gp, op, rfl, hrow⟩ := rowT t10 (by omega)
    have y3s := y3 T0 (Sub.refl _)
    have hx0 := hrow 0 (by omega)
    simp -implicitDefEqProofs (disch := omega) only [Nat.reduceEqDiff, ↓reduceIte, vcu, ↓vcd, hrd, qni, dn, qca, dc, qpl, dp, y3s, hx0, Int.toNat_zero]
    refine vc_loop_c mixed (by kernel_rfl) [2, 4, 9] (fun m a T => ∃ k : Nat, m + (k + 1) = e.ps.length ∧ a 16 = .int .i64 ((k + 1 : Nat) : Int) ∧ a 15 = .string (tx (joinT e.ps k)) ∧ T = T0) (e.ps.length - 1) ⟨0, by omega, rfl, rfl, rfl⟩ ?_
    rintro m a _ hc ⟨k, hk, h16, h15, rfl⟩
    rename_i T0
    simp -implicitDefEqProofs (disch := omega) only [Nat.reduceEqDiff, ↓reduceIte, vcu, ↓vcd] at hc
    obtain ⟨h2, h4', h9', -⟩ := hc
    by_cases hlt : k + 1 < e.ps.length
    ·have hxk := hrow (k + 1) hlt
     have hjl := joinT_len hb.2.1 k
     have hbk := hb.2.1 (e.ps.getD (k + 1) []) (by simp [List.getD, hlt])
     have hk10 : k ≤ 10 := by omega
     have ha1 : abin Tryz.prog 9 .add (.string (tx (joinT e.ps k))) (.string { data := #[44] }) = some (.string (tx (joinT e.ps k ++ [44]))) := abin_sadd (ys := [44]) (by rw [List.length_singleton]; omega)
     have ha2 : abin Tryz.prog 9 .add (.string (tx (joinT e.ps k ++ [44]))) (.string (tx (e.ps.getD (k + 1) []))) = some (.string (tx (joinT e.ps k ++ [44] ++ e.ps.getD (k + 1) []))) := abin_sadd (by rw [List.length_append, List.length_singleton]; omega)
     simp -implicitDefEqProofs (disch := omega) only [Nat.reduceEqDiff, ↓reduceIte, vcu, ↓vcd, h2, h4', h9', h15, h16, y3s, ln1, hxk, ha1, ha2, Int.toNat_natCast]
     exact ⟨⟨trivial, trivial, trivial, trivial⟩, m - 1, by omega, k + 1, by omega, by simp, by rw [List.append_assoc]; rfl, trivial⟩
    ·obtain rfl : k = e.ps.length - 1 := by omega
     simp -implicitDefEqProofs (disch := omega) only [Nat.reduceEqDiff, ↓reduceIte, vcu, ↓vcd, h2, h4', h9', h15, h16, y3s, ln1, l9s, co32]
     have hone9 := exC_one hown
     refine r_sets (g := h4) (i := 0) (C := [.int .i64 0, .int .i64 0, .int .i64 0, .slice none 0 0, .slice none 0 0]) (by simp -implicitDefEqProofs (disch := omega) only [Nat.reduceEqDiff, ↓reduceIte, vcu, ↓vcd, h4']) z9co32 (by simp -implicitDefEqProofs (disch := omega) only [Nat.reduceEqDiff, ↓reduceIte, vcu, ↓vcd]; exact hone9) z9z f4 z9l fun T9 k9 e9 => ?_
     replace e9 : T9 h4 = some ⟨exC (.slice (some ⟨g1, 0, none⟩) e.ps.length 1) (.slice (some ⟨g2, 0, none⟩) e.cs.length 3) e, false⟩ := e9
     have l9 : lds T9 h4 0 5 = some [.int .i64 e.s.O, .int .i64 e.s.E, .int .i64 e.s.M, .slice (some ⟨g1, 0, none⟩) e.ps.length 1, .slice (some ⟨g2, 0, none⟩) e.cs.length 3] := by rw [lds_of e9 (by simp [exC])]; rfl
     simp -implicitDefEqProofs (disch := omega) only [Nat.reduceEqDiff, ↓reduceIte, vcu, ↓vcd, h4', h15]
     refine fin_ct8 Tryz.results6 T9 (Sub.refl _) (v := exV (.slice (some ⟨g1, 0, none⟩) e.ps.length 1) (.slice (some ⟨g2, 0, none⟩) e.cs.length 3) e) (by simp -implicitDefEqProofs (disch := omega) only [Nat.reduceEqDiff, ↓reduceIte, vcu, ↓vcd, h4', l9, co32]; rfl) ⟨exV (.slice (some ⟨g1, 0, none⟩) e.ps.length 1) (.slice (some ⟨g2, 0, none⟩) e.cs.length 3) e, ?_, k9.sub S0 z4, ?_⟩
     ·try simp -implicitDefEqProofs (disch := omega) only [Nat.reduceEqDiff, ↓reduceIte, vcu, ↓vcd]
      rw [hx]
      try rfl
     ·rw [hx]
      exact (hown.kept k9 e4).older S3
   have dp : decide (t = w_plan) = false := decide_eq_false hpl
   have hx : exLine e t = (e, w_what) := by rw [hX, askT, if_neg hca, if_neg hpl, hask]; simp
   have dmn : decide ((-1 : Int) ≥ 0) = false := rfl
   simp -implicitDefEqProofs (disch := omega) only [Nat.reduceEqDiff, ↓reduceIte, vcu, ↓vcd, hrd, qni, dn, qca, dc, qpl, dp, dmn, l9s, co32]
   have hone9 := exC_one hown
   try simp -implicitDefEqProofs (disch := omega) only [Nat.reduceEqDiff, ↓reduceIte, vcu, ↓vcd, l9s, co32]
   refine r_sets (g := h4) (i := 0) (C := [.int .i64 0, .int .i64 0, .int .i64 0, .slice none 0 0, .slice none 0 0]) z9q z9co32 (by simp -implicitDefEqProofs (disch := omega) only [Nat.reduceEqDiff, ↓reduceIte, vcu, ↓vcd]; exact hone9) z9z f4 z9l fun T9 k9 e9 => ?_
   replace e9 : T9 h4 = some ⟨exC (.slice (some ⟨g1, 0, none⟩) e.ps.length 1) (.slice (some ⟨g2, 0, none⟩) e.cs.length 3) e, false⟩ := e9
   have l9 : lds T9 h4 0 5 = some [.int .i64 e.s.O, .int .i64 e.s.E, .int .i64 e.s.M, (.slice (some ⟨g1, 0, none⟩) e.ps.length 1), (.slice (some ⟨g2, 0, none⟩) e.cs.length 3)] := by rw [lds_of e9 (by simp [exC])]; rfl
   try simp -implicitDefEqProofs (disch := omega) only [Nat.reduceEqDiff, ↓reduceIte, vcu, ↓vcd]
   refine fin_ct8 Tryz.results6 T9 (Sub.refl _) (v := exV (.slice (some ⟨g1, 0, none⟩) e.ps.length 1) (.slice (some ⟨g2, 0, none⟩) e.cs.length 3) e) (by simp -implicitDefEqProofs (disch := omega) only [Nat.reduceEqDiff, ↓reduceIte, vcu, ↓vcd, l9, co32]; rfl) ⟨exV (.slice (some ⟨g1, 0, none⟩) e.ps.length 1) (.slice (some ⟨g2, 0, none⟩) e.cs.length 3) e, ?_, k9.sub S0 z4, ?_⟩
   ·try simp -implicitDefEqProofs (disch := omega) only [Nat.reduceEqDiff, ↓reduceIte, vcu, ↓vcd]
    rw [hx]
    try rfl
   ·rw [hx]
    exact (OwnX.kept hown k9 e4).older S3
 have hask : askN t = rdN ((cutT 32 t).getD 1 []) := by unfold askN; rw [if_pos hw]
 have hwl1 : ((cutT 32 t).getD 1 []).length ≤ 1048576 := by
  have := cutF_len t [] ((cutT 32 t).getD 1 []) (by show _ ∈ cutT 32 t; simp [List.getD, show 1 < (cutT 32 t).length by omega])
  rw [List.length_nil] at this; omega
 have k0 := textsAt_own wg 0 (by omega)
 have k1 := textsAt_own wg 1 (by omega)
 rw [Nat.zero_add] at k0 k1
 have hw0 : (cutT 32 t).getD 0 [] = ask0 t := rfl
 rw [hw0] at k0
 have e1 : (1 : Int).toNat = 1 := rfl
 have wi : (((cutT 32 t).length : Nat) : Int) = 2 := by omega
 simp -implicitDefEqProofs (disch := omega) only [Nat.reduceEqDiff, ↓reduceIte, vcu, ↓vcd, k1, e1, Nat.zero_add]
 refine (read_calls T0 ((cutT 32 t).getD 1 []) hwl1).mono ?_
 rintro _ _ ⟨rfl, rfl⟩
 rename_i T0
 rw [← hask]
 cases hro : readO t with
 | some d =>
  simp -implicitDefEqProofs (disch := omega) only [Nat.reduceEqDiff, ↓reduceIte, vcu, ↓vcd, opK_some]
  have hrd : rdP t = (d, true) := by unfold rdP; rw [hro]
  rw [hrd] at ec
  dsimp only at ec
  have hdt : d.t.length ≤ 1048576 := by
   have := (deedT_ok (d := d) (by rw [(readO_some hro).1]; exact (readO_some hro).2)).2.2
   rcases this with h | h
   ·rw [h.2]; simp
   ·have := h.2.2.2; omega
  have hexdo := exDo_calls (w0 := w0) T0 (exV v1 v2 e) e d hX0 hb hdt
  have hE : exDo e d = (match doO e d with | some y => (y, true) | none => (e, false)) := if_pos hok
  have hLX : exLine e t = (match doO e d with | some x => (x, w_ok) | none => (e, refuse e d)) := by unfold exLine lineX; rw [if_pos hok, hro]; dsimp only; cases doO e d <;> rfl
  have lc : lds T0 c6 0 3 = some [.int .i64 d.k, .int .i64 d.l, .string (tx d.t)] := lds_three (ld_of ec rfl) (ld_of ec rfl) (ld_of ec rfl)
  have c0 : ∀ T, Sub T0 T → ld T c6 0 = some (.int .i64 d.k) := fun T h => ld_of (h _ _ ec) rfl
  have c1 : ∀ T, Sub T0 T → ld T c6 1 = some (.int .i64 d.l) := fun T h => ld_of (h _ _ ec) rfl
  have c2 : ∀ T, Sub T0 T → ld T c6 2 = some (.string (tx d.t)) := fun T h => ld_of (h _ _ ec) rfl
  have hline := fun (T : AHeap) (h : Sub T0 T) => lineOf_calls (w0 := w0) T (exV v1 v2 e) e d.t (hX0.sub h) hb
  rw [show lineV e d.t = lineS e.ps d.t from if_pos hok] at hline
  generalize hyb : exDo e d = yb at hexdo hE
  obtain ⟨y, bo⟩ := yb
  unfold ddA exV at hexdo
  unfold exV at hline
  dsimp only at hexdo
  have htt : (rdP t).2 = true := by rw [hrd]
  simp -implicitDefEqProofs (disch := omega) only [Nat.reduceEqDiff, ↓reduceIte, vcu, ↓vcd, hrd, y5s, lc, co32, co48]
  refine hexdo.mono ?_
  rintro _ T1 ⟨_, rfl, p1, y1, y2, rfl, oy1, oy2⟩
  have hoy : OwnX T0 T1 (exV y1 y2 y) y := ⟨y1, y2, rfl, oy1, oy2⟩
  have hone := exC_one hoy
  unfold exV
  simp -implicitDefEqProofs (disch := omega) only [Nat.reduceEqDiff, ↓reduceIte, vcu, ↓vcd, opK_some, List.getElem?_toArray, List.getElem?_cons_zero, List.getElem?_cons_succ]
  refine r_new ze32 fun p T2 np sp ep => ?_
  replace ep : T2 p = some ⟨[.int .i64 0, .int .i64 0, .int .i64 0, .slice none 0 0, .slice none 0 0], false⟩ := ep
  refine r_sets (g := p) (i := 0) (C := [.int .i64 0, .int .i64 0, .int .i64 0, .slice none 0 0, .slice none 0 0]) z9q z9co32 (by simp -implicitDefEqProofs (disch := omega) only [Nat.reduceEqDiff, ↓reduceIte, vcu, ↓vcd]; exact hone) z9z ep z9l fun T3 k3 e3 => ?_
  replace e3 : T3 p = some ⟨exC y1 y2 y, false⟩ := e3
  have P2 := p1.trans sp
  have P3 : Sub T0 T3 := k3.sub P2 (free_sub p1 np)
  have hoy3 : OwnX T0 T3 (exV y1 y2 y) y := ⟨y1, y2, rfl, (oy1.sub sp).imp id fun ⟨g, a1, a2, a3⟩ => ⟨g, a1, k3.at a2 (by
    rcases oy1 with ⟨h, _⟩ | ⟨g', h, h2, _⟩
    ·rw [a1] at h; cases h
    ·rw [a1] at h; cases h; exact ne_of' np h2), a3⟩, (oy2.sub sp).imp id fun ⟨g, a1, a2, a3⟩ => ⟨g, a1, k3.at a2 (by
    rcases oy2 with ⟨h, _⟩ | ⟨g', h, h2, _⟩
    ·rw [a1] at h; cases h
    ·rw [a1] at h; cases h; exact ne_of' np h2), a3⟩⟩
  have f43 := P3 _ _ f4
  have lp : lds T3 p 0 5 = some [.int .i64 y.s.O, .int .i64 y.s.E, .int .i64 y.s.M, y1, y2] := by rw [lds_of e3 (by simp [exC])]; rfl
  cases hdo : doO e d with
  | some y' =>
   rw [hdo] at hE
   cases hE
   have hx : exLine e t = (y, w_ok) := by rw [hLX, hdo]
   simp -implicitDefEqProofs (disch := omega) only [Nat.reduceEqDiff, ↓reduceIte, vcu, ↓vcd, lp, co32]
   have hone9 := exC_one hoy3
   try simp -implicitDefEqProofs (disch := omega) only [Nat.reduceEqDiff, ↓reduceIte, vcu, ↓vcd, lp, co32]
   refine r_sets (g := h4) (i := 0) (C := [.int .i64 0, .int .i64 0, .int .i64 0, .slice none 0 0, .slice none 0 0]) z9q z9co32 (by simp -implicitDefEqProofs (disch := omega) only [Nat.reduceEqDiff, ↓reduceIte, vcu, ↓vcd]; exact hone9) z9z f43 z9l fun T9 k9 e9 => ?_
   replace e9 : T9 h4 = some ⟨exC y1 y2 y, false⟩ := e9
   have l9 : lds T9 h4 0 5 = some [.int .i64 y.s.O, .int .i64 y.s.E, .int .i64 y.s.M, y1, y2] := by rw [lds_of e9 (by simp [exC])]; rfl
   try simp -implicitDefEqProofs (disch := omega) only [Nat.reduceEqDiff, ↓reduceIte, vcu, ↓vcd]
   refine fin_ct8 Tryz.results6 T9 (Sub.refl _) (v := exV y1 y2 y) (by simp -implicitDefEqProofs (disch := omega) only [Nat.reduceEqDiff, ↓reduceIte, vcu, ↓vcd, l9, co32]; rfl) ⟨exV y1 y2 y, ?_, k9.sub (S0.trans P3) z4, ?_⟩
   ·try simp -implicitDefEqProofs (disch := omega) only [Nat.reduceEqDiff, ↓reduceIte, vcu, ↓vcd]
    rw [hx]
    try rfl
   ·rw [hx]
    exact (OwnX.kept hoy3 k9 f4).older S0
  | none =>
   rw [hdo] at hE
   cases hE
   have c03 := c0 T3 P3
   have c13 := c1 T3 P3
   have c23 := c2 T3 P3
   have y33 := y3 T3 P3
   have y53 := y5 T3 P3
   by_cases hk : d.k = 0
   case neg =>
    have dk : decide (d.k ≠ 0) = true := decide_eq_true hk
    have hx : exLine e t = (e, w_no) := by rw [hLX, hdo]; show (e, refuse e d) = _; unfold refuse; rw [if_pos (.inl hk)]
    simp -implicitDefEqProofs (disch := omega) only [Nat.reduceEqDiff, ↓reduceIte, vcu, ↓vcd, c03, dk, lp, co32]
    have hone9 := exC_one hoy3
    try simp -implicitDefEqProofs (disch := omega) only [Nat.reduceEqDiff, ↓reduceIte, vcu, ↓vcd, lp, co32]
    refine r_sets (g := h4) (i := 0) (C := [.int .i64 0, .int .i64 0, .int .i64 0, .slice none 0 0, .slice none 0 0]) z9q z9co32 (by simp -implicitDefEqProofs (disch := omega) only [Nat.reduceEqDiff, ↓reduceIte, vcu, ↓vcd]; exact hone9) z9z f43 z9l fun T9 k9 e9 => ?_
    replace e9 : T9 h4 = some ⟨exC y1 y2 e, false⟩ := e9
    have l9 : lds T9 h4 0 5 = some [.int .i64 e.s.O, .int .i64 e.s.E, .int .i64 e.s.M, y1, y2] := by rw [lds_of e9 (by simp [exC])]; rfl
    try simp -implicitDefEqProofs (disch := omega) only [Nat.reduceEqDiff, ↓reduceIte, vcu, ↓vcd]
    refine fin_ct8 Tryz.results6 T9 (Sub.refl _) (v := exV y1 y2 e) (by simp -implicitDefEqProofs (disch := omega) only [Nat.reduceEqDiff, ↓reduceIte, vcu, ↓vcd, l9, co32]; rfl) ⟨exV y1 y2 e, ?_, k9.sub (S0.trans P3) z4, ?_⟩
    ·try simp -implicitDefEqProofs (disch := omega) only [Nat.reduceEqDiff, ↓reduceIte, vcu, ↓vcd]
     rw [hx]
     try rfl
    ·rw [hx]
     exact (OwnX.kept hoy3 k9 f4).older S0
   have dk : decide (d.k ≠ 0) = false := decide_eq_false fun h => h hk
   by_cases hl2 : (e.ps.length : Int) ≤ d.l
   ·have dl : decide (d.l ≥ (e.ps.length : Int)) = true := decide_eq_true hl2
    have hx : exLine e t = (e, w_no) := by rw [hLX, hdo]; show (e, refuse e d) = _; unfold refuse; rw [if_pos (.inr hl2)]
    simp -implicitDefEqProofs (disch := omega) only [Nat.reduceEqDiff, ↓reduceIte, vcu, ↓vcd, c03, c13, y33, ln1, dk, dl, lp, co32]
    have hone9 := exC_one hoy3
    try simp -implicitDefEqProofs (disch := omega) only [Nat.reduceEqDiff, ↓reduceIte, vcu, ↓vcd, lp, co32]
    refine r_sets (g := h4) (i := 0) (C := [.int .i64 0, .int .i64 0, .int .i64 0, .slice none 0 0, .slice none 0 0]) z9q z9co32 (by simp -implicitDefEqProofs (disch := omega) only [Nat.reduceEqDiff, ↓reduceIte, vcu, ↓vcd]; exact hone9) z9z f43 z9l fun T9 k9 e9 => ?_
    replace e9 : T9 h4 = some ⟨exC y1 y2 e, false⟩ := e9
    have l9 : lds T9 h4 0 5 = some [.int .i64 e.s.O, .int .i64 e.s.E, .int .i64 e.s.M, y1, y2] := by rw [lds_of e9 (by simp [exC])]; rfl
    try simp -implicitDefEqProofs (disch := omega) only [Nat.reduceEqDiff, ↓reduceIte, vcu, ↓vcd]
    refine fin_ct8 Tryz.results6 T9 (Sub.refl _) (v := exV y1 y2 e) (by simp -implicitDefEqProofs (disch := omega) only [Nat.reduceEqDiff, ↓reduceIte, vcu, ↓vcd, l9, co32]; rfl) ⟨exV y1 y2 e, ?_, k9.sub (S0.trans P3) z4, ?_⟩
    ·try simp -implicitDefEqProofs (disch := omega) only [Nat.reduceEqDiff, ↓reduceIte, vcu, ↓vcd]
     rw [hx]
     try rfl
    ·rw [hx]
     exact (OwnX.kept hoy3 k9 f4).older S0
   have dl : decide (d.l ≥ (e.ps.length : Int)) = false := decide_eq_false hl2
   have hrf : refuse e d = if lineS e.ps d.t < 0 then w_wrong else w_busy := by unfold refuse; rw [if_neg (by rintro (h | h) <;> first | exact h hk | exact hl2 h)]
   simp -implicitDefEqProofs (disch := omega) only [Nat.reduceEqDiff, ↓reduceIte, vcu, ↓vcd, c03, c13, c23, y33, y53, ln1, dk, dl, co32]
   refine (hline T3 P3).mono ?_
   rintro _ _ ⟨rfl, rfl⟩
   rename_i T3
   by_cases hln : lineS e.ps d.t < 0
   ·have dn : decide (lineS e.ps d.t < 0) = true := decide_eq_true hln
    have hx : exLine e t = (e, w_wrong) := by rw [hLX, hdo]; show (e, refuse e d) = _; rw [hrf, if_pos hln]
    simp -implicitDefEqProofs (disch := omega) only [Nat.reduceEqDiff, ↓reduceIte, vcu, ↓vcd, opK_some, dn, lp, co32]
    have hone9 := exC_one hoy3
    try simp -implicitDefEqProofs (disch := omega) only [Nat.reduceEqDiff, ↓reduceIte, vcu, ↓vcd, lp, co32]
    refine r_sets (g := h4) (i := 0) (C := [.int .i64 0, .int .i64 0, .int .i64 0, .slice none 0 0, .slice none 0 0]) z9q z9co32 (by simp -implicitDefEqProofs (disch := omega) only [Nat.reduceEqDiff, ↓reduceIte, vcu, ↓vcd]; exact hone9) z9z f43 z9l fun T9 k9 e9 => ?_
    replace e9 : T9 h4 = some ⟨exC y1 y2 e, false⟩ := e9
    have l9 : lds T9 h4 0 5 = some [.int .i64 e.s.O, .int .i64 e.s.E, .int .i64 e.s.M, y1, y2] := by rw [lds_of e9 (by simp [exC])]; rfl
    try simp -implicitDefEqProofs (disch := omega) only [Nat.reduceEqDiff, ↓reduceIte, vcu, ↓vcd]
    refine fin_ct8 Tryz.results6 T9 (Sub.refl _) (v := exV y1 y2 e) (by simp -implicitDefEqProofs (disch := omega) only [Nat.reduceEqDiff, ↓reduceIte, vcu, ↓vcd, l9, co32]; rfl) ⟨exV y1 y2 e, ?_, k9.sub (S0.trans P3) z4, ?_⟩
    ·try simp -implicitDefEqProofs (disch := omega) only [Nat.reduceEqDiff, ↓reduceIte, vcu, ↓vcd]
     rw [hx]
     try rfl
    ·rw [hx]
     exact (OwnX.kept hoy3 k9 f4).older S0
   have dn : decide (lineS e.ps d.t < 0) = false := decide_eq_false hln
   have hx : exLine e t = (e, w_busy) := by rw [hLX, hdo]; show (e, refuse e d) = _; rw [hrf, if_neg hln]
   simp -implicitDefEqProofs (disch := omega) only [Nat.reduceEqDiff, ↓reduceIte, vcu, ↓vcd, opK_some, dn, lp, co32]
   have hone9 := exC_one hoy3
   try simp -implicitDefEqProofs (disch := omega) only [Nat.reduceEqDiff, ↓reduceIte, vcu, ↓vcd, lp, co32]
   refine r_sets (g := h4) (i := 0) (C := [.int .i64 0, .int .i64 0, .int .i64 0, .slice none 0 0, .slice none 0 0]) z9q z9co32 (by simp -implicitDefEqProofs (disch := omega) only [Nat.reduceEqDiff, ↓reduceIte, vcu, ↓vcd]; exact hone9) z9z f43 z9l fun T9 k9 e9 => ?_
   replace e9 : T9 h4 = some ⟨exC y1 y2 e, false⟩ := e9
   have l9 : lds T9 h4 0 5 = some [.int .i64 e.s.O, .int .i64 e.s.E, .int .i64 e.s.M, y1, y2] := by rw [lds_of e9 (by simp [exC])]; rfl
   try simp -implicitDefEqProofs (disch := omega) only [Nat.reduceEqDiff, ↓reduceIte, vcu, ↓vcd]
   refine fin_ct8 Tryz.results6 T9 (Sub.refl _) (v := exV y1 y2 e) (by simp -implicitDefEqProofs (disch := omega) only [Nat.reduceEqDiff, ↓reduceIte, vcu, ↓vcd, l9, co32]; rfl) ⟨exV y1 y2 e, ?_, k9.sub (S0.trans P3) z4, ?_⟩
   ·try simp -implicitDefEqProofs (disch := omega) only [Nat.reduceEqDiff, ↓reduceIte, vcu, ↓vcd]
    rw [hx]
    try rfl
   ·rw [hx]
    exact (OwnX.kept hoy3 k9 f4).older S0
 | none =>
  have hrd : rdP t = (⟨0, 0, []⟩, false) := by unfold rdP; rw [hro]
  by_cases hnt : t = w_night
  ·have dn : decide (t = w_night) = true := decide_eq_true hnt
   simp -implicitDefEqProofs (disch := omega) only [Nat.reduceEqDiff, ↓reduceIte, vcu, ↓vcd, opK_some, hrd, qni, dn]
   have hni' : nightV e = nightL e.cs := if_pos hok
   have hnr : exRun e (nightL e.cs) = (⟨e.s, e.ps, []⟩, e.cs.length) := by rw [exRun, if_pos hok, night_is hok]
   have hx : exLine e t = (⟨e.s, e.ps, []⟩, w_ok) := by rw [exLine, if_pos hok, hnt, lineX_night]
   have hnl : (nightL e.cs).length ≤ 1048576 := by simp [nightL]; omega
   have hnt2 : ∀ d ∈ nightL e.cs, d.t.length ≤ 1048576 := by
    intro d hd
    simp only [nightL, List.mem_map] at hd
    obtain ⟨c, _, rfl⟩ := hd
    simp
   have hnc := fun (T : AHeap) (h : Sub T0 T) => night_calls (w0 := w0) T (exV v1 v2 e) e (hX0.sub h) hb
   rw [hni'] at hnc
   have hrc := fun (T : AHeap) (h : Sub T0 T) (vd : Value) (hd : Dds T vd (nightL e.cs)) => exRun_calls (w0 := w0) T (exV v1 v2 e) vd e (nightL e.cs) (hX0.sub h) hb hd hnl hnt2
   rw [hnr] at hrc
   unfold exV at hnc hrc
   dsimp only at hrc
   refine acodeB_monoX (Q' := fun en a' T => en = .normal ∧ a' 4 = .pointer (some ⟨h4, 0, none⟩) ∧ ∃ p y1 y2, a' 13 = .pointer (some ⟨p, 0, none⟩) ∧ Sub T0 T ∧ T p = some ⟨exC y1 y2 ⟨e.s, e.ps, []⟩, false⟩ ∧ OwnX T0 T (exV y1 y2 ⟨e.s, e.ps, []⟩) ⟨e.s, e.ps, []⟩)
    (region_tree mixed (quiets [0, 1] (.two 2 (.two 3 (quiets [4, 5, 6] (.one 7 (.one 8 (quiets [9] .stop)))) 7 (.one 3 (quiets [4, 5, 6] (.one 8 (quiets [9] .stop))))) 7 (.one 2 (.one 3 (quiets [4, 5, 6] (.one 8 (quiets [9] .stop))))))) [([0, 1], Sub T0)] (by kernel_rfl) (by kernel_rfl) (fun p hp => by simp only [List.mem_singleton] at hp; subst hp; exact Sub.refl _) ?_) ?_
   ·refine tree_quiets T0 _ _ _ sf1 (by kernel_rfl) (by kernel_rfl) ?_
    simp -implicitDefEqProofs (disch := omega) only [Nat.reduceEqDiff, ↓reduceIte, vcu, ↓vcd, pickOps_nil, pickOps_cons, pickO_some, List.getElem?_cons_succ, List.getElem?_cons_zero, y5s, co32]
    refine tree_two rfl rfl ?_ ?_
    ·try simp -implicitDefEqProofs (disch := omega) only [Nat.reduceEqDiff, ↓reduceIte, vcu, ↓vcd]
     refine (hnc T0 (Sub.refl T0)).mono ?_
     rintro vd1 A1 ⟨a1, od1⟩
     try simp -implicitDefEqProofs (disch := omega) only [Nat.reduceEqDiff, ↓reduceIte, vcu, ↓vcd, opK_some]
     have B1 := Sub.trans (Sub.refl T0) a1
     refine ⟨keep_of rfl (fun p hp => by simp only [List.mem_singleton] at hp; subst hp; exact .inr B1), ?_⟩
     refine tree_two rfl rfl ?_ ?_
     ·try simp -implicitDefEqProofs (disch := omega) only [Nat.reduceEqDiff, ↓reduceIte, vcu, ↓vcd]
      refine (hrc A1 B1 vd1 od1.dds).mono ?_
      rintro _ A2 ⟨_, rfl, a2, y1, y2, rfl, oy1, oy2⟩
      have own2 : OwnX T0 A2 (exV y1 y2 ⟨e.s, e.ps, []⟩) ⟨e.s, e.ps, []⟩ := OwnX.older ⟨y1, y2, rfl, oy1, oy2⟩ B1
      have hone := exC_one own2
      unfold exV
      dsimp only
      simp -implicitDefEqProofs (disch := omega) only [Nat.reduceEqDiff, ↓reduceIte, vcu, ↓vcd, opK_some]
      have B2 := Sub.trans B1 a2
      refine ⟨keep_of rfl (fun p hp => by simp only [List.mem_singleton] at hp; subst hp; exact .inr B2), ?_⟩
      refine tree_quiets _ _ _ _ sf0 (by kernel_rfl) (by kernel_rfl) ?_
      simp -implicitDefEqProofs (disch := omega) only [Nat.reduceEqDiff, ↓reduceIte, vcu, ↓vcd, pickOps_nil, pickOps_cons, pickO_some, List.getElem?_cons_succ, List.getElem?_cons_zero, List.getElem?_toArray, List.getElem?_cons_zero, List.getElem?_cons_succ]
      refine tree_one rfl ?_
      try simp -implicitDefEqProofs (disch := omega) only [Nat.reduceEqDiff, ↓reduceIte, vcu, ↓vcd]
      refine r_new ze32 fun p A3 np3 a3 ep3 => ?_
      replace ep3 : A3 p = some ⟨[.int .i64 0, .int .i64 0, .int .i64 0, .slice none 0 0, .slice none 0 0], false⟩ := ep3
      simp -implicitDefEqProofs (disch := omega) only [Nat.reduceEqDiff, ↓reduceIte, vcu, ↓vcd]
      have B3 := Sub.trans B2 a3
      have fp3 := free_sub B2 np3
      have own3 : OwnX T0 A3 (exV y1 y2 ⟨e.s, e.ps, []⟩) ⟨e.s, e.ps, []⟩ := OwnX.sub own2 a3
      refine ⟨keep_of rfl (fun p hp => by simp only [List.mem_singleton] at hp; subst hp; exact .inr B3), ?_⟩
      refine tree_one rfl ?_
      refine r_sets (g := p) (i := 0) (C := [.int .i64 0, .int .i64 0, .int .i64 0, .slice none 0 0, .slice none 0 0]) z9q z9co32 (by simp -implicitDefEqProofs (disch := omega) only [Nat.reduceEqDiff, ↓reduceIte, vcu, ↓vcd]; exact hone) z9z ep3 z9l fun T3 k3 e3 => ?_
      replace e3 : T3 p = some ⟨exC y1 y2 ⟨e.s, e.ps, []⟩, false⟩ := e3
      have P3 : Sub T0 T3 := k3.sub B3 fp3
      have own9 : OwnX T0 T3 (exV y1 y2 ⟨e.s, e.ps, []⟩) ⟨e.s, e.ps, []⟩ := ownX_store own2 np3 a3 k3
      simp -implicitDefEqProofs (disch := omega) only [Nat.reduceEqDiff, ↓reduceIte, vcu, ↓vcd]
      refine ⟨keep_of rfl (fun p hp => by simp only [List.mem_singleton] at hp; subst hp; exact .inr P3), ?_⟩
      refine tree_quiets _ _ _ _ sf0 (by kernel_rfl) (by kernel_rfl) ?_
      simp -implicitDefEqProofs (disch := omega) only [Nat.reduceEqDiff, ↓reduceIte, vcu, ↓vcd, pickOps_nil, pickOps_cons, pickO_some, List.getElem?_cons_succ, List.getElem?_cons_zero]
      refine tree_stop ?_
      exact ⟨by first | trivial | rfl, by first | trivial | rfl | simp -implicitDefEqProofs (disch := omega) only [Nat.reduceEqDiff, ↓reduceIte, vcu, ↓vcd], p, y1, y2, by first | trivial | rfl | simp -implicitDefEqProofs (disch := omega) only [Nat.reduceEqDiff, ↓reduceIte, vcu, ↓vcd], P3, e3, own9⟩
     ·try simp -implicitDefEqProofs (disch := omega) only [Nat.reduceEqDiff, ↓reduceIte, vcu, ↓vcd]
      refine r_new ze32 fun p A4 np4 a4 ep4 => ?_
      replace ep4 : A4 p = some ⟨[.int .i64 0, .int .i64 0, .int .i64 0, .slice none 0 0, .slice none 0 0], false⟩ := ep4
      simp -implicitDefEqProofs (disch := omega) only [Nat.reduceEqDiff, ↓reduceIte, vcu, ↓vcd]
      have B4 := Sub.trans B1 a4
      have fp4 := free_sub B1 np4
      have od4 := OwnD.sub od1 a4
      refine ⟨keep_of rfl (fun p hp => by simp only [List.mem_singleton] at hp; subst hp; exact .inr B4), ?_⟩
      refine tree_one rfl ?_
      try simp -implicitDefEqProofs (disch := omega) only [Nat.reduceEqDiff, ↓reduceIte, vcu, ↓vcd]
      refine (hrc A4 B4 vd1 od4.dds).mono ?_
      rintro _ A5 ⟨_, rfl, a5, y1, y2, rfl, oy1, oy2⟩
      have own5 : OwnX T0 A5 (exV y1 y2 ⟨e.s, e.ps, []⟩) ⟨e.s, e.ps, []⟩ := OwnX.older ⟨y1, y2, rfl, oy1, oy2⟩ B4
      have ownp5 : OwnX A4 A5 (exV y1 y2 ⟨e.s, e.ps, []⟩) ⟨e.s, e.ps, []⟩ := ⟨y1, y2, rfl, oy1, oy2⟩
      have hone := exC_one own5
      unfold exV
      dsimp only
      simp -implicitDefEqProofs (disch := omega) only [Nat.reduceEqDiff, ↓reduceIte, vcu, ↓vcd, opK_some]
      have B5 := Sub.trans B4 a5
      have ep5 := a5 _ _ ep4
      refine ⟨keep_of rfl (fun p hp => by simp only [List.mem_singleton] at hp; subst hp; exact .inr B5), ?_⟩
      refine tree_quiets _ _ _ _ sf0 (by kernel_rfl) (by kernel_rfl) ?_
      simp -implicitDefEqProofs (disch := omega) only [Nat.reduceEqDiff, ↓reduceIte, vcu, ↓vcd, pickOps_nil, pickOps_cons, pickO_some, List.getElem?_cons_succ, List.getElem?_cons_zero, List.getElem?_toArray, List.getElem?_cons_zero, List.getElem?_cons_succ]
      refine tree_one rfl ?_
      refine r_sets (g := p) (i := 0) (C := [.int .i64 0, .int .i64 0, .int .i64 0, .slice none 0 0, .slice none 0 0]) z9q z9co32 (by simp -implicitDefEqProofs (disch := omega) only [Nat.reduceEqDiff, ↓reduceIte, vcu, ↓vcd]; exact hone) z9z ep5 z9l fun T3 k3 e3 => ?_
      replace e3 : T3 p = some ⟨exC y1 y2 ⟨e.s, e.ps, []⟩, false⟩ := e3
      have P3 : Sub T0 T3 := k3.sub B5 fp4
      have own9 : OwnX T0 T3 (exV y1 y2 ⟨e.s, e.ps, []⟩) ⟨e.s, e.ps, []⟩ := (ownp5.kept k3 ep4).older B4
      simp -implicitDefEqProofs (disch := omega) only [Nat.reduceEqDiff, ↓reduceIte, vcu, ↓vcd]
      refine ⟨keep_of rfl (fun p hp => by simp only [List.mem_singleton] at hp; subst hp; exact .inr P3), ?_⟩
      refine tree_quiets _ _ _ _ sf0 (by kernel_rfl) (by kernel_rfl) ?_
      simp -implicitDefEqProofs (disch := omega) only [Nat.reduceEqDiff, ↓reduceIte, vcu, ↓vcd, pickOps_nil, pickOps_cons, pickO_some, List.getElem?_cons_succ, List.getElem?_cons_zero]
      refine tree_stop ?_
      exact ⟨by first | trivial | rfl, by first | trivial | rfl | simp -implicitDefEqProofs (disch := omega) only [Nat.reduceEqDiff, ↓reduceIte, vcu, ↓vcd], p, y1, y2, by first | trivial | rfl | simp -implicitDefEqProofs (disch := omega) only [Nat.reduceEqDiff, ↓reduceIte, vcu, ↓vcd], P3, e3, own9⟩
    ·try simp -implicitDefEqProofs (disch := omega) only [Nat.reduceEqDiff, ↓reduceIte, vcu, ↓vcd]
     refine r_new ze32 fun p A6 np6 a6 ep6 => ?_
     replace ep6 : A6 p = some ⟨[.int .i64 0, .int .i64 0, .int .i64 0, .slice none 0 0, .slice none 0 0], false⟩ := ep6
     simp -implicitDefEqProofs (disch := omega) only [Nat.reduceEqDiff, ↓reduceIte, vcu, ↓vcd]
     have B6 := Sub.trans (Sub.refl T0) a6
     have fp6 := free_sub (Sub.refl T0) np6
     refine ⟨keep_of rfl (fun p hp => by simp only [List.mem_singleton] at hp; subst hp; exact .inr B6), ?_⟩
     refine tree_one rfl ?_
     try simp -implicitDefEqProofs (disch := omega) only [Nat.reduceEqDiff, ↓reduceIte, vcu, ↓vcd]
     refine (hnc A6 B6).mono ?_
     rintro vd7 A7 ⟨a7, od7⟩
     try simp -implicitDefEqProofs (disch := omega) only [Nat.reduceEqDiff, ↓reduceIte, vcu, ↓vcd, opK_some]
     have B7 := Sub.trans B6 a7
     have ep7 := a7 _ _ ep6
     refine ⟨keep_of rfl (fun p hp => by simp only [List.mem_singleton] at hp; subst hp; exact .inr B7), ?_⟩
     refine tree_one rfl ?_
     try simp -implicitDefEqProofs (disch := omega) only [Nat.reduceEqDiff, ↓reduceIte, vcu, ↓vcd]
     refine (hrc A7 B7 vd7 od7.dds).mono ?_
     rintro _ A8 ⟨_, rfl, a8, y1, y2, rfl, oy1, oy2⟩
     have own8 : OwnX T0 A8 (exV y1 y2 ⟨e.s, e.ps, []⟩) ⟨e.s, e.ps, []⟩ := OwnX.older ⟨y1, y2, rfl, oy1, oy2⟩ B7
     have ownp8 : OwnX A7 A8 (exV y1 y2 ⟨e.s, e.ps, []⟩) ⟨e.s, e.ps, []⟩ := ⟨y1, y2, rfl, oy1, oy2⟩
     have hone := exC_one own8
     unfold exV
     dsimp only
     simp -implicitDefEqProofs (disch := omega) only [Nat.reduceEqDiff, ↓reduceIte, vcu, ↓vcd, opK_some]
     have B8 := Sub.trans B7 a8
     have ep8 := a8 _ _ ep7
     refine ⟨keep_of rfl (fun p hp => by simp only [List.mem_singleton] at hp; subst hp; exact .inr B8), ?_⟩
     refine tree_quiets _ _ _ _ sf0 (by kernel_rfl) (by kernel_rfl) ?_
     simp -implicitDefEqProofs (disch := omega) only [Nat.reduceEqDiff, ↓reduceIte, vcu, ↓vcd, pickOps_nil, pickOps_cons, pickO_some, List.getElem?_cons_succ, List.getElem?_cons_zero, List.getElem?_toArray, List.getElem?_cons_zero, List.getElem?_cons_succ]
     refine tree_one rfl ?_
     refine r_sets (g := p) (i := 0) (C := [.int .i64 0, .int .i64 0, .int .i64 0, .slice none 0 0, .slice none 0 0]) z9q z9co32 (by simp -implicitDefEqProofs (disch := omega) only [Nat.reduceEqDiff, ↓reduceIte, vcu, ↓vcd]; exact hone) z9z ep8 z9l fun T3 k3 e3 => ?_
     replace e3 : T3 p = some ⟨exC y1 y2 ⟨e.s, e.ps, []⟩, false⟩ := e3
     have P3 : Sub T0 T3 := k3.sub B8 fp6
     have own9 : OwnX T0 T3 (exV y1 y2 ⟨e.s, e.ps, []⟩) ⟨e.s, e.ps, []⟩ := (ownp8.kept k3 ep7).older B7
     simp -implicitDefEqProofs (disch := omega) only [Nat.reduceEqDiff, ↓reduceIte, vcu, ↓vcd]
     refine ⟨keep_of rfl (fun p hp => by simp only [List.mem_singleton] at hp; subst hp; exact .inr P3), ?_⟩
     refine tree_quiets _ _ _ _ sf0 (by kernel_rfl) (by kernel_rfl) ?_
     simp -implicitDefEqProofs (disch := omega) only [Nat.reduceEqDiff, ↓reduceIte, vcu, ↓vcd, pickOps_nil, pickOps_cons, pickO_some, List.getElem?_cons_succ, List.getElem?_cons_zero]
     refine tree_stop ?_
     exact ⟨by first | trivial | rfl, by first | trivial | rfl | simp -implicitDefEqProofs (disch := omega) only [Nat.reduceEqDiff, ↓reduceIte, vcu, ↓vcd], p, y1, y2, by first | trivial | rfl | simp -implicitDefEqProofs (disch := omega) only [Nat.reduceEqDiff, ↓reduceIte, vcu, ↓vcd], P3, e3, own9⟩
   rintro _ a' T ⟨rfl, r4, p, y1, y2, r13, PT, ep, hoy⟩
   have f4T := PT _ _ f4
   have lp : lds T p 0 5 = some [.int .i64 e.s.O, .int .i64 e.s.E, .int .i64 e.s.M, y1, y2] := by rw [lds_of ep (by simp [exC])]; rfl
   simp -implicitDefEqProofs (disch := omega) only [Nat.reduceEqDiff, ↓reduceIte, vcu, ↓vcd, r4, r13, lp, co32]
   have hone9 := exC_one hoy
   refine r_sets (g := h4) (i := 0) (C := [.int .i64 0, .int .i64 0, .int .i64 0, .slice none 0 0, .slice none 0 0]) (by simp -implicitDefEqProofs (disch := omega) only [Nat.reduceEqDiff, ↓reduceIte, vcu, ↓vcd, r4]) z9co32 (by simp -implicitDefEqProofs (disch := omega) only [Nat.reduceEqDiff, ↓reduceIte, vcu, ↓vcd]; exact hone9) z9z f4T z9l fun T9 k9 e9 => ?_
   replace e9 : T9 h4 = some ⟨exC y1 y2 ⟨e.s, e.ps, []⟩, false⟩ := e9
   have l9 : lds T9 h4 0 5 = some [.int .i64 e.s.O, .int .i64 e.s.E, .int .i64 e.s.M, y1, y2] := by rw [lds_of e9 (by simp [exC])]; rfl
   simp -implicitDefEqProofs (disch := omega) only [Nat.reduceEqDiff, ↓reduceIte, vcu, ↓vcd, r4]
   refine fin_ct8 Tryz.results6 T9 (Sub.refl _) (v := exV y1 y2 ⟨e.s, e.ps, []⟩) (by simp -implicitDefEqProofs (disch := omega) only [Nat.reduceEqDiff, ↓reduceIte, vcu, ↓vcd, r4, l9, co32]; rfl) ⟨exV y1 y2 ⟨e.s, e.ps, []⟩, ?_, k9.sub (S0.trans PT) z4, ?_⟩
   ·try simp -implicitDefEqProofs (disch := omega) only [Nat.reduceEqDiff, ↓reduceIte, vcu, ↓vcd]
    rw [hx]
    try rfl
   ·rw [hx]
    exact (hoy.kept k9 f4).older S0
  have dn : decide (t = w_night) = false := decide_eq_false hnt
  have hX : exLine e t = (e, askT e t) := by unfold exLine lineX; rw [if_pos hok, hro]; dsimp only; rw [if_neg hnt]
  by_cases hca : t = w_calls
  ·have dc : decide (t = w_calls) = true := decide_eq_true hca
   have hx : exLine e t = (e, decN e.cs.length) := by rw [hX, askT, if_pos hca]
   simp -implicitDefEqProofs (disch := omega) only [Nat.reduceEqDiff, ↓reduceIte, vcu, ↓vcd, opK_some, hrd, qni, dn, qca, dc]
   refine region_tree mixed (quiets [1] (quiets [0, 2] (quiets [3] (.one 4 (.one 5 (quiets [6] .stop)))))) [([0, 2], Sub (T0.upd h4 none))] (by kernel_rfl) (by kernel_rfl) (fun p hp => by simp only [List.mem_singleton] at hp; subst hp; exact sub_erase _ _) ?_
   refine tree_quiets _ _ _ _ sf0 (by kernel_rfl) (by kernel_rfl) ?_
   simp -implicitDefEqProofs (disch := omega) only [Nat.reduceEqDiff, ↓reduceIte, vcu, ↓vcd, pickOps_nil, pickOps_cons, pickO_some, List.getElem?_cons_succ, List.getElem?_cons_zero]
   refine tree_quiets (T0.upd h4 none) _ _ _ sf1 (by kernel_rfl) (by kernel_rfl) ?_
   simp -implicitDefEqProofs (disch := omega) only [Nat.reduceEqDiff, ↓reduceIte, vcu, ↓vcd, pickOps_nil, pickOps_cons, pickO_some, List.getElem?_cons_succ, List.getElem?_cons_zero, y5u, y4u, l9u, co32]
   refine tree_quiets _ _ _ _ sf0 (by kernel_rfl) (by kernel_rfl) ?_
   simp -implicitDefEqProofs (disch := omega) only [Nat.reduceEqDiff, ↓reduceIte, vcu, ↓vcd, pickOps_nil, pickOps_cons, pickO_some, List.getElem?_cons_succ, List.getElem?_cons_zero, ln2]
   refine tree_one rfl ?_
   try simp -implicitDefEqProofs (disch := omega) only [Nat.reduceEqDiff, ↓reduceIte, vcu, ↓vcd]
   refine (number_calls e.cs.length (by omega) T0).mono ?_
   rintro _ _ ⟨rfl, rfl⟩
   rename_i T0
   simp -implicitDefEqProofs (disch := omega) only [Nat.reduceEqDiff, ↓reduceIte, vcu, ↓vcd, opK_some]
   refine ⟨.inl rfl, ?_⟩
   refine tree_one rfl ?_
   have hone9 := exC_one hown
   refine r_sets (g := h4) (i := 0) (C := [.int .i64 0, .int .i64 0, .int .i64 0, .slice none 0 0, .slice none 0 0]) z9q z9co32 (by simp -implicitDefEqProofs (disch := omega) only [Nat.reduceEqDiff, ↓reduceIte, vcu, ↓vcd]; exact hone9) z9z f4 z9l fun T9 k9 e9 => ?_
   replace e9 : T9 h4 = some ⟨exC (.slice (some ⟨g1, 0, none⟩) e.ps.length 1) (.slice (some ⟨g2, 0, none⟩) e.cs.length 3) e, false⟩ := e9
   have l9 : lds T9 h4 0 5 = some [.int .i64 e.s.O, .int .i64 e.s.E, .int .i64 e.s.M, .slice (some ⟨g1, 0, none⟩) e.ps.length 1, .slice (some ⟨g2, 0, none⟩) e.cs.length 3] := by rw [lds_of e9 (by simp [exC])]; rfl
   simp -implicitDefEqProofs (disch := omega) only [Nat.reduceEqDiff, ↓reduceIte, vcu, ↓vcd]
   refine ⟨keep_of rfl (fun p hp => by simp only [List.mem_singleton] at hp; subst hp; exact .inr (kept_erase k9)), ?_⟩
   refine tree_quiets _ _ _ _ sf0 (by kernel_rfl) (by kernel_rfl) ?_
   simp -implicitDefEqProofs (disch := omega) only [Nat.reduceEqDiff, ↓reduceIte, vcu, ↓vcd, pickOps_nil, pickOps_cons, pickO_some, List.getElem?_cons_succ, List.getElem?_cons_zero]
   refine tree_stop ?_
   try simp -implicitDefEqProofs (disch := omega) only [Nat.reduceEqDiff, ↓reduceIte, vcu, ↓vcd]
   refine fin_ct8 Tryz.results6 T9 (Sub.refl _) (v := exV (.slice (some ⟨g1, 0, none⟩) e.ps.length 1) (.slice (some ⟨g2, 0, none⟩) e.cs.length 3) e) (by simp -implicitDefEqProofs (disch := omega) only [Nat.reduceEqDiff, ↓reduceIte, vcu, ↓vcd, l9, co32]; rfl) ⟨exV (.slice (some ⟨g1, 0, none⟩) e.ps.length 1) (.slice (some ⟨g2, 0, none⟩) e.cs.length 3) e, ?_, k9.sub S0 z4, ?_⟩
   ·try simp -implicitDefEqProofs (disch := omega) only [Nat.reduceEqDiff, ↓reduceIte, vcu, ↓vcd]
    rw [hx]
    try rfl
   ·rw [hx]
    exact (hown.kept k9 e4).older S3
  have dc : decide (t = w_calls) = false := decide_eq_false hca
  by_cases hpl : t = w_plan
  ·have dp : decide (t = w_plan) = true := decide_eq_true hpl
   have hx : exLine e t = (e, joinT e.ps (e.ps.length - 1)) := by rw [hX, askT, if_neg hca, if_pos hpl]
   have hp1 := (ex_plan hok).1
   obtain ⟨gp, op, rfl, hrow⟩ := rowT t10 (by omega)
   have y3s := y3 T0 (Sub.refl _)
   have hx0 := hrow 0 (by omega)
   simp -implicitDefEqProofs (disch := omega) only [Nat.reduceEqDiff, ↓reduceIte, vcu, ↓vcd, opK_some, hrd, qni, dn, qca, dc, qpl, dp, y3s, hx0, Int.toNat_zero]
   refine vc_loop_c mixed (by kernel_rfl) [2, 4, 9] (fun m a T => ∃ k : Nat, m + (k + 1) = e.ps.length ∧ a 16 = .int .i64 ((k + 1 : Nat) : Int) ∧ a 15 = .string (tx (joinT e.ps k)) ∧ T = T0) (e.ps.length - 1) ⟨0, by omega, rfl, rfl, rfl⟩ ?_
   rintro m a _ hc ⟨k, hk, h16, h15, rfl⟩
   rename_i T0
   simp -implicitDefEqProofs (disch := omega) only [Nat.reduceEqDiff, ↓reduceIte, vcu, ↓vcd] at hc
   obtain ⟨h2, h4', h9', -⟩ := hc
   by_cases hlt : k + 1 < e.ps.length
   ·have hxk := hrow (k + 1) hlt
    have hjl := joinT_len hb.2.1 k
    have hbk := hb.2.1 (e.ps.getD (k + 1) []) (by simp [List.getD, hlt])
    have hk10 : k ≤ 10 := by omega
    have ha1 : abin Tryz.prog 9 .add (.string (tx (joinT e.ps k))) (.string { data := #[44] }) = some (.string (tx (joinT e.ps k ++ [44]))) := abin_sadd (ys := [44]) (by rw [List.length_singleton]; omega)
    have ha2 : abin Tryz.prog 9 .add (.string (tx (joinT e.ps k ++ [44]))) (.string (tx (e.ps.getD (k + 1) []))) = some (.string (tx (joinT e.ps k ++ [44] ++ e.ps.getD (k + 1) []))) := abin_sadd (by rw [List.length_append, List.length_singleton]; omega)
    simp -implicitDefEqProofs (disch := omega) only [Nat.reduceEqDiff, ↓reduceIte, vcu, ↓vcd, h2, h4', h9', h15, h16, y3s, ln1, hxk, ha1, ha2, Int.toNat_natCast]
    exact ⟨⟨trivial, trivial, trivial, trivial⟩, m - 1, by omega, k + 1, by omega, by simp, by rw [List.append_assoc]; rfl, trivial⟩
   ·obtain rfl : k = e.ps.length - 1 := by omega
    simp -implicitDefEqProofs (disch := omega) only [Nat.reduceEqDiff, ↓reduceIte, vcu, ↓vcd, h2, h4', h9', h15, h16, y3s, ln1, l9s, co32]
    have hone9 := exC_one hown
    refine r_sets (g := h4) (i := 0) (C := [.int .i64 0, .int .i64 0, .int .i64 0, .slice none 0 0, .slice none 0 0]) (by simp -implicitDefEqProofs (disch := omega) only [Nat.reduceEqDiff, ↓reduceIte, vcu, ↓vcd, h4']) z9co32 (by simp -implicitDefEqProofs (disch := omega) only [Nat.reduceEqDiff, ↓reduceIte, vcu, ↓vcd]; exact hone9) z9z f4 z9l fun T9 k9 e9 => ?_
    replace e9 : T9 h4 = some ⟨exC (.slice (some ⟨g1, 0, none⟩) e.ps.length 1) (.slice (some ⟨g2, 0, none⟩) e.cs.length 3) e, false⟩ := e9
    have l9 : lds T9 h4 0 5 = some [.int .i64 e.s.O, .int .i64 e.s.E, .int .i64 e.s.M, .slice (some ⟨g1, 0, none⟩) e.ps.length 1, .slice (some ⟨g2, 0, none⟩) e.cs.length 3] := by rw [lds_of e9 (by simp [exC])]; rfl
    simp -implicitDefEqProofs (disch := omega) only [Nat.reduceEqDiff, ↓reduceIte, vcu, ↓vcd, h4', h15]
    refine fin_ct8 Tryz.results6 T9 (Sub.refl _) (v := exV (.slice (some ⟨g1, 0, none⟩) e.ps.length 1) (.slice (some ⟨g2, 0, none⟩) e.cs.length 3) e) (by simp -implicitDefEqProofs (disch := omega) only [Nat.reduceEqDiff, ↓reduceIte, vcu, ↓vcd, h4', l9, co32]; rfl) ⟨exV (.slice (some ⟨g1, 0, none⟩) e.ps.length 1) (.slice (some ⟨g2, 0, none⟩) e.cs.length 3) e, ?_, k9.sub S0 z4, ?_⟩
    ·try simp -implicitDefEqProofs (disch := omega) only [Nat.reduceEqDiff, ↓reduceIte, vcu, ↓vcd]
     rw [hx]
     try rfl
    ·rw [hx]
     exact (hown.kept k9 e4).older S3
  have dp : decide (t = w_plan) = false := decide_eq_false hpl
  have qwh : abin Tryz.prog 9 .eql (.string (tx (ask0 t))) (.string { data := #[119, 104, 111] }) = some (.bool (decide (ask0 t = w_who))) := abin_seql (ys := w_who)
  have qvi : abin Tryz.prog 9 .eql (.string (tx (ask0 t))) (.string { data := #[118, 105, 97] }) = some (.bool (decide (ask0 t = w_via))) := abin_seql (ys := w_via)
  have hA : askT e t = if 0 ≤ askN t ∧ (ask0 t = w_who ∨ ask0 t = w_via) ∧ peerS e.cs (askN t) < 0 then w_none else if 0 ≤ askN t ∧ ask0 t = w_who then decN (peerS e.cs (askN t)).toNat else if 0 ≤ askN t ∧ ask0 t = w_via then decN (viaS e.cs (askN t)).toNat else w_what := by rw [askT, if_neg hca, if_neg hpl]
  have hpeer := peerOf_calls (w0 := w0) T0 (exV v1 v2 e) e (askN t) hX0 hb
  rw [show peerV e (askN t) = peerS e.cs (askN t) from if_pos hok] at hpeer
  unfold exV at hpeer
  have hvia := via_calls (w0 := w0) T0 (exV v1 v2 e) e (askN t) hX0 hb
  unfold exV at hvia
  have hp11 := peerS_lt hC (x := askN t)
  have hv4 := viaS_lt (s := e.s) hC.2.1 hC.1 (x := askN t)
  generalize hNN : askN t = NN at *
  by_cases hn0 : 0 ≤ NN
  case neg =>
   have dnn : decide (NN ≥ 0) = false := decide_eq_false hn0
   have hx : exLine e t = (e, w_what) := by rw [hX, hA, if_neg (fun h => hn0 h.1), if_neg (fun h => hn0 h.1), if_neg (fun h => hn0 h.1)]
   simp -implicitDefEqProofs (disch := omega) only [Nat.reduceEqDiff, ↓reduceIte, vcu, ↓vcd, opK_some, hrd, qni, dn, qca, dc, qpl, dp, dnn, l9s, co32]
   have hone9 := exC_one hown
   try simp -implicitDefEqProofs (disch := omega) only [Nat.reduceEqDiff, ↓reduceIte, vcu, ↓vcd, l9s, co32]
   refine r_sets (g := h4) (i := 0) (C := [.int .i64 0, .int .i64 0, .int .i64 0, .slice none 0 0, .slice none 0 0]) z9q z9co32 (by simp -implicitDefEqProofs (disch := omega) only [Nat.reduceEqDiff, ↓reduceIte, vcu, ↓vcd]; exact hone9) z9z f4 z9l fun T9 k9 e9 => ?_
   replace e9 : T9 h4 = some ⟨exC (.slice (some ⟨g1, 0, none⟩) e.ps.length 1) (.slice (some ⟨g2, 0, none⟩) e.cs.length 3) e, false⟩ := e9
   have l9 : lds T9 h4 0 5 = some [.int .i64 e.s.O, .int .i64 e.s.E, .int .i64 e.s.M, (.slice (some ⟨g1, 0, none⟩) e.ps.length 1), (.slice (some ⟨g2, 0, none⟩) e.cs.length 3)] := by rw [lds_of e9 (by simp [exC])]; rfl
   try simp -implicitDefEqProofs (disch := omega) only [Nat.reduceEqDiff, ↓reduceIte, vcu, ↓vcd]
   refine fin_ct8 Tryz.results6 T9 (Sub.refl _) (v := exV (.slice (some ⟨g1, 0, none⟩) e.ps.length 1) (.slice (some ⟨g2, 0, none⟩) e.cs.length 3) e) (by simp -implicitDefEqProofs (disch := omega) only [Nat.reduceEqDiff, ↓reduceIte, vcu, ↓vcd, l9, co32]; rfl) ⟨exV (.slice (some ⟨g1, 0, none⟩) e.ps.length 1) (.slice (some ⟨g2, 0, none⟩) e.cs.length 3) e, ?_, k9.sub S0 z4, ?_⟩
   ·try simp -implicitDefEqProofs (disch := omega) only [Nat.reduceEqDiff, ↓reduceIte, vcu, ↓vcd]
    rw [hx]
    try rfl
   ·rw [hx]
    exact (OwnX.kept hown k9 e4).older S3
  have dnn : decide (NN ≥ 0) = true := decide_eq_true hn0
  by_cases hwho : ask0 t = w_who
  ·have dw : decide (ask0 t = w_who) = true := decide_eq_true hwho
   simp -implicitDefEqProofs (disch := omega) only [Nat.reduceEqDiff, ↓reduceIte, vcu, ↓vcd, opK_some, hrd, qni, dn, qca, dc, qpl, dp, dnn, k0, qwh, dw, y5s, Int.toNat_zero, Nat.zero_add, co32]
   refine hpeer.mono ?_
   rintro _ _ ⟨rfl, rfl⟩
   rename_i T0
   by_cases hpn : peerS e.cs NN < 0
   ·have dpn : decide (peerS e.cs NN < 0) = true := decide_eq_true hpn
    have hx : exLine e t = (e, w_none) := by rw [hX, hA, if_pos ⟨hn0, .inl hwho, hpn⟩]
    simp -implicitDefEqProofs (disch := omega) only [Nat.reduceEqDiff, ↓reduceIte, vcu, ↓vcd, opK_some, dpn, l9s, co32]
    have hone9 := exC_one hown
    try simp -implicitDefEqProofs (disch := omega) only [Nat.reduceEqDiff, ↓reduceIte, vcu, ↓vcd, l9s, co32]
    refine r_sets (g := h4) (i := 0) (C := [.int .i64 0, .int .i64 0, .int .i64 0, .slice none 0 0, .slice none 0 0]) z9q z9co32 (by simp -implicitDefEqProofs (disch := omega) only [Nat.reduceEqDiff, ↓reduceIte, vcu, ↓vcd]; exact hone9) z9z f4 z9l fun T9 k9 e9 => ?_
    replace e9 : T9 h4 = some ⟨exC (.slice (some ⟨g1, 0, none⟩) e.ps.length 1) (.slice (some ⟨g2, 0, none⟩) e.cs.length 3) e, false⟩ := e9
    have l9 : lds T9 h4 0 5 = some [.int .i64 e.s.O, .int .i64 e.s.E, .int .i64 e.s.M, (.slice (some ⟨g1, 0, none⟩) e.ps.length 1), (.slice (some ⟨g2, 0, none⟩) e.cs.length 3)] := by rw [lds_of e9 (by simp [exC])]; rfl
    try simp -implicitDefEqProofs (disch := omega) only [Nat.reduceEqDiff, ↓reduceIte, vcu, ↓vcd]
    refine fin_ct8 Tryz.results6 T9 (Sub.refl _) (v := exV (.slice (some ⟨g1, 0, none⟩) e.ps.length 1) (.slice (some ⟨g2, 0, none⟩) e.cs.length 3) e) (by simp -implicitDefEqProofs (disch := omega) only [Nat.reduceEqDiff, ↓reduceIte, vcu, ↓vcd, l9, co32]; rfl) ⟨exV (.slice (some ⟨g1, 0, none⟩) e.ps.length 1) (.slice (some ⟨g2, 0, none⟩) e.cs.length 3) e, ?_, k9.sub S0 z4, ?_⟩
    ·try simp -implicitDefEqProofs (disch := omega) only [Nat.reduceEqDiff, ↓reduceIte, vcu, ↓vcd]
     rw [hx]
     try rfl
    ·rw [hx]
     exact (OwnX.kept hown k9 e4).older S3
   have dpn : decide (peerS e.cs NN < 0) = false := decide_eq_false hpn
   have hx : exLine e t = (e, decN (peerS e.cs NN).toNat) := by rw [hX, hA, if_neg (fun h => hpn h.2.2), if_pos ⟨hn0, hwho⟩]
   simp -implicitDefEqProofs (disch := omega) only [Nat.reduceEqDiff, ↓reduceIte, vcu, ↓vcd, opK_some, dpn, dnn, k0, qwh, dw, Int.toNat_zero, Nat.zero_add]
   refine region_tree mixed (quiets [2] (quiets [0, 1] (.one 3 (.one 4 (.one 5 (quiets [6] .stop)))))) [([0, 1], Sub (T0.upd h4 none))] (by kernel_rfl) (by kernel_rfl) (fun p hp => by simp only [List.mem_singleton] at hp; subst hp; exact sub_erase _ _) ?_
   refine tree_quiets _ _ _ _ sf0 (by kernel_rfl) (by kernel_rfl) ?_
   simp -implicitDefEqProofs (disch := omega) only [Nat.reduceEqDiff, ↓reduceIte, vcu, ↓vcd, pickOps_nil, pickOps_cons, pickO_some, List.getElem?_cons_succ, List.getElem?_cons_zero]
   refine tree_quiets (T0.upd h4 none) _ _ _ sf1 (by kernel_rfl) (by kernel_rfl) ?_
   simp -implicitDefEqProofs (disch := omega) only [Nat.reduceEqDiff, ↓reduceIte, vcu, ↓vcd, pickOps_nil, pickOps_cons, pickO_some, List.getElem?_cons_succ, List.getElem?_cons_zero, y5u, y4u, l9u, co32]
   refine tree_one rfl ?_
   try simp -implicitDefEqProofs (disch := omega) only [Nat.reduceEqDiff, ↓reduceIte, vcu, ↓vcd]
   refine (hpeer).mono ?_
   rintro _ _ ⟨rfl, rfl⟩
   rename_i T0
   simp -implicitDefEqProofs (disch := omega) only [Nat.reduceEqDiff, ↓reduceIte, vcu, ↓vcd, opK_some]
   refine ⟨.inl rfl, ?_⟩
   refine tree_one rfl ?_
   try simp -implicitDefEqProofs (disch := omega) only [Nat.reduceEqDiff, ↓reduceIte, vcu, ↓vcd]
   rw [show peerS e.cs NN = (((peerS e.cs NN).toNat : Nat) : Int) by omega]
   refine (number_calls (peerS e.cs NN).toNat (by omega) T0).mono ?_
   rintro _ _ ⟨rfl, rfl⟩
   rename_i T0
   simp -implicitDefEqProofs (disch := omega) only [Nat.reduceEqDiff, ↓reduceIte, vcu, ↓vcd, opK_some]
   refine ⟨.inl rfl, ?_⟩
   refine tree_one rfl ?_
   have hone9 := exC_one hown
   refine r_sets (g := h4) (i := 0) (C := [.int .i64 0, .int .i64 0, .int .i64 0, .slice none 0 0, .slice none 0 0]) z9q z9co32 (by simp -implicitDefEqProofs (disch := omega) only [Nat.reduceEqDiff, ↓reduceIte, vcu, ↓vcd]; exact hone9) z9z f4 z9l fun T9 k9 e9 => ?_
   replace e9 : T9 h4 = some ⟨exC (.slice (some ⟨g1, 0, none⟩) e.ps.length 1) (.slice (some ⟨g2, 0, none⟩) e.cs.length 3) e, false⟩ := e9
   have l9 : lds T9 h4 0 5 = some [.int .i64 e.s.O, .int .i64 e.s.E, .int .i64 e.s.M, .slice (some ⟨g1, 0, none⟩) e.ps.length 1, .slice (some ⟨g2, 0, none⟩) e.cs.length 3] := by rw [lds_of e9 (by simp [exC])]; rfl
   simp -implicitDefEqProofs (disch := omega) only [Nat.reduceEqDiff, ↓reduceIte, vcu, ↓vcd]
   refine ⟨keep_of rfl (fun p hp => by simp only [List.mem_singleton] at hp; subst hp; exact .inr (kept_erase k9)), ?_⟩
   refine tree_quiets _ _ _ _ sf0 (by kernel_rfl) (by kernel_rfl) ?_
   simp -implicitDefEqProofs (disch := omega) only [Nat.reduceEqDiff, ↓reduceIte, vcu, ↓vcd, pickOps_nil, pickOps_cons, pickO_some, List.getElem?_cons_succ, List.getElem?_cons_zero]
   refine tree_stop ?_
   try simp -implicitDefEqProofs (disch := omega) only [Nat.reduceEqDiff, ↓reduceIte, vcu, ↓vcd]
   refine fin_ct8 Tryz.results6 T9 (Sub.refl _) (v := exV (.slice (some ⟨g1, 0, none⟩) e.ps.length 1) (.slice (some ⟨g2, 0, none⟩) e.cs.length 3) e) (by simp -implicitDefEqProofs (disch := omega) only [Nat.reduceEqDiff, ↓reduceIte, vcu, ↓vcd, l9, co32]; rfl) ⟨exV (.slice (some ⟨g1, 0, none⟩) e.ps.length 1) (.slice (some ⟨g2, 0, none⟩) e.cs.length 3) e, ?_, k9.sub S0 z4, ?_⟩
   ·try simp -implicitDefEqProofs (disch := omega) only [Nat.reduceEqDiff, ↓reduceIte, vcu, ↓vcd]
    rw [hx]
    try rfl
   ·rw [hx]
    exact (hown.kept k9 e4).older S3
  have dw : decide (ask0 t = w_who) = false := decide_eq_false hwho
  by_cases hvi : ask0 t = w_via
  ·have dv : decide (ask0 t = w_via) = true := decide_eq_true hvi
   simp -implicitDefEqProofs (disch := omega) only [Nat.reduceEqDiff, ↓reduceIte, vcu, ↓vcd, opK_some, hrd, qni, dn, qca, dc, qpl, dp, dnn, k0, qwh, qvi, dw, dv, y5s, Int.toNat_zero, Nat.zero_add, co32]
   refine hpeer.mono ?_
   rintro _ _ ⟨rfl, rfl⟩
   rename_i T0
   by_cases hpn : peerS e.cs NN < 0
   ·have dpn : decide (peerS e.cs NN < 0) = true := decide_eq_true hpn
    have hx : exLine e t = (e, w_none) := by rw [hX, hA, if_pos ⟨hn0, .inr hvi, hpn⟩]
    simp -implicitDefEqProofs (disch := omega) only [Nat.reduceEqDiff, ↓reduceIte, vcu, ↓vcd, opK_some, dpn, l9s, co32]
    have hone9 := exC_one hown
    try simp -implicitDefEqProofs (disch := omega) only [Nat.reduceEqDiff, ↓reduceIte, vcu, ↓vcd, l9s, co32]
    refine r_sets (g := h4) (i := 0) (C := [.int .i64 0, .int .i64 0, .int .i64 0, .slice none 0 0, .slice none 0 0]) z9q z9co32 (by simp -implicitDefEqProofs (disch := omega) only [Nat.reduceEqDiff, ↓reduceIte, vcu, ↓vcd]; exact hone9) z9z f4 z9l fun T9 k9 e9 => ?_
    replace e9 : T9 h4 = some ⟨exC (.slice (some ⟨g1, 0, none⟩) e.ps.length 1) (.slice (some ⟨g2, 0, none⟩) e.cs.length 3) e, false⟩ := e9
    have l9 : lds T9 h4 0 5 = some [.int .i64 e.s.O, .int .i64 e.s.E, .int .i64 e.s.M, (.slice (some ⟨g1, 0, none⟩) e.ps.length 1), (.slice (some ⟨g2, 0, none⟩) e.cs.length 3)] := by rw [lds_of e9 (by simp [exC])]; rfl
    try simp -implicitDefEqProofs (disch := omega) only [Nat.reduceEqDiff, ↓reduceIte, vcu, ↓vcd]
    refine fin_ct8 Tryz.results6 T9 (Sub.refl _) (v := exV (.slice (some ⟨g1, 0, none⟩) e.ps.length 1) (.slice (some ⟨g2, 0, none⟩) e.cs.length 3) e) (by simp -implicitDefEqProofs (disch := omega) only [Nat.reduceEqDiff, ↓reduceIte, vcu, ↓vcd, l9, co32]; rfl) ⟨exV (.slice (some ⟨g1, 0, none⟩) e.ps.length 1) (.slice (some ⟨g2, 0, none⟩) e.cs.length 3) e, ?_, k9.sub S0 z4, ?_⟩
    ·try simp -implicitDefEqProofs (disch := omega) only [Nat.reduceEqDiff, ↓reduceIte, vcu, ↓vcd]
     rw [hx]
     try rfl
    ·rw [hx]
     exact (OwnX.kept hown k9 e4).older S3
   have dpn : decide (peerS e.cs NN < 0) = false := decide_eq_false hpn
   have hv0' := viaS_ge (s := e.s) hC.2.1 (x := NN) (by omega)
   have hx : exLine e t = (e, decN (viaS e.cs NN).toNat) := by rw [hX, hA, if_neg (fun h => hpn h.2.2), if_neg (fun h => hwho h.2), if_pos ⟨hn0, hvi⟩]
   simp -implicitDefEqProofs (disch := omega) only [Nat.reduceEqDiff, ↓reduceIte, vcu, ↓vcd, opK_some, dpn, dnn, k0, qwh, qvi, dw, dv, Int.toNat_zero, Nat.zero_add]
   refine region_tree mixed (quiets [2] (quiets [0, 1] (.one 3 (.one 4 (.one 5 (quiets [6] .stop)))))) [([0, 1], Sub (T0.upd h4 none))] (by kernel_rfl) (by kernel_rfl) (fun p hp => by simp only [List.mem_singleton] at hp; subst hp; exact sub_erase _ _) ?_
   refine tree_quiets _ _ _ _ sf0 (by kernel_rfl) (by kernel_rfl) ?_
   simp -implicitDefEqProofs (disch := omega) only [Nat.reduceEqDiff, ↓reduceIte, vcu, ↓vcd, pickOps_nil, pickOps_cons, pickO_some, List.getElem?_cons_succ, List.getElem?_cons_zero]
   refine tree_quiets (T0.upd h4 none) _ _ _ sf1 (by kernel_rfl) (by kernel_rfl) ?_
   simp -implicitDefEqProofs (disch := omega) only [Nat.reduceEqDiff, ↓reduceIte, vcu, ↓vcd, pickOps_nil, pickOps_cons, pickO_some, List.getElem?_cons_succ, List.getElem?_cons_zero, y5u, y4u, l9u, co32]
   refine tree_one rfl ?_
   try simp -implicitDefEqProofs (disch := omega) only [Nat.reduceEqDiff, ↓reduceIte, vcu, ↓vcd]
   refine (hvia).mono ?_
   rintro _ _ ⟨rfl, rfl⟩
   rename_i T0
   simp -implicitDefEqProofs (disch := omega) only [Nat.reduceEqDiff, ↓reduceIte, vcu, ↓vcd, opK_some]
   refine ⟨.inl rfl, ?_⟩
   refine tree_one rfl ?_
   try simp -implicitDefEqProofs (disch := omega) only [Nat.reduceEqDiff, ↓reduceIte, vcu, ↓vcd]
   rw [show viaS e.cs NN = (((viaS e.cs NN).toNat : Nat) : Int) by omega]
   refine (number_calls (viaS e.cs NN).toNat (by omega) T0).mono ?_
   rintro _ _ ⟨rfl, rfl⟩
   rename_i T0
   simp -implicitDefEqProofs (disch := omega) only [Nat.reduceEqDiff, ↓reduceIte, vcu, ↓vcd, opK_some]
   refine ⟨.inl rfl, ?_⟩
   refine tree_one rfl ?_
   have hone9 := exC_one hown
   refine r_sets (g := h4) (i := 0) (C := [.int .i64 0, .int .i64 0, .int .i64 0, .slice none 0 0, .slice none 0 0]) z9q z9co32 (by simp -implicitDefEqProofs (disch := omega) only [Nat.reduceEqDiff, ↓reduceIte, vcu, ↓vcd]; exact hone9) z9z f4 z9l fun T9 k9 e9 => ?_
   replace e9 : T9 h4 = some ⟨exC (.slice (some ⟨g1, 0, none⟩) e.ps.length 1) (.slice (some ⟨g2, 0, none⟩) e.cs.length 3) e, false⟩ := e9
   have l9 : lds T9 h4 0 5 = some [.int .i64 e.s.O, .int .i64 e.s.E, .int .i64 e.s.M, .slice (some ⟨g1, 0, none⟩) e.ps.length 1, .slice (some ⟨g2, 0, none⟩) e.cs.length 3] := by rw [lds_of e9 (by simp [exC])]; rfl
   simp -implicitDefEqProofs (disch := omega) only [Nat.reduceEqDiff, ↓reduceIte, vcu, ↓vcd]
   refine ⟨keep_of rfl (fun p hp => by simp only [List.mem_singleton] at hp; subst hp; exact .inr (kept_erase k9)), ?_⟩
   refine tree_quiets _ _ _ _ sf0 (by kernel_rfl) (by kernel_rfl) ?_
   simp -implicitDefEqProofs (disch := omega) only [Nat.reduceEqDiff, ↓reduceIte, vcu, ↓vcd, pickOps_nil, pickOps_cons, pickO_some, List.getElem?_cons_succ, List.getElem?_cons_zero]
   refine tree_stop ?_
   try simp -implicitDefEqProofs (disch := omega) only [Nat.reduceEqDiff, ↓reduceIte, vcu, ↓vcd]
   refine fin_ct8 Tryz.results6 T9 (Sub.refl _) (v := exV (.slice (some ⟨g1, 0, none⟩) e.ps.length 1) (.slice (some ⟨g2, 0, none⟩) e.cs.length 3) e) (by simp -implicitDefEqProofs (disch := omega) only [Nat.reduceEqDiff, ↓reduceIte, vcu, ↓vcd, l9, co32]; rfl) ⟨exV (.slice (some ⟨g1, 0, none⟩) e.ps.length 1) (.slice (some ⟨g2, 0, none⟩) e.cs.length 3) e, ?_, k9.sub S0 z4, ?_⟩
   ·try simp -implicitDefEqProofs (disch := omega) only [Nat.reduceEqDiff, ↓reduceIte, vcu, ↓vcd]
    rw [hx]
    try rfl
   ·rw [hx]
    exact (hown.kept k9 e4).older S3
  have dv : decide (ask0 t = w_via) = false := decide_eq_false hvi
  have hx : exLine e t = (e, w_what) := by rw [hX, hA, if_neg (by rintro ⟨_, h | h, _⟩ <;> first | exact hwho h | exact hvi h), if_neg (fun h => hwho h.2), if_neg (fun h => hvi h.2)]
  simp -implicitDefEqProofs (disch := omega) only [Nat.reduceEqDiff, ↓reduceIte, vcu, ↓vcd, opK_some, hrd, qni, dn, qca, dc, qpl, dp, dnn, k0, qwh, qvi, dw, dv, l9s, Int.toNat_zero, Nat.zero_add, co32]
  have hone9 := exC_one hown
  try simp -implicitDefEqProofs (disch := omega) only [Nat.reduceEqDiff, ↓reduceIte, vcu, ↓vcd, l9s, co32]
  refine r_sets (g := h4) (i := 0) (C := [.int .i64 0, .int .i64 0, .int .i64 0, .slice none 0 0, .slice none 0 0]) z9q z9co32 (by simp -implicitDefEqProofs (disch := omega) only [Nat.reduceEqDiff, ↓reduceIte, vcu, ↓vcd]; exact hone9) z9z f4 z9l fun T9 k9 e9 => ?_
  replace e9 : T9 h4 = some ⟨exC (.slice (some ⟨g1, 0, none⟩) e.ps.length 1) (.slice (some ⟨g2, 0, none⟩) e.cs.length 3) e, false⟩ := e9
  have l9 : lds T9 h4 0 5 = some [.int .i64 e.s.O, .int .i64 e.s.E, .int .i64 e.s.M, (.slice (some ⟨g1, 0, none⟩) e.ps.length 1), (.slice (some ⟨g2, 0, none⟩) e.cs.length 3)] := by rw [lds_of e9 (by simp [exC])]; rfl
  try simp -implicitDefEqProofs (disch := omega) only [Nat.reduceEqDiff, ↓reduceIte, vcu, ↓vcd]
  refine fin_ct8 Tryz.results6 T9 (Sub.refl _) (v := exV (.slice (some ⟨g1, 0, none⟩) e.ps.length 1) (.slice (some ⟨g2, 0, none⟩) e.cs.length 3) e) (by simp -implicitDefEqProofs (disch := omega) only [Nat.reduceEqDiff, ↓reduceIte, vcu, ↓vcd, l9, co32]; rfl) ⟨exV (.slice (some ⟨g1, 0, none⟩) e.ps.length 1) (.slice (some ⟨g2, 0, none⟩) e.cs.length 3) e, ?_, k9.sub S0 z4, ?_⟩
  ·try simp -implicitDefEqProofs (disch := omega) only [Nat.reduceEqDiff, ↓reduceIte, vcu, ↓vcd]
   rw [hx]
   try rfl
  ·rw [hx]
   exact (OwnX.kept hown k9 e4).older S3
end Go.Proofs.YtafkndnmhhjdhaaGreatDoor
namespace Go.Proofs.YtafkndnmhhjdhaaGreatDoor
open Go Go.Abs Go.RowKit Go.Dial Go.Clos
variable {w0 : World}
theorem linesN_step {e x : Ex} {ts qs : List (List UInt8)} {k : Nat} (hlt : k < ts.length) (h : linesN e ts = ((linesN x (ts.drop k)).1, qs ++ (linesN x (ts.drop k)).2)) :
  linesN e ts = ((linesN (lineX x (ts.getD k [])).1 (ts.drop (k + 1))).1, (qs ++ [(lineX x (ts.getD k [])).2]) ++ (linesN (lineX x (ts.getD k [])).1 (ts.drop (k + 1))).2) := by
 have hd : ts.drop k = ts.getD k [] :: ts.drop (k + 1) := by rw [List.drop_eq_getElem_cons hlt]; simp [List.getD, hlt]
 rw [hd] at h
 rw [h, linesN, List.append_assoc]; rfl
/-- a base with three cells of one's own -/
def Bt (σ : AHeap) (h4 h7 ga : Nat) : AHeap := Bs (Bs σ h4 h7) ga ga
theorem Bt_4 {σ : AHeap} {h4 h7 ga : Nat} (h : h4 ≠ ga) : Bt σ h4 h7 ga h4 = some ⟨[], false⟩ := by
 unfold Bt; rw [Bs, AHeap.upd_ne _ _ h, AHeap.upd_ne _ _ h]; exact Bs_4
theorem Bt_7 {σ : AHeap} {h4 h7 ga : Nat} (h : h7 ≠ ga) : Bt σ h4 h7 ga h7 = some ⟨[], false⟩ := by
 unfold Bt; rw [Bs, AHeap.upd_ne _ _ h, AHeap.upd_ne _ _ h]; exact Bs_6
theorem OwnX.bt {σ τ τ' : AHeap} {h4 h7 ga : Nat} {v : Value} {e : Ex} {o4 o7 oa : AObj} (h : OwnX τ τ' v e) (hs : Sub σ τ) (e4 : τ h4 = some o4) (e7 : τ h7 = some o7) (ea : τ ga = some oa) : OwnX (Bt σ h4 h7 ga) τ' v e := by
 obtain ⟨v1, v2, rfl, h1, h2⟩ := h
 refine ⟨v1, v2, rfl, ?_, ?_⟩
 ·exact h1.imp id fun ⟨g, a, b, c⟩ => ⟨g, a, b, Bs_free (Bs_free (free_sub hs c) (ne_of c e4) (ne_of c e7)) (ne_of c ea) (ne_of c ea)⟩
 ·exact h2.imp id fun ⟨g, a, b, c⟩ => ⟨g, a, b, Bs_free (Bs_free (free_sub hs c) (ne_of c e4) (ne_of c e7)) (ne_of c ea) (ne_of c ea)⟩
theorem OwnX.unbt {σ τ : AHeap} {h4 h7 ga : Nat} {v : Value} {e : Ex} (h : OwnX (Bt σ h4 h7 ga) τ v e) : OwnX σ τ v e := h.unbs.unbs
/-- the row of answers has grown -/
theorem OwnX.grow {σ τ τ' : AHeap} {h4 h7 ga g' : Nat} {v : Value} {e : Ex} (h : OwnX (Bt σ h4 h7 ga) τ v e) (hn : τ g' = none) (hk : Kept ga τ τ') : OwnX (Bt σ h4 h7 g') τ' v e := by
 obtain ⟨v1, v2, rfl, h1, h2⟩ := h
 refine ⟨v1, v2, rfl, ?_, ?_⟩
 ·exact h1.imp id fun ⟨g, a, b, c⟩ => ⟨g, a, hk.at b (Bs_none c).2.1, Bs_free (Bs_none c).1 (ne_of' hn b) (ne_of' hn b)⟩
 ·exact h2.imp id fun ⟨g, a, b, c⟩ => ⟨g, a, hk.at b (Bs_none c).2.1, Bs_free (Bs_none c).1 (ne_of' hn b) (ne_of' hn b)⟩
/-- a row lies aside of an exchange's rows -/
def Aside (w u : Value) : Prop := ∀ A B C v1 v2 g n z, w = .agg #[.int .i64 A, .int .i64 B, .int .i64 C, v1, v2] → u = .slice (some ⟨g, 0, none⟩) n z → (∀ n' z', v1 ≠ .slice (some ⟨g, 0, none⟩) n' z') ∧ ∀ n' z', v2 ≠ .slice (some ⟨g, 0, none⟩) n' z'
theorem aside_nil {e : Ex} {u : Value} : Aside (exV (.slice none 0 0) (.slice none 0 0) e) u := by
 intro A B C v1 v2 g n z h1 h2
 unfold exV at h1
 cases h1
 exact ⟨fun _ _ h => (by cases h), fun _ _ h => (by cases h)⟩
theorem aside_of {σ τ : AHeap} {h4 h7 gq n z : Nat} {u1 u2 : Value} {x : Ex} (h : OwnX (Bt σ h4 h7 gq) τ (exV u1 u2 x) x) : Aside (exV u1 u2 x) (.slice (some ⟨gq, 0, none⟩) n z) := by
 obtain ⟨v1, v2, e0, o1, o2⟩ := h
 unfold exV at e0
 cases e0
 intro A B C w1 w2 g n z h1 h2
 unfold exV at h1
 cases h1
 cases h2
 refine ⟨fun n' z' h => ?_, fun n' z' h => ?_⟩
 ·rcases o1 with ⟨h0, _⟩ | ⟨g', e, _, hn⟩
  ·rw [h] at h0; cases h0
  ·rw [h] at e; cases e; exact (Bs_none hn).2.1 rfl
 ·rcases o2 with ⟨h0, _⟩ | ⟨g', e, _, hn⟩
  ·rw [h] at h0; cases h0
  ·rw [h] at e; cases e; exact (Bs_none hn).2.1 rfl
set_option maxRecDepth 8000 in
set_option maxHeartbeats 3200000 in
theorem exLines_calls (σ : AHeap) (v vt : Value) (e : Ex) (ts : List (List UInt8)) (hv : ExV σ v e) (hb : ExB e) (ht : Texts σ vt ts) (hl : ts.length ≤ 1048576) (hN : ∀ t ∈ ts, t.length ≤ 1048576) :
  ACall Tryz.prog w0 13 [v, vt] σ fun r σ' => ∃ w u, r = .tuple #[w, u] ∧ Sub σ σ' ∧ OwnX σ σ' w (exLines e ts).1 ∧ OwnS σ σ' u (exLines e ts).2 ∧ Aside w u := by
 have hv0 := hv
 obtain ⟨v1, v2, rfl, t1, t2⟩ := hv
 unfold exV
 refine acall_goc mixed Tryz.func13 rfl goodc13 fun pr => ?_
 simp -implicitDefEqProofs (disch := omega) only [Nat.reduceEqDiff, ↓reduceIte, vcu, ↓vcd]
 refine r_boxed fun b τ1 nb s1 eb => ?_
 replace eb : τ1 b = some ⟨[.int .i64 e.s.O, .int .i64 e.s.E, .int .i64 e.s.M, v1, v2], false⟩ := eb
 refine r_new ze32 fun h4 τ2 n4 s2 e4 => ?_
 replace e4 : τ2 h4 = some ⟨[.int .i64 0, .int .i64 0, .int .i64 0, .slice none 0 0, .slice none 0 0], false⟩ := e4
 simp -implicitDefEqProofs (disch := omega) only [Nat.reduceEqDiff, ↓reduceIte, vcu, ↓vcd]
 refine r_lit el24 (out := #[]) (by kernel_rfl) (by kernel_rfl) fun ga τ3 na s3 wa => ?_
 replace wa : τ3 ga = some ⟨texts [], false⟩ := wa
 replace eb := s3 _ _ (s2 _ _ eb)
 have d4a : h4 ≠ ga := ne_of' na e4
 replace e4 := s3 _ _ e4
 have S3 : Sub σ τ3 := (s1.trans s2).trans s3
 have z4 : σ h4 = none := free_sub s1 n4
 have za : σ ga = none := free_sub (s1.trans s2) na
 have hX3 := hv0.sub S3
 have x5 : lds τ3 b 0 5 = some [.int .i64 e.s.O, .int .i64 e.s.E, .int .i64 e.s.M, v1, v2] := by rw [lds_of eb (by simp)]; rfl
 have hval := exVal_calls (w0 := w0) τ3 _ _ hX3 hb
 unfold exV at hval
 have lnt0 := lenT (ht.sub S3)
 simp -implicitDefEqProofs (disch := omega) only [Nat.reduceEqDiff, ↓reduceIte, vcu, ↓vcd, x5, co32]
 refine hval.mono ?_
 rintro _ _ ⟨rfl, rfl⟩
 rename_i τ3
 by_cases hok2 : ExOk e ∧ ts.length ≤ 40
 case neg =>
  have hx : exLines e ts = (ex0, []) := if_neg hok2
  by_cases hok : ExOk e
  ·have h40 : ¬ ts.length ≤ 40 := fun h => hok2 ⟨hok, h⟩
   rw [decide_eq_true hok]
   simp -implicitDefEqProofs (disch := omega) only [Nat.reduceEqDiff, ↓reduceIte, vcu, ↓vcd, opK_some, Bool.not_true, lnt0]
   rw [r_build]
   refine ⟨(_, #[.int .i64 0, .int .i64 0, .int .i64 0, .slice none 0 0, .slice none 0 0]), ⟨ze32, by first | kernel_rfl | (simp -implicitDefEqProofs (disch := omega) only [Nat.reduceEqDiff, ↓reduceIte, vcu, ↓vcd]; kernel_rfl)⟩, ?_⟩
   simp -implicitDefEqProofs (disch := omega) only [Nat.reduceEqDiff, ↓reduceIte, vcu, ↓vcd]
   refine r_sets (g := h4) (i := 0) (C := [.int .i64 0, .int .i64 0, .int .i64 0, .slice none 0 0, .slice none 0 0]) z9q z9co32 z9r z9z e4 z9l fun T9 k9 e9 => ?_
   replace e9 : T9 h4 = some ⟨[.int .i64 0, .int .i64 0, .int .i64 0, .slice none 0 0, .slice none 0 0], false⟩ := e9
   have l9 : lds T9 h4 0 5 = some [.int .i64 0, .int .i64 0, .int .i64 0, .slice none 0 0, .slice none 0 0] := by rw [lds_of e9 (by simp)]; rfl
   simp -implicitDefEqProofs (disch := omega) only [Nat.reduceEqDiff, ↓reduceIte, vcu, ↓vcd]
   refine fin_ct8 Tryz.results13 T9 (Sub.refl _) (v := exV (.slice none 0 0) (.slice none 0 0) ex0) (by simp -implicitDefEqProofs (disch := omega) only [Nat.reduceEqDiff, ↓reduceIte, vcu, ↓vcd, l9, co32]; rfl) ⟨exV (.slice none 0 0) (.slice none 0 0) ex0, .slice (some ⟨ga, 0, none⟩) 0 1, ?_, k9.sub S3 z4, ?_, ?_, aside_nil⟩
   ·simp -implicitDefEqProofs (disch := omega) only [Nat.reduceEqDiff, ↓reduceIte, vcu, ↓vcd]
   ·rw [hx]
    exact ⟨_, _, rfl, .inl ⟨rfl, rfl⟩, .inl ⟨rfl, rfl⟩⟩
   ·rw [hx]
    exact .inr ⟨ga, rfl, k9.at wa d4a.symm, za⟩
  ·rw [decide_eq_false hok]
   simp -implicitDefEqProofs (disch := omega) only [Nat.reduceEqDiff, ↓reduceIte, vcu, ↓vcd, opK_some, Bool.not_false]
   rw [r_build]
   refine ⟨(_, #[.int .i64 0, .int .i64 0, .int .i64 0, .slice none 0 0, .slice none 0 0]), ⟨ze32, by first | kernel_rfl | (simp -implicitDefEqProofs (disch := omega) only [Nat.reduceEqDiff, ↓reduceIte, vcu, ↓vcd]; kernel_rfl)⟩, ?_⟩
   simp -implicitDefEqProofs (disch := omega) only [Nat.reduceEqDiff, ↓reduceIte, vcu, ↓vcd]
   refine r_sets (g := h4) (i := 0) (C := [.int .i64 0, .int .i64 0, .int .i64 0, .slice none 0 0, .slice none 0 0]) z9q z9co32 z9r z9z e4 z9l fun T9 k9 e9 => ?_
   replace e9 : T9 h4 = some ⟨[.int .i64 0, .int .i64 0, .int .i64 0, .slice none 0 0, .slice none 0 0], false⟩ := e9
   have l9 : lds T9 h4 0 5 = some [.int .i64 0, .int .i64 0, .int .i64 0, .slice none 0 0, .slice none 0 0] := by rw [lds_of e9 (by simp)]; rfl
   simp -implicitDefEqProofs (disch := omega) only [Nat.reduceEqDiff, ↓reduceIte, vcu, ↓vcd]
   refine fin_ct8 Tryz.results13 T9 (Sub.refl _) (v := exV (.slice none 0 0) (.slice none 0 0) ex0) (by simp -implicitDefEqProofs (disch := omega) only [Nat.reduceEqDiff, ↓reduceIte, vcu, ↓vcd, l9, co32]; rfl) ⟨exV (.slice none 0 0) (.slice none 0 0) ex0, .slice (some ⟨ga, 0, none⟩) 0 1, ?_, k9.sub S3 z4, ?_, ?_, aside_nil⟩
   ·simp -implicitDefEqProofs (disch := omega) only [Nat.reduceEqDiff, ↓reduceIte, vcu, ↓vcd]
   ·rw [hx]
    exact ⟨_, _, rfl, .inl ⟨rfl, rfl⟩, .inl ⟨rfl, rfl⟩⟩
   ·rw [hx]
    exact .inr ⟨ga, rfl, k9.at wa d4a.symm, za⟩
 obtain ⟨hok, h40⟩ := id hok2
 rw [decide_eq_true hok]
 have hcopy := copyX_rows (w0 := w0) τ3 (exV v1 v2 e) e hX3 hb
 unfold exV at hcopy
 simp -implicitDefEqProofs (disch := omega) only [Nat.reduceEqDiff, ↓reduceIte, vcu, ↓vcd, opK_some, Bool.not_true, lnt0, x5, co32]
 refine hcopy.mono ?_
 rintro _ τ4 ⟨g1, g2, rfl, s4, w1, w2, m1, m2⟩
 simp -implicitDefEqProofs (disch := omega) only [Nat.reduceEqDiff, ↓reduceIte, vcu, ↓vcd, opK_some]
 refine r_new ze32 fun h7 τ5 n7 s5 e7 => ?_
 replace e7 : τ5 h7 = some ⟨[.int .i64 0, .int .i64 0, .int .i64 0, .slice none 0 0, .slice none 0 0], false⟩ := e7
 have d71 : g1 ≠ h7 := ne_of' n7 w1
 have d72 : g2 ≠ h7 := ne_of' n7 w2
 have d47 : h4 ≠ h7 := ne_of' n7 (s4 _ _ e4)
 have d7a : h7 ≠ ga := ne_of n7 (s4 _ _ wa)
 have d14 : g1 ≠ h4 := ne_of m1 e4
 have d24 : g2 ≠ h4 := ne_of m2 e4
 have d1a : g1 ≠ ga := ne_of m1 wa
 have d2a : g2 ≠ ga := ne_of m2 wa
 have z1 : σ g1 = none := free_sub S3 m1
 have z2 : σ g2 = none := free_sub S3 m2
 have z7 : σ h7 = none := free_sub (S3.trans s4) n7
 refine r_sets (g := h7) (i := 0) (C := [.int .i64 0, .int .i64 0, .int .i64 0, .slice none 0 0, .slice none 0 0]) z9q z9co32 z9r z9z e7 z9l fun τ6 k6 f7 => ?_
 replace f7 : τ6 h7 = some ⟨exC (.slice (some ⟨g1, 0, none⟩) e.ps.length 1) (.slice (some ⟨g2, 0, none⟩) e.cs.length 3) e, false⟩ := f7
 have S6 : Sub σ τ6 := k6.sub ((S3.trans s4).trans s5) z7
 have w61 := k6.at (s5 _ _ w1) d71
 have w62 := k6.at (s5 _ _ w2) d72
 have f4 := k6.at (s5 _ _ (s4 _ _ e4)) d47
 have fa := k6.at (s5 _ _ (s4 _ _ wa)) d7a.symm
 have hown : OwnX (Bt σ h4 h7 ga) τ6 (exV (.slice (some ⟨g1, 0, none⟩) e.ps.length 1) (.slice (some ⟨g2, 0, none⟩) e.cs.length 3) e) e :=
  ⟨_, _, rfl, .inr ⟨g1, rfl, w61, Bs_free (Bs_free z1 d14 d71) d1a d1a⟩, .inr ⟨g2, rfl, w62, Bs_free (Bs_free z2 d24 d72) d2a d2a⟩⟩
 have hR : exLines e ts = linesN e ts := if_pos hok2
 have lnt := fun (T : AHeap) (hs : Sub σ T) => lenT (ht.sub hs)
 simp -implicitDefEqProofs (disch := omega) only [Nat.reduceEqDiff, ↓reduceIte, vcu, ↓vcd]
 refine vc_loop_c mixed (by kernel_rfl) [1, 4, 7] (fun m a τ => ∃ (k : Nat) (x : Ex) (u1 u2 : Value) (qs : List (List UInt8)) (gq : Nat), m + k = ts.length ∧ a 8 = .int .i64 k ∧ a 6 = .slice (some ⟨gq, 0, none⟩) k 1 ∧ qs.length = k ∧ ExOk x ∧ linesN e ts = ((linesN x (ts.drop k)).1, qs ++ (linesN x (ts.drop k)).2) ∧ Sub σ τ ∧ τ h7 = some ⟨exC u1 u2 x, false⟩ ∧ τ h4 = some ⟨[.int .i64 0, .int .i64 0, .int .i64 0, .slice none 0 0, .slice none 0 0], false⟩ ∧ τ gq = some ⟨texts qs, false⟩ ∧ h4 ≠ gq ∧ h7 ≠ gq ∧ σ gq = none ∧ OwnX (Bt σ h4 h7 gq) τ (exV u1 u2 x) x) ts.length
  ⟨0, e, _, _, [], ga, by simp, rfl, rfl, rfl, hok, by simp, S6, f7, f4, fa, d4a, d7a, za, hown⟩ ?_
 rintro m a τ hc ⟨k, x, u1, u2, qs, gq, hk, h8, h6, hql, hxo, hrun, hs, q7, q4, qa, d4q, d7q, zq, hox⟩
 simp -implicitDefEqProofs (disch := omega) only [Nat.reduceEqDiff, ↓reduceIte, vcu, ↓vcd] at hc
 obtain ⟨h1, h4', h7', -⟩ := hc
 have hld := lnt τ hs
 have l7 : lds τ h7 0 5 = some [.int .i64 x.s.O, .int .i64 x.s.E, .int .i64 x.s.M, u1, u2] := by rw [lds_of q7 (by simp [exC])]; rfl
 by_cases hlt : k < ts.length
 case neg =>
  obtain rfl : k = ts.length := by omega
  have hone := exC_one hox
  rw [List.drop_length] at hrun
  have hrun' : exLines e ts = (x, qs) := by rw [hR, hrun]; simp [linesN]
  simp -implicitDefEqProofs (disch := omega) only [Nat.reduceEqDiff, ↓reduceIte, vcu, ↓vcd, h1, h4', h7', h6, h8, hld, l7, co32]
  refine r_sets (g := h4) (i := 0) (C := [.int .i64 0, .int .i64 0, .int .i64 0, .slice none 0 0, .slice none 0 0]) (by simp -implicitDefEqProofs (disch := omega) only [Nat.reduceEqDiff, ↓reduceIte, vcu, ↓vcd, h4']) z9co32 (by simp -implicitDefEqProofs (disch := omega) only [Nat.reduceEqDiff, ↓reduceIte, vcu, ↓vcd]; exact hone) z9z q4 z9l fun T9 k9 e9 => ?_
  replace e9 : T9 h4 = some ⟨exC u1 u2 x, false⟩ := e9
  have l9 : lds T9 h4 0 5 = some [.int .i64 x.s.O, .int .i64 x.s.E, .int .i64 x.s.M, u1, u2] := by rw [lds_of e9 (by simp [exC])]; rfl
  simp -implicitDefEqProofs (disch := omega) only [Nat.reduceEqDiff, ↓reduceIte, vcu, ↓vcd, h4', h6]
  refine fin_ct8 Tryz.results13 T9 (Sub.refl _) (v := exV u1 u2 x) (by simp -implicitDefEqProofs (disch := omega) only [Nat.reduceEqDiff, ↓reduceIte, vcu, ↓vcd, h4', l9, co32]; rfl) ⟨exV u1 u2 x, .slice (some ⟨gq, 0, none⟩) ts.length 1, ?_, k9.sub hs z4, ?_, ?_, aside_of hox⟩
  ·simp -implicitDefEqProofs (disch := omega) only [Nat.reduceEqDiff, ↓reduceIte, vcu, ↓vcd]
  ·rw [hrun']
   exact (hox.kept k9 (Bt_4 d4q)).unbt
  ·rw [hrun']
   exact .inr ⟨gq, by rw [hql], k9.at qa d4q.symm, zq⟩
 have hst := linesN_step hlt hrun
 have hmem : ts.getD k [] ∈ ts := by simp [List.getD, hlt]
 have hNt := hN _ hmem
 obtain ⟨gt', ot, rfl, hrow⟩ := rowT (ht.sub hs) (by omega)
 have hxt := hrow k hlt
 generalize ts.getD k [] = t at hst hxt hNt
 have hexl := fun (T : AHeap) (hT : Sub τ T) => exLine_calls (w0 := w0) T (exV u1 u2 x) x t (hox.ex.sub hT) (exB_of hxo) hNt
 have hE : exLine x t = lineX x t := if_pos hxo
 have hlx := (lineX_ok hxo t).1
 rw [hE] at hexl
 generalize lineX x t = ya at hexl hst hlx
 obtain ⟨y, an⟩ := ya
 unfold exV at hexl
 dsimp only at hexl hst hlx
 simp -implicitDefEqProofs (disch := omega) only [Nat.reduceEqDiff, ↓reduceIte, vcu, ↓vcd, h1, h4', h7', h6, h8, hld]
 refine acodeB_monoX (Q' := fun en a' T => en = .normal ∧ (a' 1 = a 1 ∧ a' 4 = a 4 ∧ a' 6 = a 6 ∧ a' 7 = a 7 ∧ a' 8 = a 8) ∧ ∃ p y1 y2, a' 9 = .pointer (some ⟨p, 0, none⟩) ∧ a' 10 = .string (tx an) ∧ Sub τ T ∧ T p = some ⟨exC y1 y2 y, false⟩ ∧ OwnX τ T (exV y1 y2 y) y)
  (region_tree mixed (quiets [1, 2, 3] (quiets [0, 4] (.two 5 (quiets [6, 7, 8] (.one 9 (.one 10 (quiets [11] .stop)))) 9 (.one 5 (quiets [6, 7, 8] (.one 10 (quiets [11] .stop))))))) [([0, 4], Sub τ)] (by kernel_rfl) (by kernel_rfl) (fun p hp => by simp only [List.mem_singleton] at hp; subst hp; exact Sub.refl _) ?_) ?_
 ·refine tree_quiets _ _ _ _ sf0 (by kernel_rfl) (by kernel_rfl) ?_
  simp -implicitDefEqProofs (disch := omega) only [Nat.reduceEqDiff, ↓reduceIte, vcu, ↓vcd, pickOps_nil, pickOps_cons, pickO_some, List.getElem?_cons_succ, List.getElem?_cons_zero, h1, h8, h7']
  refine tree_quiets τ _ _ _ sf1 (by kernel_rfl) (by kernel_rfl) ?_
  simp -implicitDefEqProofs (disch := omega) only [Nat.reduceEqDiff, ↓reduceIte, vcu, ↓vcd, pickOps_nil, pickOps_cons, pickO_some, List.getElem?_cons_succ, List.getElem?_cons_zero, h7', l7, hxt, co32]
  refine tree_two rfl rfl ?_ ?_
  ·try simp -implicitDefEqProofs (disch := omega) only [Nat.reduceEqDiff, ↓reduceIte, vcu, ↓vcd]
   refine (hexl τ (Sub.refl _)).mono ?_
   rintro _ T1 ⟨_, rfl, p1, y1, y2, rfl, oy1, oy2⟩
   have hoy : OwnX τ T1 (exV y1 y2 y) y := ⟨y1, y2, rfl, oy1, oy2⟩
   have hone := exC_one hoy
   unfold exV
   simp -implicitDefEqProofs (disch := omega) only [Nat.reduceEqDiff, ↓reduceIte, vcu, ↓vcd, opK_some]
   refine ⟨keep_of rfl (fun p hp => by simp only [List.mem_singleton] at hp; subst hp; exact .inr p1), ?_⟩
   refine tree_quiets _ _ _ _ sf0 (by kernel_rfl) (by kernel_rfl) ?_
   simp -implicitDefEqProofs (disch := omega) only [Nat.reduceEqDiff, ↓reduceIte, vcu, ↓vcd, pickOps_nil, pickOps_cons, pickO_some, List.getElem?_cons_succ, List.getElem?_cons_zero, List.getElem?_toArray, List.getElem?_cons_zero, List.getElem?_cons_succ]
   refine tree_one rfl ?_
   refine r_new ze32 fun p T2 np sp ep => ?_
   replace ep : T2 p = some ⟨[.int .i64 0, .int .i64 0, .int .i64 0, .slice none 0 0, .slice none 0 0], false⟩ := ep
   simp -implicitDefEqProofs (disch := omega) only [Nat.reduceEqDiff, ↓reduceIte, vcu, ↓vcd]
   have P2 := p1.trans sp
   refine ⟨keep_of rfl (fun p hp => by simp only [List.mem_singleton] at hp; subst hp; exact .inr P2), ?_⟩
   refine tree_one rfl ?_
   refine r_sets (g := p) (i := 0) (C := [.int .i64 0, .int .i64 0, .int .i64 0, .slice none 0 0, .slice none 0 0]) z9q z9co32 (by simp -implicitDefEqProofs (disch := omega) only [Nat.reduceEqDiff, ↓reduceIte, vcu, ↓vcd]; exact hone) z9z ep z9l fun T3 k3 e3 => ?_
   replace e3 : T3 p = some ⟨exC y1 y2 y, false⟩ := e3
   have P3 : Sub τ T3 := k3.sub P2 (free_sub p1 np)
   have hoy3 : OwnX τ T3 (exV y1 y2 y) y := ⟨y1, y2, rfl, (oy1.sub sp).imp id fun ⟨g, a1, a2, a3⟩ => ⟨g, a1, k3.at a2 (by
     rcases oy1 with ⟨h, _⟩ | ⟨g', h, h2, _⟩
     ·rw [a1] at h; cases h
     ·rw [a1] at h; cases h; exact ne_of' np h2), a3⟩, (oy2.sub sp).imp id fun ⟨g, a1, a2, a3⟩ => ⟨g, a1, k3.at a2 (by
     rcases oy2 with ⟨h, _⟩ | ⟨g', h, h2, _⟩
     ·rw [a1] at h; cases h
     ·rw [a1] at h; cases h; exact ne_of' np h2), a3⟩⟩
   simp -implicitDefEqProofs (disch := omega) only [Nat.reduceEqDiff, ↓reduceIte, vcu, ↓vcd]
   refine ⟨keep_of rfl (fun p hp => by simp only [List.mem_singleton] at hp; subst hp; exact .inr P3), ?_⟩
   refine tree_quiets _ _ _ _ sf0 (by kernel_rfl) (by kernel_rfl) ?_
   simp -implicitDefEqProofs (disch := omega) only [Nat.reduceEqDiff, ↓reduceIte, vcu, ↓vcd, pickOps_nil, pickOps_cons, pickO_some, List.getElem?_cons_succ, List.getElem?_cons_zero]
   refine tree_stop ?_
   exact ⟨by first | trivial | rfl, ⟨by first | trivial | rfl | simp -implicitDefEqProofs (disch := omega) only [Nat.reduceEqDiff, ↓reduceIte, vcu, ↓vcd], by first | trivial | rfl | simp -implicitDefEqProofs (disch := omega) only [Nat.reduceEqDiff, ↓reduceIte, vcu, ↓vcd], by first | trivial | rfl | simp -implicitDefEqProofs (disch := omega) only [Nat.reduceEqDiff, ↓reduceIte, vcu, ↓vcd], by first | trivial | rfl | simp -implicitDefEqProofs (disch := omega) only [Nat.reduceEqDiff, ↓reduceIte, vcu, ↓vcd], by first | trivial | rfl | simp -implicitDefEqProofs (disch := omega) only [Nat.reduceEqDiff, ↓reduceIte, vcu, ↓vcd]⟩, p, y1, y2, by first | trivial | rfl | simp -implicitDefEqProofs (disch := omega) only [Nat.reduceEqDiff, ↓reduceIte, vcu, ↓vcd], by first | trivial | rfl | simp -implicitDefEqProofs (disch := omega) only [Nat.reduceEqDiff, ↓reduceIte, vcu, ↓vcd], P3, e3, hoy3⟩
  ·try simp -implicitDefEqProofs (disch := omega) only [Nat.reduceEqDiff, ↓reduceIte, vcu, ↓vcd]
   refine r_new ze32 fun p T1 np sp ep => ?_
   replace ep : T1 p = some ⟨[.int .i64 0, .int .i64 0, .int .i64 0, .slice none 0 0, .slice none 0 0], false⟩ := ep
   simp -implicitDefEqProofs (disch := omega) only [Nat.reduceEqDiff, ↓reduceIte, vcu, ↓vcd]
   refine ⟨keep_of rfl (fun p hp => by simp only [List.mem_singleton] at hp; subst hp; exact .inr sp), ?_⟩
   refine tree_one rfl ?_
   try simp -implicitDefEqProofs (disch := omega) only [Nat.reduceEqDiff, ↓reduceIte, vcu, ↓vcd]
   refine (hexl T1 sp).mono ?_
   rintro _ T2 ⟨_, rfl, p1, y1, y2, rfl, oy1, oy2⟩
   have hoy : OwnX T1 T2 (exV y1 y2 y) y := ⟨y1, y2, rfl, oy1, oy2⟩
   have hone := exC_one hoy
   unfold exV
   have P2 := sp.trans p1
   simp -implicitDefEqProofs (disch := omega) only [Nat.reduceEqDiff, ↓reduceIte, vcu, ↓vcd, opK_some]
   refine ⟨keep_of rfl (fun p hp => by simp only [List.mem_singleton] at hp; subst hp; exact .inr P2), ?_⟩
   refine tree_quiets _ _ _ _ sf0 (by kernel_rfl) (by kernel_rfl) ?_
   simp -implicitDefEqProofs (disch := omega) only [Nat.reduceEqDiff, ↓reduceIte, vcu, ↓vcd, pickOps_nil, pickOps_cons, pickO_some, List.getElem?_cons_succ, List.getElem?_cons_zero, List.getElem?_toArray, List.getElem?_cons_zero, List.getElem?_cons_succ]
   refine tree_one rfl ?_
   refine r_sets (g := p) (i := 0) (C := [.int .i64 0, .int .i64 0, .int .i64 0, .slice none 0 0, .slice none 0 0]) z9q z9co32 (by simp -implicitDefEqProofs (disch := omega) only [Nat.reduceEqDiff, ↓reduceIte, vcu, ↓vcd]; exact hone) z9z (p1 _ _ ep) z9l fun T3 k3 e3 => ?_
   replace e3 : T3 p = some ⟨exC y1 y2 y, false⟩ := e3
   have P3 : Sub τ T3 := k3.sub P2 np
   have hoy3 : OwnX τ T3 (exV y1 y2 y) y := (hoy.kept k3 ep).older sp
   simp -implicitDefEqProofs (disch := omega) only [Nat.reduceEqDiff, ↓reduceIte, vcu, ↓vcd]
   refine ⟨keep_of rfl (fun p hp => by simp only [List.mem_singleton] at hp; subst hp; exact .inr P3), ?_⟩
   refine tree_quiets _ _ _ _ sf0 (by kernel_rfl) (by kernel_rfl) ?_
   simp -implicitDefEqProofs (disch := omega) only [Nat.reduceEqDiff, ↓reduceIte, vcu, ↓vcd, pickOps_nil, pickOps_cons, pickO_some, List.getElem?_cons_succ, List.getElem?_cons_zero]
   refine tree_stop ?_
   exact ⟨by first | trivial | rfl, ⟨by first | trivial | rfl | simp -implicitDefEqProofs (disch := omega) only [Nat.reduceEqDiff, ↓reduceIte, vcu, ↓vcd], by first | trivial | rfl | simp -implicitDefEqProofs (disch := omega) only [Nat.reduceEqDiff, ↓reduceIte, vcu, ↓vcd], by first | trivial | rfl | simp -implicitDefEqProofs (disch := omega) only [Nat.reduceEqDiff, ↓reduceIte, vcu, ↓vcd], by first | trivial | rfl | simp -implicitDefEqProofs (disch := omega) only [Nat.reduceEqDiff, ↓reduceIte, vcu, ↓vcd], by first | trivial | rfl | simp -implicitDefEqProofs (disch := omega) only [Nat.reduceEqDiff, ↓reduceIte, vcu, ↓vcd]⟩, p, y1, y2, by first | trivial | rfl | simp -implicitDefEqProofs (disch := omega) only [Nat.reduceEqDiff, ↓reduceIte, vcu, ↓vcd], by first | trivial | rfl | simp -implicitDefEqProofs (disch := omega) only [Nat.reduceEqDiff, ↓reduceIte, vcu, ↓vcd], P3, e3, hoy3⟩
 rintro _ a' T ⟨rfl, ⟨r1, r4, r6, r7, r8⟩, p, y1, y2, r9, r10, PT, ep, hoy⟩
 rw [h1] at r1
 rw [h4'] at r4
 rw [h6] at r6
 rw [h7'] at r7
 rw [h8] at r8
 have q7' := PT _ _ q7
 have q4' := PT _ _ q4
 have qa' := PT _ _ qa
 have hone := exC_one hoy
 have hoB := hoy.bt hs q4 q7 qa
 have lp : lds T p 0 5 = some [.int .i64 y.s.O, .int .i64 y.s.E, .int .i64 y.s.M, y1, y2] := by rw [lds_of ep (by simp [exC])]; rfl
 simp -implicitDefEqProofs (disch := omega) only [Nat.reduceEqDiff, ↓reduceIte, vcu, ↓vcd, r1, r4, r6, r7, r8, r9, r10, lp, co32]
 refine r_sets (g := h7) (i := 0) (C := exC u1 u2 x) (by simp -implicitDefEqProofs (disch := omega) only [Nat.reduceEqDiff, ↓reduceIte, vcu, ↓vcd, r7]) z9co32 (by simp -implicitDefEqProofs (disch := omega) only [Nat.reduceEqDiff, ↓reduceIte, vcu, ↓vcd]; exact hone) z9z q7' z9l fun T9 k9 e9 => ?_
 replace e9 : T9 h7 = some ⟨exC y1 y2 y, false⟩ := e9
 have S9 := k9.sub (hs.trans PT) z7
 have f49 := k9.at q4' d47
 have fa9 := k9.at qa' d7q.symm
 have ho9 := hoB.kept k9 (Bt_7 d7q)
 simp -implicitDefEqProofs (disch := omega) only [Nat.reduceEqDiff, ↓reduceIte, vcu, ↓vcd, r1, r4, r6, r7, r8, r10]
 refine r_lit el24 (out := #[.string (tx an)]) (by first | kernel_rfl | (simp -implicitDefEqProofs (disch := omega) only [Nat.reduceEqDiff, ↓reduceIte, vcu, ↓vcd, r10]; kernel_rfl)) (by rfl) fun e3 T10 n3 s3' w3 => ?_
 replace w3 : T10 e3 = some ⟨texts [an], false⟩ := w3
 refine r_pushX (g := gq) (e := e3) (o := 0) (xs := qs) (ys := [an]) (m := 1) (len := k) el24 (by omega) sl24 (by simp -implicitDefEqProofs (disch := omega) only [Nat.reduceEqDiff, ↓reduceIte, vcu, ↓vcd, r6]) (s3' _ _ fa9) hql z9q (textsAt_own w3) rfl (by omega) fun g' T11 n11 k11 w11 => ?_
 have hg4 : h4 ≠ g' := ne_of' n11 (s3' _ _ f49)
 have hg7 : h7 ≠ g' := ne_of' n11 (s3' _ _ e9)
 simp -implicitDefEqProofs (disch := omega) only [Nat.reduceEqDiff, ↓reduceIte, vcu, ↓vcd, r1, r4, r7, r8]
 refine ⟨⟨?_, ?_, ?_, trivial⟩, m - 1, by omega, k + 1, y, y1, y2, qs ++ [an], g', by omega, by simp, rfl, by rw [List.length_append, hql]; rfl, hlx, hst, k11.sub (S9.trans s3') zq, k11.at (s3' _ _ e9) d7q, k11.at (s3' _ _ f49) d4q, w11, hg4, hg7, free_sub (S9.trans s3') n11, (ho9.sub s3').grow n11 k11⟩
 all_goals first | trivial | exact h1.symm | exact h4'.symm | exact h7'.symm
end Go.Proofs.YtafkndnmhhjdhaaGreatDoor
namespace Go.Proofs.YtafkndnmhhjdhaaGreatDoor
open Go Go.Abs Go.RowKit Go.Dial Go.Clos
variable {w0 : World}
theorem exB_0 : ExB ex0 := ⟨Nat.zero_le _, ⟨fun x hx => absurd hx (by show x ∉ ([] : List (List UInt8)); simp), Nat.zero_le _⟩⟩
theorem exLineB (e : Ex) (t : List UInt8) : ExB (exLine e t).1 := by
 unfold exLine; split
 ·exact exB_of (lineX_ok (by assumption) t).1
 ·exact exB_0
theorem exLinesB (e : Ex) (ts : List (List UInt8)) : ExB (exLines e ts).1 ∧ (exLines e ts).2.length ≤ 1048576 := by
 unfold exLines; split
 ·rename_i h
  refine ⟨exB_of (linesN_ok ts h.1).1, ?_⟩
  rw [(linesN_ok ts h.1).2.1]; omega
 ·exact ⟨exB_0, by simp⟩
/-- from τ to τ' all stays but what was made between β and σ -/
def Kp (β σ τ τ' : AHeap) : Prop := ∀ h ob, τ h = some ob → (β h ≠ none ∨ σ h = none) → τ' h = some ob
theorem Kp.sub {β σ τ τ' : AHeap} (k : Kp β σ τ τ') {α : AHeap} (h : Sub α β) (ht : Sub α τ) : Sub α τ' := fun i ob e => k i ob (ht i ob e) (.inl (by rw [h i ob e]; exact Option.some_ne_none _))
theorem Kp.cell {β σ τ τ' : AHeap} (k : Kp β σ τ τ') {h : Nat} {ob : AObj} (e : τ h = some ob) (n : σ h = none) : τ' h = some ob := k h ob e (.inr n)
theorem Kp.ownS {β σ τ τ' γ : AHeap} (k : Kp β σ τ τ') {v : Value} {xs : List (List UInt8)} (h : OwnS γ τ v xs) (hs : Sub σ γ) : OwnS γ τ' v xs := h.imp id fun ⟨g, a, b, c⟩ => ⟨g, a, k g _ b (.inr (free_sub hs c)), c⟩
theorem Kp.ownC {β σ τ τ' γ : AHeap} (k : Kp β σ τ τ') {v : Value} {xs : List Cl} (h : OwnC γ τ v xs) (hs : Sub σ γ) : OwnC γ τ' v xs := h.imp id fun ⟨g, a, b, c⟩ => ⟨g, a, k g _ b (.inr (free_sub hs c)), c⟩
set_option maxRecDepth 8000 in
theorem markEx_keep (β σ : AHeap) (v1 v2 : Value) (e : Ex) (k : Int) (hv : OwnX β σ (exV v1 v2 e) e) (hb : ExB e) (hk : 0 ≤ k ∧ k ≤ 1000000) :
  ACall Tryz.prog w0 10 [.agg #[.int .i64 e.s.O, .int .i64 e.s.E, .int .i64 e.s.M, v1, v2], .int .i64 k] σ fun r σ' => r = .int .i64 (k + e.ps.length + 3 * e.cs.length) ∧ OwnX β σ' (exV v1 v2 e) (exM k e) ∧ ∀ h ob, σ h = some ob → (∀ n z, v1 ≠ .slice (some ⟨h, 0, none⟩) n z) → (∀ n z, v2 ≠ .slice (some ⟨h, 0, none⟩) n z) → σ' h = some ob := by
 obtain ⟨⟨O, E, M⟩, ps, cs⟩ := e
 obtain ⟨v3, v4, e0, t1, t2⟩ := hv
 unfold exV at e0
 cases e0
 obtain ⟨b1, b2, b3⟩ := hb
 dsimp only at t1 t2 b1 b2 b3
 dsimp only
 refine acall_go mixed Tryz.func10 rfl good10 fun pr => ?_
 simp -implicitDefEqProofs (disch := omega) only [Nat.reduceEqDiff, ↓reduceIte, vcu, ↓vcd]
 refine r_boxed fun b τ nb s1 e1 => ?_
 replace e1 : τ b = some ⟨[.int .i64 O, .int .i64 E, .int .i64 M, v1, v2], false⟩ := e1
 have x3 : ld τ b (0 + 3) = some v1 := ld_of e1 rfl
 simp -implicitDefEqProofs (disch := omega) only [Nat.reduceEqDiff, ↓reduceIte, vcu, ↓vcd, x3]
 refine (markS_keep β τ v1 ps k (t1.sub s1) b1 ⟨hk.1, by omega⟩).mono ?_
 rintro _ τ2 ⟨rfl, m1, keep1⟩
 have e2 : τ2 b = some ⟨[.int .i64 O, .int .i64 E, .int .i64 M, v1, v2], false⟩ := keep1 b _ e1 (fun n z hh => by
  rcases t1 with ⟨rfl, _⟩ | ⟨g, rfl, hg, _⟩
  ·cases hh
  ·cases hh; rw [nb] at hg; cases hg)
 have t2' : OwnC β τ2 v2 cs := by
  have t2s := t2.sub s1
  rcases t2 with ⟨rfl, rfl⟩ | ⟨g2, rfl, hg2, hn2⟩
  ·exact .inl ⟨rfl, rfl⟩
  ·by_cases hsame : ∃ n z, v1 = .slice (some ⟨g2, 0, none⟩) n z
   ·obtain ⟨n, z, hsame⟩ := hsame
    obtain ⟨rfl, rfl⟩ := ownSC (t1.sub s1) t2s hsame rfl
    rcases m1 with ⟨rfl, _⟩ | ⟨g1, h1, hg1, _⟩
    ·cases hsame
    ·rw [h1] at hsame; cases hsame
     exact .inr ⟨g2, rfl, hg1, hn2⟩
   ·exact .inr ⟨g2, rfl, keep1 g2 _ (s1 _ _ hg2) (fun n z hh => hsame ⟨n, z, hh⟩), hn2⟩
 have x4 : ld τ2 b (0 + 4) = some v2 := ld_of e2 rfl
 simp -implicitDefEqProofs (disch := omega) only [Nat.reduceEqDiff, ↓reduceIte, vcu, ↓vcd, opK_some, x4]
 refine (markC_keep β τ2 v2 cs (k + ps.length) t2' b3 (by omega)).mono ?_
 rintro _ τ3 ⟨rfl, m2, keep2⟩
 have m1' : OwnS β τ3 v1 (markX k ps.length) := by
  have m1s := m1
  rcases m1 with ⟨rfl, h0⟩ | ⟨g1, h1, hg1, hn1⟩
  ·exact .inl ⟨rfl, h0⟩
  ·by_cases hsame : ∃ n z, v2 = .slice (some ⟨g1, 0, none⟩) n z
   ·obtain ⟨n, z, hsame⟩ := hsame
    obtain ⟨hps, rfl⟩ := ownSC m1s t2' h1 hsame
    rcases m2 with ⟨rfl, _⟩ | ⟨g2, h2, hg2, _⟩
    ·cases hsame
    ·rw [h2] at hsame; cases hsame
     refine .inr ⟨g1, h1, ?_, hn1⟩
     rw [hps]; exact hg2
   ·exact .inr ⟨g1, h1, keep2 g1 _ hg1 (fun n z hh => hsame ⟨n, z, hh⟩), hn1⟩
 simp -implicitDefEqProofs (disch := omega) only [Nat.reduceEqDiff, ↓reduceIte, vcu, ↓vcd, opK_some]
 refine fin_one Tryz.results10 ⟨?_, ⟨v1, v2, rfl, m1', m2⟩, fun h ob hσ n1 n2 => keep2 h ob (keep1 h ob (s1 _ _ hσ) n1) n2⟩
 simp -implicitDefEqProofs (disch := omega) only [Nat.reduceEqDiff, ↓reduceIte, vcu, ↓vcd]
theorem markX_kp (β σ τ : AHeap) (v1 v2 : Value) (e : Ex) (k : Int) (hv : OwnX β σ (exV v1 v2 e) e) (hs : Sub σ τ) (hb : ExB e) (hk : 0 ≤ k ∧ k ≤ 1000000) :
  ACall Tryz.prog w0 10 [.agg #[.int .i64 e.s.O, .int .i64 e.s.E, .int .i64 e.s.M, v1, v2], .int .i64 k] τ fun r τ' => r = .int .i64 (k + e.ps.length + 3 * e.cs.length) ∧ OwnX β τ' (exV v1 v2 e) (exM k e) ∧ Kp β σ τ τ' ∧ ∀ h ob, τ h = some ob → (∀ n z, v1 ≠ .slice (some ⟨h, 0, none⟩) n z) → (∀ n z, v2 ≠ .slice (some ⟨h, 0, none⟩) n z) → τ' h = some ob := by
 refine (markEx_keep β τ v1 v2 e k (hv.sub hs) hb hk).mono ?_
 rintro r τ' ⟨h1, h2, h3⟩
 refine ⟨h1, h2, fun h ob e1 hn => ?_, h3⟩
 obtain ⟨v3, v4, e0, t1, t2⟩ := hv
 unfold exV at e0
 cases e0
 refine h3 h ob e1 (fun n z hh => ?_) fun n z hh => ?_
 ·rcases t1 with ⟨rfl, _⟩ | ⟨g, rfl, hg, hn1⟩
  ·cases hh
  ·cases hh
   rcases hn with hn | hn
   ·exact hn hn1
   ·rw [hg] at hn; cases hn
 ·rcases t2 with ⟨rfl, _⟩ | ⟨g, rfl, hg, hn1⟩
  ·cases hh
  ·cases hh
   rcases hn with hn | hn
   ·exact hn hn1
   ·rw [hg] at hn; cases hn
theorem markT_kp (β σ τ : AHeap) (v : Value) (xs : List (List UInt8)) (k : Int) (h0 : OwnS β σ v xs) (hv : OwnS β τ v xs) (hl : xs.length ≤ 1048576) (hk : 0 ≤ k ∧ k ≤ 1073741824) :
  ACall Tryz.prog w0 17 [v, .int .i64 k] τ fun r τ' => r = .int .i64 (k + xs.length) ∧ OwnS β τ' v (markX k xs.length) ∧ Kp β σ τ τ' ∧ ∀ h ob, τ h = some ob → (∀ n z, v ≠ .slice (some ⟨h, 0, none⟩) n z) → τ' h = some ob := by
 refine (markS_keep β τ v xs k hv hl hk).mono ?_
 rintro r τ' ⟨h1, h2, h3⟩
 refine ⟨h1, h2, fun h ob e1 hc => h3 h ob e1 fun n z hh => ?_, h3⟩
 rcases h0 with ⟨rfl, _⟩ | ⟨g, rfl, hg, hn1⟩
 ·cases hh
 ·cases hh
  rcases hc with hc | hc
  ·exact hc hn1
  ·rw [hg] at hc; cases hc
/-- a row that lies aside of what was marked -/
theorem ownS_frame {β τ τ' : AHeap} {v u1 u2 : Value} {xs : List (List UInt8)} (h : OwnS β τ v xs) (kk : ∀ h ob, τ h = some ob → (∀ n z, u1 ≠ .slice (some ⟨h, 0, none⟩) n z) → (∀ n z, u2 ≠ .slice (some ⟨h, 0, none⟩) n z) → τ' h = some ob)
  (ha : ∀ g n z, v = .slice (some ⟨g, 0, none⟩) n z → (∀ n' z', u1 ≠ .slice (some ⟨g, 0, none⟩) n' z') ∧ ∀ n' z', u2 ≠ .slice (some ⟨g, 0, none⟩) n' z') : OwnS β τ' v xs :=
 h.imp id fun ⟨g, a, b, c⟩ => ⟨g, a, kk g _ b (ha g _ _ a).1 (ha g _ _ a).2, c⟩
theorem ownX_frame {β τ τ' : AHeap} {w u : Value} {e : Ex} (h : OwnX β τ w e) (ha : Aside w u) (kk : ∀ h ob, τ h = some ob → (∀ n z, u ≠ .slice (some ⟨h, 0, none⟩) n z) → τ' h = some ob) : OwnX β τ' w e := by
 obtain ⟨v1, v2, rfl, h1, h2⟩ := h
 refine ⟨v1, v2, rfl, h1.imp id fun ⟨g, a, b, c⟩ => ⟨g, a, kk g _ b (fun n z hu => ?_), c⟩, h2.imp id fun ⟨g, a, b, c⟩ => ⟨g, a, kk g _ b (fun n z hu => ?_), c⟩⟩
 ·exact (ha _ _ _ _ _ g n z rfl hu).1 _ _ a
 ·exact (ha _ _ _ _ _ g n z rfl hu).2 _ _ a
end Go.Proofs.YtafkndnmhhjdhaaGreatDoor
namespace Go.Proofs.YtafkndnmhhjdhaaGreatDoor
open Go Go.Abs Go.RowKit Go.Dial
variable {w0 : World}
theorem prefix0_calls (σ : AHeap) (s t : List UInt8) : ACall Tryz.prog w0 98 [.string (tx s), .string (tx t)] σ fun r σ' => r = .bool (decide (Beg s t)) ∧ σ' = σ := by
 refine acall_go mixed Tryz.func98 rfl good98 fun pr => ?_
 by_cases h : t.length ≤ s.length
 ·simp -implicitDefEqProofs (disch := omega) only [Nat.reduceEqDiff, ↓reduceIte, vcu, ↓vcd]
  refine fin_one Tryz.results98 ⟨?_, rfl⟩
  simp -implicitDefEqProofs (disch := omega) only [Nat.reduceEqDiff, ↓reduceIte, vcu, ↓vcd]
  simp [Beg, h]
 ·simp -implicitDefEqProofs (disch := omega) only [Nat.reduceEqDiff, ↓reduceIte, vcu, ↓vcd]
  refine fin_one Tryz.results98 ⟨?_, rfl⟩
  simp -implicitDefEqProofs (disch := omega) only [Nat.reduceEqDiff, ↓reduceIte, vcu, ↓vcd]
  simp [Beg, h]
theorem prefix_calls (σ : AHeap) (s t : List UInt8) : ACall Tryz.prog w0 81 [.string (tx s), .string (tx t)] σ fun r σ' => r = .bool (decide (Beg s t)) ∧ σ' = σ := by
 refine acall_go mixed Tryz.func81 rfl good81 fun pr => ?_
 simp -implicitDefEqProofs (disch := omega) only [Nat.reduceEqDiff, ↓reduceIte, vcu, ↓vcd]
 refine (prefix0_calls _ _ _).mono ?_
 rintro r τ ⟨rfl, rfl⟩
 simp -implicitDefEqProofs (disch := omega) only [Nat.reduceEqDiff, ↓reduceIte, vcu, ↓vcd, opK_some]
 refine fin_one Tryz.results81 ⟨?_, rfl⟩
 simp -implicitDefEqProofs (disch := omega) only [Nat.reduceEqDiff, ↓reduceIte, vcu, ↓vcd]
theorem abin_uge {t : TypeId} {a b : Int} : abin Tryz.prog t .geq (.int .u8 a) (.int .u8 b) = some (.bool (decide (a ≥ b))) := by simp [abin]
theorem implDg_calls (σ : AHeap) (xs : List UInt8) (hl : xs.length ≤ 1048576) : ACall Tryz.prog w0 80 [.string (tx xs)] σ fun r σ' => r = .bool (decide (DgT xs)) ∧ σ' = σ := by
 refine acall_go mixed Tryz.func80 rfl good80 fun pr => ?_
 simp -implicitDefEqProofs (disch := omega) only [Nat.reduceEqDiff, ↓reduceIte, vcu, ↓vcd]
 refine vc_loop_c mixed (by kernel_rfl) [0, 5] (fun m a σ' => ∃ k : Nat, m + k = xs.length ∧ a 6 = .int .i64 k ∧ (∀ j, j < k → 48 ≤ (xs.getD j 0).toNat ∧ (xs.getD j 0).toNat ≤ 51) ∧ σ' = σ) xs.length ⟨0, by simp, rfl, fun j hj => absurd hj (by omega), rfl⟩ ?_
 rintro m a σ' hc ⟨k, hk, h6, hd, rfl⟩
 simp -implicitDefEqProofs (disch := omega) only [Nat.reduceEqDiff, ↓reduceIte, vcu, ↓vcd] at hc
 obtain ⟨h0, h5, -⟩ := hc
 by_cases hlt : k < xs.length
 ·have hb := u8_le (xs.getD k 0)
  by_cases hlo : ((xs.getD k 0).toNat : Int) < 48
  ·have hn : ¬DgT xs := fun h => by have := h.at hlt; omega
   simp -implicitDefEqProofs (disch := omega) only [Nat.reduceEqDiff, ↓reduceIte, vcu, ↓vcd, h0, h5, h6, abin_ulss, abin_uge]
   refine fin_one Tryz.results80 ⟨?_, rfl⟩
   simp -implicitDefEqProofs (disch := omega) only [Nat.reduceEqDiff, ↓reduceIte, vcu, ↓vcd]
   simp [hn]
  ·by_cases hhi : ((xs.getD k 0).toNat : Int) ≥ 52
   ·have hn : ¬DgT xs := fun h => by have := h.at hlt; omega
    simp -implicitDefEqProofs (disch := omega) only [Nat.reduceEqDiff, ↓reduceIte, vcu, ↓vcd, h0, h5, h6, abin_ulss, abin_uge]
    refine fin_one Tryz.results80 ⟨?_, rfl⟩
    simp -implicitDefEqProofs (disch := omega) only [Nat.reduceEqDiff, ↓reduceIte, vcu, ↓vcd]
    simp [hn]
   ·simp -implicitDefEqProofs (disch := omega) only [Nat.reduceEqDiff, ↓reduceIte, vcu, ↓vcd, h0, h5, h6, abin_ulss, abin_uge]
    refine ⟨⟨trivial, trivial, trivial⟩, m - 1, by omega, k + 1, by omega, by simp, fun j hj => ?_, trivial⟩
    by_cases hjk : j = k
    ·subst hjk; exact ⟨by omega, by omega⟩
    ·exact hd j (by omega)
 ·simp -implicitDefEqProofs (disch := omega) only [Nat.reduceEqDiff, ↓reduceIte, vcu, ↓vcd, h0, h5, h6]
  have e : k = xs.length := by omega
  refine fin_one Tryz.results80 ⟨?_, rfl⟩
  simp -implicitDefEqProofs (disch := omega) only [Nat.reduceEqDiff, ↓reduceIte, vcu, ↓vcd]
  subst e
  simp [dgT_of hd]
end Go.Proofs.YtafkndnmhhjdhaaGreatDoor
namespace Go.Proofs.YtafkndnmhhjdhaaGreatDoor
open Go Go.Abs Go.RowKit Go.Clos
variable {w0 : World}
set_option maxRecDepth 8000 in
theorem inB_at (σ : AHeap) (n m : Int) : ACall Tryz.prog w0 97 [.int .i64 n, .int .i64 m] σ fun r σ' => r = .bool (decide (1 ≤ n ∧ n ≤ m)) ∧ σ' = σ := by
 refine acall_go mixed Tryz.func97 rfl good97 fun pr => ?_
 by_cases h : 1 ≤ n
 ·simp -implicitDefEqProofs (disch := omega) only [Nat.reduceEqDiff, ↓reduceIte, vcu, ↓vcd]
  refine fin_one Tryz.results97 ⟨?_, rfl⟩
  simp -implicitDefEqProofs (disch := omega) only [Nat.reduceEqDiff, ↓reduceIte, vcu, ↓vcd]
  simp [h]
 ·simp -implicitDefEqProofs (disch := omega) only [Nat.reduceEqDiff, ↓reduceIte, vcu, ↓vcd]
  refine fin_one Tryz.results97 ⟨?_, rfl⟩
  simp -implicitDefEqProofs (disch := omega) only [Nat.reduceEqDiff, ↓reduceIte, vcu, ↓vcd]
  simp [h]
set_option maxRecDepth 8000 in
theorem implSV_at (σ : AHeap) (O E M : Int) : ACall Tryz.prog w0 79 [.agg #[.int .i64 O, .int .i64 E, .int .i64 M]] σ fun r σ' => r = .bool (decide (SV ⟨O, E, M⟩)) ∧ σ' = σ := by
 refine acall_go mixed Tryz.func79 rfl good79 fun pr => ?_
 simp -implicitDefEqProofs (disch := omega) only [Nat.reduceEqDiff, ↓reduceIte, vcu, ↓vcd]
 refine r_boxed fun b τ nb s1 e1 => ?_
 replace e1 : τ b = some ⟨[.int .i64 O, .int .i64 E, .int .i64 M], false⟩ := e1
 have lO : ld τ b (0 + 0) = some (.int .i64 O) := ld_of e1 rfl
 have lE : ld τ b (0 + 1) = some (.int .i64 E) := ld_of e1 rfl
 have lM : ld τ b (0 + 2) = some (.int .i64 M) := ld_of e1 rfl
 simp -implicitDefEqProofs (disch := omega) only [Nat.reduceEqDiff, ↓reduceIte, vcu, ↓vcd, lO, lE, lM]
 refine (inB_at τ O 4).mono ?_
 rintro r _ ⟨rfl, rfl⟩
 rename_i τ
 by_cases h1 : 1 ≤ O ∧ O ≤ 4
 case neg =>
  have hS : ¬ SV ⟨O, E, M⟩ := fun h => h1 h.1
  rw [decide_eq_false h1, decide_eq_false hS]
  simp -implicitDefEqProofs (disch := omega) only [Nat.reduceEqDiff, ↓reduceIte, vcu, ↓vcd, opK_some]
  refine fin_drop Tryz.results79 σ s1 ⟨?_, rfl⟩
  simp -implicitDefEqProofs (disch := omega) only [Nat.reduceEqDiff, ↓reduceIte, vcu, ↓vcd]
 rw [decide_eq_true h1]
 simp -implicitDefEqProofs (disch := omega) only [Nat.reduceEqDiff, ↓reduceIte, vcu, ↓vcd, opK_some, lO, lE, lM]
 refine (inB_at τ E 3).mono ?_
 rintro r _ ⟨rfl, rfl⟩
 rename_i τ
 by_cases h2 : 1 ≤ E ∧ E ≤ 3
 case neg =>
  have hS : ¬ SV ⟨O, E, M⟩ := fun h => h2 h.2.1
  rw [decide_eq_false h2, decide_eq_false hS]
  simp -implicitDefEqProofs (disch := omega) only [Nat.reduceEqDiff, ↓reduceIte, vcu, ↓vcd, opK_some]
  refine fin_drop Tryz.results79 σ s1 ⟨?_, rfl⟩
  simp -implicitDefEqProofs (disch := omega) only [Nat.reduceEqDiff, ↓reduceIte, vcu, ↓vcd]
 rw [decide_eq_true h2]
 simp -implicitDefEqProofs (disch := omega) only [Nat.reduceEqDiff, ↓reduceIte, vcu, ↓vcd, opK_some, lO, lE, lM]
 refine (inB_at τ M 5).mono ?_
 rintro r _ ⟨rfl, rfl⟩
 by_cases h3 : 1 ≤ M ∧ M ≤ 5
 ·have hS : SV ⟨O, E, M⟩ := ⟨h1, h2, h3⟩
  rw [decide_eq_true h3, decide_eq_true hS]
  simp -implicitDefEqProofs (disch := omega) only [Nat.reduceEqDiff, ↓reduceIte, vcu, ↓vcd, opK_some]
  refine fin_drop Tryz.results79 σ s1 ⟨?_, rfl⟩
  simp -implicitDefEqProofs (disch := omega) only [Nat.reduceEqDiff, ↓reduceIte, vcu, ↓vcd]
 ·have hS : ¬ SV ⟨O, E, M⟩ := fun h => h3 h.2.2
  rw [decide_eq_false h3, decide_eq_false hS]
  simp -implicitDefEqProofs (disch := omega) only [Nat.reduceEqDiff, ↓reduceIte, vcu, ↓vcd, opK_some]
  refine fin_drop Tryz.results79 σ s1 ⟨?_, rfl⟩
  simp -implicitDefEqProofs (disch := omega) only [Nat.reduceEqDiff, ↓reduceIte, vcu, ↓vcd]
set_option maxRecDepth 8000 in
theorem implEnough_at (σ : AHeap) (O E M : Int) : ACall Tryz.prog w0 52 [.agg #[.int .i64 O, .int .i64 E, .int .i64 M]] σ fun r σ' => r = .bool (decide (Enough ⟨O, E, M⟩)) ∧ σ' = σ := by
 refine acall_go mixed Tryz.func52 rfl good52 fun pr => ?_
 simp -implicitDefEqProofs (disch := omega) only [Nat.reduceEqDiff, ↓reduceIte, vcu, ↓vcd]
 refine r_boxed fun b τ nb s1 e1 => ?_
 replace e1 : τ b = some ⟨[.int .i64 O, .int .i64 E, .int .i64 M], false⟩ := e1
 have lE : ld τ b (0 + 1) = some (.int .i64 E) := ld_of e1 rfl
 have lM : ld τ b (0 + 2) = some (.int .i64 M) := ld_of e1 rfl
 have l3 : lds τ b 0 3 = some [.int .i64 O, .int .i64 E, .int .i64 M] := lds_three (ld_of e1 rfl) (ld_of e1 rfl) (ld_of e1 rfl)
 simp -implicitDefEqProofs (disch := omega) only [Nat.reduceEqDiff, ↓reduceIte, vcu, ↓vcd, l3, co29]
 refine (implSV_at τ O E M).mono ?_
 rintro r _ ⟨rfl, rfl⟩
 rename_i τ
 by_cases hS : SV ⟨O, E, M⟩
 case neg =>
  have hE : ¬ Enough ⟨O, E, M⟩ := fun h => hS h.1
  rw [decide_eq_false hS, decide_eq_false hE]
  simp -implicitDefEqProofs (disch := omega) only [Nat.reduceEqDiff, ↓reduceIte, vcu, ↓vcd, opK_some]
  refine fin_drop Tryz.results52 σ s1 ⟨?_, rfl⟩
  simp -implicitDefEqProofs (disch := omega) only [Nat.reduceEqDiff, ↓reduceIte, vcu, ↓vcd]
 rw [decide_eq_true hS]
 have hd : decide (Enough ⟨O, E, M⟩) = decide (E ≤ M) := by
  by_cases h : E ≤ M
  ·rw [decide_eq_true h, decide_eq_true (show Enough ⟨O, E, M⟩ from ⟨hS, h⟩)]
  ·rw [decide_eq_false h, decide_eq_false (fun hE : Enough ⟨O, E, M⟩ => h hE.2)]
 rw [hd]
 simp -implicitDefEqProofs (disch := omega) only [Nat.reduceEqDiff, ↓reduceIte, vcu, ↓vcd, opK_some, lE, lM]
 refine fin_drop Tryz.results52 σ s1 ⟨?_, rfl⟩
 simp -implicitDefEqProofs (disch := omega) only [Nat.reduceEqDiff, ↓reduceIte, vcu, ↓vcd]
set_option maxRecDepth 8000 in
theorem hasLine_at (σ : AHeap) (O E M x : Int) (hS : SV ⟨O, E, M⟩) : ACall Tryz.prog w0 86 [.agg #[.int .i64 O, .int .i64 E, .int .i64 M], .int .i64 x] σ fun r σ' => r = .bool (decide (0 ≤ x ∧ x ≤ O * E - 1)) ∧ σ' = σ := by
 have hL := hS.lines
 dsimp only at hL
 refine acall_go mixed Tryz.func86 rfl good86 fun pr => ?_
 simp -implicitDefEqProofs (disch := omega) only [Nat.reduceEqDiff, ↓reduceIte, vcu, ↓vcd]
 refine r_boxed fun b τ nb s1 e1 => ?_
 replace e1 : τ b = some ⟨[.int .i64 O, .int .i64 E, .int .i64 M], false⟩ := e1
 have lO : ld τ b (0 + 0) = some (.int .i64 O) := ld_of e1 rfl
 have lE : ld τ b (0 + 1) = some (.int .i64 E) := ld_of e1 rfl
 by_cases h0 : 0 ≤ x
 ·have hd : decide (0 ≤ x ∧ x ≤ O * E - 1) = decide (x < O * E) := decide_eq_decide.2 ⟨fun h => by omega, fun h => ⟨h0, by omega⟩⟩
  rw [hd]
  simp -implicitDefEqProofs (disch := omega) only [Nat.reduceEqDiff, ↓reduceIte, vcu, ↓vcd, lO, lE]
  refine fin_drop Tryz.results86 σ s1 ⟨?_, rfl⟩
  simp -implicitDefEqProofs (disch := omega) only [Nat.reduceEqDiff, ↓reduceIte, vcu, ↓vcd]
 ·rw [decide_eq_false (fun h : 0 ≤ x ∧ x ≤ O * E - 1 => h0 h.1)]
  simp -implicitDefEqProofs (disch := omega) only [Nat.reduceEqDiff, ↓reduceIte, vcu, ↓vcd, lO, lE]
  refine fin_drop Tryz.results86 σ s1 ⟨?_, rfl⟩
  simp -implicitDefEqProofs (disch := omega) only [Nat.reduceEqDiff, ↓reduceIte, vcu, ↓vcd]
set_option maxRecDepth 8000 in
theorem collide_at (σ : AHeap) (s : Sp) (c d : Cl) (hE : 1 ≤ s.E) (hc : Nng c) (hd : Nng d) :
  ACall Tryz.prog w0 100 [.agg #[.int .i64 s.O, .int .i64 s.E, .int .i64 s.M], .agg #[.int .i64 c.i, .int .i64 c.o, .int .i64 c.v], .agg #[.int .i64 d.i, .int .i64 d.o, .int .i64 d.v]] σ fun r σ' => r = .bool (decide (Hit s c d)) ∧ σ' = σ := by
 obtain ⟨O, E, M⟩ := s
 obtain ⟨ci, co, cv⟩ := c
 obtain ⟨di, do', dv⟩ := d
 obtain ⟨⟨c1, c2⟩, c3, c4⟩ := hc
 obtain ⟨⟨d1, d2⟩, d3, d4⟩ := hd
 dsimp only at *
 refine acall_go mixed Tryz.func100 rfl good100 fun pr => ?_
 simp -implicitDefEqProofs (disch := omega) only [Nat.reduceEqDiff, ↓reduceIte, vcu, ↓vcd]
 refine r_boxed fun b τ1 n1 s1 e1 => ?_
 replace e1 : τ1 b = some ⟨[.int .i64 O, .int .i64 E, .int .i64 M], false⟩ := e1
 refine r_boxed fun g τ2 n2 s2 e2 => ?_
 replace e2 : τ2 g = some ⟨[.int .i64 ci, .int .i64 co, .int .i64 cv], false⟩ := e2
 refine r_boxed fun g2 τ3 n3 s3 e3 => ?_
 replace e3 : τ3 g2 = some ⟨[.int .i64 di, .int .i64 do', .int .i64 dv], false⟩ := e3
 have f2 := s3 _ _ e2
 have f1 := s3 _ _ (s2 _ _ e1)
 have ki : ld τ3 g (0 + 0) = some (.int .i64 ci) := ld_of f2 rfl
 have ko : ld τ3 g (0 + 1) = some (.int .i64 co) := ld_of f2 rfl
 have kv : ld τ3 g (0 + 2) = some (.int .i64 cv) := ld_of f2 rfl
 have ji : ld τ3 g2 (0 + 0) = some (.int .i64 di) := ld_of e3 rfl
 have jo : ld τ3 g2 (0 + 1) = some (.int .i64 do') := ld_of e3 rfl
 have jv : ld τ3 g2 (0 + 2) = some (.int .i64 dv) := ld_of e3 rfl
 have lE : ld τ3 b (0 + 1) = some (.int .i64 E) := ld_of f1 rfl
 have s13 := s1.trans (s2.trans s3)
 by_cases q1 : ci = di
 ·rw [decide_eq_true (show Hit ⟨O, E, M⟩ ⟨ci, co, cv⟩ ⟨di, do', dv⟩ from .inl q1)]
  simp -implicitDefEqProofs (disch := omega) only [Nat.reduceEqDiff, ↓reduceIte, vcu, ↓vcd, ki, ko, kv, ji, jo, jv, lE]
  refine fin_drop Tryz.results100 σ s13 ⟨?_, rfl⟩
  simp -implicitDefEqProofs (disch := omega) only [Nat.reduceEqDiff, ↓reduceIte, vcu, ↓vcd]
 by_cases q2 : co = do'
 ·rw [decide_eq_true (show Hit ⟨O, E, M⟩ ⟨ci, co, cv⟩ ⟨di, do', dv⟩ from .inr (.inl q2))]
  simp -implicitDefEqProofs (disch := omega) only [Nat.reduceEqDiff, ↓reduceIte, vcu, ↓vcd, ki, ko, kv, ji, jo, jv, lE]
  refine fin_drop Tryz.results100 σ s13 ⟨?_, rfl⟩
  simp -implicitDefEqProofs (disch := omega) only [Nat.reduceEqDiff, ↓reduceIte, vcu, ↓vcd]
 by_cases q3 : cv = dv
 case neg =>
  rw [decide_eq_false (fun hh : Hit ⟨O, E, M⟩ ⟨ci, co, cv⟩ ⟨di, do', dv⟩ => hh.elim q1 fun hh => hh.elim q2 fun hh => q3 hh.1)]
  simp -implicitDefEqProofs (disch := omega) only [Nat.reduceEqDiff, ↓reduceIte, vcu, ↓vcd, ki, ko, kv, ji, jo, jv, lE]
  refine fin_drop Tryz.results100 σ s13 ⟨?_, rfl⟩
  simp -implicitDefEqProofs (disch := omega) only [Nat.reduceEqDiff, ↓reduceIte, vcu, ↓vcd]
 by_cases q4 : ci / E = di / E
 ·rw [decide_eq_true (show Hit ⟨O, E, M⟩ ⟨ci, co, cv⟩ ⟨di, do', dv⟩ from .inr (.inr ⟨q3, .inl q4⟩))]
  simp -implicitDefEqProofs (disch := omega) only [Nat.reduceEqDiff, ↓reduceIte, vcu, ↓vcd, ki, ko, kv, ji, jo, jv, lE]
  refine fin_drop Tryz.results100 σ s13 ⟨?_, rfl⟩
  simp -implicitDefEqProofs (disch := omega) only [Nat.reduceEqDiff, ↓reduceIte, vcu, ↓vcd]
 by_cases q5 : co / E = do' / E
 ·rw [decide_eq_true (show Hit ⟨O, E, M⟩ ⟨ci, co, cv⟩ ⟨di, do', dv⟩ from .inr (.inr ⟨q3, .inr q5⟩))]
  simp -implicitDefEqProofs (disch := omega) only [Nat.reduceEqDiff, ↓reduceIte, vcu, ↓vcd, ki, ko, kv, ji, jo, jv, lE]
  refine fin_drop Tryz.results100 σ s13 ⟨?_, rfl⟩
  simp -implicitDefEqProofs (disch := omega) only [Nat.reduceEqDiff, ↓reduceIte, vcu, ↓vcd]
  rw [decide_eq_true q5]
 ·rw [decide_eq_false (fun hh : Hit ⟨O, E, M⟩ ⟨ci, co, cv⟩ ⟨di, do', dv⟩ => hh.elim q1 fun hh => hh.elim q2 fun hh => hh.2.elim q4 q5)]
  simp -implicitDefEqProofs (disch := omega) only [Nat.reduceEqDiff, ↓reduceIte, vcu, ↓vcd, ki, ko, kv, ji, jo, jv, lE]
  refine fin_drop Tryz.results100 σ s13 ⟨?_, rfl⟩
  simp -implicitDefEqProofs (disch := omega) only [Nat.reduceEqDiff, ↓reduceIte, vcu, ↓vcd]
  rw [decide_eq_false q5]
end Go.Proofs.YtafkndnmhhjdhaaGreatDoor
namespace Go.Proofs.YtafkndnmhhjdhaaGreatDoor
open Go Go.Abs Go.RowKit Go.Clos
variable {w0 : World}
set_option maxRecDepth 8000 in
theorem indexFn_at (σ : AHeap) (h o : Nat) (cs : List Cl) (gf : Nat) (caps : Array Value) (P : Cl → Prop) [DecidablePred P] (hv : TrisAt σ h o cs) (hl : cs.length ≤ 1048576)
  (hcl : ∀ c ∈ cs, ∀ pw, ACall Tryz.prog pw gf (.agg #[.int .i64 c.i, .int .i64 c.o, .int .i64 c.v] :: caps.toList) σ fun r σ' => r = .bool (decide (P c)) ∧ σ' = σ) :
  ACall Tryz.prog w0 83 [.slice (some ⟨h, o, none⟩) cs.length 3, .func (.func gf) #[] caps] σ fun r σ' => σ' = σ ∧
   ((r = .int .i64 (-1) ∧ ∀ c ∈ cs, ¬ P c) ∨ ∃ k : Nat, r = .int .i64 k ∧ k < cs.length ∧ P (gc cs k) ∧ ∀ c ∈ cs.take k, ¬ P c) := by
 refine acall_go mixed Tryz.func83 rfl good83 fun pr => ?_
 simp -implicitDefEqProofs (disch := omega) only [Nat.reduceEqDiff, ↓reduceIte, vcu, ↓vcd]
 refine vc_loop_c mixed (by kernel_rfl) [0, 1, 7] (fun m a τ => ∃ k : Nat, m + k = cs.length ∧ a 8 = .int .i64 k ∧ τ = σ ∧ ∀ c ∈ cs.take k, ¬ P c) cs.length ⟨0, by simp, rfl, rfl, by simp⟩ ?_
 rintro m a τ hc ⟨k, hk, h8, rfl, hup⟩
 simp -implicitDefEqProofs (disch := omega) only [Nat.reduceEqDiff, ↓reduceIte, vcu, ↓vcd] at hc
 obtain ⟨h0, h1, h7, -⟩ := hc
 by_cases hlt : k < cs.length
 ·have hx := hv.all hlt
  have ht := take_gc hlt
  have hm := gc_mem hlt
  have hgk : cs.getD k cl0 = gc cs k := rfl
  rw [hgk] at hx
  simp -implicitDefEqProofs (disch := omega) only [Nat.reduceEqDiff, ↓reduceIte, vcu, ↓vcd, h0, h1, h7, h8, hx, co76]
  refine r_callv ⟨(gf, caps), by simp -implicitDefEqProofs (disch := omega) only [Nat.reduceEqDiff, ↓reduceIte, vcu, ↓vcd, h1], ?_⟩
  simp -implicitDefEqProofs (disch := omega) only [Nat.reduceEqDiff, ↓reduceIte, vcu, ↓vcd]
  refine (hcl _ hm _).mono ?_
  rintro r _ ⟨rfl, rfl⟩
  by_cases hB : P (gc cs k)
  ·rw [decide_eq_true hB]
   simp -implicitDefEqProofs (disch := omega) only [Nat.reduceEqDiff, ↓reduceIte, vcu, ↓vcd, opK_some, h0, h1, h7, h8]
   refine fin_one Tryz.results83 ⟨rfl, .inr ⟨k, ?_, hlt, hB, hup⟩⟩
   simp -implicitDefEqProofs (disch := omega) only [Nat.reduceEqDiff, ↓reduceIte, vcu, ↓vcd]
  ·rw [decide_eq_false hB]
   simp -implicitDefEqProofs (disch := omega) only [Nat.reduceEqDiff, ↓reduceIte, vcu, ↓vcd, opK_some, h0, h1, h7, h8]
   refine ⟨⟨trivial, trivial, trivial, trivial⟩, m - 1, by omega, k + 1, by omega, by simp, trivial, fun c hc => ?_⟩
   rw [ht] at hc
   rcases List.mem_append.1 hc with hc | hc
   ·exact hup c hc
   ·rw [List.mem_singleton] at hc; subst hc; exact hB
 ·simp -implicitDefEqProofs (disch := omega) only [Nat.reduceEqDiff, ↓reduceIte, vcu, ↓vcd, h0, h1, h7, h8]
  obtain rfl : k = cs.length := by omega
  rw [List.take_length] at hup
  refine fin_one Tryz.results83 ⟨rfl, .inl ⟨?_, hup⟩⟩
  simp -implicitDefEqProofs (disch := omega) only [Nat.reduceEqDiff, ↓reduceIte, vcu, ↓vcd]
set_option maxRecDepth 8000 in
theorem hasFn_at (σ : AHeap) (h o : Nat) (cs : List Cl) (gf : Nat) (caps : Array Value) (P : Cl → Prop) [DecidablePred P] (hv : TrisAt σ h o cs) (hl : cs.length ≤ 1048576)
  (hcl : ∀ c ∈ cs, ∀ pw, ACall Tryz.prog pw gf (.agg #[.int .i64 c.i, .int .i64 c.o, .int .i64 c.v] :: caps.toList) σ fun r σ' => r = .bool (decide (P c)) ∧ σ' = σ) :
  ACall Tryz.prog w0 55 [.slice (some ⟨h, o, none⟩) cs.length 3, .func (.func gf) #[] caps] σ fun r σ' => r = .bool (decide (∃ c ∈ cs, P c)) ∧ σ' = σ := by
 refine acall_go mixed Tryz.func55 rfl good55 fun pr => ?_
 simp -implicitDefEqProofs (disch := omega) only [Nat.reduceEqDiff, ↓reduceIte, vcu, ↓vcd]
 refine (indexFn_at σ h o cs gf caps P hv hl hcl).mono ?_
 rintro r _ ⟨rfl, ⟨rfl, hall⟩ | ⟨k, rfl, hk, hP, -⟩⟩
 ·rw [decide_eq_false (fun ⟨c, hc, hP⟩ => hall c hc hP)]
  simp -implicitDefEqProofs (disch := omega) only [Nat.reduceEqDiff, ↓reduceIte, vcu, ↓vcd, opK_some]
  refine fin_one Tryz.results55 ⟨?_, rfl⟩
  simp -implicitDefEqProofs (disch := omega) only [Nat.reduceEqDiff, ↓reduceIte, vcu, ↓vcd]
  rfl
 ·rw [decide_eq_true ⟨gc cs k, gc_mem hk, hP⟩]
  simp -implicitDefEqProofs (disch := omega) only [Nat.reduceEqDiff, ↓reduceIte, vcu, ↓vcd, opK_some]
  refine fin_one Tryz.results55 ⟨?_, rfl⟩
  simp -implicitDefEqProofs (disch := omega) only [Nat.reduceEqDiff, ↓reduceIte, vcu, ↓vcd]
  have : (0 : Int) ≤ (k : Int) := by omega
  rw [decide_eq_true this]
set_option maxRecDepth 8000 in
theorem fitsC_at (σ : AHeap) (b1 b2 : Nat) (s : Sp) (c d : Cl) (h1 : σ b1 = some ⟨[.int .i64 s.O, .int .i64 s.E, .int .i64 s.M], false⟩) (h2 : σ b2 = some ⟨[.int .i64 c.i, .int .i64 c.o, .int .i64 c.v], false⟩) (hE : 1 ≤ s.E) (hc : Nng c) (hd : Nng d) :
  ACall Tryz.prog w0 99 [.agg #[.int .i64 d.i, .int .i64 d.o, .int .i64 d.v], .pointer (some ⟨b1, 0, none⟩), .pointer (some ⟨b2, 0, none⟩)] σ fun r σ' => r = .bool (decide (Hit s c d)) ∧ σ' = σ := by
 refine acall_go mixed Tryz.func99 rfl good99 fun pr => ?_
 simp -implicitDefEqProofs (disch := omega) only [Nat.reduceEqDiff, ↓reduceIte, vcu, ↓vcd]
 refine r_boxed fun g τ n1 s1 e1 => ?_
 replace e1 : τ g = some ⟨[.int .i64 d.i, .int .i64 d.o, .int .i64 d.v], false⟩ := e1
 have l1 : lds τ b1 0 3 = some [.int .i64 s.O, .int .i64 s.E, .int .i64 s.M] := lds_three (ld_of (s1 _ _ h1) rfl) (ld_of (s1 _ _ h1) rfl) (ld_of (s1 _ _ h1) rfl)
 have l2 : lds τ b2 0 3 = some [.int .i64 c.i, .int .i64 c.o, .int .i64 c.v] := lds_three (ld_of (s1 _ _ h2) rfl) (ld_of (s1 _ _ h2) rfl) (ld_of (s1 _ _ h2) rfl)
 have l3 : lds τ g 0 3 = some [.int .i64 d.i, .int .i64 d.o, .int .i64 d.v] := lds_three (ld_of e1 rfl) (ld_of e1 rfl) (ld_of e1 rfl)
 simp -implicitDefEqProofs (disch := omega) only [Nat.reduceEqDiff, ↓reduceIte, vcu, ↓vcd, l1, l2, l3, co29, co76]
 refine (collide_at τ s c d hE hc hd).mono ?_
 rintro r _ ⟨rfl, rfl⟩
 simp -implicitDefEqProofs (disch := omega) only [Nat.reduceEqDiff, ↓reduceIte, vcu, ↓vcd, opK_some]
 refine fin_drop Tryz.results99 σ s1 ⟨?_, rfl⟩
 simp -implicitDefEqProofs (disch := omega) only [Nat.reduceEqDiff, ↓reduceIte, vcu, ↓vcd]
/-- a further call fits to others -/
def FitsC (s : Sp) (cs : List Cl) (c : Cl) : Prop := Rg s c ∧ ∀ d ∈ cs, ¬ Hit s c d
instance (s : Sp) (cs : List Cl) (c : Cl) : Decidable (FitsC s cs c) := by unfold FitsC; infer_instance
set_option maxRecDepth 8000 in
theorem implFits_at (σ : AHeap) (s : Sp) (h o : Nat) (cs : List Cl) (c : Cl) (hv : TrisAt σ h o cs) (hl : cs.length ≤ 1048576) (hS : SV s) (hn : ∀ d ∈ cs, Nng d) :
  ACall Tryz.prog w0 82 [.agg #[.int .i64 s.O, .int .i64 s.E, .int .i64 s.M], .slice (some ⟨h, o, none⟩) cs.length 3, .agg #[.int .i64 c.i, .int .i64 c.o, .int .i64 c.v]] σ fun r σ' => r = .bool (decide (FitsC s cs c)) ∧ σ' = σ := by
 refine acall_go mixed Tryz.func82 rfl good82 fun pr => ?_
 simp -implicitDefEqProofs (disch := omega) only [Nat.reduceEqDiff, ↓reduceIte, vcu, ↓vcd]
 refine r_boxed fun b τ1 n1 s1 e1 => ?_
 replace e1 : τ1 b = some ⟨[.int .i64 s.O, .int .i64 s.E, .int .i64 s.M], false⟩ := e1
 refine r_boxed fun g τ n2 s2 e2 => ?_
 replace e2 : τ g = some ⟨[.int .i64 c.i, .int .i64 c.o, .int .i64 c.v], false⟩ := e2
 have f1 := s2 _ _ e1
 have s12 := s1.trans s2
 have l1 : lds τ b 0 3 = some [.int .i64 s.O, .int .i64 s.E, .int .i64 s.M] := lds_three (ld_of f1 rfl) (ld_of f1 rfl) (ld_of f1 rfl)
 have lM : ld τ b (0 + 2) = some (.int .i64 s.M) := ld_of f1 rfl
 have li : ld τ g (0 + 0) = some (.int .i64 c.i) := ld_of e2 rfl
 have lo : ld τ g (0 + 1) = some (.int .i64 c.o) := ld_of e2 rfl
 have lv : ld τ g (0 + 2) = some (.int .i64 c.v) := ld_of e2 rfl
 simp -implicitDefEqProofs (disch := omega) only [Nat.reduceEqDiff, ↓reduceIte, vcu, ↓vcd, l1, lM, li, lo, lv, co29]
 refine (hasLine_at τ s.O s.E s.M c.i hS).mono ?_
 rintro r _ ⟨rfl, rfl⟩
 rename_i τ
 by_cases hI : 0 ≤ c.i ∧ c.i ≤ s.O * s.E - 1
 case neg =>
  rw [decide_eq_false hI, decide_eq_false (fun hh : FitsC s cs c => hI hh.1.1)]
  simp -implicitDefEqProofs (disch := omega) only [Nat.reduceEqDiff, ↓reduceIte, vcu, ↓vcd, opK_some, Bool.not_false]
  refine fin_drop Tryz.results82 σ s12 ⟨?_, rfl⟩
  simp -implicitDefEqProofs (disch := omega) only [Nat.reduceEqDiff, ↓reduceIte, vcu, ↓vcd]
 rw [decide_eq_true hI]
 simp -implicitDefEqProofs (disch := omega) only [Nat.reduceEqDiff, ↓reduceIte, vcu, ↓vcd, opK_some, Bool.not_true, l1, lM, li, lo, lv, co29]
 refine (hasLine_at τ s.O s.E s.M c.o hS).mono ?_
 rintro r _ ⟨rfl, rfl⟩
 rename_i τ
 by_cases hO : 0 ≤ c.o ∧ c.o ≤ s.O * s.E - 1
 case neg =>
  rw [decide_eq_false hO, decide_eq_false (fun hh : FitsC s cs c => hO hh.1.2.1)]
  simp -implicitDefEqProofs (disch := omega) only [Nat.reduceEqDiff, ↓reduceIte, vcu, ↓vcd, opK_some, Bool.not_false]
  refine fin_drop Tryz.results82 σ s12 ⟨?_, rfl⟩
  simp -implicitDefEqProofs (disch := omega) only [Nat.reduceEqDiff, ↓reduceIte, vcu, ↓vcd]
 rw [decide_eq_true hO]
 by_cases hV0 : c.v < 0
 ·rw [decide_eq_false (fun hh : FitsC s cs c => by have := hh.1.2.2.1; omega)]
  simp -implicitDefEqProofs (disch := omega) only [Nat.reduceEqDiff, ↓reduceIte, vcu, ↓vcd, opK_some, Bool.not_true, l1, lM, li, lo, lv, co29]
  refine fin_drop Tryz.results82 σ s12 ⟨?_, rfl⟩
  simp -implicitDefEqProofs (disch := omega) only [Nat.reduceEqDiff, ↓reduceIte, vcu, ↓vcd]
 by_cases hV1 : s.M ≤ c.v
 ·rw [decide_eq_false (fun hh : FitsC s cs c => by have := hh.1.2.2.2; omega)]
  simp -implicitDefEqProofs (disch := omega) only [Nat.reduceEqDiff, ↓reduceIte, vcu, ↓vcd, opK_some, Bool.not_true, l1, lM, li, lo, lv, co29]
  refine fin_drop Tryz.results82 σ s12 ⟨?_, rfl⟩
  simp -implicitDefEqProofs (disch := omega) only [Nat.reduceEqDiff, ↓reduceIte, vcu, ↓vcd]
 have hRg : Rg s c := ⟨hI, hO, by omega, by omega⟩
 have hnc := hRg.nng hS
 simp -implicitDefEqProofs (disch := omega) only [Nat.reduceEqDiff, ↓reduceIte, vcu, ↓vcd, opK_some, Bool.not_true, l1, lM, li, lo, lv, co29]
 refine (hasFn_at τ h o cs _ _ (fun d => Hit s c d) (hv.sub s12) hl fun d hd pw => fitsC_at τ b g s c d f1 e2 hS.2.1.1 hnc (hn d hd)).mono ?_
 rintro r _ ⟨rfl, rfl⟩
 have hd : decide (FitsC s cs c) = !decide (∃ d ∈ cs, Hit s c d) := by
  by_cases hh : ∃ d ∈ cs, Hit s c d
  ·rw [decide_eq_true hh, decide_eq_false (fun hf : FitsC s cs c => by obtain ⟨d, h1, h2⟩ := hh; exact hf.2 d h1 h2)]; rfl
  ·rw [decide_eq_false hh, decide_eq_true (show FitsC s cs c from ⟨hRg, fun d h1 h2 => hh ⟨d, h1, h2⟩⟩)]; rfl
 rw [hd]
 simp -implicitDefEqProofs (disch := omega) only [Nat.reduceEqDiff, ↓reduceIte, vcu, ↓vcd, opK_some]
 refine fin_drop Tryz.results82 σ s12 ⟨?_, rfl⟩
 simp -implicitDefEqProofs (disch := omega) only [Nat.reduceEqDiff, ↓reduceIte, vcu, ↓vcd]
set_option maxRecDepth 8000 in
theorem implCV_at (σ : AHeap) (O E M : Int) (h o : Nat) (cs : List Cl) (hv : TrisAt σ h o cs) (hl : cs.length ≤ 1048576) :
  ACall Tryz.prog w0 54 [.agg #[.int .i64 O, .int .i64 E, .int .i64 M], .slice (some ⟨h, o, none⟩) cs.length 3] σ fun r σ' => r = .bool (decide (CV ⟨O, E, M⟩ cs)) ∧ σ' = σ := by
 refine acall_go mixed Tryz.func54 rfl good54 fun pr => ?_
 simp -implicitDefEqProofs (disch := omega) only [Nat.reduceEqDiff, ↓reduceIte, vcu, ↓vcd]
 refine r_boxed fun b τ nb s1 e1 => ?_
 replace e1 : τ b = some ⟨[.int .i64 O, .int .i64 E, .int .i64 M], false⟩ := e1
 have l3 : ∀ τ', Sub τ τ' → lds τ' b 0 3 = some [.int .i64 O, .int .i64 E, .int .i64 M] := fun τ' hs => lds_three (ld_of (hs _ _ e1) rfl) (ld_of (hs _ _ e1) rfl) (ld_of (hs _ _ e1) rfl)
 have l0 := l3 τ (Sub.refl _)
 simp -implicitDefEqProofs (disch := omega) only [Nat.reduceEqDiff, ↓reduceIte, vcu, ↓vcd, l0, co29]
 refine (implSV_at τ O E M).mono ?_
 rintro r _ ⟨rfl, rfl⟩
 rename_i τ
 by_cases hS : SV ⟨O, E, M⟩
 case neg =>
  rw [decide_eq_false hS, decide_eq_false (fun hC : CV ⟨O, E, M⟩ cs => hS hC.1)]
  simp -implicitDefEqProofs (disch := omega) only [Nat.reduceEqDiff, ↓reduceIte, vcu, ↓vcd, opK_some, Bool.not_false]
  refine fin_drop Tryz.results54 σ s1 ⟨?_, rfl⟩
  simp -implicitDefEqProofs (disch := omega) only [Nat.reduceEqDiff, ↓reduceIte, vcu, ↓vcd]
 rw [decide_eq_true hS]
 simp -implicitDefEqProofs (disch := omega) only [Nat.reduceEqDiff, ↓reduceIte, vcu, ↓vcd, opK_some, Bool.not_true]
 refine vc_loop_c mixed (by kernel_rfl) [1, 2, 10, 11] (fun m a τ' => ∃ k : Nat, m + k = cs.length ∧ a 12 = .int .i64 k ∧ Sub τ τ' ∧ CV ⟨O, E, M⟩ (cs.take k)) cs.length ⟨0, by simp, rfl, Sub.refl _, by simpa using CV_nil.2 hS⟩ ?_
 rintro m a τ1 hc ⟨k, hk, h12, hs, hC⟩
 simp -implicitDefEqProofs (disch := omega) only [Nat.reduceEqDiff, ↓reduceIte, vcu, ↓vcd] at hc
 obtain ⟨h1, h2, h10, h11, -⟩ := hc
 by_cases hlt : k < cs.length
 case neg =>
  obtain rfl : k = cs.length := by omega
  rw [List.take_length] at hC
  rw [decide_eq_true hC]
  simp -implicitDefEqProofs (disch := omega) only [Nat.reduceEqDiff, ↓reduceIte, vcu, ↓vcd, h1, h2, h10, h11, h12]
  refine fin_drop Tryz.results54 σ (s1.trans hs) ⟨?_, rfl⟩
  simp -implicitDefEqProofs (disch := omega) only [Nat.reduceEqDiff, ↓reduceIte, vcu, ↓vcd]
 have hx := ((hv.sub s1).sub hs).all hlt
 have hgk : cs.getD k cl0 = gc cs k := rfl
 have htk := CV_take (s := ⟨O, E, M⟩) hlt
 have htl : (cs.take k).length = k := by simp; omega
 have hft := fun (τ2 : AHeap) (hs2 : Sub τ τ2) (c : Cl) => implFits_at (w0 := w0) τ2 ⟨O, E, M⟩ h o (cs.take k) c (((hv.sub s1).sub hs2).take k) (by simp; omega) hS (fun d hd => (hC.2.1 d hd).nng hS)
 rw [htl] at hft
 have hiff : CV ⟨O, E, M⟩ (cs.take (k + 1)) ↔ FitsC ⟨O, E, M⟩ (cs.take k) (gc cs k) := htk.trans ⟨fun hh => hh.2, fun hh => ⟨hC, hh⟩⟩
 clear htk
 rw [hgk] at hx
 generalize gc cs k = c at hx hiff
 obtain ⟨ci, co, cv⟩ := c
 dsimp only at hx
 simp -implicitDefEqProofs (disch := omega) only [Nat.reduceEqDiff, ↓reduceIte, vcu, ↓vcd, h1, h2, h10, h11, h12, hx, co76]
 refine r_new ze76 fun g τ2a ng sa ea => ?_
 replace ea : τ2a g = some ⟨[.int .i64 0, .int .i64 0, .int .i64 0], false⟩ := ea
 simp -implicitDefEqProofs (disch := omega) only [Nat.reduceEqDiff, ↓reduceIte, vcu, ↓vcd, h1, h2, h10, h11, h12]
 refine r_sets (g := g) (i := 0) (C := [.int .i64 0, .int .i64 0, .int .i64 0]) z9q z9co76 z9r z9z ea z9l fun τ2 k2 e2 => ?_
 replace e2 : τ2 g = some ⟨[.int .i64 ci, .int .i64 co, .int .i64 cv], false⟩ := e2
 have s2 := k2.sub sa ng
 have hs2 := hs.trans s2
 have l5 := l3 τ2 hs2
 have l6 : lds τ2 g 0 3 = some [.int .i64 ci, .int .i64 co, .int .i64 cv] := lds_three (ld_of e2 rfl) (ld_of e2 rfl) (ld_of e2 rfl)
 simp -implicitDefEqProofs (disch := omega) only [Nat.reduceEqDiff, ↓reduceIte, vcu, ↓vcd, h1, h2, h10, h11, h12, l5, l6, co76, co29, Int.toNat_natCast]
 rw [r_callq]
 refine ⟨_, hft τ2 hs2 ⟨ci, co, cv⟩, ?_⟩
 by_cases hF : FitsC ⟨O, E, M⟩ (cs.take k) ⟨ci, co, cv⟩
 ·rw [decide_eq_true hF]
  simp -implicitDefEqProofs (disch := omega) only [Nat.reduceEqDiff, ↓reduceIte, vcu, ↓vcd, h1, h2, h10, h11, h12, Bool.not_true]
  exact ⟨⟨trivial, trivial, trivial, trivial, trivial⟩, m - 1, by omega, k + 1, by omega, by simp, hs2, hiff.2 hF⟩
 ·rw [decide_eq_false hF, decide_eq_false (fun hC2 : CV ⟨O, E, M⟩ cs => hF (hiff.1 (hC2.take (k + 1))))]
  simp -implicitDefEqProofs (disch := omega) only [Nat.reduceEqDiff, ↓reduceIte, vcu, ↓vcd, h1, h2, h10, h11, h12, Bool.not_false]
  refine fin_drop Tryz.results54 σ (s1.trans hs2) ⟨?_, rfl⟩
  simp -implicitDefEqProofs (disch := omega) only [Nat.reduceEqDiff, ↓reduceIte, vcu, ↓vcd]
end Go.Proofs.YtafkndnmhhjdhaaGreatDoor
namespace Go.Proofs.YtafkndnmhhjdhaaGreatDoor
open Go Go.Abs Go.RowKit Go.Clos
variable {w0 : World}
theorem fits_free {s : Sp} {cs : List Cl} {i o v : Int} (h : CV s cs) : FitsC s cs ⟨i, o, v⟩ ↔ Free s cs i o v := by
 unfold Free FitsC
 rw [CV_snoc]
 exact ⟨fun hh => ⟨h, hh⟩, fun hh => hh.2⟩
set_option maxRecDepth 8000 in
theorem implFree_at (σ : AHeap) (s : Sp) (h o : Nat) (cs : List Cl) (I O : Int) (hv : TrisAt σ h o cs) (hl : cs.length ≤ 1048576) :
  ACall Tryz.prog w0 138 [.agg #[.int .i64 s.O, .int .i64 s.E, .int .i64 s.M], .slice (some ⟨h, o, none⟩) cs.length 3, .int .i64 I, .int .i64 O] σ fun r σ' => Sub σ σ' ∧ OwnI σ σ' r (freeV s cs I O) := by
 refine acall_go mixed Tryz.func138 rfl good138 fun pr => ?_
 simp -implicitDefEqProofs (disch := omega) only [Nat.reduceEqDiff, ↓reduceIte, vcu, ↓vcd]
 refine r_boxed fun b τ nb s1 e1 => ?_
 replace e1 : τ b = some ⟨[.int .i64 s.O, .int .i64 s.E, .int .i64 s.M], false⟩ := e1
 have m3 : ∀ τ', Sub τ τ' → lds τ' b 0 3 = some [.int .i64 s.O, .int .i64 s.E, .int .i64 s.M] := fun τ' hs => lds_three (ld_of (hs _ _ e1) rfl) (ld_of (hs _ _ e1) rfl) (ld_of (hs _ _ e1) rfl)
 have mM : ∀ τ', Sub τ τ' → ld τ' b (0 + 2) = some (.int .i64 s.M) := fun τ' hs => ld_of (hs _ _ e1) rfl
 have l3 := m3 τ (Sub.refl _)
 simp -implicitDefEqProofs (disch := omega) only [Nat.reduceEqDiff, ↓reduceIte, vcu, ↓vcd, l3, co29]
 refine (implCV_at τ s.O s.E s.M h o cs (hv.sub s1) hl).mono ?_
 rintro r _ ⟨rfl, rfl⟩
 rename_i τ
 by_cases hC : CV s cs
 case neg =>
  rw [decide_eq_false hC, freeV_no fun hh => hC hh.1]
  simp -implicitDefEqProofs (disch := omega) only [Nat.reduceEqDiff, ↓reduceIte, vcu, ↓vcd, opK_some, Bool.not_false]
  refine fin_one Tryz.results138 ⟨s1, .inl ⟨?_, rfl⟩⟩
  simp -implicitDefEqProofs (disch := omega) only [Nat.reduceEqDiff, ↓reduceIte, vcu, ↓vcd]
 rw [decide_eq_true hC]
 have hS := hC.1
 obtain ⟨-, -, hM1, hM2⟩ := hS
 have hle : ∀ k, (freeL s cs I O k).length ≤ k := fun k => by
  have := List.length_filter_le (fun v => decide (Free s cs I O v)) (rng k)
  rw [rng_length] at this; exact this
 have lM := mM τ (Sub.refl _)
 simp -implicitDefEqProofs (disch := omega) only [Nat.reduceEqDiff, ↓reduceIte, vcu, ↓vcd, opK_some, Bool.not_true, lM]
 refine vc_loop_c mixed (by kernel_rfl) [1, 2, 3, 4, 16] (fun m a τ' => ∃ k : Nat, m + k = s.M.toNat ∧ a 17 = .int .i64 k ∧ Sub τ τ' ∧ OwnI τ τ' (a 9) (freeL s cs I O k)) s.M.toNat ⟨0, by simp, rfl, Sub.refl _, .inl ⟨rfl, rfl⟩⟩ ?_
 rintro m a τ2 hc ⟨k, hk, h17, hs, hO⟩
 simp -implicitDefEqProofs (disch := omega) only [Nat.reduceEqDiff, ↓reduceIte, vcu, ↓vcd] at hc
 obtain ⟨h1, h2, h3, h4, h16, -⟩ := hc
 by_cases hlt : k < s.M.toNat
 case neg =>
  obtain rfl : k = s.M.toNat := by omega
  simp -implicitDefEqProofs (disch := omega) only [Nat.reduceEqDiff, ↓reduceIte, vcu, ↓vcd, h1, h2, h3, h4, h16, h17]
  refine fin_one Tryz.results138 ⟨s1.trans hs, ?_⟩
  have := hO.older s1
  simp -implicitDefEqProofs (disch := omega) only [Nat.reduceEqDiff, ↓reduceIte, vcu, ↓vcd]
  exact this
 have l2 := m3 τ2 hs
 have hlk := hle k
 have hsucc := freeL_succ s cs I O k
 have hft := implFits_at (w0 := w0) τ2 s h o cs ⟨I, O, (k : Int)⟩ (hv.sub (s1.trans hs)) hl hC.1 (fun d hd => (hC.2.1 d hd).nng hC.1)
 have hiff := fits_free (i := I) (o := O) (v := (k : Int)) hC
 simp -implicitDefEqProofs (disch := omega) only [Nat.reduceEqDiff, ↓reduceIte, vcu, ↓vcd, h1, h2, h3, h4, h16, h17, l2, co29]
 rw [r_build]
 refine ⟨(_, #[.int .i64 I, .int .i64 O, .int .i64 (k : Int)]), ⟨ze76, by simp -implicitDefEqProofs (disch := omega) only [Nat.reduceEqDiff, ↓reduceIte, vcu, ↓vcd, h2, h3, h17]; kernel_rfl⟩, ?_⟩
 simp -implicitDefEqProofs (disch := omega) only [Nat.reduceEqDiff, ↓reduceIte, vcu, ↓vcd]
 refine hft.mono ?_
 rintro r _ ⟨rfl, rfl⟩
 rename_i τ2
 by_cases hF : Free s cs I O k
 ·rw [decide_eq_true (hiff.2 hF)]
  rw [if_pos hF] at hsucc
  simp -implicitDefEqProofs (disch := omega) only [Nat.reduceEqDiff, ↓reduceIte, vcu, ↓vcd, opK_some, h1, h2, h3, h4, h16, h17]
  refine r_lit el104 (out := #[.int .i64 (k : Int)]) (by first | kernel_rfl | (simp -implicitDefEqProofs (disch := omega) only [Nat.reduceEqDiff, ↓reduceIte, vcu, ↓vcd, h17]; kernel_rfl)) (by rfl) fun e3 τ9 n9 s9 v9 => ?_
  rcases hO with ⟨h9, hnil⟩ | ⟨g, h9, hg, hn⟩
  ·simp -implicitDefEqProofs (disch := omega) only [Nat.reduceEqDiff, ↓reduceIte, vcu, ↓vcd, h9]
   refine r_pushI_nil (e := e3) (o := 0) (k := .i64) (ys := [(k : Int)]) (m := 1) el104 (by omega) sl104 (by simp -implicitDefEqProofs (disch := omega) only [Nat.reduceEqDiff, ↓reduceIte, vcu, ↓vcd, h9]) z9q (intsAt_own v9) rfl (by omega) fun g6 τ6 n6 k6 v6 => ?_
   rw [hnil, List.nil_append] at hsucc
   simp -implicitDefEqProofs (disch := omega) only [Nat.reduceEqDiff, ↓reduceIte, vcu, ↓vcd, h1, h2, h3, h4, h16, h17]
   have hs9 := hs.trans s9
   exact ⟨⟨trivial, trivial, trivial, trivial, trivial, trivial⟩, m - 1, by omega, k + 1, by omega, by simp, hs9.trans k6, .inr ⟨g6, by rw [hsucc]; rfl, by rw [hsucc]; exact v6, free_sub hs9 n6⟩⟩
  ·simp -implicitDefEqProofs (disch := omega) only [Nat.reduceEqDiff, ↓reduceIte, vcu, ↓vcd, h9]
   refine r_pushI (g := g) (e := e3) (o := 0) (k := .i64) (xs := freeL s cs I O k) (ys := [(k : Int)]) (m := 1) (len := (freeL s cs I O k).length) el104 (by omega) sl104 (by simp -implicitDefEqProofs (disch := omega) only [Nat.reduceEqDiff, ↓reduceIte, vcu, ↓vcd, h9]) (s9 _ _ hg) rfl z9q (intsAt_own v9) rfl (by omega) fun g6 τ6 n6 k6 v6 => ?_
   rw [← hsucc] at v6
   have hle2 : (freeL s cs I O k).length + 1 = (freeL s cs I O (k + 1)).length := by rw [hsucc]; simp
   have hs9 := hs.trans s9
   simp -implicitDefEqProofs (disch := omega) only [Nat.reduceEqDiff, ↓reduceIte, vcu, ↓vcd, h1, h2, h3, h4, h16, h17, hle2]
   exact ⟨⟨trivial, trivial, trivial, trivial, trivial, trivial⟩, m - 1, by omega, k + 1, by omega, by simp, k6.sub hs9 hn, .inr ⟨g6, rfl, v6, free_sub hs9 n6⟩⟩
 ·rw [decide_eq_false fun hh => hF (hiff.1 hh)]
  rw [if_neg hF, List.append_nil] at hsucc
  simp -implicitDefEqProofs (disch := omega) only [Nat.reduceEqDiff, ↓reduceIte, vcu, ↓vcd, opK_some, h1, h2, h3, h4, h16, h17]
  exact ⟨⟨trivial, trivial, trivial, trivial, trivial, trivial⟩, m - 1, by omega, k + 1, by omega, by simp, hs, by rw [hsucc]; exact hO⟩
set_option maxRecDepth 8000 in
theorem cloneC_at (σ : AHeap) (h o : Nat) (xs : List Cl) (hv : TrisAt σ h o xs) (hl : xs.length ≤ 1048576) :
  ACall Tryz.prog w0 57 [.slice (some ⟨h, o, none⟩) xs.length 3] σ fun r σ' => Sub σ σ' ∧ OwnC σ σ' r xs := by
 refine acall_go mixed Tryz.func57 rfl good57 fun pr => ?_
 simp -implicitDefEqProofs (disch := omega) only [Nat.reduceEqDiff, ↓reduceIte, vcu, ↓vcd]
 refine r_nilEq (b := some ⟨h, o, none⟩) (l := xs.length) (z := 3) Tryz.underlying30 z9q fun c _ h2 => ?_
 cases c with
 | true =>
  simp -implicitDefEqProofs (disch := omega) only [Nat.reduceEqDiff, ↓reduceIte, vcu, ↓vcd]
  have : xs = [] := by
   cases xs with
   | nil => rfl
   | cons x xs => have := h2 (by simp); cases this
  subst this
  refine fin_one Tryz.results57 ⟨Sub.refl _, .inl ⟨?_, rfl⟩⟩
  simp -implicitDefEqProofs (disch := omega) only [Nat.reduceEqDiff, ↓reduceIte, vcu, ↓vcd]
 | false =>
  simp -implicitDefEqProofs (disch := omega) only [Nat.reduceEqDiff, ↓reduceIte, vcu, ↓vcd]
  refine r_lit el30 (out := #[]) (by kernel_rfl) (by kernel_rfl) fun e1 τ1 n1 s1 v1 => ?_
  simp -implicitDefEqProofs (disch := omega) only [Nat.reduceEqDiff, ↓reduceIte, vcu, ↓vcd]
  refine r_pushC (g := e1) (e := h) (o := o) (cs := []) (ds := xs) (m := xs.length) (len := 0) el30 (by omega) sl30 z9q v1 rfl z9q (hv.sub s1) rfl (by omega) fun g τ2 n2 k2 v2 => ?_
  rw [List.nil_append] at v2
  simp -implicitDefEqProofs (disch := omega) only [Nat.reduceEqDiff, ↓reduceIte, vcu, ↓vcd, Nat.zero_add]
  refine fin_one Tryz.results57 ⟨k2.sub s1 n1, .inr ⟨g, ?_, v2, free_sub s1 n2⟩⟩
  simp -implicitDefEqProofs (disch := omega) only [Nat.reduceEqDiff, ↓reduceIte, vcu, ↓vcd]
set_option maxRecDepth 8000 in
theorem implPut_at (σ : AHeap) (s : Sp) (h o : Nat) (cs : List Cl) (I O : Int) (hv : TrisAt σ h o cs) (hl : cs.length ≤ 1048576) :
  ACall Tryz.prog w0 117 [.agg #[.int .i64 s.O, .int .i64 s.E, .int .i64 s.M], .slice (some ⟨h, o, none⟩) cs.length 3, .int .i64 I, .int .i64 O] σ fun r σ' => ∃ v, r = .tuple #[v, .bool (putOk s cs I O)] ∧ Sub σ σ' ∧ OwnC σ σ' v (putL s cs I O) := by
 refine acall_go mixed Tryz.func117 rfl good117 fun pr => ?_
 simp -implicitDefEqProofs (disch := omega) only [Nat.reduceEqDiff, ↓reduceIte, vcu, ↓vcd]
 refine r_boxed fun b τ nb s1 e1 => ?_
 replace e1 : τ b = some ⟨[.int .i64 s.O, .int .i64 s.E, .int .i64 s.M], false⟩ := e1
 have m3 : ∀ τ', Sub τ τ' → lds τ' b 0 3 = some [.int .i64 s.O, .int .i64 s.E, .int .i64 s.M] := fun τ' hs => lds_three (ld_of (hs _ _ e1) rfl) (ld_of (hs _ _ e1) rfl) (ld_of (hs _ _ e1) rfl)
 have l3 := m3 τ (Sub.refl _)
 simp -implicitDefEqProofs (disch := omega) only [Nat.reduceEqDiff, ↓reduceIte, vcu, ↓vcd, l3, co29]
 refine (implCV_at τ s.O s.E s.M h o cs (hv.sub s1) hl).mono ?_
 rintro r _ ⟨rfl, rfl⟩
 rename_i τ
 by_cases hC : CV s cs
 case neg =>
  obtain ⟨q1, q2⟩ := putL_no (i := I) (o := O) hC
  rw [decide_eq_false hC, q1, q2]
  simp -implicitDefEqProofs (disch := omega) only [Nat.reduceEqDiff, ↓reduceIte, vcu, ↓vcd, opK_some, Bool.not_false]
  refine fin_two Tryz.results117 ⟨.slice none 0 0, ?_, s1, .inl ⟨rfl, rfl⟩⟩
  simp -implicitDefEqProofs (disch := omega) only [Nat.reduceEqDiff, ↓reduceIte, vcu, ↓vcd]
 rw [decide_eq_true hC]
 have hl12 := hC.len
 simp -implicitDefEqProofs (disch := omega) only [Nat.reduceEqDiff, ↓reduceIte, vcu, ↓vcd, opK_some, Bool.not_true]
 refine (cloneC_at τ h o cs (hv.sub s1) hl).mono ?_
 rintro va τ4 ⟨hs4, wa⟩
 have l4 := m3 τ4 hs4
 simp -implicitDefEqProofs (disch := omega) only [Nat.reduceEqDiff, ↓reduceIte, vcu, ↓vcd, opK_some, l4, co29]
 refine (implFree_at τ4 s h o cs I O (hv.sub (s1.trans hs4)) hl).mono ?_
 rintro vf τ5 ⟨s5, wf⟩
 have hs5 := hs4.trans s5
 have hlf := ownI_lenD wf
 have wa5 := wa.sub s5
 cases hf : freeV s cs I O with
 | cons v0 vs =>
  obtain ⟨q1, q2⟩ := putL_cons hC hf
  rw [hf] at wf hlf
  obtain ⟨gf, rfl, wf1, -⟩ := rowI_D wf (by simp)
  have lx := intsAt_own wf1 0 (by simp)
  have hg0 : (v0 :: vs).getD 0 0 = v0 := rfl
  rw [hg0] at lx
  have hpos : (0 : Int) < ((v0 :: vs).length : Int) := by simp
  have hpos' : 0 < (v0 :: vs).length := by simp
  rw [q1, q2]
  generalize (v0 :: vs).length = lf at hlf hpos hpos'
  have hd : decide ((lf : Int) = 0) = false := decide_eq_false (by omega)
  simp -implicitDefEqProofs (disch := omega) only [Nat.reduceEqDiff, ↓reduceIte, vcu, ↓vcd, opK_some, hlf, hd, lx, Int.toNat_zero, Nat.mul_one]
  rw [r_build]
  refine ⟨(_, #[.int .i64 I, .int .i64 O, .int .i64 v0]), ⟨ze76, by simp -implicitDefEqProofs (disch := omega) only [Nat.reduceEqDiff, ↓reduceIte, vcu, ↓vcd]; kernel_rfl⟩, ?_⟩
  simp -implicitDefEqProofs (disch := omega) only [Nat.reduceEqDiff, ↓reduceIte, vcu, ↓vcd]
  refine r_lit el30 (out := #[.int .i64 I, .int .i64 O, .int .i64 v0]) (by first | kernel_rfl | (simp -implicitDefEqProofs (disch := omega) only [Nat.reduceEqDiff, ↓reduceIte, vcu, ↓vcd]; kernel_rfl)) (by rfl) fun eb τ6 n6 s6 v6 => ?_
  replace v6 : τ6 eb = some ⟨tris [⟨I, O, v0⟩], false⟩ := v6
  rcases wa5 with ⟨rfl, rfl⟩ | ⟨gb, rfl, v5, nτb⟩
  ·refine r_pushC_nil (e := eb) (o := 0) (ds := [⟨I, O, v0⟩]) (m := 1) el30 (by omega) sl30 z9q z9q (trisAt_own v6) rfl (by omega) fun gc9 τ9 n9 k9 v9 => ?_
   have s9 := (hs5.trans s6).trans k9
   simp -implicitDefEqProofs (disch := omega) only [Nat.reduceEqDiff, ↓reduceIte, vcu, ↓vcd]
   refine fin_two Tryz.results117 ⟨.slice (some ⟨gc9, 0, none⟩) 1 3, ?_, s1.trans s9, .inr ⟨gc9, by simp, v9, free_sub (s1.trans (hs5.trans s6)) n9⟩⟩
   simp -implicitDefEqProofs (disch := omega) only [Nat.reduceEqDiff, ↓reduceIte, vcu, ↓vcd]
  ·refine r_pushC (g := gb) (e := eb) (o := 0) (cs := cs) (ds := [⟨I, O, v0⟩]) (m := 1) (len := cs.length) el30 (by omega) sl30 z9q (s6 _ _ v5) rfl z9q (trisAt_own v6) rfl (by omega) fun gc9 τ9 n9 k9 v9 => ?_
   have s9 : Sub τ τ9 := k9.sub (hs5.trans s6) nτb
   simp -implicitDefEqProofs (disch := omega) only [Nat.reduceEqDiff, ↓reduceIte, vcu, ↓vcd]
   refine fin_two Tryz.results117 ⟨.slice (some ⟨gc9, 0, none⟩) (cs.length + 1) 3, ?_, s1.trans s9, .inr ⟨gc9, by simp, v9, free_sub (s1.trans (hs5.trans s6)) n9⟩⟩
   simp -implicitDefEqProofs (disch := omega) only [Nat.reduceEqDiff, ↓reduceIte, vcu, ↓vcd]
 | nil =>
  obtain ⟨q1, q2⟩ := putL_nil hC hf
  rw [hf] at hlf
  rw [q1, q2]
  simp -implicitDefEqProofs (disch := omega) only [Nat.reduceEqDiff, ↓reduceIte, vcu, ↓vcd, opK_some, hlf, List.length_nil, Int.natCast_zero]
  refine fin_two Tryz.results117 ⟨va, ?_, s1.trans hs5, wa5.older s1⟩
  simp -implicitDefEqProofs (disch := omega) only [Nat.reduceEqDiff, ↓reduceIte, vcu, ↓vcd]
set_option maxRecDepth 8000 in
theorem dropC_at (σ : AHeap) (b : Nat) (I : Int) (c : Cl) (hb : σ b = some ⟨[.int .i64 I], false⟩) :
  ACall Tryz.prog w0 124 [.agg #[.int .i64 c.i, .int .i64 c.o, .int .i64 c.v], .pointer (some ⟨b, 0, none⟩)] σ fun r σ' => r = .bool (decide (c.i = I)) ∧ σ' = σ := by
 refine acall_go mixed Tryz.func124 rfl good124 fun pr => ?_
 simp -implicitDefEqProofs (disch := omega) only [Nat.reduceEqDiff, ↓reduceIte, vcu, ↓vcd]
 refine r_boxed fun h1 τ1 n1 s1 e1 => ?_
 replace e1 : τ1 h1 = some ⟨[.int .i64 c.i, .int .i64 c.o, .int .i64 c.v], false⟩ := e1
 have l1 : ld τ1 h1 (0 + 0) = some (.int .i64 c.i) := ld_of e1 rfl
 have l2 : ld τ1 b 0 = some (.int .i64 I) := ld_of (s1 _ _ hb) rfl
 simp -implicitDefEqProofs (disch := omega) only [Nat.reduceEqDiff, ↓reduceIte, vcu, ↓vcd, l1, l2]
 refine fin_drop Tryz.results124 σ s1 ⟨?_, rfl⟩
 simp -implicitDefEqProofs (disch := omega) only [Nat.reduceEqDiff, ↓reduceIte, vcu, ↓vcd]
end Go.Proofs.YtafkndnmhhjdhaaGreatDoor
namespace Go.Clos
/-- the chain so far, and the call that was moved last (at the start: the further call) -/
def Cur (s : Sp) (cs : List Cl) (a b o : Int) (ch : List Nat) (sd : Bool) (x : Int) (kk : Nat) : Prop :=
 (ch = [] ∧ sd = true ∧ x = o / s.E ∧ kk = cs.length) ∨ (kk ∈ ch ∧ x = sw s sd (gc cs kk) ∧ (gc cs kk).v = wantOf a b (!sd))
def halfway (s : Sp) (cs : List Cl) (a b i o : Int) (ch : List Nat) : List Cl := flip a b ch cs ++ [⟨i, o, a⟩]
theorem halfway_length (s : Sp) (cs : List Cl) (a b i o : Int) (ch : List Nat) : (halfway s cs a b i o ch).length = cs.length + 1 := by simp [halfway, flip_length]
theorem halfway_old {s : Sp} {cs : List Cl} {a b i o : Int} {ch : List Nat} {k : Nat} (h : k < cs.length) : gc (halfway s cs a b i o ch) k = if k ∈ ch then ⟨(gc cs k).i, (gc cs k).o, a + b - (gc cs k).v⟩ else gc cs k := by
 unfold halfway; rw [gc_append (by rw [flip_length]; exact h), flip_gc h]
theorem halfway_new {s : Sp} {cs : List Cl} {a b i o : Int} {ch : List Nat} : gc (halfway s cs a b i o ch) cs.length = ⟨i, o, a⟩ := by
 unfold halfway; have := gc_last (cs := flip a b ch cs) (c := ⟨i, o, a⟩); rwa [flip_length] at this
theorem hit_cases {s : Sp} {c d : Cl} (h : Hit s c d) : c.i = d.i ∨ c.o = d.o ∨ ∃ t, sw s t c = sw s t d ∧ c.v = d.v := by
 rcases h with h | h | ⟨h, g | g⟩
 ·exact .inl h
 ·exact .inr (.inl h)
 ·exact .inr (.inr ⟨false, g, h⟩)
 ·exact .inr (.inr ⟨true, g, h⟩)
section
variable {s : Sp} {cs : List Cl} {a b i o : Int} (h : CV s cs) (hb : ¬ Busy cs i o) (hab : a ≠ b) (hA : a ∉ usedI s cs (i / s.E)) (hB : b ∉ usedO s cs (o / s.E))
include h hb hab hA hB
theorem meets {ch : List Nat} {sd : Bool} {x : Int} {kk : Nat} (hi : Inv s cs a b (o / s.E) ch sd x) (hc : Cur s cs a b o ch sd x kk) {m : Nat} (hm : m < cs.length + 1) (hne : m ≠ kk) :
  Hit s (gc (halfway s cs a b i o ch) kk) (gc (halfway s cs a b i o ch) m) ↔ m < cs.length ∧ AtC s sd x (wantOf a b sd) (gc cs m) ∧ m ∉ ch := by
 have hAk : ∀ k, k < cs.length → sw s false (gc cs k) = i / s.E → (gc cs k).v ≠ a := fun k hk e e2 => hA (mem_usedI.2 ⟨_, gc_mem hk, e, e2⟩)
 have hBk : ∀ k, k < cs.length → sw s true (gc cs k) = o / s.E → (gc cs k).v ≠ b := fun k hk e e2 => hB (mem_usedO.2 ⟨_, gc_mem hk, e, e2⟩)
 have hbi := not_busyI hb
 have hbo := not_busyO hb
 have hw : a + b - wantOf a b (!sd) = wantOf a b sd := by cases sd <;> simp [wantOf] <;> omega
 rcases hc with ⟨rfl, rfl, rfl, rfl⟩ | ⟨hk, hx, hv⟩
 ·have hml : m < cs.length := by omega
  rw [halfway_new, halfway_old hml, if_neg (by simp)]
  constructor
  ·intro hh
   rcases hit_cases hh with e | e | ⟨t, e, e2⟩
   ·exact absurd e.symm (hbi _ (gc_mem hml))
   ·exact absurd e.symm (hbo _ (gc_mem hml))
   ·cases t with
    | false => exact absurd e2.symm (hAk m hml e.symm)
    | true => exact ⟨hml, ⟨e.symm, e2.symm⟩, by simp⟩
  ·rintro ⟨_, ⟨e1, e2⟩, _⟩
   exact hit_sw (sd := true) e1.symm e2.symm
 ·have hkl := hi.lt kk hk
  rw [halfway_old hkl, if_pos hk]
  by_cases e : m = cs.length
  ·subst e
   rw [halfway_new]
   constructor
   ·intro hh
    rcases hit_cases hh with e | e | ⟨t, e, e2⟩
    ·exact absurd e (hbi (gc cs kk) (gc_mem hkl))
    ·exact absurd e (hbo (gc cs kk) (gc_mem hkl))
    ·have hvb : (gc cs kk).v = b := by dsimp only at e2; omega
     cases t with
     | false =>
      obtain ⟨l, hl, f1, f2⟩ := hi.from_ kk hk hvb
      exact absurd f1 (hAk l (hi.lt l hl) (f2.trans e))
     | true => exact absurd hvb (hBk kk hkl e)
   ·rintro ⟨e1, _⟩; omega
  ·have hml : m < cs.length := by omega
   rw [halfway_old hml]
   have hno := h.two (gc_some hkl) (gc_some hml) (by omega)
   by_cases hmc : m ∈ ch
   ·rw [if_pos hmc]
    constructor
    ·intro hh
     rcases hit_cases hh with e | e | ⟨t, e, e2⟩
     ·exact absurd (.inl e) hno
     ·exact absurd (.inr (.inl e)) hno
     ·exact absurd (hit_sw (c := gc cs kk) (d := gc cs m) (sd := t) e (by dsimp only at e2; omega)) hno
    ·rintro ⟨_, _, e1⟩; exact absurd hmc e1
   ·rw [if_neg hmc]
    constructor
    ·intro hh
     rcases hit_cases hh with e | e | ⟨t, e, e2⟩
     ·exact absurd (.inl e) hno
     ·exact absurd (.inr (.inl e)) hno
     ·refine ⟨hml, ?_, hmc⟩
      exact (hi.cl kk hk t m hml e.symm (by dsimp only at e2; omega)).elim (fun hh => absurd hh hmc) id
    ·rintro ⟨_, ⟨e1, e2⟩, _⟩
     refine hit_sw (sd := sd) (hx.symm.trans e1.symm) ?_
     show a + b - (gc cs kk).v = (gc cs m).v
     rw [e2, hv, hw]
theorem cur_step {ch : List Nat} {sd : Bool} {x : Int} {k : Nat} (hn : nxt s cs ch sd x (wantOf a b sd) cs.length = some k) : Cur s cs a b o (ch ++ [k]) (!sd) (sw s (!sd) (gc cs k)) k := by
 obtain ⟨hk, ⟨k1, k2⟩, k3⟩ := nxt_some hn
 exact .inr ⟨by simp, rfl, by rw [k2, Bool.not_not]⟩
/-- the first call that meets the one that was moved last is the next of the chain -/
theorem meet_first {ch : List Nat} {sd : Bool} {x : Int} {kk : Nat} (hi : Inv s cs a b (o / s.E) ch sd x) (hc : Cur s cs a b o ch sd x kk) {z : Int}
  (hz : (z = -1 ∧ ∀ m, m < cs.length + 1 → m ≠ kk → ¬ Hit s (gc (halfway s cs a b i o ch) kk) (gc (halfway s cs a b i o ch) m)) ∨ ∃ m : Nat, z = m ∧ m < cs.length + 1 ∧ m ≠ kk ∧ Hit s (gc (halfway s cs a b i o ch) kk) (gc (halfway s cs a b i o ch) m)) :
  z = nI (nxt s cs ch sd x (wantOf a b sd) cs.length) := by
 have hM := fun m hm hne => meets h hb hab hA hB hi hc (m := m) hm hne
 cases hn : nxt s cs ch sd x (wantOf a b sd) cs.length with
 | none =>
  rcases hz with ⟨rfl, _⟩ | ⟨m, rfl, h1, h2, h3⟩
  ·rfl
  ·obtain ⟨g1, g2, g3⟩ := (hM m h1 h2).1 h3
   exact absurd (nxt_none hn m g1 g2) g3
 | some k =>
  obtain ⟨k1, k2, k3⟩ := nxt_some hn
  have hkk : k ≠ kk := by
   rintro rfl
   rcases hc with ⟨_, _, _, e⟩ | ⟨e, _⟩
   ·omega
   ·exact k3 e
  rcases hz with ⟨rfl, hall⟩ | ⟨m, rfl, h1, h2, h3⟩
  ·exact absurd ((hM k (by omega) hkk).2 ⟨k1, k2, k3⟩) (hall k (by omega) hkk)
  ·obtain ⟨g1, g2, g3⟩ := (hM m h1 h2).1 h3
   have : m = k := h.sw_one (sd := sd) g1 k1 (by rw [g2.1, k2.1]) (by rw [g2.2, k2.2])
   subst this; rfl
end
theorem halfway_nil (s : Sp) (cs : List Cl) (a b i o : Int) : halfway s cs a b i o [] = cs ++ [⟨i, o, a⟩] := by unfold halfway; rw [flip_nil]
theorem halfway_step {s : Sp} {cs : List Cl} {a b i o : Int} {ch : List Nat} {k : Nat} (hk : k < cs.length) (hm : k ∉ ch) :
  (halfway s cs a b i o ch).set k ⟨(gc cs k).i, (gc cs k).o, a + b - (gc cs k).v⟩ = halfway s cs a b i o (ch ++ [k]) ∧ gc (halfway s cs a b i o ch) k = gc cs k := by
 obtain ⟨h1, h2⟩ := flip_step (a := a) (b := b) hk hm
 constructor
 ·unfold halfway
  rw [List.set_append_left _ _ (by rw [flip_length]; exact hk), h1]
 ·rw [halfway_old hk, if_neg hm]
end Go.Clos
namespace Go.Proofs.YtafkndnmhhjdhaaGreatDoor
open Go Go.Abs Go.RowKit Go.Clos
variable {w0 : World}
set_option maxRecDepth 8000 in
theorem idleC_at (σ : AHeap) (b1 b2 : Nat) (I O : Int) (c : Cl) (h1 : σ b1 = some ⟨[.int .i64 I], false⟩) (h2 : σ b2 = some ⟨[.int .i64 O], false⟩) :
  ACall Tryz.prog w0 139 [.agg #[.int .i64 c.i, .int .i64 c.o, .int .i64 c.v], .pointer (some ⟨b1, 0, none⟩), .pointer (some ⟨b2, 0, none⟩)] σ fun r σ' => r = .bool (decide (c.i = I ∨ c.o = O)) ∧ σ' = σ := by
 refine acall_go mixed Tryz.func139 rfl good139 fun pr => ?_
 simp -implicitDefEqProofs (disch := omega) only [Nat.reduceEqDiff, ↓reduceIte, vcu, ↓vcd]
 refine r_boxed fun g τ1 n1 s1 e1 => ?_
 replace e1 : τ1 g = some ⟨[.int .i64 c.i, .int .i64 c.o, .int .i64 c.v], false⟩ := e1
 have l1 : ld τ1 g (0 + 0) = some (.int .i64 c.i) := ld_of e1 rfl
 have l2 : ld τ1 g (0 + 1) = some (.int .i64 c.o) := ld_of e1 rfl
 have k1 : ld τ1 b1 0 = some (.int .i64 I) := ld_of (s1 _ _ h1) rfl
 have k2 : ld τ1 b2 0 = some (.int .i64 O) := ld_of (s1 _ _ h2) rfl
 by_cases q1 : c.i = I
 ·simp -implicitDefEqProofs (disch := omega) only [Nat.reduceEqDiff, ↓reduceIte, vcu, ↓vcd, l1, l2, k1, k2]
  refine fin_drop Tryz.results139 σ s1 ⟨?_, rfl⟩
  simp -implicitDefEqProofs (disch := omega) only [Nat.reduceEqDiff, ↓reduceIte, vcu, ↓vcd]
  simp [q1]
 ·simp -implicitDefEqProofs (disch := omega) only [Nat.reduceEqDiff, ↓reduceIte, vcu, ↓vcd, l1, l2, k1, k2]
  refine fin_drop Tryz.results139 σ s1 ⟨?_, rfl⟩
  simp -implicitDefEqProofs (disch := omega) only [Nat.reduceEqDiff, ↓reduceIte, vcu, ↓vcd]
  simp [q1]
set_option maxRecDepth 8000 in
theorem implIdle_at (σ : AHeap) (s : Sp) (h o : Nat) (cs : List Cl) (I O : Int) (hv : TrisAt σ h o cs) (hl : cs.length ≤ 1048576) (hS : SV s) :
  ACall Tryz.prog w0 118 [.agg #[.int .i64 s.O, .int .i64 s.E, .int .i64 s.M], .slice (some ⟨h, o, none⟩) cs.length 3, .int .i64 I, .int .i64 O] σ fun r σ' => r = .bool (decide (Lines s I O ∧ ¬ Busy cs I O)) ∧ σ' = σ := by
 refine acall_go mixed Tryz.func118 rfl good118 fun pr => ?_
 simp -implicitDefEqProofs (disch := omega) only [Nat.reduceEqDiff, ↓reduceIte, vcu, ↓vcd]
 refine r_boxed fun b τ1 n1 s1 e1 => ?_
 replace e1 : τ1 b = some ⟨[.int .i64 s.O, .int .i64 s.E, .int .i64 s.M], false⟩ := e1
 refine r_boxed fun b1 τ2 n2 s2 e2 => ?_
 replace e2 : τ2 b1 = some ⟨[.int .i64 I], false⟩ := e2
 refine r_boxed fun b2 τ n3 s3 e3 => ?_
 replace e3 : τ b2 = some ⟨[.int .i64 O], false⟩ := e3
 have f1 := s3 _ _ (s2 _ _ e1)
 have f2 := s3 _ _ e2
 have s12 := s1.trans (s2.trans s3)
 have l3 : lds τ b 0 3 = some [.int .i64 s.O, .int .i64 s.E, .int .i64 s.M] := lds_three (ld_of f1 rfl) (ld_of f1 rfl) (ld_of f1 rfl)
 have li : ld τ b1 0 = some (.int .i64 I) := ld_of f2 rfl
 have lo : ld τ b2 0 = some (.int .i64 O) := ld_of e3 rfl
 simp -implicitDefEqProofs (disch := omega) only [Nat.reduceEqDiff, ↓reduceIte, vcu, ↓vcd, l3, li, lo, co29]
 refine (hasLine_at τ s.O s.E s.M I hS).mono ?_
 rintro r _ ⟨rfl, rfl⟩
 rename_i τ
 by_cases hI : 0 ≤ I ∧ I ≤ s.O * s.E - 1
 case neg =>
  rw [decide_eq_false hI, decide_eq_false (fun hh : Lines s I O ∧ ¬ Busy cs I O => hI hh.1.1)]
  simp -implicitDefEqProofs (disch := omega) only [Nat.reduceEqDiff, ↓reduceIte, vcu, ↓vcd, opK_some, Bool.not_false]
  refine fin_drop Tryz.results118 σ s12 ⟨?_, rfl⟩
  simp -implicitDefEqProofs (disch := omega) only [Nat.reduceEqDiff, ↓reduceIte, vcu, ↓vcd]
 rw [decide_eq_true hI]
 simp -implicitDefEqProofs (disch := omega) only [Nat.reduceEqDiff, ↓reduceIte, vcu, ↓vcd, opK_some, Bool.not_true, l3, li, lo, co29]
 refine (hasLine_at τ s.O s.E s.M O hS).mono ?_
 rintro r _ ⟨rfl, rfl⟩
 rename_i τ
 by_cases hO : 0 ≤ O ∧ O ≤ s.O * s.E - 1
 case neg =>
  rw [decide_eq_false hO, decide_eq_false (fun hh : Lines s I O ∧ ¬ Busy cs I O => hO hh.1.2)]
  simp -implicitDefEqProofs (disch := omega) only [Nat.reduceEqDiff, ↓reduceIte, vcu, ↓vcd, opK_some, Bool.not_false]
  refine fin_drop Tryz.results118 σ s12 ⟨?_, rfl⟩
  simp -implicitDefEqProofs (disch := omega) only [Nat.reduceEqDiff, ↓reduceIte, vcu, ↓vcd]
 rw [decide_eq_true hO]
 simp -implicitDefEqProofs (disch := omega) only [Nat.reduceEqDiff, ↓reduceIte, vcu, ↓vcd, opK_some, Bool.not_true]
 refine (hasFn_at τ h o cs _ _ (fun c => c.i = I ∨ c.o = O) (hv.sub s12) hl fun c _ pw => idleC_at τ b1 b2 I O c f2 e3).mono ?_
 rintro r _ ⟨rfl, rfl⟩
 have hd : decide (Lines s I O ∧ ¬ Busy cs I O) = !decide (∃ c ∈ cs, c.i = I ∨ c.o = O) := by
  by_cases hh : ∃ c ∈ cs, c.i = I ∨ c.o = O
  ·rw [decide_eq_true hh, decide_eq_false (fun hf : Lines s I O ∧ ¬ Busy cs I O => hf.2 hh)]; rfl
  ·rw [decide_eq_false hh, decide_eq_true (show Lines s I O ∧ ¬ Busy cs I O from ⟨⟨hI, hO⟩, hh⟩)]; rfl
 rw [hd]
 simp -implicitDefEqProofs (disch := omega) only [Nat.reduceEqDiff, ↓reduceIte, vcu, ↓vcd, opK_some]
 refine fin_drop Tryz.results118 σ s12 ⟨?_, rfl⟩
 simp -implicitDefEqProofs (disch := omega) only [Nat.reduceEqDiff, ↓reduceIte, vcu, ↓vcd]
set_option maxRecDepth 8000 in
theorem unusedC_at (σ : AHeap) (b1 b2 : Nat) (k : Int) (c : Cl) (gf : Nat) (caps : Array Value) (P : Cl → Prop) [DecidablePred P] (h1 : σ b1 = some ⟨[.int .i64 k], false⟩) (h2 : σ b2 = some ⟨[.func (.func gf) #[] caps], false⟩)
  (hcl : ∀ pw τ, Sub σ τ → ACall Tryz.prog pw gf (.agg #[.int .i64 c.i, .int .i64 c.o, .int .i64 c.v] :: caps.toList) τ fun r σ' => r = .bool (decide (P c)) ∧ σ' = τ) :
  ACall Tryz.prog w0 140 [.agg #[.int .i64 c.i, .int .i64 c.o, .int .i64 c.v], .pointer (some ⟨b1, 0, none⟩), .pointer (some ⟨b2, 0, none⟩)] σ fun r σ' => r = .bool (decide (c.v = k ∧ P c)) ∧ σ' = σ := by
 refine acall_go mixed Tryz.func140 rfl good140 fun pr => ?_
 simp -implicitDefEqProofs (disch := omega) only [Nat.reduceEqDiff, ↓reduceIte, vcu, ↓vcd]
 refine r_boxed fun g τ1 n1 s1 e1 => ?_
 replace e1 : τ1 g = some ⟨[.int .i64 c.i, .int .i64 c.o, .int .i64 c.v], false⟩ := e1
 have l1 : ld τ1 g (0 + 2) = some (.int .i64 c.v) := ld_of e1 rfl
 have l3 : lds τ1 g 0 3 = some [.int .i64 c.i, .int .i64 c.o, .int .i64 c.v] := lds_three (ld_of e1 rfl) (ld_of e1 rfl) (ld_of e1 rfl)
 have k1 : ld τ1 b1 0 = some (.int .i64 k) := ld_of (s1 _ _ h1) rfl
 have k2 : ld τ1 b2 0 = some (.func (.func gf) #[] caps) := ld_of (s1 _ _ h2) rfl
 by_cases q1 : c.v = k
 case neg =>
  rw [decide_eq_false (fun hh : c.v = k ∧ P c => q1 hh.1)]
  simp -implicitDefEqProofs (disch := omega) only [Nat.reduceEqDiff, ↓reduceIte, vcu, ↓vcd, l1, l3, k1, k2]
  refine fin_drop Tryz.results140 σ s1 ⟨?_, rfl⟩
  simp -implicitDefEqProofs (disch := omega) only [Nat.reduceEqDiff, ↓reduceIte, vcu, ↓vcd]
 have hd : decide (c.v = k ∧ P c) = decide (P c) := decide_eq_decide.2 ⟨fun hh => hh.2, fun hh => ⟨q1, hh⟩⟩
 rw [hd]
 simp -implicitDefEqProofs (disch := omega) only [Nat.reduceEqDiff, ↓reduceIte, vcu, ↓vcd, l1, l3, k1, k2, co76]
 refine r_callv ⟨(gf, caps), by simp -implicitDefEqProofs (disch := omega) only [Nat.reduceEqDiff, ↓reduceIte, vcu, ↓vcd], ?_⟩
 simp -implicitDefEqProofs (disch := omega) only [Nat.reduceEqDiff, ↓reduceIte, vcu, ↓vcd]
 refine (hcl _ τ1 s1).mono ?_
 rintro r _ ⟨rfl, rfl⟩
 simp -implicitDefEqProofs (disch := omega) only [Nat.reduceEqDiff, ↓reduceIte, vcu, ↓vcd, opK_some]
 refine fin_drop Tryz.results140 σ s1 ⟨?_, rfl⟩
 simp -implicitDefEqProofs (disch := omega) only [Nat.reduceEqDiff, ↓reduceIte, vcu, ↓vcd]
set_option maxRecDepth 8000 in
theorem firstFn_at (σ : AHeap) (h o : Nat) (cs : List Cl) (gf : Nat) (caps : Array Value) (P : Cl → Prop) [DecidablePred P] (U : List Int) (N : Nat) (hv : TrisAt σ h o cs) (hl : cs.length ≤ 1048576)
  (hcl : ∀ c ∈ cs, ∀ pw τ, Sub σ τ → ACall Tryz.prog pw gf (.agg #[.int .i64 c.i, .int .i64 c.o, .int .i64 c.v] :: caps.toList) τ fun r σ' => r = .bool (decide (P c)) ∧ σ' = τ)
  (hU : ∀ v : Int, (∃ c ∈ cs, c.v = v ∧ P c) ↔ v ∈ U) (hN : 0 ≤ firstN U N 0) (hN5 : N ≤ 5) :
  ACall Tryz.prog w0 119 [.slice (some ⟨h, o, none⟩) cs.length 3, .func (.func gf) #[] caps] σ fun r σ' => r = .int .i64 (firstN U N 0) ∧ σ' = σ := by
 refine acall_go mixed Tryz.func119 rfl good119 fun pr => ?_
 simp -implicitDefEqProofs (disch := omega) only [Nat.reduceEqDiff, ↓reduceIte, vcu, ↓vcd]
 refine r_boxed fun b τ1 n1 s1 e1 => ?_
 replace e1 : τ1 b = some ⟨[.func (.func gf) #[] caps], false⟩ := e1
 simp -implicitDefEqProofs (disch := omega) only [Nat.reduceEqDiff, ↓reduceIte, vcu, ↓vcd]
 refine r_new ze3 fun v τ2 n2 s2 e2 => ?_
 replace e2 : τ2 v = some ⟨[.int .i64 0], false⟩ := e2
 refine r_set (g := v) (i := 0) z9q z9r co3 z9r e2 (by simp) fun τ k3 e3 => ?_
 simp -implicitDefEqProofs (disch := omega) only [Nat.reduceEqDiff, ↓reduceIte, vcu, ↓vcd] at e3
 replace e3 : τ v = some ⟨[.int .i64 0], false⟩ := e3
 have hbv : b ≠ v := ne_of' n2 e1
 have s23 : Sub τ1 τ := k3.sub s2 n2
 have sτ := s1.trans s23
 have nv : σ v = none := free_sub s1 n2
 have eb := s23 _ _ e1
 simp -implicitDefEqProofs (disch := omega) only [Nat.reduceEqDiff, ↓reduceIte, vcu, ↓vcd]
 refine vc_loop_c mixed (by kernel_rfl) [0, 3, 5] (fun m a τ' => ∃ k : Nat, m + k = N ∧ Kept v τ τ' ∧ τ' v = some ⟨[.int .i64 (k : Int)], false⟩ ∧ firstN U N 0 = firstN U m k) N ⟨0, by simp, Kept.refl _ _, e3, rfl⟩ ?_
 rintro m a τ' hc ⟨k, hk, hkp, ev', hf⟩
 simp -implicitDefEqProofs (disch := omega) only [Nat.reduceEqDiff, ↓reduceIte, vcu, ↓vcd] at hc
 obtain ⟨h0, h3, h5, -⟩ := hc
 have hs' : Sub σ τ' := hkp.sub sτ nv
 have eb' := hkp.at eb hbv
 have hhas := hasFn_at (w0 := w0) τ' h o cs 140 #[.pointer (some ⟨v, 0, none⟩), .pointer (some ⟨b, 0, none⟩)] (fun c => c.v = (k : Int) ∧ P c) (hv.sub hs') hl fun c hc pw => unusedC_at τ' v b k c gf caps P ev' eb' fun pw τ9 s9 => hcl c hc pw τ9 (hs'.trans s9)
 have hiff := hU (k : Int)
 simp -implicitDefEqProofs (disch := omega) only [Nat.reduceEqDiff, ↓reduceIte, vcu, ↓vcd, h0, h3, h5]
 refine hhas.mono ?_
 rintro r τ9 ⟨rfl, e9⟩
 subst e9
 cases m with
 | zero =>
  rw [hf] at hN
  unfold firstN at hN
  omega
 | succ m =>
  rw [firstN_step] at hf
  by_cases hm : (k : Int) ∈ U
  ·rw [if_pos hm] at hf
   rw [decide_eq_true (hiff.2 hm)]
   have lv : ld τ9 v 0 = some (.int .i64 (k : Int)) := ld_of ev' rfl
   simp -implicitDefEqProofs (disch := omega) only [Nat.reduceEqDiff, ↓reduceIte, vcu, ↓vcd, opK_some, h0, h3, h5, lv]
   refine r_set (g := v) (i := 0) (by simp -implicitDefEqProofs (disch := omega) only [Nat.reduceEqDiff, ↓reduceIte, vcu, ↓vcd, h5]) z9r co3 z9r ev' (by simp) fun τ8 k8 e8 => ?_
   simp -implicitDefEqProofs (disch := omega) only [Nat.reduceEqDiff, ↓reduceIte, vcu, ↓vcd] at e8
   replace e8 : τ8 v = some ⟨[.int .i64 ((k : Int) + 1)], false⟩ := e8
   simp -implicitDefEqProofs (disch := omega) only [Nat.reduceEqDiff, ↓reduceIte, vcu, ↓vcd, h0, h3, h5]
   exact ⟨⟨trivial, trivial, trivial, trivial⟩, m, by omega, k + 1, by omega, hkp.trans k8, by rw [e8]; simp, hf⟩
  ·rw [if_neg hm] at hf
   rw [decide_eq_false fun hh => hm (hiff.1 hh), hf]
   have lv : ld τ9 v 0 = some (.int .i64 (k : Int)) := ld_of ev' rfl
   simp -implicitDefEqProofs (disch := omega) only [Nat.reduceEqDiff, ↓reduceIte, vcu, ↓vcd, opK_some, h0, h3, h5, lv]
   refine fin_drop Tryz.results119 σ hs' ⟨?_, rfl⟩
   simp -implicitDefEqProofs (disch := omega) only [Nat.reduceEqDiff, ↓reduceIte, vcu, ↓vcd]
set_option maxRecDepth 8000 in
theorem fromC_at (σ : AHeap) (b1 b2 : Nat) (s : Sp) (I : Int) (c : Cl) (h1 : σ b1 = some ⟨[.int .i64 s.O, .int .i64 s.E, .int .i64 s.M], false⟩) (h2 : σ b2 = some ⟨[.int .i64 I], false⟩) (hE : 1 ≤ s.E) (hI : 0 ≤ I ∧ I ≤ 1000) (hc : Nng c) :
  ACall Tryz.prog w0 120 [.agg #[.int .i64 c.i, .int .i64 c.o, .int .i64 c.v], .pointer (some ⟨b1, 0, none⟩), .pointer (some ⟨b2, 0, none⟩)] σ fun r σ' => r = .bool (decide (c.i / s.E = I / s.E)) ∧ σ' = σ := by
 obtain ⟨⟨c1, c2⟩, c3, c4⟩ := hc
 refine acall_go mixed Tryz.func120 rfl good120 fun pr => ?_
 simp -implicitDefEqProofs (disch := omega) only [Nat.reduceEqDiff, ↓reduceIte, vcu, ↓vcd]
 refine r_boxed fun g τ1 n1 s1 e1 => ?_
 replace e1 : τ1 g = some ⟨[.int .i64 c.i, .int .i64 c.o, .int .i64 c.v], false⟩ := e1
 have l1 : ld τ1 g (0 + 0) = some (.int .i64 c.i) := ld_of e1 rfl
 have k1 : ld τ1 b1 (0 + 1) = some (.int .i64 s.E) := ld_of (s1 _ _ h1) rfl
 have k2 : ld τ1 b2 0 = some (.int .i64 I) := ld_of (s1 _ _ h2) rfl
 simp -implicitDefEqProofs (disch := omega) only [Nat.reduceEqDiff, ↓reduceIte, vcu, ↓vcd, l1, k1, k2]
 refine fin_drop Tryz.results120 σ s1 ⟨?_, rfl⟩
 simp -implicitDefEqProofs (disch := omega) only [Nat.reduceEqDiff, ↓reduceIte, vcu, ↓vcd]
set_option maxRecDepth 8000 in
theorem toC_at (σ : AHeap) (b1 b2 : Nat) (s : Sp) (O : Int) (c : Cl) (h1 : σ b1 = some ⟨[.int .i64 s.O, .int .i64 s.E, .int .i64 s.M], false⟩) (h2 : σ b2 = some ⟨[.int .i64 O], false⟩) (hE : 1 ≤ s.E) (hO : 0 ≤ O ∧ O ≤ 1000) (hc : Nng c) :
  ACall Tryz.prog w0 121 [.agg #[.int .i64 c.i, .int .i64 c.o, .int .i64 c.v], .pointer (some ⟨b1, 0, none⟩), .pointer (some ⟨b2, 0, none⟩)] σ fun r σ' => r = .bool (decide (c.o / s.E = O / s.E)) ∧ σ' = σ := by
 obtain ⟨⟨c1, c2⟩, c3, c4⟩ := hc
 refine acall_go mixed Tryz.func121 rfl good121 fun pr => ?_
 simp -implicitDefEqProofs (disch := omega) only [Nat.reduceEqDiff, ↓reduceIte, vcu, ↓vcd]
 refine r_boxed fun g τ1 n1 s1 e1 => ?_
 replace e1 : τ1 g = some ⟨[.int .i64 c.i, .int .i64 c.o, .int .i64 c.v], false⟩ := e1
 have l1 : ld τ1 g (0 + 1) = some (.int .i64 c.o) := ld_of e1 rfl
 have k1 : ld τ1 b1 (0 + 1) = some (.int .i64 s.E) := ld_of (s1 _ _ h1) rfl
 have k2 : ld τ1 b2 0 = some (.int .i64 O) := ld_of (s1 _ _ h2) rfl
 simp -implicitDefEqProofs (disch := omega) only [Nat.reduceEqDiff, ↓reduceIte, vcu, ↓vcd, l1, k1, k2]
 refine fin_drop Tryz.results121 σ s1 ⟨?_, rfl⟩
 simp -implicitDefEqProofs (disch := omega) only [Nat.reduceEqDiff, ↓reduceIte, vcu, ↓vcd]
set_option maxRecDepth 4000 in
theorem meeting_at (σ : AHeap) (s : Sp) (h o : Nat) (cs : List Cl) (kk : Nat) (hv : TrisAt σ h o cs) (hl : cs.length ≤ 1048576) (hE : 1 ≤ s.E) (hn : ∀ k, k < cs.length → Nng (gc cs k)) (hkk : kk < cs.length) :
  ACall Tryz.prog w0 122 [.agg #[.int .i64 s.O, .int .i64 s.E, .int .i64 s.M], .slice (some ⟨h, o, none⟩) cs.length 3, .int .i64 (kk : Int)] σ fun r σ' => σ' = σ ∧ ∃ z : Int, r = .int .i64 z ∧
   ((z = -1 ∧ ∀ m, m < cs.length → m ≠ kk → ¬ Hit s (gc cs kk) (gc cs m)) ∨ ∃ m : Nat, z = m ∧ m < cs.length ∧ m ≠ kk ∧ Hit s (gc cs kk) (gc cs m)) := by
 refine acall_go mixed Tryz.func122 rfl good122 fun pr => ?_
 simp -implicitDefEqProofs (disch := omega) only [Nat.reduceEqDiff, ↓reduceIte, vcu, ↓vcd]
 refine r_boxed fun b τ nb s1 e1 => ?_
 replace e1 : τ b = some ⟨[.int .i64 s.O, .int .i64 s.E, .int .i64 s.M], false⟩ := e1
 simp -implicitDefEqProofs (disch := omega) only [Nat.reduceEqDiff, ↓reduceIte, vcu, ↓vcd]
 refine vc_loop_c mixed (by kernel_rfl) [1, 2, 3, 9, 10] (fun m a τ' => ∃ k : Nat, m + k = cs.length ∧ a 11 = .int .i64 k ∧ Sub τ τ' ∧ ∀ j, j < k → j ≠ kk → ¬ Hit s (gc cs kk) (gc cs j)) cs.length ⟨0, by simp, rfl, Sub.refl _, fun j hj => absurd hj (by omega)⟩ ?_
 rintro m a τ1 hc ⟨k, hk, h11, hs, hN⟩
 simp -implicitDefEqProofs (disch := omega) only [Nat.reduceEqDiff, ↓reduceIte, vcu, ↓vcd] at hc
 obtain ⟨h1, h2, h3, h9, h10, -⟩ := hc
 by_cases hlt : k < cs.length
 case neg =>
  obtain rfl : k = cs.length := by omega
  simp -implicitDefEqProofs (disch := omega) only [Nat.reduceEqDiff, ↓reduceIte, vcu, ↓vcd, h1, h2, h3, h9, h10, h11]
  refine fin_drop Tryz.results122 σ (s1.trans hs) ⟨rfl, -1, ?_, .inl ⟨rfl, hN⟩⟩
  simp -implicitDefEqProofs (disch := omega) only [Nat.reduceEqDiff, ↓reduceIte, vcu, ↓vcd]
 have hx := ((hv.sub s1).sub hs).all hlt
 have hgk : cs.getD k cl0 = gc cs k := rfl
 rw [hgk] at hx
 have hnk := hn k hlt
 have hnkk := hn kk hkk
 generalize hcc : gc cs k = c at hx hnk
 obtain ⟨ci, co, cv⟩ := c
 dsimp only at hx
 simp -implicitDefEqProofs (disch := omega) only [Nat.reduceEqDiff, ↓reduceIte, vcu, ↓vcd, h1, h2, h3, h9, h10, h11, hx, co76]
 refine r_new ze76 fun g τ2a ng sa ea => ?_
 replace ea : τ2a g = some ⟨[.int .i64 0, .int .i64 0, .int .i64 0], false⟩ := ea
 simp -implicitDefEqProofs (disch := omega) only [Nat.reduceEqDiff, ↓reduceIte, vcu, ↓vcd, h1, h2, h3, h9, h10, h11]
 refine r_sets (g := g) (i := 0) (C := [.int .i64 0, .int .i64 0, .int .i64 0]) z9q z9co76 z9r z9z ea z9l fun τ2 k2 e2 => ?_
 replace e2 : τ2 g = some ⟨[.int .i64 ci, .int .i64 co, .int .i64 cv], false⟩ := e2
 have s2 := k2.sub sa ng
 have hs2 := hs.trans s2
 have f1 := hs2 _ _ e1
 have l3 : lds τ2 b 0 3 = some [.int .i64 s.O, .int .i64 s.E, .int .i64 s.M] := lds_three (ld_of f1 rfl) (ld_of f1 rfl) (ld_of f1 rfl)
 have lg : lds τ2 g 0 3 = some [.int .i64 ci, .int .i64 co, .int .i64 cv] := lds_three (ld_of e2 rfl) (ld_of e2 rfl) (ld_of e2 rfl)
 have hy := ((hv.sub s1).sub hs2).all hkk
 have hgkk : cs.getD kk cl0 = gc cs kk := rfl
 rw [hgkk] at hy
 by_cases hne : k = kk
 ·subst hne
  simp -implicitDefEqProofs (disch := omega) only [Nat.reduceEqDiff, ↓reduceIte, vcu, ↓vcd, h1, h2, h3, h9, h10, h11, ne_eq, not_true_eq_false]
  refine ⟨⟨trivial, trivial, trivial, trivial, trivial, trivial⟩, m - 1, by omega, k + 1, by omega, by simp, hs2, fun j hj hjk => hN j (by omega) hjk⟩
 ·have hnei : ¬ ((k : Int) = (kk : Int)) := by omega
  simp -implicitDefEqProofs (disch := omega) only [Nat.reduceEqDiff, ↓reduceIte, vcu, ↓vcd, h1, h2, h3, h9, h10, h11, ne_eq, hnei, not_false_eq_true, l3, lg, hy, co76, co29, Int.toNat_natCast]
  rw [r_callq]
  refine ⟨_, collide_at τ2 s (gc cs kk) ⟨ci, co, cv⟩ hE hnkk hnk, ?_⟩
  by_cases hH : Hit s (gc cs kk) ⟨ci, co, cv⟩
  ·rw [decide_eq_true hH]
   simp -implicitDefEqProofs (disch := omega) only [Nat.reduceEqDiff, ↓reduceIte, vcu, ↓vcd, h1, h2, h3, h9, h10, h11]
   refine fin_drop Tryz.results122 σ (s1.trans hs2) ⟨rfl, k, ?_, .inr ⟨k, rfl, hlt, hne, by rw [hcc]; exact hH⟩⟩
   simp -implicitDefEqProofs (disch := omega) only [Nat.reduceEqDiff, ↓reduceIte, vcu, ↓vcd]
  ·rw [decide_eq_false hH]
   simp -implicitDefEqProofs (disch := omega) only [Nat.reduceEqDiff, ↓reduceIte, vcu, ↓vcd, h1, h2, h3, h9, h10, h11]
   refine ⟨⟨trivial, trivial, trivial, trivial, trivial, trivial⟩, m - 1, by omega, k + 1, by omega, by simp, hs2, fun j hj hjk => ?_⟩
   by_cases e : j = k
   ·subst e; rw [hcc]; exact hH
   ·exact hN j (by omega) hjk
end Go.Proofs.YtafkndnmhhjdhaaGreatDoor
namespace Go.Proofs.YtafkndnmhhjdhaaGreatDoor
open Go Go.Abs Go.RowKit Go.Clos
variable {w0 : World}
theorem half_nng {s : Sp} {cs : List Cl} {a b i o : Int} {ch : List Nat} (h : CV s cs) (hl : Lines s i o) : ∀ k, k < (halfway s cs a b i o ch).length → Nng (gc (halfway s cs a b i o ch) k) := fun k hk => by
 rw [halfway_length] at hk
 have hL := h.1.lines
 by_cases e : k = cs.length
 ·subst e; rw [halfway_new]; exact ⟨⟨hl.1.1, by have := hl.1.2; dsimp only; omega⟩, hl.2.1, by have := hl.2.2; dsimp only; omega⟩
 ·have hkl : k < cs.length := by omega
  have hn := (h.2.1 _ (gc_mem hkl)).nng h.1
  rw [halfway_old hkl]
  split
  ·exact hn
  ·exact hn
theorem tris_via {cs : List Cl} {k : Nat} (hk : k < cs.length) (x : Int) : (tris cs).set (k * 3 + 2) (.int .i64 x) = tris (cs.set k ⟨(gc cs k).i, (gc cs k).o, x⟩) := (tris_set cs k hk x).2.2
set_option maxRecDepth 8000 in
set_option maxHeartbeats 1600000 in
set_option maxRecDepth 8000 in
theorem implMove_at (σ : AHeap) (s : Sp) (h o : Nat) (cs : List Cl) (I O : Int) (hv : TrisAt σ h o cs) (hl : cs.length ≤ 1048576) :
  ACall Tryz.prog w0 104 [.agg #[.int .i64 s.O, .int .i64 s.E, .int .i64 s.M], .slice (some ⟨h, o, none⟩) cs.length 3, .int .i64 I, .int .i64 O] σ fun r σ' => ∃ v, r = .tuple #[v, .bool (decide (mvOk s cs I O))] ∧ Sub σ σ' ∧ OwnC σ σ' v (mvL s cs I O) := by
 refine acall_go mixed Tryz.func104 rfl good104 fun pr => ?_
 simp -implicitDefEqProofs (disch := omega) only [Nat.reduceEqDiff, ↓reduceIte, vcu, ↓vcd]
 refine r_boxed fun b τ1 n1 s1 e1 => ?_
 replace e1 : τ1 b = some ⟨[.int .i64 s.O, .int .i64 s.E, .int .i64 s.M], false⟩ := e1
 refine r_boxed fun b1 τ2 n2 s2 e2 => ?_
 replace e2 : τ2 b1 = some ⟨[.int .i64 I], false⟩ := e2
 refine r_boxed fun b2 τ n3 s3 e3 => ?_
 replace e3 : τ b2 = some ⟨[.int .i64 O], false⟩ := e3
 have f1 := s3 _ _ (s2 _ _ e1)
 have f2 := s3 _ _ e2
 have s0 := s1.trans (s2.trans s3)
 clear n1 n2 n3 s1 s2 s3 e1 e2
 have m3 : ∀ τ', Sub τ τ' → lds τ' b 0 3 = some [.int .i64 s.O, .int .i64 s.E, .int .i64 s.M] := fun τ' hs => lds_three (ld_of (hs _ _ f1) rfl) (ld_of (hs _ _ f1) rfl) (ld_of (hs _ _ f1) rfl)
 have mI : ∀ τ', Sub τ τ' → ld τ' b1 0 = some (.int .i64 I) := fun τ' hs => ld_of (hs _ _ f2) rfl
 have mO : ∀ τ', Sub τ τ' → ld τ' b2 0 = some (.int .i64 O) := fun τ' hs => ld_of (hs _ _ e3) rfl
 have l3 := m3 τ (Sub.refl _)
 have li := mI τ (Sub.refl _)
 have lo := mO τ (Sub.refl _)
 simp -implicitDefEqProofs (disch := omega) only [Nat.reduceEqDiff, ↓reduceIte, vcu, ↓vcd, l3, co29]
 refine (implEnough_at τ s.O s.E s.M).mono ?_
 rintro r _ ⟨rfl, rfl⟩
 rename_i τ
 by_cases hE : Enough s
 case neg =>
  rw [decide_eq_false hE, mvL_no fun hh => hE hh.2, decide_eq_false fun hh : mvOk s cs I O => hE hh.1.2]
  simp -implicitDefEqProofs (disch := omega) only [Nat.reduceEqDiff, ↓reduceIte, vcu, ↓vcd, opK_some, Bool.not_false]
  refine fin_two Tryz.results104 ⟨.slice none 0 0, ?_, s0, .inl ⟨rfl, rfl⟩⟩
  simp -implicitDefEqProofs (disch := omega) only [Nat.reduceEqDiff, ↓reduceIte, vcu, ↓vcd]
 rw [decide_eq_true hE]
 simp -implicitDefEqProofs (disch := omega) only [Nat.reduceEqDiff, ↓reduceIte, vcu, ↓vcd, opK_some, Bool.not_true, l3, co29]
 refine (implCV_at τ s.O s.E s.M h o cs (hv.sub s0) hl).mono ?_
 rintro r _ ⟨rfl, rfl⟩
 rename_i τ
 by_cases hC : CV s cs
 case neg =>
  rw [decide_eq_false hC, mvL_no fun hh => hC hh.1, decide_eq_false fun hh : mvOk s cs I O => hC hh.1.1]
  simp -implicitDefEqProofs (disch := omega) only [Nat.reduceEqDiff, ↓reduceIte, vcu, ↓vcd, opK_some, Bool.not_false]
  refine fin_two Tryz.results104 ⟨.slice none 0 0, ?_, s0, .inl ⟨rfl, rfl⟩⟩
  simp -implicitDefEqProofs (disch := omega) only [Nat.reduceEqDiff, ↓reduceIte, vcu, ↓vcd]
 rw [decide_eq_true hC]
 have hS := hC.1
 have hLn := hS.lines
 have hEE := hS.2.1
 have hMM := hS.2.2
 have hl12 := hC.len
 simp -implicitDefEqProofs (disch := omega) only [Nat.reduceEqDiff, ↓reduceIte, vcu, ↓vcd, opK_some, Bool.not_true, l3, li, lo, co29]
 refine (implPut_at τ s h o cs I O (hv.sub s0) hl).mono ?_
 rintro _ τ4 ⟨va, rfl, s4, wa⟩
 have l4 := m3 τ4 s4
 have li4 := mI τ4 s4
 have lo4 := mO τ4 s4
 cases hf : freeV s cs I O with
 | cons v0 vs =>
  obtain ⟨q1, q2⟩ := putL_cons hC hf
  have hfree : Free s cs I O v0 := mem_freeV.1 (by rw [hf]; simp)
  obtain ⟨-, hLi, hB, -, -⟩ := hfree.lines
  have hok : mvOk s cs I O := ⟨⟨hC, hE⟩, hLi, hB⟩
  have hml : moveL s cs I O = cs ++ [⟨I, O, v0⟩] := by unfold moveL; rw [hf]
  rw [q1] at wa
  rw [mvL_ok hok, decide_eq_true hok, hml, q2]
  simp -implicitDefEqProofs (disch := omega) only [Nat.reduceEqDiff, ↓reduceIte, vcu, ↓vcd, opK_some, List.getElem?_toArray, List.getElem?_cons_zero, List.getElem?_cons_succ, Bool.not_true, Bool.not_false]
  refine fin_two Tryz.results104 ⟨va, ?_, s0.trans s4, wa.older s0⟩
  simp -implicitDefEqProofs (disch := omega) only [Nat.reduceEqDiff, ↓reduceIte, vcu, ↓vcd]
 | nil =>
  obtain ⟨q1, q2⟩ := putL_nil hC hf
  rw [q1] at wa
  rw [q2]
  simp -implicitDefEqProofs (disch := omega) only [Nat.reduceEqDiff, ↓reduceIte, vcu, ↓vcd, opK_some, List.getElem?_toArray, List.getElem?_cons_zero, List.getElem?_cons_succ, l4, li4, lo4, co29]
  refine (implIdle_at τ4 s h o cs I O (hv.sub (s0.trans s4)) hl hS).mono ?_
  rintro r _ ⟨rfl, rfl⟩
  rename_i τ4
  by_cases hid : Lines s I O ∧ ¬ Busy cs I O
  case neg =>
   have hno : ¬ mvOk s cs I O := fun hh => hid hh.2
   rw [decide_eq_false hid, mvL_same ⟨hC, hE⟩ hno, decide_eq_false hno]
   simp -implicitDefEqProofs (disch := omega) only [Nat.reduceEqDiff, ↓reduceIte, vcu, ↓vcd, opK_some, Bool.not_false]
   refine fin_two Tryz.results104 ⟨va, ?_, s0.trans s4, wa.older s0⟩
   simp -implicitDefEqProofs (disch := omega) only [Nat.reduceEqDiff, ↓reduceIte, vcu, ↓vcd]
  obtain ⟨hLi, hB⟩ := hid
  have hok : mvOk s cs I O := ⟨⟨hC, hE⟩, hLi, hB⟩
  rw [decide_eq_true (⟨hLi, hB⟩ : Lines s I O ∧ ¬ Busy cs I O), mvL_ok hok, decide_eq_true hok]
  have hwa := wayA_ok hE hC hLi hB
  have hwb := wayB_ok hE hC hLi hB
  have hne := way_ne hE hC hLi hB hf
  have hfr := way_free hE hC hLi hB
  have hml : moveL s cs I O = flip (wayA s cs I) (wayB s cs O) (chain s cs (wayA s cs I) (wayB s cs O) (O / s.E)) cs ++ [⟨I, O, wayA s cs I⟩] := by unfold moveL; rw [hf]
  have hA0 : firstN (usedI s cs (I / s.E)) s.M.toNat 0 = wayA s cs I := rfl
  have hB0 : firstN (usedO s cs (O / s.E)) s.M.toNat 0 = wayB s cs O := rfl
  have hst := inv_start hC hne hfr
  have hR := hC.2.1
  have h0c : 0 < cs.length := by
   cases cs with
   | nil =>
    exfalso
    have : Free s [] I O 0 := (free_iff hC hLi hB ⟨by omega, by omega⟩).2 ⟨by simp [usedI], by simp [usedO]⟩
    have := mem_freeV.2 this
    rw [hf] at this; cases this
   | cons c cs => simp
  have hCC : go s cs (wayA s cs I) (wayB s cs O) cs.length [] true (O / s.E) = chain s cs (wayA s cs I) (wayB s cs O) (O / s.E) := rfl
  have hnn := fun (ch : List Nat) (A B : Int) => half_nng (a := A) (b := B) (ch := ch) hC hLi
  have hI1 : 0 ≤ I ∧ I ≤ 1000 := ⟨hLi.1.1, by have := hLi.1.2; omega⟩
  have hO1 : 0 ≤ O ∧ O ≤ 1000 := ⟨hLi.2.1, by have := hLi.2.2; omega⟩
  rw [hml]
  clear hml hf hok q1 q2
  simp -implicitDefEqProofs (disch := omega) only [Nat.reduceEqDiff, ↓reduceIte, vcu, ↓vcd, opK_some, Bool.not_true]
  refine (firstFn_at τ4 h o cs _ _ (fun c => c.i / s.E = I / s.E) (usedI s cs (I / s.E)) s.M.toNat (hv.sub (s0.trans s4)) hl (fun c hc pw τ9 s9 => fromC_at τ9 b b1 s I c (s9 _ _ (s4 _ _ f1)) (s9 _ _ (s4 _ _ f2)) hEE.1 hI1 ((hR c hc).nng hS)) (fun v => ⟨fun ⟨c, hc, e1, e2⟩ => mem_usedI.2 ⟨c, hc, e2, e1⟩, fun hm => by obtain ⟨c, hc, e1, e2⟩ := mem_usedI.1 hm; exact ⟨c, hc, e2, e1⟩⟩) (by rw [hA0]; exact hwa.1.1) (by omega)).mono ?_
  rintro r _ ⟨rfl, rfl⟩
  rename_i τ4
  rw [hA0]
  simp -implicitDefEqProofs (disch := omega) only [Nat.reduceEqDiff, ↓reduceIte, vcu, ↓vcd, opK_some]
  refine (firstFn_at τ4 h o cs _ _ (fun c => c.o / s.E = O / s.E) (usedO s cs (O / s.E)) s.M.toNat (hv.sub (s0.trans s4)) hl (fun c hc pw τ9 s9 => toC_at τ9 b b2 s O c (s9 _ _ (s4 _ _ f1)) (s9 _ _ (s4 _ _ e3)) hEE.1 hO1 ((hR c hc).nng hS)) (fun v => ⟨fun ⟨c, hc, e1, e2⟩ => mem_usedO.2 ⟨c, hc, e2, e1⟩, fun hm => by obtain ⟨c, hc, e1, e2⟩ := mem_usedO.1 hm; exact ⟨c, hc, e2, e1⟩⟩) (by rw [hB0]; exact hwb.1.1) (by omega)).mono ?_
  rintro r _ ⟨rfl, rfl⟩
  rename_i τ4
  rw [hB0]
  clear hA0 hB0
  have hmt := fun {ch sd x kk} (hi : Inv s cs (wayA s cs I) (wayB s cs O) (O / s.E) ch sd x) (hc : Cur s cs (wayA s cs I) (wayB s cs O) O ch sd x kk) {z : Int} => meet_first hC hB hne hwa.2 hwb.2 hi hc (z := z)
  have hcs := fun {ch sd x k} => cur_step (ch := ch) (sd := sd) (x := x) (k := k) hC hB hne hwa.2 hwb.2
  generalize chain s cs (wayA s cs I) (wayB s cs O) (O / s.E) = C at *
  generalize wayA s cs I = A at *
  generalize wayB s cs O = B at *
  obtain ⟨gb, rfl, v4, nb⟩ := wa.row h0c
  clear wa
  simp -implicitDefEqProofs (disch := omega) only [Nat.reduceEqDiff, ↓reduceIte, vcu, ↓vcd, opK_some, li4, lo4]
  rw [r_build]
  refine ⟨(_, #[.int .i64 I, .int .i64 O, .int .i64 A]), ⟨ze76, by simp -implicitDefEqProofs (disch := omega) only [Nat.reduceEqDiff, ↓reduceIte, vcu, ↓vcd]; kernel_rfl⟩, ?_⟩
  simp -implicitDefEqProofs (disch := omega) only [Nat.reduceEqDiff, ↓reduceIte, vcu, ↓vcd]
  refine r_lit el30 (out := #[.int .i64 I, .int .i64 O, .int .i64 A]) (by first | kernel_rfl | (simp -implicitDefEqProofs (disch := omega) only [Nat.reduceEqDiff, ↓reduceIte, vcu, ↓vcd]; kernel_rfl)) (by rfl) fun eb τ6 n6 s6 v6 => ?_
  replace v6 : τ6 eb = some ⟨tris [⟨I, O, A⟩], false⟩ := v6
  refine r_pushC (g := gb) (e := eb) (o := 0) (cs := cs) (ds := [⟨I, O, A⟩]) (m := 1) (len := cs.length) el30 (by omega) sl30 z9q (s6 _ _ v4) rfl z9q (trisAt_own v6) rfl (by omega) fun g τ7 n7 k7 v7 => ?_
  rw [← halfway_nil s cs A B I O] at v7
  have s7 : Sub τ τ7 := k7.sub (s4.trans s6) nb
  have ng : τ g = none := free_sub (s4.trans s6) n7
  have l7 := m3 τ7 s7
  have hbg : b ≠ g := ne_of' ng f1
  have hmeet0 := meeting_at (w0 := w0) τ7 s g 0 (halfway s cs A B I O []) cs.length (trisAt_own v7) (by rw [halfway_length]; omega) hEE.1 (hnn [] A B) (by rw [halfway_length]; omega)
  rw [halfway_length] at hmeet0
  clear v6 n6 s6 k7 n7 v4 nb s4 l4 li4 lo4
  simp -implicitDefEqProofs (disch := omega) only [Nat.reduceEqDiff, ↓reduceIte, vcu, ↓vcd, l7, co29]
  refine hmeet0.mono ?_
  clear hmeet0
  rintro _ _ ⟨rfl, z0, rfl, hz0⟩
  rename_i τ7
  have hz := hmt hst (.inl ⟨rfl, rfl, rfl, rfl⟩) hz0
  subst hz
  clear hz0
  simp -implicitDefEqProofs (disch := omega) only [Nat.reduceEqDiff, ↓reduceIte, vcu, ↓vcd, opK_some]
  refine vc_loop_c mixed (by kernel_rfl) [1, 4, 10, 12, 13] (fun m a τ' => ∃ (ch : List Nat) (sd : Bool) (x : Int), a 14 = .int .i64 (nI (nxt s cs ch sd x (wantOf A B sd) cs.length)) ∧ τ' g = some ⟨tris (halfway s cs A B I O ch), false⟩ ∧ Kept g τ7 τ' ∧ Inv s cs A B (O / s.E) ch sd x ∧ cs.length ≤ ch.length + m ∧ go s cs A B m ch sd x = C) cs.length ⟨[], true, O / s.E, rfl, v7, Kept.refl _ _, hst, by simp, hCC⟩ ?_
  clear hCC hst v7 l7
  rintro m a τ8 hc ⟨ch, sd, x, h14, vg, hkp, hinv, hlen, hgo⟩
  simp -implicitDefEqProofs (disch := omega) only [Nat.reduceEqDiff, ↓reduceIte, vcu, ↓vcd] at hc
  obtain ⟨h1, h4, h10, h12, h13, -⟩ := hc
  have s8 : Sub τ τ8 := hkp.sub s7 ng
  have l8 := m3 τ8 s8
  cases hn : nxt s cs ch sd x (wantOf A B sd) cs.length with
  | none =>
   rw [go_none hn] at hgo
   subst hgo
   rw [hn] at h14
   have e14 : nI none = -1 := rfl
   rw [e14] at h14
   simp -implicitDefEqProofs (disch := omega) only [Nat.reduceEqDiff, ↓reduceIte, vcu, ↓vcd, h1, h4, h10, h12, h13, h14]
   refine fin_two Tryz.results104 ⟨.slice (some ⟨g, 0, none⟩) (cs.length + 1) 3, ?_, s0.trans s8, .inr ⟨g, by simp [flip_length], vg, free_sub s0 ng⟩⟩
   simp -implicitDefEqProofs (disch := omega) only [Nat.reduceEqDiff, ↓reduceIte, vcu, ↓vcd, h10]
  | some k =>
   rw [hn] at h14
   have e14 : nI (some k) = (k : Int) := rfl
   rw [e14] at h14
   have hroom := hinv.room hn
   obtain ⟨m', rfl⟩ : ∃ m', m = m' + 1 := ⟨m - 1, by omega⟩
   rw [go_some hn] at hgo
   have hinv' := Inv.step hC hne hfr hinv hn
   obtain ⟨hkl, ⟨-, hkv⟩, hkm⟩ := nxt_some hn
   obtain ⟨st1, st2⟩ := halfway_step (a := A) (b := B) (s := s) (i := I) (o := O) hkl hkm
   obtain ⟨-, -, x3⟩ := trisAt_own vg k (by rw [halfway_length]; omega)
   have hgk : (halfway s cs A B I O ch).getD k cl0 = gc (halfway s cs A B I O ch) k := rfl
   rw [hgk, st2, Nat.zero_add] at x3
   have hvb : 0 ≤ (gc cs k).v ∧ (gc cs k).v ≤ s.M - 1 := (hR _ (gc_mem hkl)).2.2
   have htv := tris_via (cs := halfway s cs A B I O ch) (k := k) (by rw [halfway_length]; omega) (A + B - (gc cs k).v)
   rw [st2, st1] at htv
   have hA1 := hwa.1
   have hB1 := hwb.1
   simp -implicitDefEqProofs (disch := omega) only [Nat.reduceEqDiff, ↓reduceIte, vcu, ↓vcd, h1, h4, h10, h12, h13, h14, x3, Int.toNat_natCast, Nat.zero_add]
   refine r_set (g := g) (i := k * 3 + 2) (by simp -implicitDefEqProofs (disch := omega) only [Nat.reduceEqDiff, ↓reduceIte, vcu, ↓vcd, Nat.zero_add, Int.toNat_natCast]) z9r co3 z9r vg (by rw [tris_length, halfway_length]; omega) fun τ9 k9 e9 => ?_
   simp -implicitDefEqProofs (disch := omega) only [Nat.reduceEqDiff, ↓reduceIte, vcu, ↓vcd] at e9
   rw [htv] at e9
   have hkp9 := hkp.trans k9
   have s9 : Sub τ τ9 := hkp9.sub s7 ng
   have l9 := m3 τ9 s9
   have hmeet := meeting_at (w0 := w0) τ9 s g 0 (halfway s cs A B I O (ch ++ [k])) k (trisAt_own e9) (by rw [halfway_length]; omega) hEE.1 (hnn _ A B) (by rw [halfway_length]; omega)
   rw [halfway_length] at hmeet
   simp -implicitDefEqProofs (disch := omega) only [Nat.reduceEqDiff, ↓reduceIte, vcu, ↓vcd, h1, h4, h10, h12, h13, h14, l9, co29]
   refine hmeet.mono ?_
   clear hmeet
   rintro _ _ ⟨rfl, z1, rfl, hz1⟩
   rename_i τ9
   have hz := hmt hinv' (hcs hn) hz1
   subst hz
   simp -implicitDefEqProofs (disch := omega) only [Nat.reduceEqDiff, ↓reduceIte, vcu, ↓vcd, opK_some, h1, h4, h10, h12, h13]
   exact ⟨⟨trivial, trivial, trivial, trivial, trivial, trivial⟩, m', by omega, ch ++ [k], !sd, _, rfl, e9, hkp9, hinv', by simp; omega, hgo⟩
end Go.Proofs.YtafkndnmhhjdhaaGreatDoor
namespace Go.Proofs.YtafkndnmhhjdhaaGreatDoor
open Go Go.Abs Go.RowKit Go.Clos
variable {w0 : World}
theorem tris_take (L : List Cl) (i : Nat) : (tris L).take (i * 3) = tris (L.take i) := by
 induction L generalizing i with
 | nil => simp [tris]
 | cons c L ih =>
  cases i with
  | zero => simp [tris]
  | succ i => rw [tris_cons, List.take_succ_cons, tris_cons, show (i + 1) * 3 = i * 3 + 1 + 1 + 1 by omega, List.take_succ_cons, List.take_succ_cons, List.take_succ_cons, ih]
theorem dropL_all {cs : List Cl} {I : Int} (h : ∀ c ∈ cs, ¬ c.i = I) : dropL cs I = cs := dropL_no h
set_option maxRecDepth 8000 in
theorem delFn_at (σ : AHeap) (g b : Nat) (I : Int) (cs : List Cl) (hg : σ g = some ⟨tris cs, false⟩) (hb : σ b = some ⟨[.int .i64 I], false⟩) (hgb : b ≠ g) (hl : cs.length ≤ 1000) :
  ACall Tryz.prog w0 123 [.slice (some ⟨g, 0, none⟩) cs.length 3, .func (.func 124) #[] #[.pointer (some ⟨b, 0, none⟩)]] σ fun r σ' =>
   r = .slice (some ⟨g, 0, none⟩) (dropL cs I).length 3 ∧ Kept g σ σ' ∧ ∃ C, σ' g = some ⟨tris (dropL cs I) ++ C, false⟩ := by
 refine acall_go mixed Tryz.func123 rfl good123 fun pr => ?_
 simp -implicitDefEqProofs (disch := omega) only [Nat.reduceEqDiff, ↓reduceIte, vcu, ↓vcd]
 refine (indexFn_at σ g 0 cs _ _ (fun c => c.i = I) (trisAt_own hg) (by omega) fun c _ pw => dropC_at σ b I c hb).mono ?_
 rintro r _ ⟨rfl, ⟨rfl, hall⟩ | ⟨k, rfl, hk, hnk, hup⟩⟩
 ·simp -implicitDefEqProofs (disch := omega) only [Nat.reduceEqDiff, ↓reduceIte, vcu, ↓vcd, opK_some]
  refine fin_one Tryz.results123 ⟨?_, Kept.refl _ _, [], ?_⟩
  ·simp -implicitDefEqProofs (disch := omega) only [Nat.reduceEqDiff, ↓reduceIte, vcu, ↓vcd]
   rw [dropL_all hall]
  ·rw [dropL_all hall, List.append_nil]; exact hg
 ·rename_i σ
  have hk0 : (dropL (cs.take (k + 1)) I) = cs.take k := by
   rw [dropL_take _ _ hk, dropL_all hup, if_pos hnk, List.append_nil]
  simp -implicitDefEqProofs (disch := omega) only [Nat.reduceEqDiff, ↓reduceIte, vcu, ↓vcd, opK_some]
  refine vc_loop_c mixed (by kernel_rfl) [0, 1] (fun m a τ => ∃ (j i : Nat) (L : List Cl), m + j = cs.length ∧ a 6 = .int .i64 j ∧ a 5 = .int .i64 i ∧ i < j ∧ j ≤ cs.length ∧ L.length = cs.length ∧ L.take i = dropL (cs.take j) I ∧ L.drop j = cs.drop j ∧ Kept g σ τ ∧ τ g = some ⟨tris L, false⟩)
   (cs.length - (k + 1)) ⟨k + 1, k, cs, by omega, rfl, rfl, by omega, by omega, rfl, hk0.symm, rfl, Kept.refl _ _, hg⟩ ?_
  rintro m a τ hc ⟨j, i, L, hj, h6, h5, hij, hjl, hL, hLt, hLd, hkp, hgL⟩
  simp -implicitDefEqProofs (disch := omega) only [Nat.reduceEqDiff, ↓reduceIte, vcu, ↓vcd] at hc
  obtain ⟨h0, h1, -⟩ := hc
  have hbτ := hkp.at hb hgb
  by_cases hlt : j < cs.length
  ·have hLj : L.getD j cl0 = gc cs j := by
    have e1 : (L.drop j)[0]? = (cs.drop j)[0]? := by rw [hLd]
    rw [List.getElem?_drop, List.getElem?_drop, Nat.add_zero] at e1
    simp only [gc, List.getD, e1]
   have hx := (trisAt_own hgL).all (show j < L.length by omega)
   rw [hLj, Nat.zero_add] at hx
   have hkj := dropL_take cs I hlt
   generalize gc cs j = c at hx hkj
   obtain ⟨A, B, C⟩ := c
   dsimp only at hx hkj
   simp -implicitDefEqProofs (disch := omega) only [Nat.reduceEqDiff, ↓reduceIte, vcu, ↓vcd, h0, h1, h5, h6, hx, co76, Nat.zero_add]
   refine r_local (cs := #[.int .i64 A, .int .i64 B, .int .i64 C]) ze76 (by decide) z9q (by rw [co76]; rfl) rfl rfl (Nat.zero_lt_succ _) fun q τ2 nq sq eq => ?_
   have hl3 : lds τ2 q 0 3 = some [.int .i64 A, .int .i64 B, .int .i64 C] := lds_three (ld_of eq rfl) (ld_of eq rfl) (ld_of eq rfl)
   have hqg : q ≠ g := ne_of nq hgL
   simp -implicitDefEqProofs (disch := omega) only [Nat.reduceEqDiff, ↓reduceIte, vcu, ↓vcd, h0, h1, h5, h6, hl3, co76]
   refine r_callv ⟨(124, #[.pointer (some ⟨b, 0, none⟩)]), by simp -implicitDefEqProofs (disch := omega) only [Nat.reduceEqDiff, ↓reduceIte, vcu, ↓vcd, h1], ?_⟩
   simp -implicitDefEqProofs (disch := omega) only [Nat.reduceEqDiff, ↓reduceIte, vcu, ↓vcd]
   refine (dropC_at τ2 b I ⟨A, B, C⟩ (sq _ _ hbτ)).mono ?_
   rintro r _ ⟨rfl, rfl⟩
   rename_i τ2
   by_cases hB : A = I
   ·rw [decide_eq_true hB]
    rw [if_pos hB, List.append_nil] at hkj
    simp -implicitDefEqProofs (disch := omega) only [Nat.reduceEqDiff, ↓reduceIte, vcu, ↓vcd, opK_some, h0, h1, h5, h6]
    refine ⟨⟨trivial, trivial, trivial⟩, m - 1, by omega, j + 1, i, L, by omega, by simp, by simp, by omega, by omega, hL, by rw [hkj]; exact hLt, ?_, hkp.trans sq.kept, sq _ _ hgL⟩
    rw [← List.drop_drop, ← List.drop_drop, hLd]
   ·rw [decide_eq_false hB]
    rw [if_neg hB] at hkj
    simp -implicitDefEqProofs (disch := omega) only [Nat.reduceEqDiff, ↓reduceIte, vcu, ↓vcd, opK_some, h0, h1, h5, h6, hl3, co76]
    refine r_sets (g := g) (i := i * 3) (C := tris L) (by simp -implicitDefEqProofs (disch := omega) only [Nat.reduceEqDiff, ↓reduceIte, vcu, ↓vcd, Nat.zero_add]) z9co76 z9r z9z (sq _ _ hgL) (by simp -implicitDefEqProofs (disch := omega) only [Nat.reduceEqDiff, ↓reduceIte, vcu, ↓vcd]; rw [tris_length]; show i * 3 + 3 ≤ _; omega) fun τ3 k3 e3 => ?_
    replace e3 : τ3 g = some ⟨lwrite (tris L) (i * 3) [.int .i64 A, .int .i64 B, .int .i64 C], false⟩ := by rw [e3]; simp -implicitDefEqProofs (disch := omega) only [Nat.reduceEqDiff, ↓reduceIte, vcu, ↓vcd]; rfl
    have hwr := tris_write L i (by omega) ⟨A, B, C⟩
    dsimp only at hwr
    rw [hwr] at e3
    simp -implicitDefEqProofs (disch := omega) only [Nat.reduceEqDiff, ↓reduceIte, vcu, ↓vcd, h0, h1, h5, h6]
    refine ⟨⟨trivial, trivial, trivial⟩, m - 1, by omega, j + 1, i + 1, L.set i ⟨A, B, C⟩, by omega, by simp, by simp, by omega, by omega, by rw [List.length_set]; exact hL, ?_, ?_, (hkp.trans sq.kept).trans k3, e3⟩
    ·rw [hkj, ← hLt, List.take_succ_eq_append_getElem (by rw [List.length_set]; omega), List.take_set_of_le (Nat.le_refl _)]
     simp
    ·rw [List.drop_set_of_lt (by omega), ← List.drop_drop, ← List.drop_drop, hLd]
  ·have e : j = cs.length := by omega
   subst e
   rw [List.take_length] at hLt
   have hil : (dropL cs I).length = i := by rw [← hLt, List.length_take]; omega
   simp -implicitDefEqProofs (disch := omega) only [Nat.reduceEqDiff, ↓reduceIte, vcu, ↓vcd, h0, h1, h5, h6]
   have hst : sts τ g (0 + i * 3) (azeros (.agg #[.int .i64 0, .int .i64 0, .int .i64 0]) ((cs.length - i) * 3)) = some (τ.upd g (some ⟨lwrite (tris L) (0 + i * 3) (tris (List.replicate (cs.length - i) cl0)), false⟩)) := by
    rw [azeros_tris]
    unfold sts
    rw [hgL]
    simp only [Option.bind_some]
    rw [if_pos ⟨trivial, by rw [tris_length, tris_length, List.length_replicate]; omega, by rw [tris_length, List.length_replicate]; omega⟩]
   have hall : (azeros (.agg #[.int .i64 0, .int .i64 0, .int .i64 0]) ((cs.length - i) * 3)).all Value.oneCell' = true := by rw [azeros_tris]; exact tris_one _
   refine r_clear_at (e := 76) (i := Tryz.t76) (z := .agg #[.int .i64 0, .int .i64 0, .int .i64 0]) (h := g) (b := 0 + i * 3) (len := cs.length - i) Tryz.underlying30 rfl rfl (by simp -implicitDefEqProofs (disch := omega) only [Nat.reduceEqDiff, ↓reduceIte, vcu, ↓vcd, Int.toNat_natCast]; rfl) (.inr ⟨hall, hst⟩) ?_
   simp -implicitDefEqProofs (disch := omega) only [Nat.reduceEqDiff, ↓reduceIte, vcu, ↓vcd, h0, h5]
   refine fin_one Tryz.results123 ⟨?_, fun x ob hx e => ?_, tris (List.replicate (cs.length - i) cl0) ++ (tris L).drop (i * 3 + (tris (List.replicate (cs.length - i) cl0)).length), ?_⟩
   ·simp -implicitDefEqProofs (disch := omega) only [Nat.reduceEqDiff, ↓reduceIte, vcu, ↓vcd, Int.toNat_natCast]
    rw [hil]
   ·rw [AHeap.upd_ne _ _ hx]; exact hkp x ob hx e
   ·rw [AHeap.upd_same, Nat.zero_add]
    unfold lwrite
    rw [tris_take, hLt, List.append_assoc]
theorem delFn_calls (β σ : AHeap) (v : Value) (b : Nat) (I : Int) (cs : List Cl) (hs : Sub β σ) (hv : OwnC β σ v cs) (hb : β b = some ⟨[.int .i64 I], false⟩) (hl : cs.length ≤ 1000) :
  ACall Tryz.prog w0 123 [v, .func (.func 124) #[] #[.pointer (some ⟨b, 0, none⟩)]] σ fun r σ' => Sub β σ' ∧ OwnC β σ' r (dropL cs I) := by
 have hbσ := hs _ _ hb
 rcases hv with ⟨rfl, rfl⟩ | ⟨g, rfl, hg, hn⟩
 ·refine ACall.nil_arg (pre := []) (z := 3) (by kernel_rfl) fun g hg => ?_
  have hbg : b ≠ g := ne_of' hg hbσ
  refine (delFn_at _ g b I [] (AHeap.upd_same _ _ _) (by rw [AHeap.upd_ne _ _ hbg]; exact hbσ) hbg (by simp)).shrink ?_
  rintro r σ' ⟨rfl, hk, C, hC⟩
  refine ⟨g, _, C, hC, fun x ob e => ?_, .inr ⟨g, rfl, AHeap.upd_same _ _ _, free_sub hs hg⟩⟩
  have hx : x ≠ g := by rintro rfl; rw [hs _ _ e] at hg; cases hg
  rw [AHeap.upd_ne _ _ hx]
  exact hk x ob hx (by rw [AHeap.upd_ne _ _ hx]; exact hs _ _ e)
 ·have hbg : b ≠ g := ne_of' hn hb
  refine (delFn_at σ g b I cs hg hbσ hbg hl).shrink ?_
  rintro r σ' ⟨rfl, hk, C, hC⟩
  refine ⟨g, _, C, hC, fun x ob e => ?_, .inr ⟨g, rfl, AHeap.upd_same _ _ _, hn⟩⟩
  have hx : x ≠ g := by rintro rfl; rw [e] at hn; cases hn
  rw [AHeap.upd_ne _ _ hx]
  exact hk x ob hx (hs _ _ e)
set_option maxRecDepth 8000 in
theorem implDrop_at (σ : AHeap) (s : Sp) (h o : Nat) (cs : List Cl) (I : Int) (hv : TrisAt σ h o cs) (hl : cs.length ≤ 1048576) :
  ACall Tryz.prog w0 106 [.agg #[.int .i64 s.O, .int .i64 s.E, .int .i64 s.M], .slice (some ⟨h, o, none⟩) cs.length 3, .int .i64 I] σ fun r σ' => ∃ v, r = .tuple #[v, .bool (dropOk s cs I)] ∧ Sub σ σ' ∧ OwnC σ σ' v (drL s cs I) := by
 refine acall_go mixed Tryz.func106 rfl good106 fun pr => ?_
 simp -implicitDefEqProofs (disch := omega) only [Nat.reduceEqDiff, ↓reduceIte, vcu, ↓vcd]
 refine r_boxed fun b τ0 nb s0 e0 => ?_
 replace e0 : τ0 b = some ⟨[.int .i64 s.O, .int .i64 s.E, .int .i64 s.M], false⟩ := e0
 refine r_boxed fun b2 τ nb2 s2 e2 => ?_
 replace e2 : τ b2 = some ⟨[.int .i64 I], false⟩ := e2
 have e1 := s2 _ _ e0
 have s1 := s0.trans s2
 have l3 : lds τ b 0 3 = some [.int .i64 s.O, .int .i64 s.E, .int .i64 s.M] := lds_three (ld_of e1 rfl) (ld_of e1 rfl) (ld_of e1 rfl)
 simp -implicitDefEqProofs (disch := omega) only [Nat.reduceEqDiff, ↓reduceIte, vcu, ↓vcd, l3, co29]
 refine (implCV_at τ s.O s.E s.M h o cs (hv.sub s1) hl).mono ?_
 rintro r _ ⟨rfl, rfl⟩
 rename_i τ
 by_cases hC : CV s cs
 case neg =>
  obtain ⟨q1, q2⟩ := drL_no (i := I) hC
  rw [decide_eq_false hC, q1, q2]
  simp -implicitDefEqProofs (disch := omega) only [Nat.reduceEqDiff, ↓reduceIte, vcu, ↓vcd, opK_some, Bool.not_false]
  refine fin_two Tryz.results106 ⟨.slice none 0 0, ?_, s1, .inl ⟨rfl, rfl⟩⟩
  simp -implicitDefEqProofs (disch := omega) only [Nat.reduceEqDiff, ↓reduceIte, vcu, ↓vcd]
 rw [decide_eq_true hC]
 obtain ⟨q1, q2⟩ := drL_ok (i := I) hC
 rw [q1, q2]
 have hl12 := hC.len
 simp -implicitDefEqProofs (disch := omega) only [Nat.reduceEqDiff, ↓reduceIte, vcu, ↓vcd, opK_some, Bool.not_true]
 refine (cloneC_at τ h o cs (hv.sub s1) hl).mono ?_
 rintro va τ4 ⟨hs4, wa⟩
 simp -implicitDefEqProofs (disch := omega) only [Nat.reduceEqDiff, ↓reduceIte, vcu, ↓vcd, opK_some]
 refine (delFn_calls τ τ4 va b2 I cs hs4 wa e2 (by omega)).mono ?_
 rintro vd τ5 ⟨s5, wd⟩
 have hld := ownC_lenD wd
 simp -implicitDefEqProofs (disch := omega) only [Nat.reduceEqDiff, ↓reduceIte, vcu, ↓vcd, opK_some, hld]
 refine fin_two Tryz.results106 ⟨vd, ?_, s1.trans s5, wd.older s1⟩
 simp -implicitDefEqProofs (disch := omega) only [Nat.reduceEqDiff, ↓reduceIte, vcu, ↓vcd]
 simp
end Go.Proofs.YtafkndnmhhjdhaaGreatDoor
namespace Go.Proofs.YtafkndnmhhjdhaaGreatDoor
open Go Go.Abs Go.RowKit Go.Dial
variable {w0 : World}
theorem implPV_at (σ : AHeap) (h o : Nat) (ps : List (List UInt8)) (hv : TextsAt σ h o ps) (hl : ps.length ≤ 1048576) (hp : ∀ x ∈ ps, x.length ≤ 1048576) :
  ACall Tryz.prog w0 53 [.slice (some ⟨h, o, none⟩) ps.length 1] σ fun r σ' => r = .bool (decide (PlanOk ps)) ∧ σ' = σ := by
 refine acall_go mixed Tryz.func53 rfl good53 fun pr => ?_
 by_cases hbig : 10 < ps.length
 ·simp -implicitDefEqProofs (disch := omega) only [Nat.reduceEqDiff, ↓reduceIte, vcu, ↓vcd]
  refine fin_one Tryz.results53 ⟨?_, rfl⟩
  simp -implicitDefEqProofs (disch := omega) only [Nat.reduceEqDiff, ↓reduceIte, vcu, ↓vcd]
  have : ¬PlanOk ps := fun h => by have := h.2; omega
  simp [this]
 simp -implicitDefEqProofs (disch := omega) only [Nat.reduceEqDiff, ↓reduceIte, vcu, ↓vcd]
 refine vc_loop_c mixed (by kernel_rfl) [10, 11] (fun m a σ' => ∃ k : Nat, m + k = ps.length ∧ a 12 = .int .i64 k ∧ a 0 = .slice (some ⟨h, o, none⟩) ps.length 1 ∧ (∀ j, j < k → PRow ps j) ∧ σ' = σ) ps.length ⟨0, by simp, rfl, rfl, fun j hj => absurd hj (by omega), rfl⟩ ?_
 rintro m a σ' hc ⟨k, hk, h12, h0, hall, rfl⟩
 simp -implicitDefEqProofs (disch := omega) only [Nat.reduceEqDiff, ↓reduceIte, vcu, ↓vcd] at hc
 obtain ⟨h10, h11, -⟩ := hc
 by_cases hlt : k < ps.length
 case neg =>
  simp -implicitDefEqProofs (disch := omega) only [Nat.reduceEqDiff, ↓reduceIte, vcu, ↓vcd, h10, h11, h12, h0]
  refine fin_one Tryz.results53 ⟨?_, rfl⟩
  simp -implicitDefEqProofs (disch := omega) only [Nat.reduceEqDiff, ↓reduceIte, vcu, ↓vcd]
  have : PlanOk ps := ⟨fun j hj => hall j (by omega), by omega⟩
  simp [this]
 have hx := hv k hlt
 have hmem : ps.getD k [] ∈ ps := by simp [List.getD, hlt]
 have hb := hp _ hmem
 have stop : ∀ {P : Prop}, (PRow ps k → P) → ¬P → ¬PlanOk ps := fun h1 h2 h3 => h2 (h1 (h3.1 k hlt))
 by_cases hnil : ps.getD k [] = []
 ·have dn : decide (ps.getD k [] = []) = true := decide_eq_true hnil
  simp -implicitDefEqProofs (disch := omega) only [Nat.reduceEqDiff, ↓reduceIte, vcu, ↓vcd, h10, h11, h12, h0, hx, tx_nil, abin_seql, dn]
  refine fin_one Tryz.results53 ⟨?_, rfl⟩
  simp -implicitDefEqProofs (disch := omega) only [Nat.reduceEqDiff, ↓reduceIte, vcu, ↓vcd]
  simp [stop (fun h => h.2.1.1) (by rw [hnil]; simp)]
 have dn : decide (ps.getD k [] = []) = false := decide_eq_false hnil
 have hpos : 1 ≤ (ps.getD k []).length := by
  rcases Nat.eq_zero_or_pos (ps.getD k []).length with h | h
  ·exact absurd (List.eq_nil_of_length_eq_zero h) hnil
  ·exact h
 by_cases hlg : 3 < (ps.getD k []).length
 ·simp -implicitDefEqProofs (disch := omega) only [Nat.reduceEqDiff, ↓reduceIte, vcu, ↓vcd, h10, h11, h12, h0, hx, tx_nil, abin_seql, dn]
  refine fin_one Tryz.results53 ⟨?_, rfl⟩
  simp -implicitDefEqProofs (disch := omega) only [Nat.reduceEqDiff, ↓reduceIte, vcu, ↓vcd]
  simp [stop (fun h => h.2.1.2) (by omega)]
 by_cases hd : DgT (ps.getD k [])
 case neg =>
  have d1 : decide (DgT (ps.getD k [])) = false := decide_eq_false hd
  simp -implicitDefEqProofs (disch := omega) only [Nat.reduceEqDiff, ↓reduceIte, vcu, ↓vcd, h10, h11, h12, h0, hx, tx_nil, abin_seql, dn]
  refine (implDg_calls _ _ hb).mono ?_
  rintro r τ ⟨rfl, rfl⟩
  simp -implicitDefEqProofs (disch := omega) only [Nat.reduceEqDiff, ↓reduceIte, vcu, ↓vcd, opK_some, h10, h11, h12, h0, hx, d1]
  refine fin_one Tryz.results53 ⟨?_, rfl⟩
  simp -implicitDefEqProofs (disch := omega) only [Nat.reduceEqDiff, ↓reduceIte, vcu, ↓vcd]
  simp [stop (fun h => h.1) hd]
 have d1 : decide (DgT (ps.getD k [])) = true := decide_eq_true hd
 simp -implicitDefEqProofs (disch := omega) only [Nat.reduceEqDiff, ↓reduceIte, vcu, ↓vcd, h10, h11, h12, h0, hx, tx_nil, abin_seql, dn]
 refine (implDg_calls _ _ hb).mono ?_
 rintro r τ ⟨rfl, rfl⟩
 simp -implicitDefEqProofs (disch := omega) only [Nat.reduceEqDiff, ↓reduceIte, vcu, ↓vcd, opK_some, h10, h11, h12, h0, hx, d1]
 refine vc_loop_c mixed (by kernel_rfl) [10, 11, 12, 0, 3, 4, 29, 30] (fun m a σ' => ∃ j : Nat, m + j = ps.length ∧ a 31 = .int .i64 j ∧ (∀ i, i < j → i ≠ k → ¬Beg (ps.getD k []) (ps.getD i [])) ∧ σ' = τ) ps.length ⟨0, by simp, rfl, fun j hj => absurd hj (by omega), rfl⟩ ?_
 rintro m2 a2 σ2 hc2 ⟨j, hj, h31, hin, rfl⟩
 simp -implicitDefEqProofs (disch := omega) only [Nat.reduceEqDiff, ↓reduceIte, vcu, ↓vcd, h10, h11, h12, h0] at hc2
 obtain ⟨g10, g11, g12, g0, g3, g4, g29, g30, -⟩ := hc2
 by_cases hjl : j < ps.length
 case neg =>
  simp -implicitDefEqProofs (disch := omega) only [Nat.reduceEqDiff, ↓reduceIte, vcu, ↓vcd, g10, g11, g12, g0, g3, g4, g29, g30, h31]
  refine ⟨⟨by first | trivial | exact h10.symm, by first | trivial | exact h11.symm, trivial⟩, m - 1, by omega, k + 1, by omega, by simp, by first | rfl | trivial | exact g0, fun i hi => ?_, trivial⟩
  by_cases e : i = k
  ·subst e; exact ⟨hd, ⟨hpos, by omega⟩, fun i' h1 h2 => hin i' (by omega) h2⟩
  ·exact hall i (by omega)
 have hy := hv j hjl
 by_cases hjk : j = k
 ·subst hjk
  simp -implicitDefEqProofs (disch := omega) only [Nat.reduceEqDiff, ↓reduceIte, vcu, ↓vcd, g10, g11, g12, g0, g3, g4, g29, g30, h31, hx, hy]
  refine ⟨⟨?_, ?_, ?_, ?_, ?_, ?_, ?_, ?_, trivial⟩, m2 - 1, by omega, j + 1, by omega, by simp, fun i hi hne => hin i (by omega) hne, trivial⟩ <;> first | trivial | exact h10.symm | exact h11.symm | exact h12.symm | exact h0.symm
 ·have hne : decide ((j : Int) ≠ (k : Int)) = true := decide_eq_true (by omega)
  by_cases hbg : Beg (ps.getD k []) (ps.getD j [])
  ·have hb1 : decide (Beg (ps.getD k []) (ps.getD j [])) = true := decide_eq_true hbg
   simp -implicitDefEqProofs (disch := omega) only [Nat.reduceEqDiff, ↓reduceIte, vcu, ↓vcd, g10, g11, g12, g0, g3, g4, g29, g30, h31, hx, hy, hne]
   refine (prefix_calls _ _ _).mono ?_
   rintro r τ ⟨rfl, rfl⟩
   simp -implicitDefEqProofs (disch := omega) only [Nat.reduceEqDiff, ↓reduceIte, vcu, ↓vcd, opK_some, g10, g11, g12, g0, g3, g4, g29, g30, h31, hb1]
   refine fin_one Tryz.results53 ⟨?_, rfl⟩
   simp -implicitDefEqProofs (disch := omega) only [Nat.reduceEqDiff, ↓reduceIte, vcu, ↓vcd]
   simp [stop (fun h => h.2.2 j hjl hjk) (fun h => h hbg)]
  ·have hb1 : decide (Beg (ps.getD k []) (ps.getD j [])) = false := decide_eq_false hbg
   simp -implicitDefEqProofs (disch := omega) only [Nat.reduceEqDiff, ↓reduceIte, vcu, ↓vcd, g10, g11, g12, g0, g3, g4, g29, g30, h31, hx, hy, hne]
   refine (prefix_calls _ _ _).mono ?_
   rintro r τ ⟨rfl, rfl⟩
   simp -implicitDefEqProofs (disch := omega) only [Nat.reduceEqDiff, ↓reduceIte, vcu, ↓vcd, opK_some, g10, g11, g12, g0, g3, g4, g29, g30, h31, hb1]
   refine ⟨⟨?_, ?_, ?_, ?_, ?_, ?_, ?_, ?_, trivial⟩, m2 - 1, by omega, j + 1, by omega, by simp, fun i hi hne' => ?_, trivial⟩
   all_goals first | trivial | exact h10.symm | exact h11.symm | exact h12.symm | exact h0.symm | skip
   by_cases e : i = j
   ·subst e; exact hbg
   ·exact hin i (by omega) hne'
theorem implPV_calls (σ : AHeap) (v : Value) (ps : List (List UInt8)) (hv : Texts σ v ps) (hl : ps.length ≤ 1048576) (hp : ∀ x ∈ ps, x.length ≤ 1048576) : ACall Tryz.prog w0 53 [v] σ fun r σ' => r = .bool (decide (PlanOk ps)) ∧ σ' = σ :=
 ACall.texts_quiet (pre := []) (post := []) (by kernel_rfl) hv fun σ1 h o _ hg => implPV_at σ1 h o ps hg hl hp
end Go.Proofs.YtafkndnmhhjdhaaGreatDoor
namespace Go.Proofs.YtafkndnmhhjdhaaGreatDoor
open Go Go.Abs Go.RowKit Go.Dial Go.Clos
variable {w0 : World}
theorem implCV8_calls (σ : AHeap) (O E M : Int) (v : Value) (cs : List Cl) (hv : Tris σ v cs) (hl : cs.length ≤ 1048576) :
  ACall Tryz.prog w0 54 [.agg #[.int .i64 O, .int .i64 E, .int .i64 M], v] σ fun r σ' => r = .bool (decide (CV ⟨O, E, M⟩ cs)) ∧ σ' = σ :=
 ACall.tris_quiet (pre := [_]) (post := []) (by kernel_rfl) hv fun σ1 h o _ hg => implCV_at σ1 O E M h o cs hg hl
theorem implMove8_calls (σ : AHeap) (s : Sp) (v : Value) (cs : List Cl) (I O : Int) (hv : Tris σ v cs) (hl : cs.length ≤ 1048576) :
  ACall Tryz.prog w0 104 [.agg #[.int .i64 s.O, .int .i64 s.E, .int .i64 s.M], v, .int .i64 I, .int .i64 O] σ fun r σ' => ∃ v, r = .tuple #[v, .bool (decide (mvOk s cs I O))] ∧ Sub σ σ' ∧ OwnC σ σ' v (mvL s cs I O) :=
 ACall.tris_arg (pre := [_]) (post := [_, _]) (by kernel_rfl) hv fun σ1 h o hs hg => (implMove_at σ1 s h o cs I O hg hl).mono fun _ _ ⟨v, e, q, O⟩ => ⟨v, e, hs.trans q, O.older hs⟩
theorem implDrop8_calls (σ : AHeap) (s : Sp) (v : Value) (cs : List Cl) (I : Int) (hv : Tris σ v cs) (hl : cs.length ≤ 1048576) :
  ACall Tryz.prog w0 106 [.agg #[.int .i64 s.O, .int .i64 s.E, .int .i64 s.M], v, .int .i64 I] σ fun r σ' => ∃ v, r = .tuple #[v, .bool (dropOk s cs I)] ∧ Sub σ σ' ∧ OwnC σ σ' v (drL s cs I) :=
 ACall.tris_arg (pre := [_]) (post := [_]) (by kernel_rfl) hv fun σ1 h o hs hg => (implDrop_at σ1 s h o cs I hg hl).mono fun _ _ ⟨v, e, q, O⟩ => ⟨v, e, hs.trans q, O.older hs⟩
theorem cloneC8_calls (σ : AHeap) (v : Value) (cs : List Cl) (hv : Tris σ v cs) (hl : cs.length ≤ 1048576) :
  ACall Tryz.prog w0 57 [v] σ fun r σ' => Sub σ σ' ∧ OwnC σ σ' r cs :=
 ACall.tris_arg (pre := []) (post := []) (by kernel_rfl) hv fun σ1 h o hs hg => (cloneC_at σ1 h o cs hg hl).mono fun _ _ ⟨q, O⟩ => ⟨hs.trans q, O.older hs⟩
set_option maxRecDepth 8000 in
theorem cloneX_at (σ : AHeap) (h o : Nat) (xs : List (List UInt8)) (hv : TextsAt σ h o xs) (hl : xs.length ≤ 1048576) :
  ACall Tryz.prog w0 58 [.slice (some ⟨h, o, none⟩) xs.length 1] σ fun r σ' => Sub σ σ' ∧ OwnS σ σ' r xs := by
 refine acall_go mixed Tryz.func58 rfl good58 fun pr => ?_
 simp -implicitDefEqProofs (disch := omega) only [Nat.reduceEqDiff, ↓reduceIte, vcu, ↓vcd]
 refine r_nilEq (b := some ⟨h, o, none⟩) (l := xs.length) (z := 1) Tryz.underlying24 z9q fun c _ h2 => ?_
 cases c with
 | true =>
  simp -implicitDefEqProofs (disch := omega) only [Nat.reduceEqDiff, ↓reduceIte, vcu, ↓vcd]
  have : xs = [] := by
   cases xs with
   | nil => rfl
   | cons x xs => have := h2 (by simp); cases this
  subst this
  refine fin_one Tryz.results58 ⟨Sub.refl _, .inl ⟨?_, rfl⟩⟩
  simp -implicitDefEqProofs (disch := omega) only [Nat.reduceEqDiff, ↓reduceIte, vcu, ↓vcd]
 | false =>
  simp -implicitDefEqProofs (disch := omega) only [Nat.reduceEqDiff, ↓reduceIte, vcu, ↓vcd]
  refine r_lit el24 (out := #[]) (by kernel_rfl) (by kernel_rfl) fun e1 τ1 n1 s1 v1 => ?_
  simp -implicitDefEqProofs (disch := omega) only [Nat.reduceEqDiff, ↓reduceIte, vcu, ↓vcd]
  refine r_pushX (g := e1) (e := h) (o := o) (xs := []) (ys := xs) (m := xs.length) (len := 0) el24 (by omega) sl24 z9q v1 rfl z9q (fun i hi => by simpa [ld, s1 _ _] using ld_sub s1 (hv i hi)) rfl (by omega) fun g τ2 n2 k2 v2 => ?_
  rw [List.nil_append] at v2
  simp -implicitDefEqProofs (disch := omega) only [Nat.reduceEqDiff, ↓reduceIte, vcu, ↓vcd, Nat.zero_add]
  refine fin_one Tryz.results58 ⟨k2.sub s1 n1, .inr ⟨g, ?_, v2, free_sub s1 n2⟩⟩
  simp -implicitDefEqProofs (disch := omega) only [Nat.reduceEqDiff, ↓reduceIte, vcu, ↓vcd]
theorem cloneX8_calls (σ : AHeap) (v : Value) (xs : List (List UInt8)) (hv : Texts σ v xs) (hl : xs.length ≤ 1048576) :
  ACall Tryz.prog w0 58 [v] σ fun r σ' => Sub σ σ' ∧ OwnS σ σ' r xs :=
 ACall.texts_arg (pre := []) (post := []) (by kernel_rfl) hv fun σ1 h o hs hg => (cloneX_at σ1 h o xs hg hl).mono fun _ _ ⟨q, O⟩ => ⟨hs.trans q, O.older hs⟩
theorem hasC8_calls (σ : AHeap) (v : Value) (cs : List Cl) (gf : Nat) (caps : Array Value) (P : Cl → Prop) [DecidablePred P] (hv : Tris σ v cs) (hl : cs.length ≤ 1048576)
  (hcl : ∀ σ1, Sub σ σ1 → ∀ c ∈ cs, ∀ pw, ACall Tryz.prog pw gf (.agg #[.int .i64 c.i, .int .i64 c.o, .int .i64 c.v] :: caps.toList) σ1 fun r σ' => r = .bool (decide (P c)) ∧ σ' = σ1) :
  ACall Tryz.prog w0 55 [v, .func (.func gf) #[] caps] σ fun r σ' => r = .bool (decide (∃ c ∈ cs, P c)) ∧ σ' = σ :=
 ACall.tris_quiet (pre := []) (post := [_]) (by kernel_rfl) hv fun σ1 h o hs hg => hasFn_at σ1 h o cs gf caps P hg hl (hcl σ1 hs)
/-- the place of the first one, -1 if there is none -/
def fstC (P : Cl → Prop) [DecidablePred P] (cs : List Cl) : Int := if cs.findIdx (fun c => decide (P c)) < cs.length then (cs.findIdx (fun c => decide (P c)) : Nat) else -1
theorem fstC_spec (P : Cl → Prop) [DecidablePred P] (cs : List Cl) : (fstC P cs = -1 ∧ ∀ c ∈ cs, ¬ P c) ∨ ∃ k : Nat, fstC P cs = k ∧ k < cs.length ∧ P (gc cs k) ∧ ∀ c ∈ cs.take k, ¬ P c := by
 unfold fstC
 by_cases h : cs.findIdx (fun c => decide (P c)) < cs.length
 ·rw [if_pos h]
  refine .inr ⟨_, rfl, h, ?_, fun c hc hP => ?_⟩
  ·have := List.findIdx_getElem (p := fun c => decide (P c)) (w := h)
   have e : gc cs (cs.findIdx fun c => decide (P c)) = cs[cs.findIdx fun c => decide (P c)] := by simp [gc, List.getD, h]
   rw [e]; simpa using this
  ·obtain ⟨i, hi, rfl⟩ := List.mem_iff_getElem.1 hc
   simp only [List.length_take] at hi
   rw [List.getElem_take] at hP
   have := List.not_of_lt_findIdx (p := fun c => decide (P c)) (xs := cs) (i := i) (by omega)
   simp at this
   exact this hP
 ·rw [if_neg h]
  refine .inl ⟨rfl, fun c hc hP => h ?_⟩
  exact List.findIdx_lt_length_of_exists ⟨c, hc, by simpa using hP⟩
theorem indexC8_calls (σ : AHeap) (v : Value) (cs : List Cl) (gf : Nat) (caps : Array Value) (P : Cl → Prop) [DecidablePred P] (hv : Tris σ v cs) (hl : cs.length ≤ 1048576)
  (hcl : ∀ σ1, Sub σ σ1 → ∀ c ∈ cs, ∀ pw, ACall Tryz.prog pw gf (.agg #[.int .i64 c.i, .int .i64 c.o, .int .i64 c.v] :: caps.toList) σ1 fun r σ' => r = .bool (decide (P c)) ∧ σ' = σ1) :
  ACall Tryz.prog w0 83 [v, .func (.func gf) #[] caps] σ fun r σ' => r = .int .i64 (fstC P cs) ∧ σ' = σ :=
 ACall.tris_quiet (pre := []) (post := [_]) (by kernel_rfl) hv fun σ1 h o hs hg => (indexFn_at σ1 h o cs gf caps P hg hl (hcl σ1 hs)).mono fun r σ' ⟨e, hr⟩ => by
  subst e
  refine ⟨?_, rfl⟩
  rcases hr with ⟨rfl, h1⟩ | ⟨k, rfl, h2, h3, h4⟩
  ·rcases fstC_spec P cs with ⟨e, _⟩ | ⟨k, _, q1, q2, _⟩
   ·rw [e]
   ·exact absurd q2 (h1 _ (gc_mem q1))
  ·rcases fstC_spec P cs with ⟨_, e⟩ | ⟨j, e, q1, q2, q3⟩
   ·exact absurd h3 (e _ (gc_mem h2))
   ·rw [e]
    rcases Nat.lt_trichotomy j k with hjk | rfl | hjk
    ·exact absurd q2 (h4 _ (List.mem_take_iff_getElem.2 ⟨j, by omega, by simp [gc, List.getD, q1]⟩))
    ·rfl
    ·exact absurd h3 (q3 _ (List.mem_take_iff_getElem.2 ⟨k, by omega, by simp [gc, List.getD, h2]⟩))
set_option maxRecDepth 8000 in
theorem exValC_at (σ : AHeap) (b : Nat) (c d : Cl) (hb : σ b = some ⟨[.int .i64 c.i, .int .i64 c.o, .int .i64 c.v], false⟩) :
  ACall Tryz.prog w0 56 [.agg #[.int .i64 d.i, .int .i64 d.o, .int .i64 d.v], .pointer (some ⟨b, 0, none⟩)] σ fun r σ' => r = .bool (decide (d.o = c.i)) ∧ σ' = σ := by
 refine acall_go mixed Tryz.func56 rfl good56 fun pr => ?_
 simp -implicitDefEqProofs (disch := omega) only [Nat.reduceEqDiff, ↓reduceIte, vcu, ↓vcd]
 refine r_boxed fun g τ n1 s1 e1 => ?_
 replace e1 : τ g = some ⟨[.int .i64 d.i, .int .i64 d.o, .int .i64 d.v], false⟩ := e1
 have l1 : ld τ g (0 + 1) = some (.int .i64 d.o) := ld_of e1 rfl
 have l2 : ld τ b (0 + 0) = some (.int .i64 c.i) := ld_of (s1 _ _ hb) rfl
 simp -implicitDefEqProofs (disch := omega) only [Nat.reduceEqDiff, ↓reduceIte, vcu, ↓vcd, l1, l2, co76]
 refine fin_drop Tryz.results56 σ s1 ⟨?_, rfl⟩
 simp -implicitDefEqProofs (disch := omega) only [Nat.reduceEqDiff, ↓reduceIte, vcu, ↓vcd]
set_option maxRecDepth 8000 in
theorem implEV_calls (σ : AHeap) (v : Value) (e : Ex) (hv : ExV σ v e) (hb : ExB e) : ACall Tryz.prog w0 34 [v] σ fun r σ' => r = .bool (decide (ExOk e)) ∧ σ' = σ := by
 obtain ⟨⟨O, E, M⟩, ps, cs⟩ := e
 obtain ⟨v1, v2, rfl, t1, t2⟩ := hv
 obtain ⟨b1, b2, b3⟩ := hb
 dsimp only at t1 t2 b1 b2 b3
 unfold exV
 refine acall_go mixed Tryz.func34 rfl good34 fun pr => ?_
 simp -implicitDefEqProofs (disch := omega) only [Nat.reduceEqDiff, ↓reduceIte, vcu, ↓vcd]
 refine r_boxed fun b τ nb s1 e1 => ?_
 replace e1 : τ b = some ⟨[.int .i64 O, .int .i64 E, .int .i64 M, v1, v2], false⟩ := e1
 have x0 : lds τ b 0 3 = some [.int .i64 O, .int .i64 E, .int .i64 M] := lds_three (ld_of e1 rfl) (ld_of e1 rfl) (ld_of e1 rfl)
 have y0 : ld τ b (0 + 0) = some (.int .i64 O) := ld_of e1 rfl
 have y1 : ld τ b (0 + 1) = some (.int .i64 E) := ld_of e1 rfl
 have x3 : ld τ b (0 + 3) = some v1 := ld_of e1 rfl
 have x4 : ld τ b (0 + 4) = some v2 := ld_of e1 rfl
 have l1 := lenT (t1.sub s1)
 have l2 := lenC (t2.sub s1)
 simp -implicitDefEqProofs (disch := omega) only [Nat.reduceEqDiff, ↓reduceIte, vcu, ↓vcd, x0, co29, Nat.add_zero]
 refine (implEnough_at τ O E M).mono ?_
 rintro _ _ ⟨rfl, rfl⟩
 rename_i τ
 by_cases hE : Enough ⟨O, E, M⟩
 case neg =>
  rw [decide_eq_false hE]
  simp -implicitDefEqProofs (disch := omega) only [Nat.reduceEqDiff, ↓reduceIte, vcu, ↓vcd, opK_some, Bool.not_false]
  refine fin_drop Tryz.results34 σ s1 ⟨?_, rfl⟩
  simp -implicitDefEqProofs (disch := omega) only [Nat.reduceEqDiff, ↓reduceIte, vcu, ↓vcd]
  rw [decide_eq_false fun h => hE h.1]
 rw [decide_eq_true hE]
 simp -implicitDefEqProofs (disch := omega) only [Nat.reduceEqDiff, ↓reduceIte, vcu, ↓vcd, opK_some, Bool.not_true, x3]
 refine (implPV_calls τ v1 ps (t1.sub s1) b1 b2).mono ?_
 rintro _ _ ⟨rfl, rfl⟩
 rename_i τ
 by_cases hP : PlanOk ps
 case neg =>
  rw [decide_eq_false hP]
  simp -implicitDefEqProofs (disch := omega) only [Nat.reduceEqDiff, ↓reduceIte, vcu, ↓vcd, opK_some, Bool.not_false]
  refine fin_drop Tryz.results34 σ s1 ⟨?_, rfl⟩
  simp -implicitDefEqProofs (disch := omega) only [Nat.reduceEqDiff, ↓reduceIte, vcu, ↓vcd]
  rw [decide_eq_false fun h => hP h.2.1]
 rw [decide_eq_true hP]
 have hSV := hE.1
 have hO4 : 1 ≤ O ∧ O ≤ 4 := hSV.1
 have hE3 : 1 ≤ E ∧ E ≤ 3 := hSV.2.1
 have hOE : 0 ≤ O * E ∧ O * E ≤ 12 := ⟨Int.mul_nonneg (by omega) (by omega), Int.le_trans (Int.mul_le_mul hO4.2 hE3.2 (by omega) (by omega)) (by decide)⟩
 by_cases hL : (ps.length : Int) = O * E
 case neg =>
  have d : decide ((ps.length : Int) ≠ O * E) = true := decide_eq_true hL
  simp -implicitDefEqProofs (disch := omega) only [Nat.reduceEqDiff, ↓reduceIte, vcu, ↓vcd, opK_some, Bool.not_true, x3, y0, y1, l1, d, Nat.add_zero]
  refine fin_drop Tryz.results34 σ s1 ⟨?_, rfl⟩
  simp -implicitDefEqProofs (disch := omega) only [Nat.reduceEqDiff, ↓reduceIte, vcu, ↓vcd]
  rw [decide_eq_false fun h => hL h.2.2.1]
 have d : decide ((ps.length : Int) ≠ O * E) = false := decide_eq_false fun h => h hL
 simp -implicitDefEqProofs (disch := omega) only [Nat.reduceEqDiff, ↓reduceIte, vcu, ↓vcd, opK_some, Bool.not_true, x3, y0, y1, l1, d, x0, x4, co29, Nat.add_zero]
 refine (implCV8_calls τ O E M v2 cs (t2.sub s1) b3).mono ?_
 rintro _ _ ⟨rfl, rfl⟩
 rename_i τ
 by_cases hC : CV ⟨O, E, M⟩ cs
 case neg =>
  rw [decide_eq_false hC]
  simp -implicitDefEqProofs (disch := omega) only [Nat.reduceEqDiff, ↓reduceIte, vcu, ↓vcd, opK_some, Bool.not_false]
  refine fin_drop Tryz.results34 σ s1 ⟨?_, rfl⟩
  simp -implicitDefEqProofs (disch := omega) only [Nat.reduceEqDiff, ↓reduceIte, vcu, ↓vcd]
  rw [decide_eq_false fun h => hC h.2.2.2.1]
 rw [decide_eq_true hC]
 simp -implicitDefEqProofs (disch := omega) only [Nat.reduceEqDiff, ↓reduceIte, vcu, ↓vcd, opK_some, Bool.not_true, x4, l2, Nat.add_zero]
 refine vc_loop_c mixed (by kernel_rfl) [1, 37, 38] (fun m a T => ∃ k : Nat, m + k = cs.length ∧ a 39 = .int .i64 k ∧ (∀ i, i < k → ∀ j, j < cs.length → (gc cs i).i ≠ (gc cs j).o) ∧ Sub τ T) cs.length ⟨0, by simp, rfl, fun i hi => absurd hi (by omega), Sub.refl _⟩ ?_
 rintro m a T hc ⟨k, hk, h3, hall, hT⟩
 simp -implicitDefEqProofs (disch := omega) only [Nat.reduceEqDiff, ↓reduceIte, vcu, ↓vcd] at hc
 obtain ⟨h1, h37, h38, -⟩ := hc
 by_cases hlt : k < cs.length
 case neg =>
  simp -implicitDefEqProofs (disch := omega) only [Nat.reduceEqDiff, ↓reduceIte, vcu, ↓vcd, h1, h37, h38, h3]
  refine fin_drop Tryz.results34 σ (s1.trans hT) ⟨?_, rfl⟩
  simp -implicitDefEqProofs (disch := omega) only [Nat.reduceEqDiff, ↓reduceIte, vcu, ↓vcd]
  rw [decide_eq_true ⟨hE, hP, hL, hC, sep_of (cs := cs) fun i hi j hj => hall i (by omega) j hj⟩]
 have t2T := t2.sub (s1.trans hT)
 obtain ⟨hg, ho, ev2, hrow⟩ := rowC t2T (by omega)
 have hx := hrow.all hlt
 have hgk : cs.getD k cl0 = gc cs k := rfl
 rw [hgk] at hx
 simp -implicitDefEqProofs (disch := omega) only [Nat.reduceEqDiff, ↓reduceIte, vcu, ↓vcd, h1, h37, h38, h3, ev2, hx, co76]
 refine r_new ze76 fun g4 T2 n4 s4 e4 => ?_
 replace e4 : T2 g4 = some ⟨[.int .i64 0, .int .i64 0, .int .i64 0], false⟩ := e4
 refine r_sets (g := g4) (i := 0) (C := [.int .i64 0, .int .i64 0, .int .i64 0]) z9q z9co76 z9r z9z e4 z9l fun T3 k3 e3 => ?_
 replace e3 : T3 g4 = some ⟨[.int .i64 (gc cs k).i, .int .i64 (gc cs k).o, .int .i64 (gc cs k).v], false⟩ := e3
 have hT3 : Sub τ T3 := k3.sub (hT.trans s4) (free_sub hT n4)
 have z4 : ld T3 b (0 + 4) = some v2 := ld_of (hT3 _ _ e1) rfl
 simp -implicitDefEqProofs (disch := omega) only [Nat.reduceEqDiff, ↓reduceIte, vcu, ↓vcd, h1, h37, h38, h3, z4]
 refine (hasC8_calls T3 v2 cs _ _ (fun d => d.o = (gc cs k).i) (t2.sub (s1.trans hT3)) b3 fun σ1 q1 d _ pw => exValC_at σ1 g4 (gc cs k) d (q1 _ _ e3)).mono ?_
 rintro _ _ ⟨rfl, rfl⟩
 by_cases hD : ∃ d ∈ cs, d.o = (gc cs k).i
 ·rw [decide_eq_true hD]
  simp -implicitDefEqProofs (disch := omega) only [Nat.reduceEqDiff, ↓reduceIte, vcu, ↓vcd, opK_some]
  refine fin_drop Tryz.results34 σ (s1.trans hT3) ⟨?_, rfl⟩
  simp -implicitDefEqProofs (disch := omega) only [Nat.reduceEqDiff, ↓reduceIte, vcu, ↓vcd]
  rw [decide_eq_false fun h => by obtain ⟨d, hd, e⟩ := hD; exact h.2.2.2.2 _ (gc_mem hlt) _ hd e.symm]
 ·rw [decide_eq_false hD]
  simp -implicitDefEqProofs (disch := omega) only [Nat.reduceEqDiff, ↓reduceIte, vcu, ↓vcd, opK_some, h1, h37, h38, h3]
  refine ⟨⟨by first | trivial | exact h1.symm, by first | trivial | exact h37.symm | exact ev2, by first | trivial | exact h38.symm, trivial⟩, m - 1, by omega, k + 1, by omega, by simp, fun i hi j hj => ?_, hT3⟩
  by_cases e : i = k
  ·subst e; exact fun e => hD ⟨_, gc_mem hj, e.symm⟩
  ·exact hall i (by omega) j hj
end Go.Proofs.YtafkndnmhhjdhaaGreatDoor
namespace Go.Proofs.YtafkndnmhhjdhaaGreatDoor
open Go Go.Abs Go.RowKit Go.Dial Go.Clos
variable {w0 : World}
theorem texts_slc {σ : AHeap} {v : Value} {xs : List (List UInt8)} (h : Texts σ v xs) : ∃ A L C, v = .slice A L C := by
 rcases h with ⟨rfl, _⟩ | ⟨g, o, rfl, _⟩ <;> exact ⟨_, _, _, rfl⟩
theorem tris_slc {σ : AHeap} {v : Value} {xs : List Cl} (h : Tris σ v xs) : ∃ A L C, v = .slice A L C := by
 rcases h with ⟨rfl, _⟩ | ⟨g, o, rfl, _⟩ <;> exact ⟨_, _, _, rfl⟩
section
variable {P : Program} {w0 : Base} {a : AFrame} {σ : AHeap} {K : AK} {all os : List Oper} {d : Nat} {ty : TypeId} {pos : String} {af : Array Edge}
/-- append to a row of one's own, or to nil -/
theorem r_pushDN {t u : TypeId} {zv : Value} {b : Nat} {x y : Operand} {e : Nat} {β : AHeap} {cs ds : List Dd} (hE : Elems P t 3 zv b) (hb : b ≤ 64) (hu : ∃ e2, P.underlying u = some (.slice e2))
  (hs : Sub β σ) (hx : OwnD β σ (ev a x) cs) (hy : ev a y = .slice (some ⟨e, 0, none⟩) ds.length 3) (he : σ e = some ⟨dds ds, false⟩) (h0 : 0 < ds.length) (hl : cs.length + ds.length ≤ 4294967296)
  (hk : ∀ v' τ, Sub β τ → OwnD β τ v' (cs ++ ds) → vcR P w0 false all os (fset a d v') τ K) :
  vcR P w0 false all (⟨some d, .call ⟨.builtin .append, #[x, y], #[t, u]⟩, ty, pos, af, none⟩ :: os) a σ K := by
 rcases hx with ⟨ex, rfl⟩ | ⟨g, ex, hg, hn⟩
 ·refine r_push_nil hE hu ex (by rw [hy]; exact acells_dds (ddsAt_own he)) ?_ fun g' τ h1 h2 h3 => ?_
  ·rw [dds_length]
   have : ds.length * 3 * b ≤ 4294967296 * 3 * 64 := Nat.mul_le_mul (by simp at hl; omega) hb
   simp at hl
   omega
  ·have := hk (.slice (some ⟨g', 0, none⟩) ds.length 3) τ (hs.trans h2) (.inr ⟨g', rfl, h3, free_sub hs h1⟩)
   rw [dds_length, show ds.length * 3 / 3 = ds.length by omega]
   exact this
 ·refine r_pushD hE hb hu ex hg rfl hy (ddsAt_own he) rfl hl fun g' τ h1 h2 h3 => ?_
  have := hk (.slice (some ⟨g', 0, none⟩) (cs.length + ds.length) 3) τ (h2.sub hs hn) (.inr ⟨g', by rw [List.length_append], h3, free_sub hs h1⟩)
  exact this
end
set_option maxRecDepth 8000 in
theorem implND_calls (σ : AHeap) (v : Value) (e : Ex) (hv : ExV σ v e) (hb : ExB e) : ACall Tryz.prog w0 62 [v] σ fun r σ' => Sub σ σ' ∧ OwnD σ σ' r (nightV e) := by
 have hv0 := hv
 obtain ⟨⟨O, E, M⟩, ps, cs⟩ := e
 obtain ⟨v1, v2, rfl, t1, t2⟩ := hv
 have hb0 := hb
 obtain ⟨b1, b2, b3⟩ := hb
 dsimp only at t1 t2 b1 b2 b3
 unfold exV
 refine acall_go mixed Tryz.func62 rfl good62 fun pr => ?_
 simp -implicitDefEqProofs (disch := omega) only [Nat.reduceEqDiff, ↓reduceIte, vcu, ↓vcd]
 refine r_boxed fun b τ nb s1 e1 => ?_
 replace e1 : τ b = some ⟨[.int .i64 O, .int .i64 E, .int .i64 M, v1, v2], false⟩ := e1
 have x5 : lds τ b 0 5 = some [.int .i64 O, .int .i64 E, .int .i64 M, v1, v2] := by rw [lds_of e1 (by simp)]; rfl
 have x4 : ld τ b (0 + 4) = some v2 := ld_of e1 rfl
 have l2 := lenC (t2.sub s1)
 have hval := implEV_calls (w0 := w0) τ (exV v1 v2 ⟨⟨O, E, M⟩, ps, cs⟩) ⟨⟨O, E, M⟩, ps, cs⟩ (hv0.sub s1) hb0
 unfold exV at hval
 dsimp only at hval
 simp -implicitDefEqProofs (disch := omega) only [Nat.reduceEqDiff, ↓reduceIte, vcu, ↓vcd, x5, co32]
 refine hval.mono ?_
 rintro _ _ ⟨rfl, rfl⟩
 rename_i τ
 by_cases hok : ExOk ⟨⟨O, E, M⟩, ps, cs⟩
 case neg =>
  rw [decide_eq_false hok]
  have hV : nightV ⟨⟨O, E, M⟩, ps, cs⟩ = [] := if_neg hok
  simp -implicitDefEqProofs (disch := omega) only [Nat.reduceEqDiff, ↓reduceIte, vcu, ↓vcd, opK_some, Bool.not_false]
  refine fin_one Tryz.results62 ⟨s1, .inl ⟨?_, hV⟩⟩
  simp -implicitDefEqProofs (disch := omega) only [Nat.reduceEqDiff, ↓reduceIte, vcu, ↓vcd]
 rw [decide_eq_true hok]
 have hV : nightV ⟨⟨O, E, M⟩, ps, cs⟩ = nightL cs := if_pos hok
 simp -implicitDefEqProofs (disch := omega) only [Nat.reduceEqDiff, ↓reduceIte, vcu, ↓vcd, opK_some, Bool.not_true, x4, l2, Nat.add_zero]
 refine vc_loop_c mixed (by kernel_rfl) [1, 10, 11] (fun m a τ' => ∃ k : Nat, m + k = cs.length ∧ a 12 = .int .i64 k ∧ Sub τ τ' ∧ OwnD τ τ' (a 3) (nightL (cs.take k))) cs.length ⟨0, by simp, rfl, Sub.refl _, .inl ⟨rfl, rfl⟩⟩ ?_
 rintro m a T hc ⟨k, hk, h12, hT, how⟩
 simp -implicitDefEqProofs (disch := omega) only [Nat.reduceEqDiff, ↓reduceIte, vcu, ↓vcd] at hc
 obtain ⟨h1, h10, h11, -⟩ := hc
 have hlen : (nightL (cs.take k)).length = k := by simp [nightL]; omega
 by_cases hlt : k < cs.length
 case neg =>
  obtain rfl : k = cs.length := by omega
  rw [List.take_length] at how
  simp -implicitDefEqProofs (disch := omega) only [Nat.reduceEqDiff, ↓reduceIte, vcu, ↓vcd, h1, h10, h11, h12]
  refine fin_one Tryz.results62 ⟨s1.trans hT, ?_⟩
  simp -implicitDefEqProofs (disch := omega) only [Nat.reduceEqDiff, ↓reduceIte, vcu, ↓vcd]
  rw [hV]
  exact how.older s1
 obtain ⟨hg, ho, ev2, hrow⟩ := rowC (t2.sub (s1.trans hT)) (by omega)
 have hx := hrow.all hlt
 have hgk : cs.getD k cl0 = gc cs k := rfl
 rw [hgk] at hx
 have htk : nightL (cs.take (k + 1)) = nightL (cs.take k) ++ [⟨1, (gc cs k).i, []⟩] := by
  rw [take_gc hlt]; simp [nightL]
 simp -implicitDefEqProofs (disch := omega) only [Nat.reduceEqDiff, ↓reduceIte, vcu, ↓vcd, h1, h10, h11, h12, ev2, hx, co76]
 refine r_new ze76 fun g4 T2 n4 s4 e4 => ?_
 replace e4 : T2 g4 = some ⟨[.int .i64 0, .int .i64 0, .int .i64 0], false⟩ := e4
 refine r_sets (g := g4) (i := 0) (C := [.int .i64 0, .int .i64 0, .int .i64 0]) z9q z9co76 z9r z9z e4 z9l fun T3 k3 e3 => ?_
 replace e3 : T3 g4 = some ⟨[.int .i64 (gc cs k).i, .int .i64 (gc cs k).o, .int .i64 (gc cs k).v], false⟩ := e3
 have hT3 : Sub τ T3 := k3.sub (hT.trans s4) (free_sub hT n4)
 have how3 : OwnD τ T3 (a 3) (nightL (cs.take k)) := how.imp id fun ⟨g, a1, a2, a3⟩ => ⟨g, a1, k3.at (s4 _ _ a2) (ne_of' n4 a2), a3⟩
 have li : ld T3 g4 (0 + 0) = some (.int .i64 (gc cs k).i) := ld_of e3 rfl
 simp -implicitDefEqProofs (disch := omega) only [Nat.reduceEqDiff, ↓reduceIte, vcu, ↓vcd, h1, h10, h11, h12, li]
 rw [r_build]
 refine ⟨(_, #[.int .i64 1, .int .i64 (gc cs k).i, .string (tx [])]), ⟨ze48, by simp -implicitDefEqProofs (disch := omega) only [Nat.reduceEqDiff, ↓reduceIte, vcu, ↓vcd]; kernel_rfl⟩, ?_⟩
 simp -implicitDefEqProofs (disch := omega) only [Nat.reduceEqDiff, ↓reduceIte, vcu, ↓vcd]
 refine r_lit el59 (out := #[.int .i64 1, .int .i64 (gc cs k).i, .string (tx [])]) (by first | kernel_rfl | (simp -implicitDefEqProofs (disch := omega) only [Nat.reduceEqDiff, ↓reduceIte, vcu, ↓vcd]; kernel_rfl)) (by rfl) fun e5 T5 n5 s5 w5 => ?_
 replace w5 : T5 e5 = some ⟨dds [⟨1, (gc cs k).i, []⟩], false⟩ := w5
 refine r_pushDN (e := e5) (β := τ) (cs := nightL (cs.take k)) (ds := [⟨1, (gc cs k).i, []⟩]) el59 (by omega) sl59 (hT3.trans s5) (by simp -implicitDefEqProofs (disch := omega) only [Nat.reduceEqDiff, ↓reduceIte, vcu, ↓vcd]; exact how3.sub s5) z9r w5 (by simp) (by simp only [hlen, List.length_singleton]; omega) fun v6 T6 k6 o6 => ?_
 rw [← htk] at o6
 simp -implicitDefEqProofs (disch := omega) only [Nat.reduceEqDiff, ↓reduceIte, vcu, ↓vcd, h1, h10, h11, h12]
 refine ⟨⟨by first | trivial | exact h1.symm, by first | trivial | exact h10.symm | exact ev2, by first | trivial | exact h11.symm, trivial⟩, m - 1, by omega, k + 1, by omega, by simp, k6, o6⟩
end Go.Proofs.YtafkndnmhhjdhaaGreatDoor
namespace Go.Proofs.YtafkndnmhhjdhaaGreatDoor
open Go Go.Abs Go.RowKit Go.Dial Go.Clos
variable {w0 : World}
/-- the cells of an exchange in parts -/
def pcs (x : Ex) (vp vc : Value) : List Value := [.int .i64 x.s.O, .int .i64 x.s.E, .int .i64 x.s.M, vc, vp]
/-- an exchange in parts, in memory of its own; all of B stays beside it -/
def Pt (B τ : AHeap) (h : Nat) (x : Ex) : Prop := Sub B τ ∧ B h = none ∧ ∃ vp vc, τ h = some ⟨pcs x vp vc, false⟩ ∧ OwnS (Bs B h h) τ vp x.ps ∧ OwnC (Bs B h h) τ vc x.cs
theorem Bs_sub {B B' : AHeap} {h : Nat} (hs : Sub B' B) : Sub (Bs B' h h) (Bs B h h) := by
 intro k ob hk
 by_cases e : k = h
 ·subst e; rw [Bs_6] at hk ⊢; exact hk
 ·unfold Bs at hk ⊢; rw [AHeap.upd_ne _ _ e, AHeap.upd_ne _ _ e] at hk ⊢; exact hs _ _ hk
theorem Pt.older {B B' τ : AHeap} {h : Nat} {x : Ex} (p : Pt B τ h x) (hs : Sub B' B) : Pt B' τ h x := by
 obtain ⟨a, b, vp, vc, c, d, e⟩ := p
 exact ⟨hs.trans a, free_sub hs b, vp, vc, c, d.older (Bs_sub hs), e.older (Bs_sub hs)⟩
theorem Pt.sub {B τ τ' : AHeap} {h : Nat} {x : Ex} (p : Pt B τ h x) (hs : Sub τ τ') : Pt B τ' h x := by
 obtain ⟨a, b, vp, vc, c, d, e⟩ := p
 exact ⟨a.trans hs, b, vp, vc, hs _ _ c, d.sub hs, e.sub hs⟩
set_option maxRecDepth 8000 in
theorem partsOf_calls (σ : AHeap) (v : Value) (e : Ex) (hv : ExV σ v e) (hb : ExB e) :
  ACall Tryz.prog w0 35 [v] σ fun r σ' => ∃ h, r = .pointer (some ⟨h, 0, none⟩) ∧ Pt σ σ' h e := by
 obtain ⟨⟨O, E, M⟩, ps, cs⟩ := e
 obtain ⟨v1, v2, rfl, t1, t2⟩ := hv
 obtain ⟨b1, b2, b3⟩ := hb
 dsimp only at t1 t2 b1 b2 b3
 unfold exV
 refine acall_go mixed Tryz.func35 rfl good35 fun pr => ?_
 simp -implicitDefEqProofs (disch := omega) only [Nat.reduceEqDiff, ↓reduceIte, vcu, ↓vcd]
 refine r_boxed fun b τ nb s1 e1 => ?_
 replace e1 : τ b = some ⟨[.int .i64 O, .int .i64 E, .int .i64 M, v1, v2], false⟩ := e1
 have x0 : lds τ b 0 3 = some [.int .i64 O, .int .i64 E, .int .i64 M] := lds_three (ld_of e1 rfl) (ld_of e1 rfl) (ld_of e1 rfl)
 have x3 : ld τ b (0 + 3) = some v1 := ld_of e1 rfl
 have x4 : ld τ b (0 + 4) = some v2 := ld_of e1 rfl
 simp -implicitDefEqProofs (disch := omega) only [Nat.reduceEqDiff, ↓reduceIte, vcu, ↓vcd]
 refine region_tree mixed (quiets [0, 2, 6] (quiets [1, 3, 7] (.one 4 (quiets [5] (.one 8 (quiets [9] (.one 10 (quiets [11] .stop)))))))) [([1, 3, 7], Sub τ)] (by kernel_rfl) (by kernel_rfl) (fun p hp => by simp only [List.mem_singleton] at hp; subst hp; exact Sub.refl _) ?_
 refine tree_quiets _ _ _ _ sf0 (by kernel_rfl) (by kernel_rfl) ?_
 simp -implicitDefEqProofs (disch := omega) only [Nat.reduceEqDiff, ↓reduceIte, vcu, ↓vcd, pickOps_nil, pickOps_cons, pickO_some, List.getElem?_cons_succ, List.getElem?_cons_zero]
 refine tree_quiets τ _ _ _ sf1 (by kernel_rfl) (by kernel_rfl) ?_
 simp -implicitDefEqProofs (disch := omega) only [Nat.reduceEqDiff, ↓reduceIte, vcu, ↓vcd, pickOps_nil, pickOps_cons, pickO_some, List.getElem?_cons_succ, List.getElem?_cons_zero, x0, x3, x4, co29, Nat.add_zero]
 refine tree_one rfl ?_
 try simp -implicitDefEqProofs (disch := omega) only [Nat.reduceEqDiff, ↓reduceIte, vcu, ↓vcd]
 refine (cloneC8_calls τ v2 cs (t2.sub s1) b3).mono ?_
 rintro vc τ2 ⟨s2, w2⟩
 obtain ⟨cA, cL, cC, rfl⟩ := tris_slc w2.tris
 simp -implicitDefEqProofs (disch := omega) only [Nat.reduceEqDiff, ↓reduceIte, vcu, ↓vcd, opK_some]
 refine ⟨keep_of rfl (fun p hp => by simp only [List.mem_singleton] at hp; subst hp; exact .inr s2), ?_⟩
 refine tree_quiets _ _ _ _ sf0 (by kernel_rfl) (by kernel_rfl) ?_
 simp -implicitDefEqProofs (disch := omega) only [Nat.reduceEqDiff, ↓reduceIte, vcu, ↓vcd, pickOps_nil, pickOps_cons, pickO_some, List.getElem?_cons_succ, List.getElem?_cons_zero]
 rw [r_build]
 refine ⟨(_, #[.int .i64 O, .int .i64 E, .int .i64 M, .slice cA cL cC]), ⟨ze89, by simp -implicitDefEqProofs (disch := omega) only [Nat.reduceEqDiff, ↓reduceIte, vcu, ↓vcd]; kernel_rfl⟩, ?_⟩
 try simp -implicitDefEqProofs (disch := omega) only [Nat.reduceEqDiff, ↓reduceIte, vcu, ↓vcd]
 refine tree_one rfl ?_
 try simp -implicitDefEqProofs (disch := omega) only [Nat.reduceEqDiff, ↓reduceIte, vcu, ↓vcd]
 refine (cloneX8_calls τ2 v1 ps ((t1.sub s1).sub s2) b1).mono ?_
 rintro vp τ3 ⟨s3, w3⟩
 obtain ⟨pA, pL, pC, rfl⟩ := texts_slc w3.texts
 simp -implicitDefEqProofs (disch := omega) only [Nat.reduceEqDiff, ↓reduceIte, vcu, ↓vcd, opK_some]
 refine ⟨keep_of rfl (fun p hp => by simp only [List.mem_singleton] at hp; subst hp; exact .inr (s2.trans s3)), ?_⟩
 refine tree_quiets _ _ _ _ sf0 (by kernel_rfl) (by kernel_rfl) ?_
 simp -implicitDefEqProofs (disch := omega) only [Nat.reduceEqDiff, ↓reduceIte, vcu, ↓vcd, pickOps_nil, pickOps_cons, pickO_some, List.getElem?_cons_succ, List.getElem?_cons_zero]
 rw [r_build]
 refine ⟨(_, #[.int .i64 O, .int .i64 E, .int .i64 M, .slice cA cL cC, .slice pA pL pC]), ⟨ze92, by simp -implicitDefEqProofs (disch := omega) only [Nat.reduceEqDiff, ↓reduceIte, vcu, ↓vcd]; kernel_rfl⟩, ?_⟩
 try simp -implicitDefEqProofs (disch := omega) only [Nat.reduceEqDiff, ↓reduceIte, vcu, ↓vcd]
 refine tree_one rfl ?_
 try simp -implicitDefEqProofs (disch := omega) only [Nat.reduceEqDiff, ↓reduceIte, vcu, ↓vcd]
 refine r_boxed fun h τ4 nh s4 e4 => ?_
 replace e4 : τ4 h = some ⟨pcs ⟨⟨O, E, M⟩, ps, cs⟩ (.slice pA pL pC) (.slice cA cL cC), false⟩ := e4
 have S4 : Sub τ τ4 := s2.trans (s3.trans s4)
 simp -implicitDefEqProofs (disch := omega) only [Nat.reduceEqDiff, ↓reduceIte, vcu, ↓vcd]
 refine ⟨keep_of rfl (fun p hp => by simp only [List.mem_singleton] at hp; subst hp; exact .inr S4), ?_⟩
 refine tree_quiets _ _ _ _ sf0 (by kernel_rfl) (by kernel_rfl) ?_
 simp -implicitDefEqProofs (disch := omega) only [Nat.reduceEqDiff, ↓reduceIte, vcu, ↓vcd, pickOps_nil, pickOps_cons, pickO_some, List.getElem?_cons_succ, List.getElem?_cons_zero]
 refine tree_stop ?_
 try simp -implicitDefEqProofs (disch := omega) only [Nat.reduceEqDiff, ↓reduceIte, vcu, ↓vcd]
 have zh : σ h = none := free_sub (s1.trans (s2.trans s3)) nh
 refine fin_one Tryz.results35 ⟨h, ?_, s1.trans S4, zh, _, _, e4, ?_, ?_⟩
 ·simp -implicitDefEqProofs (disch := omega) only [Nat.reduceEqDiff, ↓reduceIte, vcu, ↓vcd]
 ·exact w3.imp id fun ⟨g, a1, a2, a3⟩ => ⟨g, a1, s4 _ _ a2, Bs_free (free_sub (s1.trans s2) a3) (ne_of' nh a2) (ne_of' nh a2)⟩
 ·exact w2.imp id fun ⟨g, a1, a2, a3⟩ => ⟨g, a1, s4 _ _ (s3 _ _ a2), Bs_free (free_sub s1 a3) (ne_of' nh (s3 _ _ a2)) (ne_of' nh (s3 _ _ a2))⟩
/-- the call that has a line -/
def hasL (l : Int) (c : Cl) : Prop := c.i = l ∨ c.o = l
instance (l : Int) : DecidablePred (hasL l) := fun c => by unfold hasL; infer_instance
theorem peerS_fst : ∀ (cs : List Cl) (l : Int) (k : Nat), k < cs.length → hasL l (gc cs k) → (∀ c ∈ cs.take k, ¬ hasL l c) → peerS cs l = (gc cs k).i + (gc cs k).o - l
 | [], l, k, hk, _, _ => by simp at hk
 | c :: cs, l, 0, hk, h, _ => by
  have e : gc (c :: cs) 0 = c := rfl
  rw [e] at h ⊢
  unfold peerS
  by_cases h1 : c.i = l
  ·rw [if_pos h1]; omega
  ·rw [if_neg h1]
   have h2 : c.o = l := h.resolve_left h1
   rw [if_pos h2]; omega
 | c :: cs, l, k + 1, hk, h, hn => by
  have e : gc (c :: cs) (k + 1) = gc cs k := rfl
  rw [e] at h ⊢
  have h0 := hn c (by simp)
  unfold peerS
  rw [if_neg fun q => h0 (.inl q), if_neg fun q => h0 (.inr q)]
  exact peerS_fst cs l k (by simpa using hk) h fun d hd => hn d (by simp [hd])
theorem peerS_no : ∀ (cs : List Cl) (l : Int), (∀ c ∈ cs, ¬ hasL l c) → peerS cs l = -1
 | [], l, _ => rfl
 | c :: cs, l, hn => by
  have h0 := hn c (by simp)
  unfold peerS
  rw [if_neg fun q => h0 (.inl q), if_neg fun q => h0 (.inr q)]
  exact peerS_no cs l fun d hd => hn d (by simp [hd])
set_option maxRecDepth 8000 in
theorem callOfC_at (σ : AHeap) (b : Nat) (l : Int) (d : Cl) (hb : σ b = some ⟨[.int .i64 l], false⟩) :
  ACall Tryz.prog w0 111 [.agg #[.int .i64 d.i, .int .i64 d.o, .int .i64 d.v], .pointer (some ⟨b, 0, none⟩)] σ fun r σ' => r = .bool (decide (hasL l d)) ∧ σ' = σ := by
 refine acall_go mixed Tryz.func111 rfl good111 fun pr => ?_
 simp -implicitDefEqProofs (disch := omega) only [Nat.reduceEqDiff, ↓reduceIte, vcu, ↓vcd]
 refine r_boxed fun g τ n1 s1 e1 => ?_
 replace e1 : τ g = some ⟨[.int .i64 d.i, .int .i64 d.o, .int .i64 d.v], false⟩ := e1
 have l1 : ld τ g (0 + 0) = some (.int .i64 d.i) := ld_of e1 rfl
 have l2 : ld τ g (0 + 1) = some (.int .i64 d.o) := ld_of e1 rfl
 have l3 : ld τ b 0 = some (.int .i64 l) := ld_of (s1 _ _ hb) rfl
 by_cases h1 : d.i = l
 ·have d1 : decide (d.i = l) = true := decide_eq_true h1
  simp -implicitDefEqProofs (disch := omega) only [Nat.reduceEqDiff, ↓reduceIte, vcu, ↓vcd, l1, l2, l3, d1, Nat.add_zero]
  refine fin_drop Tryz.results111 σ s1 ⟨?_, rfl⟩
  simp -implicitDefEqProofs (disch := omega) only [Nat.reduceEqDiff, ↓reduceIte, vcu, ↓vcd]
  rw [decide_eq_true (show hasL l d from .inl h1)]
 ·have d1 : decide (d.i = l) = false := decide_eq_false h1
  simp -implicitDefEqProofs (disch := omega) only [Nat.reduceEqDiff, ↓reduceIte, vcu, ↓vcd, l1, l2, l3, d1, Nat.add_zero]
  refine fin_drop Tryz.results111 σ s1 ⟨?_, rfl⟩
  simp -implicitDefEqProofs (disch := omega) only [Nat.reduceEqDiff, ↓reduceIte, vcu, ↓vcd]
  congr 1
  exact decide_eq_decide.2 ⟨fun h => .inr h, fun h => h.resolve_left h1⟩
set_option maxRecDepth 8000 in
theorem callOf_calls (σ : AHeap) (h : Nat) (x : Ex) (vp vc : Value) (l : Int) (hh : σ h = some ⟨pcs x vp vc, false⟩) (tc : Tris σ vc x.cs) (hl : x.cs.length ≤ 1048576) :
  ACall Tryz.prog w0 96 [.pointer (some ⟨h, 0, none⟩), .int .i64 l] σ fun r σ' => r = .int .i64 (fstC (hasL l) x.cs) ∧ σ' = σ := by
 refine acall_go mixed Tryz.func96 rfl good96 fun pr => ?_
 simp -implicitDefEqProofs (disch := omega) only [Nat.reduceEqDiff, ↓reduceIte, vcu, ↓vcd]
 refine r_boxed fun b τ nb s1 e1 => ?_
 replace e1 : τ b = some ⟨[.int .i64 l], false⟩ := e1
 have x3 : ld τ h (0 + 3) = some vc := ld_of (s1 _ _ hh) rfl
 simp -implicitDefEqProofs (disch := omega) only [Nat.reduceEqDiff, ↓reduceIte, vcu, ↓vcd, x3]
 refine (indexC8_calls τ vc x.cs _ _ (hasL l) (tc.sub s1) hl fun σ1 q1 d _ pw => callOfC_at σ1 b l d (q1 _ _ e1)).mono ?_
 rintro _ _ ⟨rfl, rfl⟩
 simp -implicitDefEqProofs (disch := omega) only [Nat.reduceEqDiff, ↓reduceIte, vcu, ↓vcd, opK_some]
 refine fin_drop Tryz.results96 σ s1 ⟨?_, rfl⟩
 simp -implicitDefEqProofs (disch := omega) only [Nat.reduceEqDiff, ↓reduceIte, vcu, ↓vcd]
set_option maxRecDepth 8000 in
theorem peer_calls (σ : AHeap) (h : Nat) (x : Ex) (vp vc : Value) (l : Int) (hh : σ h = some ⟨pcs x vp vc, false⟩) (tc : Tris σ vc x.cs) (hC : CV x.s x.cs) :
  ACall Tryz.prog w0 68 [.pointer (some ⟨h, 0, none⟩), .int .i64 l] σ fun r σ' => r = .int .i64 (peerS x.cs l) ∧ σ' = σ := by
 have hl12 := hC.len
 refine acall_go mixed Tryz.func68 rfl good68 fun pr => ?_
 simp -implicitDefEqProofs (disch := omega) only [Nat.reduceEqDiff, ↓reduceIte, vcu, ↓vcd]
 refine (callOf_calls σ h x vp vc l hh tc (by omega)).mono ?_
 rintro _ _ ⟨rfl, rfl⟩
 rename_i σ
 rcases fstC_spec (hasL l) x.cs with ⟨e, hn⟩ | ⟨k, e, hk, hP, hup⟩
 ·rw [e]
  simp -implicitDefEqProofs (disch := omega) only [Nat.reduceEqDiff, ↓reduceIte, vcu, ↓vcd, opK_some]
  refine fin_one Tryz.results68 ⟨?_, rfl⟩
  simp -implicitDefEqProofs (disch := omega) only [Nat.reduceEqDiff, ↓reduceIte, vcu, ↓vcd]
  rw [peerS_no _ _ hn]
 ·rw [e, peerS_fst _ _ _ hk hP hup]
  obtain ⟨hg, ho, rfl, hrow⟩ := rowC tc (by omega)
  have hgk : x.cs.getD k cl0 = gc x.cs k := rfl
  obtain ⟨q1, q2, q3⟩ := hrow k hk
  rw [hgk] at q1 q2
  have x3 : ld σ h (0 + 3) = some (.slice (some ⟨hg, ho, none⟩) x.cs.length 3) := ld_of hh rfl
  have hR := hC.2.1 _ (gc_mem hk)
  have hSV := hC.1
  have r1 := hR.1
  have r2 := hR.2.1
  have hO4 : 1 ≤ x.s.O ∧ x.s.O ≤ 4 := hSV.1
  have hE3 : 1 ≤ x.s.E ∧ x.s.E ≤ 3 := hSV.2.1
  have hOE : x.s.O * x.s.E ≤ 12 := Int.le_trans (Int.mul_le_mul hO4.2 hE3.2 (by omega) (by omega)) (by decide)
  have hl : l = (gc x.cs k).i ∨ l = (gc x.cs k).o := hP.imp Eq.symm Eq.symm
  simp -implicitDefEqProofs (disch := omega) only [Nat.reduceEqDiff, ↓reduceIte, vcu, ↓vcd, opK_some, x3, q1, q2, Nat.add_zero]
  refine fin_one Tryz.results68 ⟨?_, rfl⟩
  simp -implicitDefEqProofs (disch := omega) only [Nat.reduceEqDiff, ↓reduceIte, vcu, ↓vcd]
theorem fstN_fst {p : Nat → Bool} : ∀ (m a k : Nat), a ≤ k → k < a + m → p k = true → (∀ i, a ≤ i → i < k → p i = false) → fstN p a m = some k
 | 0, a, k, h1, h2, _, _ => by omega
 | m + 1, a, k, h1, h2, h3, h4 => by
  unfold fstN
  by_cases e : a = k
  ·subst e; rw [if_pos h3]
  ·rw [if_neg (by rw [h4 a (Nat.le_refl a) (by omega)]; simp)]
   exact fstN_fst m (a + 1) k (by omega) (by omega) h3 fun i hi hk => h4 i (by omega) hk
theorem lineS_fst {ps : List (List UInt8)} {t : List UInt8} {k : Nat} (hk : k < ps.length) (h : ps.getD k [] = t) (hn : ∀ i, i < k → ps.getD i [] ≠ t) : lineS ps t = k := by
 unfold lineS
 rw [fstN_fst ps.length 0 k (Nat.zero_le k) (by omega) (decide_eq_true h) fun i _ hi => decide_eq_false (hn i hi)]
set_option maxRecDepth 8000 in
theorem index8_at (σ : AHeap) (h o : Nat) (ps : List (List UInt8)) (t : List UInt8) (hv : TextsAt σ h o ps) (hl : ps.length ≤ 1048576) :
  ACall Tryz.prog w0 105 [.slice (some ⟨h, o, none⟩) ps.length 1, .string (tx t)] σ fun r σ' => r = .int .i64 (lineS ps t) ∧ σ' = σ := by
 refine acall_go mixed Tryz.func105 rfl good105 fun pr => ?_
 simp -implicitDefEqProofs (disch := omega) only [Nat.reduceEqDiff, ↓reduceIte, vcu, ↓vcd]
 refine vc_loop_c mixed (by kernel_rfl) [0, 1, 7] (fun m a τ => ∃ k : Nat, m + k = ps.length ∧ a 8 = .int .i64 k ∧ τ = σ ∧ ∀ i, i < k → ps.getD i [] ≠ t) ps.length ⟨0, by simp, rfl, rfl, fun i hi => absurd hi (by omega)⟩ ?_
 rintro m a τ hc ⟨k, hk, h8, rfl, hup⟩
 simp -implicitDefEqProofs (disch := omega) only [Nat.reduceEqDiff, ↓reduceIte, vcu, ↓vcd] at hc
 obtain ⟨h0, h1, h7, -⟩ := hc
 by_cases hlt : k < ps.length
 ·have hx := hv k hlt
  by_cases hB : ps.getD k [] = t
  ·have d1 : decide (t = ps.getD k []) = true := decide_eq_true hB.symm
   simp -implicitDefEqProofs (disch := omega) only [Nat.reduceEqDiff, ↓reduceIte, vcu, ↓vcd, h0, h1, h7, h8, hx, abin_seql, d1]
   refine fin_one Tryz.results105 ⟨?_, rfl⟩
   simp -implicitDefEqProofs (disch := omega) only [Nat.reduceEqDiff, ↓reduceIte, vcu, ↓vcd]
   rw [lineS_fst hlt hB hup]
  ·have d1 : decide (t = ps.getD k []) = false := decide_eq_false fun e => hB e.symm
   simp -implicitDefEqProofs (disch := omega) only [Nat.reduceEqDiff, ↓reduceIte, vcu, ↓vcd, h0, h1, h7, h8, hx, abin_seql, d1]
   refine ⟨⟨trivial, trivial, trivial, trivial⟩, m - 1, by omega, k + 1, by omega, by simp, trivial, fun i hi => ?_⟩
   by_cases e : i = k
   ·subst e; exact hB
   ·exact hup i (by omega)
 ·simp -implicitDefEqProofs (disch := omega) only [Nat.reduceEqDiff, ↓reduceIte, vcu, ↓vcd, h0, h1, h7, h8]
  obtain rfl : k = ps.length := by omega
  refine fin_one Tryz.results105 ⟨?_, rfl⟩
  simp -implicitDefEqProofs (disch := omega) only [Nat.reduceEqDiff, ↓reduceIte, vcu, ↓vcd]
  rcases lineS_spec ps t with ⟨j, hj, e1, e2⟩ | ⟨e, _⟩
  ·exact absurd e2 (hup j hj)
  ·rw [e]
end Go.Proofs.YtafkndnmhhjdhaaGreatDoor
