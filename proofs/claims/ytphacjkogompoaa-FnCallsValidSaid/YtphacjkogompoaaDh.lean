/- CallMove of the program. -/
import Derived.Test.YtphacjkogompoaaDg
import Derived.Test.YtphacjkogompoaaCj
set_option linter.unusedSimpArgs false
set_option linter.unusedVariables false
namespace Go.Proofs.Ytphacjkogompoaa
open Go Go.Abs Go.RowKit Go.Clos
variable {w0 : World}

theorem mvL_len {s : Sp} {cs : List Cl} {i o : Int} : (mvL s cs i o).length ≤ 13 := by
  by_cases h : CV s cs ∧ Enough s
  · have := h.1.len
    by_cases h2 : mvOk s cs i o
    · rw [mvL_ok h2, moveL_length]; omega
    · rw [mvL_same h h2]; omega
  · rw [mvL_no h]; simp
theorem half_nng {s : Sp} {cs : List Cl} {a b i o : Int} {ch : List Nat} (h : CV s cs) (hl : Lines s i o) : ∀ k, k < (halfway s cs a b i o ch).length → Nng (gc (halfway s cs a b i o ch) k) := fun k hk => by
  rw [halfway_length] at hk
  have hL := h.1.lines
  by_cases e : k = cs.length
  · subst e; rw [halfway_new]; exact ⟨⟨hl.1.1, by have := hl.1.2; dsimp only; omega⟩, hl.2.1, by have := hl.2.2; dsimp only; omega⟩
  · have hkl : k < cs.length := by omega
    have hn := (h.2.1 _ (gc_mem hkl)).nng h.1
    rw [halfway_old hkl]
    split
    · exact hn
    · exact hn
theorem tris_via {cs : List Cl} {k : Nat} (hk : k < cs.length) (x : Int) : (tris cs).set (k * 3 + 2) (.int .i64 x) = tris (cs.set k ⟨(gc cs k).i, (gc cs k).o, x⟩) := (tris_set cs k hk x).2.2

set_option maxRecDepth 8000 in
set_option maxHeartbeats 1600000 in
theorem implMove_at (σ : AHeap) (s : Sp) (h o : Nat) (cs : List Cl) (I O : Int) (hv : TrisAt σ h o cs) (hl : cs.length ≤ 1048576) :
    ACall Try.prog w0 52 [.agg #[.int .i64 s.O, .int .i64 s.E, .int .i64 s.M], .slice (some ⟨h, o, none⟩) cs.length 3, .int .i64 I, .int .i64 O] σ fun r σ' => ∃ v, r = .tuple #[v, .bool (decide (mvOk s cs I O))] ∧ Sub σ σ' ∧ OwnC σ σ' v (mvL s cs I O) := by
  refine acall_go mixed Try.func52 rfl good52 fun pr => ?_
  simp -implicitDefEqProofs (disch := omega) only [List.any_cons, List.any_nil, Nat.reduceEqDiff, List.map_cons, List.map_nil, Option.map_some, Option.map_none, List.nil_append, ↓reduceIte, vcu, ↓vcd]
  refine r_boxed fun b τ1 n1 s1 e1 => ?_
  replace e1 : τ1 b = some ⟨[.int .i64 s.O, .int .i64 s.E, .int .i64 s.M], false⟩ := e1
  refine r_boxed fun b1 τ2 n2 s2 e2 => ?_
  replace e2 : τ2 b1 = some ⟨[.int .i64 I], false⟩ := e2
  refine r_boxed fun b2 τ n3 s3 e3 => ?_
  replace e3 : τ b2 = some ⟨[.int .i64 O], false⟩ := e3
  have f1 := s3 _ _ (s2 _ _ e1)
  have f2 := s3 _ _ e2
  have s0 := s1.trans (s2.trans s3)
  clear n1 n2 n3 s1 s2 s3 e1 e2
  have m3 : ∀ τ', Sub τ τ' → lds τ' b 0 3 = some [.int .i64 s.O, .int .i64 s.E, .int .i64 s.M] := fun τ' hs => lds_three (ld_of (hs _ _ f1) rfl) (ld_of (hs _ _ f1) rfl) (ld_of (hs _ _ f1) rfl)
  have mI : ∀ τ', Sub τ τ' → ld τ' b1 0 = some (.int .i64 I) := fun τ' hs => ld_of (hs _ _ f2) rfl
  have mO : ∀ τ', Sub τ τ' → ld τ' b2 0 = some (.int .i64 O) := fun τ' hs => ld_of (hs _ _ e3) rfl
  have l3 := m3 τ (Sub.refl _)
  have li := mI τ (Sub.refl _)
  have lo := mO τ (Sub.refl _)
  simp -implicitDefEqProofs (disch := omega) only [List.any_cons, List.any_nil, Nat.reduceEqDiff, List.map_cons, List.map_nil, Option.map_some, Option.map_none, List.nil_append, ↓reduceIte, vcu, ↓vcd, l3, co24]
  refine (implEnough_at τ s.O s.E s.M).mono ?_
  rintro r _ ⟨rfl, rfl⟩
  rename_i τ
  by_cases hE : Enough s
  case neg =>
    rw [decide_eq_false hE, mvL_no fun hh => hE hh.2, decide_eq_false fun hh : mvOk s cs I O => hE hh.1.2]
    simp -implicitDefEqProofs (disch := omega) only [List.any_cons, List.any_nil, Nat.reduceEqDiff, List.map_cons, List.map_nil, Option.map_some, Option.map_none, List.nil_append, ↓reduceIte, vcu, ↓vcd, opK_some, Bool.not_false]
    refine fin_two Try.results52 ⟨.slice none 0 0, ?_, s0, .inl ⟨rfl, rfl⟩⟩
    simp -implicitDefEqProofs (disch := omega) only [List.any_cons, List.any_nil, Nat.reduceEqDiff, List.map_cons, List.map_nil, Option.map_some, Option.map_none, List.nil_append, ↓reduceIte, vcu, ↓vcd]
  rw [decide_eq_true hE]
  simp -implicitDefEqProofs (disch := omega) only [List.any_cons, List.any_nil, Nat.reduceEqDiff, List.map_cons, List.map_nil, Option.map_some, Option.map_none, List.nil_append, ↓reduceIte, vcu, ↓vcd, opK_some, Bool.not_true, l3, co24]
  refine (implCV_at τ s.O s.E s.M h o cs (hv.sub s0) hl).mono ?_
  rintro r _ ⟨rfl, rfl⟩
  rename_i τ
  by_cases hC : CV s cs
  case neg =>
    rw [decide_eq_false hC, mvL_no fun hh => hC hh.1, decide_eq_false fun hh : mvOk s cs I O => hC hh.1.1]
    simp -implicitDefEqProofs (disch := omega) only [List.any_cons, List.any_nil, Nat.reduceEqDiff, List.map_cons, List.map_nil, Option.map_some, Option.map_none, List.nil_append, ↓reduceIte, vcu, ↓vcd, opK_some, Bool.not_false]
    refine fin_two Try.results52 ⟨.slice none 0 0, ?_, s0, .inl ⟨rfl, rfl⟩⟩
    simp -implicitDefEqProofs (disch := omega) only [List.any_cons, List.any_nil, Nat.reduceEqDiff, List.map_cons, List.map_nil, Option.map_some, Option.map_none, List.nil_append, ↓reduceIte, vcu, ↓vcd]
  rw [decide_eq_true hC]
  have hS := hC.1
  have hLn := hS.lines
  have hEE := hS.2.1
  have hMM := hS.2.2
  have hl12 := hC.len
  simp -implicitDefEqProofs (disch := omega) only [List.any_cons, List.any_nil, Nat.reduceEqDiff, List.map_cons, List.map_nil, Option.map_some, Option.map_none, List.nil_append, ↓reduceIte, vcu, ↓vcd, opK_some, Bool.not_true, l3, li, lo, co24]
  refine (implPut_at τ s h o cs I O (hv.sub s0) hl).mono ?_
  rintro _ τ4 ⟨va, rfl, s4, wa⟩
  have l4 := m3 τ4 s4
  have li4 := mI τ4 s4
  have lo4 := mO τ4 s4
  cases hf : freeV s cs I O with
  | cons v0 vs =>
    obtain ⟨q1, q2⟩ := putL_cons hC hf
    have hfree : Free s cs I O v0 := mem_freeV.1 (by rw [hf]; simp)
    obtain ⟨-, hLi, hB, -, -⟩ := hfree.lines
    have hok : mvOk s cs I O := ⟨⟨hC, hE⟩, hLi, hB⟩
    have hml : moveL s cs I O = cs ++ [⟨I, O, v0⟩] := by unfold moveL; rw [hf]
    rw [q1] at wa
    rw [mvL_ok hok, decide_eq_true hok, hml, q2]
    simp -implicitDefEqProofs (disch := omega) only [List.any_cons, List.any_nil, Nat.reduceEqDiff, List.map_cons, List.map_nil, Option.map_some, Option.map_none, List.nil_append, ↓reduceIte, vcu, ↓vcd, opK_some, List.getElem?_toArray, List.getElem?_cons_zero, List.getElem?_cons_succ, Bool.not_true, Bool.not_false]
    refine fin_two Try.results52 ⟨va, ?_, s0.trans s4, wa.older s0⟩
    simp -implicitDefEqProofs (disch := omega) only [List.any_cons, List.any_nil, Nat.reduceEqDiff, List.map_cons, List.map_nil, Option.map_some, Option.map_none, List.nil_append, ↓reduceIte, vcu, ↓vcd]
  | nil =>
    obtain ⟨q1, q2⟩ := putL_nil hC hf
    rw [q1] at wa
    rw [q2]
    simp -implicitDefEqProofs (disch := omega) only [List.any_cons, List.any_nil, Nat.reduceEqDiff, List.map_cons, List.map_nil, Option.map_some, Option.map_none, List.nil_append, ↓reduceIte, vcu, ↓vcd, opK_some, List.getElem?_toArray, List.getElem?_cons_zero, List.getElem?_cons_succ, l4, li4, lo4, co24]
    refine (implIdle_at τ4 s h o cs I O (hv.sub (s0.trans s4)) hl hS).mono ?_
    rintro r _ ⟨rfl, rfl⟩
    rename_i τ4
    by_cases hid : Lines s I O ∧ ¬ Busy cs I O
    case neg =>
      have hno : ¬ mvOk s cs I O := fun hh => hid hh.2
      rw [decide_eq_false hid, mvL_same ⟨hC, hE⟩ hno, decide_eq_false hno]
      simp -implicitDefEqProofs (disch := omega) only [List.any_cons, List.any_nil, Nat.reduceEqDiff, List.map_cons, List.map_nil, Option.map_some, Option.map_none, List.nil_append, ↓reduceIte, vcu, ↓vcd, opK_some, Bool.not_false]
      refine fin_two Try.results52 ⟨va, ?_, s0.trans s4, wa.older s0⟩
      simp -implicitDefEqProofs (disch := omega) only [List.any_cons, List.any_nil, Nat.reduceEqDiff, List.map_cons, List.map_nil, Option.map_some, Option.map_none, List.nil_append, ↓reduceIte, vcu, ↓vcd]
    obtain ⟨hLi, hB⟩ := hid
    have hok : mvOk s cs I O := ⟨⟨hC, hE⟩, hLi, hB⟩
    rw [decide_eq_true (⟨hLi, hB⟩ : Lines s I O ∧ ¬ Busy cs I O), mvL_ok hok, decide_eq_true hok]
    have hwa := wayA_ok hE hC hLi hB
    have hwb := wayB_ok hE hC hLi hB
    have hne := way_ne hE hC hLi hB hf
    have hfr := way_free hE hC hLi hB
    have hml : moveL s cs I O = flip (wayA s cs I) (wayB s cs O) (chain s cs (wayA s cs I) (wayB s cs O) (O / s.E)) cs ++ [⟨I, O, wayA s cs I⟩] := by unfold moveL; rw [hf]
    have hA0 : firstN (usedI s cs (I / s.E)) s.M.toNat 0 = wayA s cs I := rfl
    have hB0 : firstN (usedO s cs (O / s.E)) s.M.toNat 0 = wayB s cs O := rfl
    have hst := inv_start hC hne hfr
    have hR := hC.2.1
    have h0c : 0 < cs.length := by
      cases cs with
      | nil =>
        exfalso
        have : Free s [] I O 0 := (free_iff hC hLi hB ⟨by omega, by omega⟩).2 ⟨by simp [usedI], by simp [usedO]⟩
        have := mem_freeV.2 this
        rw [hf] at this; cases this
      | cons c cs => simp
    have hCC : go s cs (wayA s cs I) (wayB s cs O) cs.length [] true (O / s.E) = chain s cs (wayA s cs I) (wayB s cs O) (O / s.E) := rfl
    have hnn := fun (ch : List Nat) (A B : Int) => half_nng (a := A) (b := B) (ch := ch) hC hLi
    have hI1 : 0 ≤ I ∧ I ≤ 1000 := ⟨hLi.1.1, by have := hLi.1.2; omega⟩
    have hO1 : 0 ≤ O ∧ O ≤ 1000 := ⟨hLi.2.1, by have := hLi.2.2; omega⟩
    rw [hml]
    clear hml hf hok q1 q2
    simp -implicitDefEqProofs (disch := omega) only [List.any_cons, List.any_nil, Nat.reduceEqDiff, List.map_cons, List.map_nil, Option.map_some, Option.map_none, List.nil_append, ↓reduceIte, vcu, ↓vcd, opK_some, Bool.not_true]
    refine (firstFn_at τ4 h o cs _ _ (fun c => c.i / s.E = I / s.E) (usedI s cs (I / s.E)) s.M.toNat (hv.sub (s0.trans s4)) hl (fun c hc pw τ9 s9 => fromC_at τ9 b b1 s I c (s9 _ _ (s4 _ _ f1)) (s9 _ _ (s4 _ _ f2)) hEE.1 hI1 ((hR c hc).nng hS)) (fun v => ⟨fun ⟨c, hc, e1, e2⟩ => mem_usedI.2 ⟨c, hc, e2, e1⟩, fun hm => by obtain ⟨c, hc, e1, e2⟩ := mem_usedI.1 hm; exact ⟨c, hc, e2, e1⟩⟩) (by rw [hA0]; exact hwa.1.1) (by omega)).mono ?_
    rintro r _ ⟨rfl, rfl⟩
    rename_i τ4
    rw [hA0]
    simp -implicitDefEqProofs (disch := omega) only [List.any_cons, List.any_nil, Nat.reduceEqDiff, List.map_cons, List.map_nil, Option.map_some, Option.map_none, List.nil_append, ↓reduceIte, vcu, ↓vcd, opK_some]
    refine (firstFn_at τ4 h o cs _ _ (fun c => c.o / s.E = O / s.E) (usedO s cs (O / s.E)) s.M.toNat (hv.sub (s0.trans s4)) hl (fun c hc pw τ9 s9 => toC_at τ9 b b2 s O c (s9 _ _ (s4 _ _ f1)) (s9 _ _ (s4 _ _ e3)) hEE.1 hO1 ((hR c hc).nng hS)) (fun v => ⟨fun ⟨c, hc, e1, e2⟩ => mem_usedO.2 ⟨c, hc, e2, e1⟩, fun hm => by obtain ⟨c, hc, e1, e2⟩ := mem_usedO.1 hm; exact ⟨c, hc, e2, e1⟩⟩) (by rw [hB0]; exact hwb.1.1) (by omega)).mono ?_
    rintro r _ ⟨rfl, rfl⟩
    rename_i τ4
    rw [hB0]
    clear hA0 hB0
    have hmt := fun {ch sd x kk} (hi : Inv s cs (wayA s cs I) (wayB s cs O) (O / s.E) ch sd x) (hc : Cur s cs (wayA s cs I) (wayB s cs O) O ch sd x kk) {z : Int} => meet_first hC hB hne hwa.2 hwb.2 hi hc (z := z)
    have hcs := fun {ch sd x k} => cur_step (ch := ch) (sd := sd) (x := x) (k := k) hC hB hne hwa.2 hwb.2
    generalize chain s cs (wayA s cs I) (wayB s cs O) (O / s.E) = C at *
    generalize wayA s cs I = A at *
    generalize wayB s cs O = B at *
    obtain ⟨gb, rfl, v4, nb⟩ := wa.row h0c
    clear wa
    simp -implicitDefEqProofs (disch := omega) only [List.any_cons, List.any_nil, Nat.reduceEqDiff, List.map_cons, List.map_nil, Option.map_some, Option.map_none, List.nil_append, ↓reduceIte, vcu, ↓vcd, opK_some, li4, lo4]
    rw [r_build]
    refine ⟨(_, #[.int .i64 I, .int .i64 O, .int .i64 A]), ⟨ze34, by simp -implicitDefEqProofs (disch := omega) only [List.any_cons, List.any_nil, Nat.reduceEqDiff, List.map_cons, List.map_nil, Option.map_some, Option.map_none, List.nil_append, ↓reduceIte, vcu, ↓vcd]; kernel_rfl⟩, ?_⟩
    simp -implicitDefEqProofs (disch := omega) only [List.any_cons, List.any_nil, Nat.reduceEqDiff, List.map_cons, List.map_nil, Option.map_some, Option.map_none, List.nil_append, ↓reduceIte, vcu, ↓vcd]
    refine r_lit el29 (out := #[.int .i64 I, .int .i64 O, .int .i64 A]) (by first | kernel_rfl | (simp -implicitDefEqProofs (disch := omega) only [List.any_cons, List.any_nil, Nat.reduceEqDiff, List.map_cons, List.map_nil, Option.map_some, Option.map_none, List.nil_append, ↓reduceIte, vcu, ↓vcd]; kernel_rfl)) (by rfl) fun eb τ6 n6 s6 v6 => ?_
    replace v6 : τ6 eb = some ⟨tris [⟨I, O, A⟩], false⟩ := v6
    refine r_pushC (g := gb) (e := eb) (o := 0) (cs := cs) (ds := [⟨I, O, A⟩]) (m := 1) (len := cs.length) el29 (by omega) sl29 (by simp -implicitDefEqProofs (disch := omega) only [List.any_cons, List.any_nil, Nat.reduceEqDiff, List.map_cons, List.map_nil, Option.map_some, Option.map_none, List.nil_append, ↓reduceIte, vcu, ↓vcd]) (s6 _ _ v4) rfl (by simp -implicitDefEqProofs (disch := omega) only [List.any_cons, List.any_nil, Nat.reduceEqDiff, List.map_cons, List.map_nil, Option.map_some, Option.map_none, List.nil_append, ↓reduceIte, vcu, ↓vcd]) (trisAt_own v6) rfl (by omega) fun g τ7 n7 k7 v7 => ?_
    rw [← halfway_nil s cs A B I O] at v7
    have s7 : Sub τ τ7 := k7.sub (s4.trans s6) nb
    have ng : τ g = none := free_sub (s4.trans s6) n7
    have l7 := m3 τ7 s7
    have hbg : b ≠ g := ne_of' ng f1
    have hmeet0 := meeting_at (w0 := w0) τ7 s g 0 (halfway s cs A B I O []) cs.length (trisAt_own v7) (by rw [halfway_length]; omega) hEE.1 (hnn [] A B) (by rw [halfway_length]; omega)
    rw [halfway_length] at hmeet0
    clear v6 n6 s6 k7 n7 v4 nb s4 l4 li4 lo4
    simp -implicitDefEqProofs (disch := omega) only [List.any_cons, List.any_nil, Nat.reduceEqDiff, List.map_cons, List.map_nil, Option.map_some, Option.map_none, List.nil_append, ↓reduceIte, vcu, ↓vcd, l7, co24]
    refine hmeet0.mono ?_
    clear hmeet0
    rintro _ _ ⟨rfl, z0, rfl, hz0⟩
    rename_i τ7
    have hz := hmt hst (.inl ⟨rfl, rfl, rfl, rfl⟩) hz0
    subst hz
    clear hz0
    simp -implicitDefEqProofs (disch := omega) only [List.any_cons, List.any_nil, Nat.reduceEqDiff, List.map_cons, List.map_nil, Option.map_some, Option.map_none, List.nil_append, ↓reduceIte, vcu, ↓vcd, opK_some]
    refine vc_loop_c mixed (by kernel_rfl) [1, 4, 10, 12, 13] (fun m a τ' => ∃ (ch : List Nat) (sd : Bool) (x : Int), a 14 = .int .i64 (nI (nxt s cs ch sd x (wantOf A B sd) cs.length)) ∧ τ' g = some ⟨tris (halfway s cs A B I O ch), false⟩ ∧ Kept g τ7 τ' ∧ Inv s cs A B (O / s.E) ch sd x ∧ cs.length ≤ ch.length + m ∧ go s cs A B m ch sd x = C) cs.length ⟨[], true, O / s.E, rfl, v7, Kept.refl _ _, hst, by simp, hCC⟩ ?_
    clear hCC hst v7 l7
    rintro m a τ8 hc ⟨ch, sd, x, h14, vg, hkp, hinv, hlen, hgo⟩
    simp -implicitDefEqProofs (disch := omega) only [List.any_cons, List.any_nil, Nat.reduceEqDiff, List.map_cons, List.map_nil, Option.map_some, Option.map_none, List.nil_append, ↓reduceIte, vcu, ↓vcd] at hc
    obtain ⟨h1, h4, h10, h12, h13, -⟩ := hc
    have s8 : Sub τ τ8 := hkp.sub s7 ng
    have l8 := m3 τ8 s8
    cases hn : nxt s cs ch sd x (wantOf A B sd) cs.length with
    | none =>
      rw [go_none hn] at hgo
      subst hgo
      rw [hn] at h14
      have e14 : nI none = -1 := rfl
      rw [e14] at h14
      simp -implicitDefEqProofs (disch := omega) only [List.any_cons, List.any_nil, Nat.reduceEqDiff, List.map_cons, List.map_nil, Option.map_some, Option.map_none, List.nil_append, ↓reduceIte, vcu, ↓vcd, h1, h4, h10, h12, h13, h14]
      refine fin_two Try.results52 ⟨.slice (some ⟨g, 0, none⟩) (cs.length + 1) 3, ?_, s0.trans s8, .inr ⟨g, by simp [flip_length], vg, free_sub s0 ng⟩⟩
      simp -implicitDefEqProofs (disch := omega) only [List.any_cons, List.any_nil, Nat.reduceEqDiff, List.map_cons, List.map_nil, Option.map_some, Option.map_none, List.nil_append, ↓reduceIte, vcu, ↓vcd, h10]
    | some k =>
      rw [hn] at h14
      have e14 : nI (some k) = (k : Int) := rfl
      rw [e14] at h14
      have hroom := hinv.room hn
      obtain ⟨m', rfl⟩ : ∃ m', m = m' + 1 := ⟨m - 1, by omega⟩
      rw [go_some hn] at hgo
      have hinv' := Inv.step hC hne hfr hinv hn
      obtain ⟨hkl, ⟨-, hkv⟩, hkm⟩ := nxt_some hn
      obtain ⟨st1, st2⟩ := halfway_step (a := A) (b := B) (s := s) (i := I) (o := O) hkl hkm
      obtain ⟨-, -, x3⟩ := trisAt_own vg k (by rw [halfway_length]; omega)
      have hgk : (halfway s cs A B I O ch).getD k cl0 = gc (halfway s cs A B I O ch) k := rfl
      rw [hgk, st2, Nat.zero_add] at x3
      have hvb : 0 ≤ (gc cs k).v ∧ (gc cs k).v ≤ s.M - 1 := (hR _ (gc_mem hkl)).2.2
      have htv := tris_via (cs := halfway s cs A B I O ch) (k := k) (by rw [halfway_length]; omega) (A + B - (gc cs k).v)
      rw [st2, st1] at htv
      have hA1 := hwa.1
      have hB1 := hwb.1
      simp -implicitDefEqProofs (disch := omega) only [List.any_cons, List.any_nil, Nat.reduceEqDiff, List.map_cons, List.map_nil, Option.map_some, Option.map_none, List.nil_append, ↓reduceIte, vcu, ↓vcd, h1, h4, h10, h12, h13, h14, x3, Int.toNat_natCast, Nat.zero_add]
      refine r_set (g := g) (i := k * 3 + 2) (by simp -implicitDefEqProofs (disch := omega) only [List.any_cons, List.any_nil, Nat.reduceEqDiff, List.map_cons, List.map_nil, Option.map_some, Option.map_none, List.nil_append, ↓reduceIte, vcu, ↓vcd, Nat.zero_add, Int.toNat_natCast]) (by simp -implicitDefEqProofs (disch := omega) only [List.any_cons, List.any_nil, Nat.reduceEqDiff, List.map_cons, List.map_nil, Option.map_some, Option.map_none, List.nil_append, ↓reduceIte, vcu, ↓vcd]; rfl) co3 (by simp -implicitDefEqProofs (disch := omega) only [List.any_cons, List.any_nil, Nat.reduceEqDiff, List.map_cons, List.map_nil, Option.map_some, Option.map_none, List.nil_append, ↓reduceIte, vcu, ↓vcd]; rfl) vg (by rw [tris_length, halfway_length]; omega) fun τ9 k9 e9 => ?_
      simp -implicitDefEqProofs (disch := omega) only [List.any_cons, List.any_nil, Nat.reduceEqDiff, List.map_cons, List.map_nil, Option.map_some, Option.map_none, List.nil_append, ↓reduceIte, vcu, ↓vcd] at e9
      rw [htv] at e9
      have hkp9 := hkp.trans k9
      have s9 : Sub τ τ9 := hkp9.sub s7 ng
      have l9 := m3 τ9 s9
      have hmeet := meeting_at (w0 := w0) τ9 s g 0 (halfway s cs A B I O (ch ++ [k])) k (trisAt_own e9) (by rw [halfway_length]; omega) hEE.1 (hnn _ A B) (by rw [halfway_length]; omega)
      rw [halfway_length] at hmeet
      simp -implicitDefEqProofs (disch := omega) only [List.any_cons, List.any_nil, Nat.reduceEqDiff, List.map_cons, List.map_nil, Option.map_some, Option.map_none, List.nil_append, ↓reduceIte, vcu, ↓vcd, h1, h4, h10, h12, h13, h14, l9, co24]
      refine hmeet.mono ?_
      clear hmeet
      rintro _ _ ⟨rfl, z1, rfl, hz1⟩
      rename_i τ9
      have hz := hmt hinv' (hcs hn) hz1
      subst hz
      simp -implicitDefEqProofs (disch := omega) only [List.any_cons, List.any_nil, Nat.reduceEqDiff, List.map_cons, List.map_nil, Option.map_some, Option.map_none, List.nil_append, ↓reduceIte, vcu, ↓vcd, opK_some, h1, h4, h10, h12, h13]
      exact ⟨⟨trivial, trivial, trivial, trivial, trivial, trivial⟩, m', by omega, ch ++ [k], !sd, _, rfl, e9, hkp9, hinv', by simp; omega, hgo⟩
end Go.Proofs.Ytphacjkogompoaa
