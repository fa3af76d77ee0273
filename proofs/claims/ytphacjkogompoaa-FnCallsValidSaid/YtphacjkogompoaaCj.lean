/- CallMove of the reference. -/
import Derived.Test.YtphacjkogompoaaCi
set_option linter.unusedSimpArgs false
set_option linter.unusedVariables false
namespace Go.Proofs.Ytphacjkogompoaa
open Go Go.Abs Go.RowKit Go.Clos
variable {w0 : World}

def mvOk (s : Sp) (cs : List Cl) (i o : Int) : Prop := (CV s cs ∧ Enough s) ∧ Lines s i o ∧ ¬ Busy cs i o
instance (s : Sp) (cs : List Cl) (i o : Int) : Decidable (mvOk s cs i o) := by unfold mvOk; infer_instance
def mvL (s : Sp) (cs : List Cl) (i o : Int) : List Cl := if CV s cs ∧ Enough s then if mvOk s cs i o then moveL s cs i o else cs else []
theorem mvL_no {s : Sp} {cs : List Cl} {i o : Int} (h : ¬ (CV s cs ∧ Enough s)) : mvL s cs i o = [] := by unfold mvL; rw [if_neg h]
theorem mvL_same {s : Sp} {cs : List Cl} {i o : Int} (h : CV s cs ∧ Enough s) (h2 : ¬ mvOk s cs i o) : mvL s cs i o = cs := by unfold mvL; rw [if_pos h, if_neg h2]
theorem mvL_ok {s : Sp} {cs : List Cl} {i o : Int} (h2 : mvOk s cs i o) : mvL s cs i o = moveL s cs i o := by unfold mvL; rw [if_pos h2.1, if_pos h2]
theorem ownI_lenC {β σ : AHeap} {v : Value} {xs : List Int} (h : OwnI β σ v xs) : alenV Try.prog 37 v = some (.int .i64 (xs.length : Int)) := by
  rcases h with ⟨rfl, rfl⟩ | ⟨g, rfl, -, -⟩
  · exact alenV_slice Try.underlying37
  · exact alenV_slice Try.underlying37
theorem rowI_of {β σ : AHeap} {v : Value} {xs : List Int} (h : OwnI β σ v xs) (h0 : 0 < xs.length) : ∃ g, v = .slice (some ⟨g, 0, none⟩) xs.length 1 ∧ σ g = some ⟨ints .i64 xs, false⟩ ∧ β g = none := by
  rcases h with ⟨_, rfl⟩ | ⟨g, e1, e2, e3⟩
  · simp at h0
  · exact ⟨g, e1, e2, e3⟩

theorem all_le {s : Sp} {cs : List Cl} {a b B : Int} {ch : List Nat} {sd : Bool} {x : Int} (h : Inv s cs a b B ch sd x) : ch.length ≤ cs.length := by
  have := sub_len (xs := ch) (ys := List.range cs.length) h.nd fun y hy => List.mem_range.2 (h.lt y hy)
  simpa using this
set_option maxRecDepth 8000 in
set_option maxHeartbeats 1600000 in
theorem specMove_at (σ : AHeap) (s : Sp) (h o : Nat) (cs : List Cl) (I O : Int) (hv : TrisAt σ h o cs) (hl : cs.length ≤ 1048576) :
    ACall Try.prog w0 53 [.agg #[.int .i64 s.O, .int .i64 s.E, .int .i64 s.M], .slice (some ⟨h, o, none⟩) cs.length 3, .int .i64 I, .int .i64 O] σ fun r σ' => ∃ v, r = .tuple #[v, .bool (decide (mvOk s cs I O))] ∧ Sub σ σ' ∧ OwnC σ σ' v (mvL s cs I O) := by
  refine acall_go mixed Try.func53 rfl good53 fun pr => ?_
  simp -implicitDefEqProofs (disch := omega) only [List.any_cons, List.any_nil, Nat.reduceEqDiff, List.map_cons, List.map_nil, Option.map_some, Option.map_none, List.nil_append, ↓reduceIte, vcu, ↓vcd]
  refine r_boxed fun b τ nb s1 e1 => ?_
  replace e1 : τ b = some ⟨[.int .i64 s.O, .int .i64 s.E, .int .i64 s.M], false⟩ := e1
  have m3 : ∀ τ', Sub τ τ' → lds τ' b 0 3 = some [.int .i64 s.O, .int .i64 s.E, .int .i64 s.M] := fun τ' hs => lds_three (ld_of (hs _ _ e1) rfl) (ld_of (hs _ _ e1) rfl) (ld_of (hs _ _ e1) rfl)
  have mE : ∀ τ', Sub τ τ' → ld τ' b (0 + 1) = some (.int .i64 s.E) := fun τ' hs => ld_of (hs _ _ e1) rfl
  have l3 := m3 τ (Sub.refl _)
  simp -implicitDefEqProofs (disch := omega) only [List.any_cons, List.any_nil, Nat.reduceEqDiff, List.map_cons, List.map_nil, Option.map_some, Option.map_none, List.nil_append, ↓reduceIte, vcu, ↓vcd, l3, co24]
  refine (specCV_at τ s.O s.E s.M h o cs (hv.sub s1) hl).mono ?_
  rintro r _ ⟨rfl, rfl⟩
  rename_i τ
  by_cases hC : CV s cs
  case neg =>
    rw [decide_eq_false hC, mvL_no fun hh => hC hh.1, decide_eq_false fun hh : mvOk s cs I O => hC hh.1.1]
    simp -implicitDefEqProofs (disch := omega) only [List.any_cons, List.any_nil, Nat.reduceEqDiff, List.map_cons, List.map_nil, Option.map_some, Option.map_none, List.nil_append, ↓reduceIte, vcu, ↓vcd, opK_some, Bool.not_false]
    refine r_lit el29 (out := #[]) (by kernel_rfl) (by kernel_rfl) fun ea τ3 n3 s3 v3 => ?_
    simp -implicitDefEqProofs (disch := omega) only [List.any_cons, List.any_nil, Nat.reduceEqDiff, List.map_cons, List.map_nil, Option.map_some, Option.map_none, List.nil_append, ↓reduceIte, vcu, ↓vcd]
    refine fin_two Try.results53 ⟨.slice (some ⟨ea, 0, none⟩) 0 3, ?_, s1.trans s3, .inr ⟨ea, rfl, v3, free_sub s1 n3⟩⟩
    simp -implicitDefEqProofs (disch := omega) only [List.any_cons, List.any_nil, Nat.reduceEqDiff, List.map_cons, List.map_nil, Option.map_some, Option.map_none, List.nil_append, ↓reduceIte, vcu, ↓vcd]
  rw [decide_eq_true hC]
  simp -implicitDefEqProofs (disch := omega) only [List.any_cons, List.any_nil, Nat.reduceEqDiff, List.map_cons, List.map_nil, Option.map_some, Option.map_none, List.nil_append, ↓reduceIte, vcu, ↓vcd, opK_some, Bool.not_true, l3, co24]
  refine (specEnough_at τ s.O s.E s.M).mono ?_
  rintro r _ ⟨rfl, rfl⟩
  rename_i τ
  by_cases hE : Enough s
  case neg =>
    rw [decide_eq_false hE, mvL_no fun hh => hE hh.2, decide_eq_false fun hh : mvOk s cs I O => hE hh.1.2]
    simp -implicitDefEqProofs (disch := omega) only [List.any_cons, List.any_nil, Nat.reduceEqDiff, List.map_cons, List.map_nil, Option.map_some, Option.map_none, List.nil_append, ↓reduceIte, vcu, ↓vcd, opK_some, Bool.not_false]
    refine r_lit el29 (out := #[]) (by kernel_rfl) (by kernel_rfl) fun ea τ3 n3 s3 v3 => ?_
    simp -implicitDefEqProofs (disch := omega) only [List.any_cons, List.any_nil, Nat.reduceEqDiff, List.map_cons, List.map_nil, Option.map_some, Option.map_none, List.nil_append, ↓reduceIte, vcu, ↓vcd]
    refine fin_two Try.results53 ⟨.slice (some ⟨ea, 0, none⟩) 0 3, ?_, s1.trans s3, .inr ⟨ea, rfl, v3, free_sub s1 n3⟩⟩
    simp -implicitDefEqProofs (disch := omega) only [List.any_cons, List.any_nil, Nat.reduceEqDiff, List.map_cons, List.map_nil, Option.map_some, Option.map_none, List.nil_append, ↓reduceIte, vcu, ↓vcd]
  rw [decide_eq_true hE]
  have hS := hC.1
  have hLn := hS.lines
  have hEE := hS.2.1
  have hMM := hS.2.2
  have hl12 := hC.len
  simp -implicitDefEqProofs (disch := omega) only [List.any_cons, List.any_nil, Nat.reduceEqDiff, List.map_cons, List.map_nil, Option.map_some, Option.map_none, List.nil_append, ↓reduceIte, vcu, ↓vcd, opK_some, Bool.not_true]
  refine r_lit el29 (out := #[]) (by kernel_rfl) (by kernel_rfl) fun ea τ3 n3 s3 v3 => ?_
  simp -implicitDefEqProofs (disch := omega) only [List.any_cons, List.any_nil, Nat.reduceEqDiff, List.map_cons, List.map_nil, Option.map_some, Option.map_none, List.nil_append, ↓reduceIte, vcu, ↓vcd]
  refine r_pushC (g := ea) (e := h) (o := o) (cs := []) (ds := cs) (m := cs.length) (len := 0) el29 (by omega) sl29 (by simp -implicitDefEqProofs (disch := omega) only [List.any_cons, List.any_nil, Nat.reduceEqDiff, List.map_cons, List.map_nil, Option.map_some, Option.map_none, List.nil_append, ↓reduceIte, vcu, ↓vcd]) v3 rfl (by simp -implicitDefEqProofs (disch := omega) only [List.any_cons, List.any_nil, Nat.reduceEqDiff, List.map_cons, List.map_nil, Option.map_some, Option.map_none, List.nil_append, ↓reduceIte, vcu, ↓vcd]) (hv.sub (s1.trans s3)) rfl (by omega) fun gb τ4 n4 k4 v4 => ?_
  rw [List.nil_append] at v4
  have hs4 : Sub τ τ4 := k4.sub s3 n3
  have nτb : τ gb = none := free_sub s3 n4
  have nσb : σ gb = none := free_sub s1 nτb
  have l4 := m3 τ4 hs4
  clear v3 n3 s3 k4 n4
  have hso := fun (hh : ¬ mvOk s cs I O) => (⟨mvL_same ⟨hC, hE⟩ hh, decide_eq_false hh⟩ : mvL s cs I O = cs ∧ decide (mvOk s cs I O) = false)
  simp -implicitDefEqProofs (disch := omega) only [List.any_cons, List.any_nil, Nat.reduceEqDiff, List.map_cons, List.map_nil, Option.map_some, Option.map_none, List.nil_append, ↓reduceIte, vcu, ↓vcd, l4, co24, Nat.zero_add]
  refine (specLines_at τ4 s.O s.E s.M hS).mono ?_
  rintro r _ ⟨rfl, rfl⟩
  rename_i τ4
  simp -implicitDefEqProofs (disch := omega) only [List.any_cons, List.any_nil, Nat.reduceEqDiff, List.map_cons, List.map_nil, Option.map_some, Option.map_none, List.nil_append, ↓reduceIte, vcu, ↓vcd, opK_some]
  refine (in_calls τ4 I 0 (s.O * s.E - 1)).mono ?_
  rintro r _ ⟨rfl, rfl⟩
  rename_i τ4
  by_cases hI : 0 ≤ I ∧ I ≤ s.O * s.E - 1
  case neg =>
    obtain ⟨q1, q2⟩ := hso fun hh => hI hh.2.1.1
    rw [decide_eq_false hI, q1, q2]
    simp -implicitDefEqProofs (disch := omega) only [List.any_cons, List.any_nil, Nat.reduceEqDiff, List.map_cons, List.map_nil, Option.map_some, Option.map_none, List.nil_append, ↓reduceIte, vcu, ↓vcd, opK_some, Bool.not_false]
    refine fin_two Try.results53 ⟨.slice (some ⟨gb, 0, none⟩) cs.length 3, ?_, s1.trans hs4, .inr ⟨gb, rfl, v4, nσb⟩⟩
    simp -implicitDefEqProofs (disch := omega) only [List.any_cons, List.any_nil, Nat.reduceEqDiff, List.map_cons, List.map_nil, Option.map_some, Option.map_none, List.nil_append, ↓reduceIte, vcu, ↓vcd]
  rw [decide_eq_true hI]
  simp -implicitDefEqProofs (disch := omega) only [List.any_cons, List.any_nil, Nat.reduceEqDiff, List.map_cons, List.map_nil, Option.map_some, Option.map_none, List.nil_append, ↓reduceIte, vcu, ↓vcd, opK_some, Bool.not_true, l4, co24]
  refine (specLines_at τ4 s.O s.E s.M hS).mono ?_
  rintro r _ ⟨rfl, rfl⟩
  rename_i τ4
  simp -implicitDefEqProofs (disch := omega) only [List.any_cons, List.any_nil, Nat.reduceEqDiff, List.map_cons, List.map_nil, Option.map_some, Option.map_none, List.nil_append, ↓reduceIte, vcu, ↓vcd, opK_some]
  refine (in_calls τ4 O 0 (s.O * s.E - 1)).mono ?_
  rintro r _ ⟨rfl, rfl⟩
  rename_i τ4
  by_cases hO : 0 ≤ O ∧ O ≤ s.O * s.E - 1
  case neg =>
    obtain ⟨q1, q2⟩ := hso fun hh => hO hh.2.1.2
    rw [decide_eq_false hO, q1, q2]
    simp -implicitDefEqProofs (disch := omega) only [List.any_cons, List.any_nil, Nat.reduceEqDiff, List.map_cons, List.map_nil, Option.map_some, Option.map_none, List.nil_append, ↓reduceIte, vcu, ↓vcd, opK_some, Bool.not_false]
    refine fin_two Try.results53 ⟨.slice (some ⟨gb, 0, none⟩) cs.length 3, ?_, s1.trans hs4, .inr ⟨gb, rfl, v4, nσb⟩⟩
    simp -implicitDefEqProofs (disch := omega) only [List.any_cons, List.any_nil, Nat.reduceEqDiff, List.map_cons, List.map_nil, Option.map_some, Option.map_none, List.nil_append, ↓reduceIte, vcu, ↓vcd]
  rw [decide_eq_true hO]
  simp -implicitDefEqProofs (disch := omega) only [List.any_cons, List.any_nil, Nat.reduceEqDiff, List.map_cons, List.map_nil, Option.map_some, Option.map_none, List.nil_append, ↓reduceIte, vcu, ↓vcd, opK_some, Bool.not_true]
  refine (specBusy_at τ4 h o cs I O (hv.sub (s1.trans hs4)) hl).mono ?_
  rintro r _ ⟨rfl, rfl⟩
  rename_i τ4
  by_cases hB : Busy cs I O
  · obtain ⟨q1, q2⟩ := hso fun hh => hh.2.2 hB
    rw [decide_eq_true hB, q1, q2]
    simp -implicitDefEqProofs (disch := omega) only [List.any_cons, List.any_nil, Nat.reduceEqDiff, List.map_cons, List.map_nil, Option.map_some, Option.map_none, List.nil_append, ↓reduceIte, vcu, ↓vcd, opK_some]
    refine fin_two Try.results53 ⟨.slice (some ⟨gb, 0, none⟩) cs.length 3, ?_, s1.trans hs4, .inr ⟨gb, rfl, v4, nσb⟩⟩
    simp -implicitDefEqProofs (disch := omega) only [List.any_cons, List.any_nil, Nat.reduceEqDiff, List.map_cons, List.map_nil, Option.map_some, Option.map_none, List.nil_append, ↓reduceIte, vcu, ↓vcd]
  have hok : mvOk s cs I O := ⟨⟨hC, hE⟩, ⟨hI, hO⟩, hB⟩
  have hLi : Lines s I O := ⟨hI, hO⟩
  rw [decide_eq_false hB, mvL_ok hok, decide_eq_true hok]
  clear hso
  simp -implicitDefEqProofs (disch := omega) only [List.any_cons, List.any_nil, Nat.reduceEqDiff, List.map_cons, List.map_nil, Option.map_some, Option.map_none, List.nil_append, ↓reduceIte, vcu, ↓vcd, opK_some, l4, co24]
  refine (specFree_at τ4 s h o cs I O (hv.sub (s1.trans hs4)) hl).mono ?_
  rintro vf τ5 ⟨s5, wf⟩
  have hs5 := hs4.trans s5
  have hlf := ownI_lenC wf
  have v5 := s5 _ _ v4
  cases hf : freeV s cs I O with
  | cons v0 vs =>
    have hml : moveL s cs I O = cs ++ [⟨I, O, v0⟩] := by unfold moveL; rw [hf]
    rw [hf] at wf hlf
    obtain ⟨gf, rfl, wf1, -⟩ := rowI_of wf (by simp)
    have lx := intsAt_own wf1 0 (by simp)
    have hg0 : (v0 :: vs).getD 0 0 = v0 := rfl
    rw [hg0] at lx
    have hpos : (0 : Int) < ((v0 :: vs).length : Int) := by simp
    have hpos' : 0 < (v0 :: vs).length := by simp
    rw [hml]
    generalize (v0 :: vs).length = lf at hlf hpos hpos'
    simp -implicitDefEqProofs (disch := omega) only [List.any_cons, List.any_nil, Nat.reduceEqDiff, List.map_cons, List.map_nil, Option.map_some, Option.map_none, List.nil_append, ↓reduceIte, vcu, ↓vcd, opK_some, hlf, lx, Int.toNat_zero, Nat.mul_one]
    rw [r_build]
    refine ⟨(_, #[.int .i64 I, .int .i64 O, .int .i64 v0]), ⟨ze34, by simp -implicitDefEqProofs (disch := omega) only [List.any_cons, List.any_nil, Nat.reduceEqDiff, List.map_cons, List.map_nil, Option.map_some, Option.map_none, List.nil_append, ↓reduceIte, vcu, ↓vcd]; kernel_rfl⟩, ?_⟩
    simp -implicitDefEqProofs (disch := omega) only [List.any_cons, List.any_nil, Nat.reduceEqDiff, List.map_cons, List.map_nil, Option.map_some, Option.map_none, List.nil_append, ↓reduceIte, vcu, ↓vcd]
    refine r_lit el29 (out := #[.int .i64 I, .int .i64 O, .int .i64 v0]) (by first | kernel_rfl | (simp -implicitDefEqProofs (disch := omega) only [List.any_cons, List.any_nil, Nat.reduceEqDiff, List.map_cons, List.map_nil, Option.map_some, Option.map_none, List.nil_append, ↓reduceIte, vcu, ↓vcd]; kernel_rfl)) (by rfl) fun eb τ6 n6 s6 v6 => ?_
    replace v6 : τ6 eb = some ⟨tris [⟨I, O, v0⟩], false⟩ := v6
    refine r_pushC (g := gb) (e := eb) (o := 0) (cs := cs) (ds := [⟨I, O, v0⟩]) (m := 1) (len := cs.length) el29 (by omega) sl29 (by simp -implicitDefEqProofs (disch := omega) only [List.any_cons, List.any_nil, Nat.reduceEqDiff, List.map_cons, List.map_nil, Option.map_some, Option.map_none, List.nil_append, ↓reduceIte, vcu, ↓vcd]) (s6 _ _ v5) rfl (by simp -implicitDefEqProofs (disch := omega) only [List.any_cons, List.any_nil, Nat.reduceEqDiff, List.map_cons, List.map_nil, Option.map_some, Option.map_none, List.nil_append, ↓reduceIte, vcu, ↓vcd]) (trisAt_own v6) rfl (by omega) fun gc9 τ9 n9 k9 v9 => ?_
    have s9 : Sub τ τ9 := k9.sub (hs5.trans s6) nτb
    simp -implicitDefEqProofs (disch := omega) only [List.any_cons, List.any_nil, Nat.reduceEqDiff, List.map_cons, List.map_nil, Option.map_some, Option.map_none, List.nil_append, ↓reduceIte, vcu, ↓vcd]
    refine fin_two Try.results53 ⟨.slice (some ⟨gc9, 0, none⟩) (cs.length + 1) 3, ?_, s1.trans s9, .inr ⟨gc9, by simp, v9, free_sub (s1.trans (hs5.trans s6)) n9⟩⟩
    simp -implicitDefEqProofs (disch := omega) only [List.any_cons, List.any_nil, Nat.reduceEqDiff, List.map_cons, List.map_nil, Option.map_some, Option.map_none, List.nil_append, ↓reduceIte, vcu, ↓vcd]
  | nil =>
    have hwa := wayA_ok hE hC hLi hB
    have hwb := wayB_ok hE hC hLi hB
    have hne := way_ne hE hC hLi hB hf
    have hfr := way_free hE hC hLi hB
    have hml : moveL s cs I O = flip (wayA s cs I) (wayB s cs O) (chain s cs (wayA s cs I) (wayB s cs O) (O / s.E)) cs ++ [⟨I, O, wayA s cs I⟩] := by unfold moveL; rw [hf]
    have hch := chain_ok hE hC hLi hB hf
    have hA0 : firstN (usedI s cs (I / s.E)) s.M.toNat 0 = wayA s cs I := rfl
    have hB0 : firstN (usedO s cs (O / s.E)) s.M.toNat 0 = wayB s cs O := rfl
    have hst := inv_start hC hne hfr
    rw [hml]
    rw [hf] at hlf
    have hR := hC.2.1
    have hlI := (used_length s cs (I / s.E)).1
    have hlO := (used_length s cs (O / s.E)).2
    clear hml wf hf hok hLi hB
    have hCC : go s cs (wayA s cs I) (wayB s cs O) cs.length [] true (O / s.E) = chain s cs (wayA s cs I) (wayB s cs O) (O / s.E) := rfl
    generalize chain s cs (wayA s cs I) (wayB s cs O) (O / s.E) = C at *
    generalize wayA s cs I = A at *
    generalize wayB s cs O = B at *
    have l5 := m3 τ5 hs5
    have lE5 := mE τ5 hs5
    simp -implicitDefEqProofs (disch := omega) only [List.any_cons, List.any_nil, Nat.reduceEqDiff, List.map_cons, List.map_nil, Option.map_some, Option.map_none, List.nil_append, ↓reduceIte, vcu, ↓vcd, opK_some, hlf, List.length_nil, Int.natCast_zero]
    refine region_tree mixed (quiets [0, 1, 2, 3, 4, 5, 6] (.one 7 (.one 8 (quiets [9] .stop)))) [([0, 1, 2, 3, 4, 5, 6], Sub τ5)] (by kernel_rfl) (by kernel_rfl) (fun p hp => by simp only [List.mem_singleton] at hp; subst hp; exact Sub.refl _) ?_
    refine tree_quiets τ5 _ _ _ sf1 (by kernel_rfl) (by kernel_rfl) ?_
    simp -implicitDefEqProofs (disch := omega) only [List.any_cons, List.any_nil, Nat.reduceEqDiff, List.map_cons, List.map_nil, Option.map_some, Option.map_none, List.nil_append, ↓reduceIte, vcu, ↓vcd, pickOps_nil, pickOps_cons, pickO_some, List.getElem?_cons_succ, List.getElem?_cons_zero, l5, lE5, co24]
    refine tree_one rfl ?_
    simp -implicitDefEqProofs (disch := omega) only [List.any_cons, List.any_nil, Nat.reduceEqDiff, List.map_cons, List.map_nil, Option.map_some, Option.map_none, List.nil_append, ↓reduceIte, vcu, ↓vcd]
    refine (specUsedI_at τ5 s h o cs (I / s.E) (hv.sub (s1.trans hs5)) hl hR hS).mono ?_
    rintro vu τ6 ⟨s6, wu⟩
    simp -implicitDefEqProofs (disch := omega) only [List.any_cons, List.any_nil, Nat.reduceEqDiff, List.map_cons, List.map_nil, Option.map_some, Option.map_none, List.nil_append, ↓reduceIte, vcu, ↓vcd, opK_some]
    refine ⟨keep_of rfl (fun p hp => by simp only [List.mem_singleton] at hp; subst hp; exact .inr s6), tree_one rfl ?_⟩
    simp -implicitDefEqProofs (disch := omega) only [List.any_cons, List.any_nil, Nat.reduceEqDiff, List.map_cons, List.map_nil, Option.map_some, Option.map_none, List.nil_append, ↓reduceIte, vcu, ↓vcd]
    refine (ACall.ints_quiet (pre := [_]) (post := []) (by kernel_rfl) wu.ints fun σ1 g p _ hg => specFirst_at σ1 s.O s.E s.M g p _ hg (by omega) (by omega)).mono ?_
    rintro r τ7 ⟨rfl, e7⟩
    subst e7
    rw [hA0]
    simp -implicitDefEqProofs (disch := omega) only [List.any_cons, List.any_nil, Nat.reduceEqDiff, List.map_cons, List.map_nil, Option.map_some, Option.map_none, List.nil_append, ↓reduceIte, vcu, ↓vcd, opK_some]
    refine ⟨keep_of rfl (fun p hp => by simp only [List.mem_singleton] at hp; subst hp; exact .inr s6), ?_⟩
    refine tree_quiets (fun _ => none) _ _ _ (fun _ _ _ _ => fun x ob e => by cases e) (by kernel_rfl) (by kernel_rfl) ?_
    simp -implicitDefEqProofs (disch := omega) only [List.any_cons, List.any_nil, Nat.reduceEqDiff, List.map_cons, List.map_nil, Option.map_some, Option.map_none, List.nil_append, ↓reduceIte, vcu, ↓vcd, pickOps_nil, pickOps_cons, pickO_some, List.getElem?_cons_succ, List.getElem?_cons_zero]
    refine tree_stop ?_
    have hs6 := hs5.trans s6
    have l6 := m3 _ hs6
    have lE6 := mE _ hs6
    have v6 := s6 _ _ v5
    clear wu
    simp -implicitDefEqProofs (disch := omega) only [List.any_cons, List.any_nil, Nat.reduceEqDiff, List.map_cons, List.map_nil, Option.map_some, Option.map_none, List.nil_append, ↓reduceIte, vcu, ↓vcd]
    refine region_tree mixed (quiets [0, 1, 2, 3, 4, 5, 6] (.one 7 (.one 8 (quiets [9] .stop)))) [([0, 1, 2, 3, 4, 5, 6], Sub τ7)] (by kernel_rfl) (by kernel_rfl) (fun p hp => by simp only [List.mem_singleton] at hp; subst hp; exact Sub.refl _) ?_
    refine tree_quiets τ7 _ _ _ sf1 (by kernel_rfl) (by kernel_rfl) ?_
    simp -implicitDefEqProofs (disch := omega) only [List.any_cons, List.any_nil, Nat.reduceEqDiff, List.map_cons, List.map_nil, Option.map_some, Option.map_none, List.nil_append, ↓reduceIte, vcu, ↓vcd, pickOps_nil, pickOps_cons, pickO_some, List.getElem?_cons_succ, List.getElem?_cons_zero, l6, lE6, co24]
    refine tree_one rfl ?_
    simp -implicitDefEqProofs (disch := omega) only [List.any_cons, List.any_nil, Nat.reduceEqDiff, List.map_cons, List.map_nil, Option.map_some, Option.map_none, List.nil_append, ↓reduceIte, vcu, ↓vcd]
    refine (specUsedO_at τ7 s h o cs (O / s.E) (hv.sub (s1.trans hs6)) hl hR hS).mono ?_
    rintro vu τ8 ⟨s7, wu⟩
    simp -implicitDefEqProofs (disch := omega) only [List.any_cons, List.any_nil, Nat.reduceEqDiff, List.map_cons, List.map_nil, Option.map_some, Option.map_none, List.nil_append, ↓reduceIte, vcu, ↓vcd, opK_some]
    refine ⟨keep_of rfl (fun p hp => by simp only [List.mem_singleton] at hp; subst hp; exact .inr s7), tree_one rfl ?_⟩
    simp -implicitDefEqProofs (disch := omega) only [List.any_cons, List.any_nil, Nat.reduceEqDiff, List.map_cons, List.map_nil, Option.map_some, Option.map_none, List.nil_append, ↓reduceIte, vcu, ↓vcd]
    refine (ACall.ints_quiet (pre := [_]) (post := []) (by kernel_rfl) wu.ints fun σ1 g p _ hg => specFirst_at σ1 s.O s.E s.M g p _ hg (by omega) (by omega)).mono ?_
    rintro r τ9 ⟨rfl, e8⟩
    subst e8
    rw [hB0]
    simp -implicitDefEqProofs (disch := omega) only [List.any_cons, List.any_nil, Nat.reduceEqDiff, List.map_cons, List.map_nil, Option.map_some, Option.map_none, List.nil_append, ↓reduceIte, vcu, ↓vcd, opK_some]
    refine ⟨keep_of rfl (fun p hp => by simp only [List.mem_singleton] at hp; subst hp; exact .inr s7), ?_⟩
    refine tree_quiets (fun _ => none) _ _ _ (fun _ _ _ _ => fun x ob e => by cases e) (by kernel_rfl) (by kernel_rfl) ?_
    simp -implicitDefEqProofs (disch := omega) only [List.any_cons, List.any_nil, Nat.reduceEqDiff, List.map_cons, List.map_nil, Option.map_some, Option.map_none, List.nil_append, ↓reduceIte, vcu, ↓vcd, pickOps_nil, pickOps_cons, pickO_some, List.getElem?_cons_succ, List.getElem?_cons_zero]
    refine tree_stop ?_
    have hs9 := hs6.trans s7
    have v9 := s7 _ _ v6
    clear wu l5 lE5 l6 lE6 v6 v5 v4 l4 s5 s6 s7 hs6 hs5 hs4 hlI hlO hlf
    simp -implicitDefEqProofs (disch := omega) only [List.any_cons, List.any_nil, Nat.reduceEqDiff, List.map_cons, List.map_nil, Option.map_some, Option.map_none, List.nil_append, ↓reduceIte, vcu, ↓vcd]
    refine r_lit el37 (out := #[]) (by kernel_rfl) (by kernel_rfl) fun gc0 τ10 n10 s10 v10 => ?_
    have hs10 := hs9.trans s10
    have w10 := s10 _ _ v9
    have lE10 := mE _ hs10
    simp -implicitDefEqProofs (disch := omega) only [List.any_cons, List.any_nil, Nat.reduceEqDiff, List.map_cons, List.map_nil, Option.map_some, Option.map_none, List.nil_append, ↓reduceIte, vcu, ↓vcd, lE10]
    refine vc_loop_c mixed (by kernel_rfl) [2, 3, 4, 10, 12, 13] (fun m a τ' => ∃ (ch : List Nat) (sd : Bool) (x : Int) (gl : Nat), a 14 = .slice (some ⟨gl, 0, none⟩) ch.length 1 ∧ τ' gl = some ⟨ints .i64 (chI ch), false⟩ ∧ τ9 gl = none ∧ a 15 = .int .i64 (if sd = true then 1 else 0) ∧ a 16 = .int .i64 x ∧ a 17 = .int .i64 (wantOf A B sd) ∧ Sub τ9 τ' ∧ Inv s cs A B (O / s.E) ch sd x ∧ cs.length ≤ ch.length + m ∧ go s cs A B m ch sd x = C) cs.length ⟨[], true, O / s.E, gc0, rfl, v10, n10, rfl, rfl, rfl, s10, hst, by simp, hCC⟩ ?_
    clear hCC hst v10 n10 w10 lE10 s10 hs10
    rintro m a τ11 hc ⟨ch, sd, x, gl, h14, vl, nl, h15, h16, h17, hs11, hinv, hlen, hgo⟩
    simp -implicitDefEqProofs (disch := omega) only [List.any_cons, List.any_nil, Nat.reduceEqDiff, List.map_cons, List.map_nil, Option.map_some, Option.map_none, List.nil_append, ↓reduceIte, vcu, ↓vcd] at hc
    obtain ⟨h2, h3, h4, h10, h12, h13, -⟩ := hc
    have wb := hs11 _ _ v9
    have lE := mE _ (hs9.trans hs11)
    simp -implicitDefEqProofs (disch := omega) only [List.any_cons, List.any_nil, Nat.reduceEqDiff, List.map_cons, List.map_nil, Option.map_some, Option.map_none, List.nil_append, ↓reduceIte, vcu, ↓vcd, h2, h3, h4, h10, h12, h13, h14, h15, h16, h17]
    refine vc_loop_c mixed (by kernel_rfl) [2, 3, 4, 10, 12, 13, 14, 15, 16, 17] (fun m a τ' => ∃ k : Nat, m + k = cs.length ∧ a 19 = .int .i64 k ∧ a 18 = .int .i64 (nI (nxt s cs ch sd x (wantOf A B sd) k)) ∧ τ' = τ11) cs.length ⟨0, by simp, rfl, rfl, rfl⟩ ?_
    rintro m2 a2 τ12 hc2 ⟨k, hk, h19, h18, e12⟩
    subst e12
    simp -implicitDefEqProofs (disch := omega) only [List.any_cons, List.any_nil, Nat.reduceEqDiff, List.map_cons, List.map_nil, Option.map_some, Option.map_none, List.nil_append, ↓reduceIte, vcu, ↓vcd, h2, h3, h4, h10, h12, h13, h14, h15, h16, h17] at hc2
    obtain ⟨g2, g3, g4, g10, g12, g13, g14, g15, g16, g17, -⟩ := hc2
    by_cases hlt : k < cs.length
    · have hgk : cs.getD k cl0 = gc cs k := rfl
      obtain ⟨x1, x2, x3⟩ := trisAt_own wb k hlt
      rw [hgk] at x1 x2 x3
      have hm := hR _ (gc_mem hlt)
      have hnx := nxt_succ s cs ch sd x (wantOf A B sd) k
      have hh := has_at (w0 := w0) τ12 gl 0 (chI ch) k (intsAt_own vl) (by rw [chI_length]; have := all_le hinv; omega)
      rw [chI_length] at hh
      generalize gc cs k = c at x1 x2 x3 hm hnx
      obtain ⟨⟨a1, a2⟩, ⟨a3, a4⟩, -⟩ := hm
      cases sd with
      | true =>
        have w1 : wantOf A B true = A := rfl
        rw [w1] at g17 h18 hnx
        have e15 : (if (true : Bool) = true then (1 : Int) else 0) = 1 := rfl
        rw [e15] at g15
        by_cases c1 : c.o / s.E = x
        · by_cases c2 : c.v = A
          · simp -implicitDefEqProofs (disch := omega) only [List.any_cons, List.any_nil, Nat.reduceEqDiff, List.map_cons, List.map_nil, Option.map_some, Option.map_none, List.nil_append, ↓reduceIte, vcu, ↓vcd, g2, g3, g4, g10, g12, g13, g14, g15, g16, g17, h18, h19, x1, x2, x3, lE, Int.toNat_natCast, Nat.add_zero]
            refine hh.mono ?_
            rintro r τ13 ⟨rfl, e13⟩
            subst e13
            by_cases c3 : k ∈ ch
            · rw [decide_eq_true (mem_chI.2 c3)]
              rw [if_neg fun hh => hh.2 c3] at hnx
              simp -implicitDefEqProofs (disch := omega) only [List.any_cons, List.any_nil, Nat.reduceEqDiff, List.map_cons, List.map_nil, Option.map_some, Option.map_none, List.nil_append, ↓reduceIte, vcu, ↓vcd, opK_some, Bool.not_true, g2, g3, g4, g10, g12, g13, g14, g15, g16, g17, h18, h19]
              exact ⟨⟨(by first | trivial | rfl | exact Eq.symm (by assumption)), (by first | trivial | rfl | exact Eq.symm (by assumption)), (by first | trivial | rfl | exact Eq.symm (by assumption)), (by first | trivial | rfl | exact Eq.symm (by assumption)), (by first | trivial | rfl | exact Eq.symm (by assumption)), (by first | trivial | rfl | exact Eq.symm (by assumption)), (by first | trivial | rfl | exact Eq.symm (by assumption)), (by first | trivial | rfl | exact Eq.symm (by assumption)), (by first | trivial | rfl | exact Eq.symm (by assumption)), (by first | trivial | rfl | exact Eq.symm (by assumption)), (by first | trivial | rfl | exact Eq.symm (by assumption))⟩, m2 - 1, by omega, k + 1, by omega, by simp, by rw [w1, hnx], (by first | trivial | rfl | exact Eq.symm (by assumption))⟩
            · rw [decide_eq_false (fun hm => c3 (mem_chI.1 hm))]
              rw [if_pos ⟨⟨c1, c2⟩, c3⟩] at hnx
              simp -implicitDefEqProofs (disch := omega) only [List.any_cons, List.any_nil, Nat.reduceEqDiff, List.map_cons, List.map_nil, Option.map_some, Option.map_none, List.nil_append, ↓reduceIte, vcu, ↓vcd, opK_some, Bool.not_false, g2, g3, g4, g10, g12, g13, g14, g15, g16, g17, h18, h19]
              exact ⟨⟨(by first | trivial | rfl | exact Eq.symm (by assumption)), (by first | trivial | rfl | exact Eq.symm (by assumption)), (by first | trivial | rfl | exact Eq.symm (by assumption)), (by first | trivial | rfl | exact Eq.symm (by assumption)), (by first | trivial | rfl | exact Eq.symm (by assumption)), (by first | trivial | rfl | exact Eq.symm (by assumption)), (by first | trivial | rfl | exact Eq.symm (by assumption)), (by first | trivial | rfl | exact Eq.symm (by assumption)), (by first | trivial | rfl | exact Eq.symm (by assumption)), (by first | trivial | rfl | exact Eq.symm (by assumption)), (by first | trivial | rfl | exact Eq.symm (by assumption))⟩, m2 - 1, by omega, k + 1, by omega, by simp, by rw [w1, hnx], (by first | trivial | rfl | exact Eq.symm (by assumption))⟩
          · rw [if_neg fun hh => c2 hh.1.2] at hnx
            simp -implicitDefEqProofs (disch := omega) only [List.any_cons, List.any_nil, Nat.reduceEqDiff, List.map_cons, List.map_nil, Option.map_some, Option.map_none, List.nil_append, ↓reduceIte, vcu, ↓vcd, g2, g3, g4, g10, g12, g13, g14, g15, g16, g17, h18, h19, x1, x2, x3, lE, Int.toNat_natCast, Nat.add_zero]
            exact ⟨⟨(by first | trivial | rfl | exact Eq.symm (by assumption)), (by first | trivial | rfl | exact Eq.symm (by assumption)), (by first | trivial | rfl | exact Eq.symm (by assumption)), (by first | trivial | rfl | exact Eq.symm (by assumption)), (by first | trivial | rfl | exact Eq.symm (by assumption)), (by first | trivial | rfl | exact Eq.symm (by assumption)), (by first | trivial | rfl | exact Eq.symm (by assumption)), (by first | trivial | rfl | exact Eq.symm (by assumption)), (by first | trivial | rfl | exact Eq.symm (by assumption)), (by first | trivial | rfl | exact Eq.symm (by assumption)), (by first | trivial | rfl | exact Eq.symm (by assumption))⟩, m2 - 1, by omega, k + 1, by omega, by simp, by rw [w1, hnx], (by first | trivial | rfl | exact Eq.symm (by assumption))⟩
        · rw [if_neg fun hh => c1 hh.1.1] at hnx
          simp -implicitDefEqProofs (disch := omega) only [List.any_cons, List.any_nil, Nat.reduceEqDiff, List.map_cons, List.map_nil, Option.map_some, Option.map_none, List.nil_append, ↓reduceIte, vcu, ↓vcd, g2, g3, g4, g10, g12, g13, g14, g15, g16, g17, h18, h19, x1, x2, x3, lE, Int.toNat_natCast, Nat.add_zero]
          exact ⟨⟨(by first | trivial | rfl | exact Eq.symm (by assumption)), (by first | trivial | rfl | exact Eq.symm (by assumption)), (by first | trivial | rfl | exact Eq.symm (by assumption)), (by first | trivial | rfl | exact Eq.symm (by assumption)), (by first | trivial | rfl | exact Eq.symm (by assumption)), (by first | trivial | rfl | exact Eq.symm (by assumption)), (by first | trivial | rfl | exact Eq.symm (by assumption)), (by first | trivial | rfl | exact Eq.symm (by assumption)), (by first | trivial | rfl | exact Eq.symm (by assumption)), (by first | trivial | rfl | exact Eq.symm (by assumption)), (by first | trivial | rfl | exact Eq.symm (by assumption))⟩, m2 - 1, by omega, k + 1, by omega, by simp, by rw [w1, hnx], (by first | trivial | rfl | exact Eq.symm (by assumption))⟩
      | false =>
        have w1 : wantOf A B false = B := rfl
        rw [w1] at g17 h18 hnx
        have e15 : (if (false : Bool) = true then (1 : Int) else 0) = 0 := rfl
        rw [e15] at g15
        by_cases c1 : c.i / s.E = x
        · by_cases c2 : c.v = B
          · simp -implicitDefEqProofs (disch := omega) only [List.any_cons, List.any_nil, Nat.reduceEqDiff, List.map_cons, List.map_nil, Option.map_some, Option.map_none, List.nil_append, ↓reduceIte, vcu, ↓vcd, g2, g3, g4, g10, g12, g13, g14, g15, g16, g17, h18, h19, x1, x2, x3, lE, Int.toNat_natCast, Nat.add_zero]
            refine hh.mono ?_
            rintro r τ13 ⟨rfl, e13⟩
            subst e13
            by_cases c3 : k ∈ ch
            · rw [decide_eq_true (mem_chI.2 c3)]
              rw [if_neg fun hh => hh.2 c3] at hnx
              simp -implicitDefEqProofs (disch := omega) only [List.any_cons, List.any_nil, Nat.reduceEqDiff, List.map_cons, List.map_nil, Option.map_some, Option.map_none, List.nil_append, ↓reduceIte, vcu, ↓vcd, opK_some, Bool.not_true, g2, g3, g4, g10, g12, g13, g14, g15, g16, g17, h18, h19]
              exact ⟨⟨(by first | trivial | rfl | exact Eq.symm (by assumption)), (by first | trivial | rfl | exact Eq.symm (by assumption)), (by first | trivial | rfl | exact Eq.symm (by assumption)), (by first | trivial | rfl | exact Eq.symm (by assumption)), (by first | trivial | rfl | exact Eq.symm (by assumption)), (by first | trivial | rfl | exact Eq.symm (by assumption)), (by first | trivial | rfl | exact Eq.symm (by assumption)), (by first | trivial | rfl | exact Eq.symm (by assumption)), (by first | trivial | rfl | exact Eq.symm (by assumption)), (by first | trivial | rfl | exact Eq.symm (by assumption)), (by first | trivial | rfl | exact Eq.symm (by assumption))⟩, m2 - 1, by omega, k + 1, by omega, by simp, by rw [w1, hnx], (by first | trivial | rfl | exact Eq.symm (by assumption))⟩
            · rw [decide_eq_false (fun hm => c3 (mem_chI.1 hm))]
              rw [if_pos ⟨⟨c1, c2⟩, c3⟩] at hnx
              simp -implicitDefEqProofs (disch := omega) only [List.any_cons, List.any_nil, Nat.reduceEqDiff, List.map_cons, List.map_nil, Option.map_some, Option.map_none, List.nil_append, ↓reduceIte, vcu, ↓vcd, opK_some, Bool.not_false, g2, g3, g4, g10, g12, g13, g14, g15, g16, g17, h18, h19]
              exact ⟨⟨(by first | trivial | rfl | exact Eq.symm (by assumption)), (by first | trivial | rfl | exact Eq.symm (by assumption)), (by first | trivial | rfl | exact Eq.symm (by assumption)), (by first | trivial | rfl | exact Eq.symm (by assumption)), (by first | trivial | rfl | exact Eq.symm (by assumption)), (by first | trivial | rfl | exact Eq.symm (by assumption)), (by first | trivial | rfl | exact Eq.symm (by assumption)), (by first | trivial | rfl | exact Eq.symm (by assumption)), (by first | trivial | rfl | exact Eq.symm (by assumption)), (by first | trivial | rfl | exact Eq.symm (by assumption)), (by first | trivial | rfl | exact Eq.symm (by assumption))⟩, m2 - 1, by omega, k + 1, by omega, by simp, by rw [w1, hnx], (by first | trivial | rfl | exact Eq.symm (by assumption))⟩
          · rw [if_neg fun hh => c2 hh.1.2] at hnx
            simp -implicitDefEqProofs (disch := omega) only [List.any_cons, List.any_nil, Nat.reduceEqDiff, List.map_cons, List.map_nil, Option.map_some, Option.map_none, List.nil_append, ↓reduceIte, vcu, ↓vcd, g2, g3, g4, g10, g12, g13, g14, g15, g16, g17, h18, h19, x1, x2, x3, lE, Int.toNat_natCast, Nat.add_zero]
            exact ⟨⟨(by first | trivial | rfl | exact Eq.symm (by assumption)), (by first | trivial | rfl | exact Eq.symm (by assumption)), (by first | trivial | rfl | exact Eq.symm (by assumption)), (by first | trivial | rfl | exact Eq.symm (by assumption)), (by first | trivial | rfl | exact Eq.symm (by assumption)), (by first | trivial | rfl | exact Eq.symm (by assumption)), (by first | trivial | rfl | exact Eq.symm (by assumption)), (by first | trivial | rfl | exact Eq.symm (by assumption)), (by first | trivial | rfl | exact Eq.symm (by assumption)), (by first | trivial | rfl | exact Eq.symm (by assumption)), (by first | trivial | rfl | exact Eq.symm (by assumption))⟩, m2 - 1, by omega, k + 1, by omega, by simp, by rw [w1, hnx], (by first | trivial | rfl | exact Eq.symm (by assumption))⟩
        · rw [if_neg fun hh => c1 hh.1.1] at hnx
          simp -implicitDefEqProofs (disch := omega) only [List.any_cons, List.any_nil, Nat.reduceEqDiff, List.map_cons, List.map_nil, Option.map_some, Option.map_none, List.nil_append, ↓reduceIte, vcu, ↓vcd, g2, g3, g4, g10, g12, g13, g14, g15, g16, g17, h18, h19, x1, x2, x3, lE, Int.toNat_natCast, Nat.add_zero]
          exact ⟨⟨(by first | trivial | rfl | exact Eq.symm (by assumption)), (by first | trivial | rfl | exact Eq.symm (by assumption)), (by first | trivial | rfl | exact Eq.symm (by assumption)), (by first | trivial | rfl | exact Eq.symm (by assumption)), (by first | trivial | rfl | exact Eq.symm (by assumption)), (by first | trivial | rfl | exact Eq.symm (by assumption)), (by first | trivial | rfl | exact Eq.symm (by assumption)), (by first | trivial | rfl | exact Eq.symm (by assumption)), (by first | trivial | rfl | exact Eq.symm (by assumption)), (by first | trivial | rfl | exact Eq.symm (by assumption)), (by first | trivial | rfl | exact Eq.symm (by assumption))⟩, m2 - 1, by omega, k + 1, by omega, by simp, by rw [w1, hnx], (by first | trivial | rfl | exact Eq.symm (by assumption))⟩
    obtain rfl : k = cs.length := by omega
    cases hn : nxt s cs ch sd x (wantOf A B sd) cs.length with
    | none =>
      rw [hn] at h18
      have e18 : nI none = -1 := rfl
      rw [e18] at h18
      rw [go_none hn] at hgo
      subst hgo
      simp -implicitDefEqProofs (disch := omega) only [List.any_cons, List.any_nil, Nat.reduceEqDiff, List.map_cons, List.map_nil, Option.map_some, Option.map_none, List.nil_append, ↓reduceIte, vcu, ↓vcd, g2, g3, g4, g10, g12, g13, g14, g15, g16, g17, h18, h19]
      have hne2 : gl ≠ gb := ne_of nl v9
      have hAB : ∀ k, k ∈ ch → 0 ≤ A + B - (gc cs k).v ∧ A + B - (gc cs k).v ≤ 10 ∧ 0 ≤ (gc cs k).v := fun k hk => by
        have := hch.ab k hk
        have := hwa.1
        have := hwb.1
        omega
      have hchl := all_le hinv
      refine vc_loop_c mixed (by kernel_rfl) [2, 3, 10, 12, 13, 14] (fun m a τ' => ∃ j : Nat, m + j = ch.length ∧ a 21 = .int .i64 j ∧ Kept gb τ12 τ' ∧ τ' gb = some ⟨tris (flip A B (ch.take j) cs), false⟩) ch.length ⟨0, by simp, rfl, Kept.refl _ _, by simpa [flip_nil] using wb⟩ ?_
      rintro m3 a3 τ13 hc3 ⟨j, hj, h21, hK, hgb⟩
      simp -implicitDefEqProofs (disch := omega) only [List.any_cons, List.any_nil, Nat.reduceEqDiff, List.map_cons, List.map_nil, Option.map_some, Option.map_none, List.nil_append, ↓reduceIte, vcu, ↓vcd, g2, g3, g4, g10, g12, g13, g14] at hc3
      obtain ⟨q2, q3, q10, q12, q13, q14, -⟩ := hc3
      by_cases hjl : j < ch.length
      · have hkm : ch.getD j 0 ∈ ch := by simp [List.getD, hjl]
        have hkl := hch.lt _ hkm
        have hab := hAB _ hkm
        have hnt : ch.getD j 0 ∉ ch.take j := fun hm => by
          obtain ⟨i, hi, e⟩ := List.getElem_of_mem hm
          simp at hi
          have e1 : ch.getD j 0 = ch[j] := by simp [List.getD, hjl]
          rw [e1, List.getElem_take] at e
          have := (List.getElem_inj hch.nd).1 e
          omega
        have hts : ch.take (j + 1) = ch.take j ++ [ch.getD j 0] := by
          rw [List.take_succ_eq_append_getElem hjl]; simp [List.getD, hjl]
        have lk := intsAt_own (hK.at vl hne2) j (by rw [chI_length]; exact hjl)
        rw [chI_getD hjl] at lk
        obtain ⟨fs1, fs2⟩ := flip_step (a := A) (b := B) hkl hnt
        have hgf : (flip A B (ch.take j) cs).getD (ch.getD j 0) cl0 = gc (flip A B (ch.take j) cs) (ch.getD j 0) := rfl
        have hfl := flip_length A B (ch.take j) cs
        obtain ⟨-, -, x3⟩ := trisAt_own hgb (ch.getD j 0) (by omega)
        rw [hgf, fs2] at x3
        rw [← hts] at fs1
        generalize hkk : ch.getD j 0 = kk at *
        simp -implicitDefEqProofs (disch := omega) only [List.any_cons, List.any_nil, Nat.reduceEqDiff, List.map_cons, List.map_nil, Option.map_some, Option.map_none, List.nil_append, ↓reduceIte, vcu, ↓vcd, q2, q3, q10, q12, q13, q14, h21]
        refine region_tree mixed (quiets [0, 1, 2, 3, 4, 5, 6, 7, 8, 9, 10, 11, 12, 13, 14, 15, 16] (quiets [17, 18] (.one 19 .stop))) [([0, 1, 2, 3, 4, 5, 6, 7, 8, 9, 10, 11, 12, 13, 14, 15, 16], Sub τ13)] (by kernel_rfl) (by kernel_rfl) (fun p hp => by simp only [List.mem_singleton] at hp; subst hp; exact Sub.refl _) ?_
        refine tree_quiets τ13 _ _ _ sf1 (by kernel_rfl) (by kernel_rfl) ?_
        simp -implicitDefEqProofs (disch := omega) only [List.any_cons, List.any_nil, Nat.reduceEqDiff, List.map_cons, List.map_nil, Option.map_some, Option.map_none, List.nil_append, ↓reduceIte, vcu, ↓vcd, pickOps_nil, pickOps_cons, pickO_some, List.getElem?_cons_succ, List.getElem?_cons_zero, q2, q3, q10, q12, q13, q14, h21, lk, x3, Int.toNat_natCast]
        refine tree_quiets (fun _ => none) _ _ _ (fun _ _ _ _ => fun x ob e => by cases e) (by kernel_rfl) (by kernel_rfl) ?_
        simp -implicitDefEqProofs (disch := omega) only [List.any_cons, List.any_nil, Nat.reduceEqDiff, List.map_cons, List.map_nil, Option.map_some, Option.map_none, List.nil_append, ↓reduceIte, vcu, ↓vcd, pickOps_nil, pickOps_cons, pickO_some, List.getElem?_cons_succ, List.getElem?_cons_zero, q10, Int.toNat_natCast]
        refine tree_one rfl ?_
        refine r_set (g := gb) (i := kk * 3 + 2) (by simp -implicitDefEqProofs (disch := omega) only [List.any_cons, List.any_nil, Nat.reduceEqDiff, List.map_cons, List.map_nil, Option.map_some, Option.map_none, List.nil_append, ↓reduceIte, vcu, ↓vcd, Nat.zero_add]) (by simp -implicitDefEqProofs (disch := omega) only [List.any_cons, List.any_nil, Nat.reduceEqDiff, List.map_cons, List.map_nil, Option.map_some, Option.map_none, List.nil_append, ↓reduceIte, vcu, ↓vcd]; rfl) co3 (by simp -implicitDefEqProofs (disch := omega) only [List.any_cons, List.any_nil, Nat.reduceEqDiff, List.map_cons, List.map_nil, Option.map_some, Option.map_none, List.nil_append, ↓reduceIte, vcu, ↓vcd]; rfl) hgb (by rw [tris_length]; omega) fun τ14 k14 e14 => ?_
        simp -implicitDefEqProofs (disch := omega) only [List.any_cons, List.any_nil, Nat.reduceEqDiff, List.map_cons, List.map_nil, Option.map_some, Option.map_none, List.nil_append, ↓reduceIte, vcu, ↓vcd] at e14
        rw [(tris_set _ kk (by omega) _).2.2, hgf, fs2, fs1] at e14
        simp -implicitDefEqProofs (disch := omega) only [List.any_cons, List.any_nil, Nat.reduceEqDiff, List.map_cons, List.map_nil, Option.map_some, Option.map_none, List.nil_append, ↓reduceIte, vcu, ↓vcd]
        refine ⟨keep_of rfl (fun p hp => by simp only [List.mem_singleton] at hp; subst hp; exact .inl (by kernel_rfl)), tree_stop ?_⟩
        simp -implicitDefEqProofs (disch := omega) only [List.any_cons, List.any_nil, Nat.reduceEqDiff, List.map_cons, List.map_nil, Option.map_some, Option.map_none, List.nil_append, ↓reduceIte, vcu, ↓vcd, q2, q3, q10, q12, q13, q14, h21]
        exact ⟨⟨(by first | trivial | rfl | exact Eq.symm (by assumption)), (by first | trivial | rfl | exact Eq.symm (by assumption)), (by first | trivial | rfl | exact Eq.symm (by assumption)), (by first | trivial | rfl | exact Eq.symm (by assumption)), (by first | trivial | rfl | exact Eq.symm (by assumption)), (by first | trivial | rfl | exact Eq.symm (by assumption)), (by first | trivial | rfl | exact Eq.symm (by assumption))⟩, m3 - 1, by omega, j + 1, by omega, by simp, hK.trans k14, e14⟩
      obtain rfl : j = ch.length := by omega
      rw [List.take_length] at hgb
      have hfl := flip_length A B ch cs
      have hs13 : Sub τ τ13 := hK.sub (hs9.trans hs11) nτb
      simp -implicitDefEqProofs (disch := omega) only [List.any_cons, List.any_nil, Nat.reduceEqDiff, List.map_cons, List.map_nil, Option.map_some, Option.map_none, List.nil_append, ↓reduceIte, vcu, ↓vcd, q2, q3, q10, q12, q13, q14, h21]
      rw [r_build]
      refine ⟨(_, #[.int .i64 I, .int .i64 O, .int .i64 A]), ⟨ze34, by simp -implicitDefEqProofs (disch := omega) only [List.any_cons, List.any_nil, Nat.reduceEqDiff, List.map_cons, List.map_nil, Option.map_some, Option.map_none, List.nil_append, ↓reduceIte, vcu, ↓vcd, q2, q3, q12]; kernel_rfl⟩, ?_⟩
      simp -implicitDefEqProofs (disch := omega) only [List.any_cons, List.any_nil, Nat.reduceEqDiff, List.map_cons, List.map_nil, Option.map_some, Option.map_none, List.nil_append, ↓reduceIte, vcu, ↓vcd]
      refine r_lit el29 (out := #[.int .i64 I, .int .i64 O, .int .i64 A]) (by first | kernel_rfl | (simp -implicitDefEqProofs (disch := omega) only [List.any_cons, List.any_nil, Nat.reduceEqDiff, List.map_cons, List.map_nil, Option.map_some, Option.map_none, List.nil_append, ↓reduceIte, vcu, ↓vcd]; kernel_rfl)) (by rfl) fun eb τ6 n6 s6 v6 => ?_
      replace v6 : τ6 eb = some ⟨tris [⟨I, O, A⟩], false⟩ := v6
      refine r_pushC (g := gb) (e := eb) (o := 0) (cs := flip A B ch cs) (ds := [⟨I, O, A⟩]) (m := 1) (len := cs.length) el29 (by omega) sl29 (by simp -implicitDefEqProofs (disch := omega) only [List.any_cons, List.any_nil, Nat.reduceEqDiff, List.map_cons, List.map_nil, Option.map_some, Option.map_none, List.nil_append, ↓reduceIte, vcu, ↓vcd, q10]) (s6 _ _ hgb) hfl (by simp -implicitDefEqProofs (disch := omega) only [List.any_cons, List.any_nil, Nat.reduceEqDiff, List.map_cons, List.map_nil, Option.map_some, Option.map_none, List.nil_append, ↓reduceIte, vcu, ↓vcd]) (trisAt_own v6) rfl (by omega) fun gc9 τ15 n9 k9 v15 => ?_
      have s15 : Sub τ τ15 := k9.sub (hs13.trans s6) nτb
      simp -implicitDefEqProofs (disch := omega) only [List.any_cons, List.any_nil, Nat.reduceEqDiff, List.map_cons, List.map_nil, Option.map_some, Option.map_none, List.nil_append, ↓reduceIte, vcu, ↓vcd]
      refine fin_two Try.results53 ⟨.slice (some ⟨gc9, 0, none⟩) (cs.length + 1) 3, ?_, s1.trans s15, .inr ⟨gc9, by simp [hfl], v15, free_sub (s1.trans (hs13.trans s6)) n9⟩⟩
      simp -implicitDefEqProofs (disch := omega) only [List.any_cons, List.any_nil, Nat.reduceEqDiff, List.map_cons, List.map_nil, Option.map_some, Option.map_none, List.nil_append, ↓reduceIte, vcu, ↓vcd]
    | some k =>
      rw [hn] at h18
      have e18 : nI (some k) = (k : Int) := rfl
      rw [e18] at h18
      simp -implicitDefEqProofs (disch := omega) only [List.any_cons, List.any_nil, Nat.reduceEqDiff, List.map_cons, List.map_nil, Option.map_some, Option.map_none, List.nil_append, ↓reduceIte, vcu, ↓vcd, g2, g3, g4, g10, g12, g13, g14, g15, g16, g17, h18, h19]
      have hroom := hinv.room hn
      obtain ⟨m', rfl⟩ : ∃ m', m = m' + 1 := ⟨m - 1, by omega⟩
      rw [go_some hn] at hgo
      have hinv' := Inv.step hC hne hfr hinv hn
      obtain ⟨hkl, -, -⟩ := nxt_some hn
      have hwn := wantOf_not A B sd
      refine r_lit el37 (out := #[.int .i64 (k : Int)]) (by first | kernel_rfl | (simp -implicitDefEqProofs (disch := omega) only [List.any_cons, List.any_nil, Nat.reduceEqDiff, List.map_cons, List.map_nil, Option.map_some, Option.map_none, List.nil_append, ↓reduceIte, vcu, ↓vcd, h18]; kernel_rfl)) (by rfl) fun e3 τ13 n13 s13 v13 => ?_
      refine r_pushI (g := gl) (e := e3) (o := 0) (k := .i64) (xs := chI ch) (ys := [(k : Int)]) (m := 1) (len := ch.length) el37 (by omega) sl37 (by simp -implicitDefEqProofs (disch := omega) only [List.any_cons, List.any_nil, Nat.reduceEqDiff, List.map_cons, List.map_nil, Option.map_some, Option.map_none, List.nil_append, ↓reduceIte, vcu, ↓vcd, g14]) (s13 _ _ vl) (chI_length _) (by simp -implicitDefEqProofs (disch := omega) only [List.any_cons, List.any_nil, Nat.reduceEqDiff, List.map_cons, List.map_nil, Option.map_some, Option.map_none, List.nil_append, ↓reduceIte, vcu, ↓vcd]) (intsAt_own v13) rfl (by omega) fun g6 τ14 n14 k14 v14 => ?_
      rw [← chI_snoc] at v14
      have hs14 : Sub τ9 τ14 := k14.sub (hs11.trans s13) nl
      have n6 := free_sub (hs11.trans s13) n14
      have hl1 : ch.length + 1 = (ch ++ [k]).length := by simp
      obtain ⟨x1, x2, -⟩ := trisAt_own (hs14 _ _ v9) k hkl
      have hgk : cs.getD k cl0 = gc cs k := rfl
      rw [hgk] at x1 x2
      have hm := hR _ (gc_mem hkl)
      have lE14 := mE _ (hs9.trans hs14)
      generalize gc cs k = c at x1 x2 hm hinv' hgo
      obtain ⟨⟨a1, a2⟩, ⟨a3, a4⟩, -⟩ := hm
      have hA1 := hwa.1
      have hB1 := hwb.1
      cases sd with
      | true =>
        have e15 : (if (true : Bool) = true then (1 : Int) else 0) = 1 := rfl
        rw [e15] at g15
        have w1 : wantOf A B true = A := rfl
        rw [w1] at g17
        simp -implicitDefEqProofs (disch := omega) only [List.any_cons, List.any_nil, Nat.reduceEqDiff, List.map_cons, List.map_nil, Option.map_some, Option.map_none, List.nil_append, ↓reduceIte, vcu, ↓vcd, g2, g3, g4, g10, g12, g13, g14, g15, g16, g17, h18, h19, x1, x2, lE14, Int.toNat_natCast, Nat.add_zero]
        exact ⟨⟨(by first | trivial | rfl | exact Eq.symm (by assumption)), (by first | trivial | rfl | exact Eq.symm (by assumption)), (by first | trivial | rfl | exact Eq.symm (by assumption)), (by first | trivial | rfl | exact Eq.symm (by assumption)), (by first | trivial | rfl | exact Eq.symm (by assumption)), (by first | trivial | rfl | exact Eq.symm (by assumption)), (by first | trivial | rfl | exact Eq.symm (by assumption))⟩, m', by omega, ch ++ [k], false, _, g6, by rw [hl1], v14, n6, rfl, rfl, by show Value.int .i64 (A + B - A) = .int .i64 B; congr 1; omega, hs14, hinv', by simp; omega, hgo⟩
      | false =>
        have e15 : (if (false : Bool) = true then (1 : Int) else 0) = 0 := rfl
        rw [e15] at g15
        have w1 : wantOf A B false = B := rfl
        rw [w1] at g17
        simp -implicitDefEqProofs (disch := omega) only [List.any_cons, List.any_nil, Nat.reduceEqDiff, List.map_cons, List.map_nil, Option.map_some, Option.map_none, List.nil_append, ↓reduceIte, vcu, ↓vcd, g2, g3, g4, g10, g12, g13, g14, g15, g16, g17, h18, h19, x1, x2, lE14, Int.toNat_natCast, Nat.add_zero]
        exact ⟨⟨(by first | trivial | rfl | exact Eq.symm (by assumption)), (by first | trivial | rfl | exact Eq.symm (by assumption)), (by first | trivial | rfl | exact Eq.symm (by assumption)), (by first | trivial | rfl | exact Eq.symm (by assumption)), (by first | trivial | rfl | exact Eq.symm (by assumption)), (by first | trivial | rfl | exact Eq.symm (by assumption)), (by first | trivial | rfl | exact Eq.symm (by assumption))⟩, m', by omega, ch ++ [k], true, _, g6, by rw [hl1], v14, n6, rfl, rfl, by show Value.int .i64 (A + B - B) = .int .i64 A; congr 1; omega, hs14, hinv', by simp; omega, hgo⟩
end Go.Proofs.Ytphacjkogompoaa
