/- CallPut, CallDrop and CallsMoved of the reference; what the laws look up. -/
import Derived.Test.YtphacjkogompoaaCi
import Derived.Test.YtphacjkogompoaaCe
set_option linter.unusedSimpArgs false
set_option linter.unusedVariables false
namespace Go.Proofs.Ytphacjkogompoaa
open Go Go.Abs Go.RowKit Go.Clos
variable {w0 : World}

theorem ownI_lenD {β σ : AHeap} {v : Value} {xs : List Int} (h : OwnI β σ v xs) : alenV Try.prog 37 v = some (.int .i64 (xs.length : Int)) := by
  rcases h with ⟨rfl, rfl⟩ | ⟨g, rfl, -, -⟩
  · exact alenV_slice Try.underlying37
  · exact alenV_slice Try.underlying37
theorem rowI_D {β σ : AHeap} {v : Value} {xs : List Int} (h : OwnI β σ v xs) (h0 : 0 < xs.length) : ∃ g, v = .slice (some ⟨g, 0, none⟩) xs.length 1 ∧ σ g = some ⟨ints .i64 xs, false⟩ ∧ β g = none := by
  rcases h with ⟨_, rfl⟩ | ⟨g, e1, e2, e3⟩
  · simp at h0
  · exact ⟨g, e1, e2, e3⟩
theorem ownC_lenD {β σ : AHeap} {v : Value} {cs : List Cl} (h : OwnC β σ v cs) : alenV Try.prog 29 v = some (.int .i64 (cs.length : Int)) := by
  rcases h with ⟨rfl, rfl⟩ | ⟨g, rfl, -, -⟩
  · exact alenV_slice Try.underlying29
  · exact alenV_slice Try.underlying29
/-- a further call through the first middle switch that is free -/
def putL (s : Sp) (cs : List Cl) (i o : Int) : List Cl := if CV s cs then (match freeV s cs i o with | [] => cs | v :: _ => cs ++ [⟨i, o, v⟩]) else []
def putOk (s : Sp) (cs : List Cl) (i o : Int) : Bool := match freeV s cs i o with | [] => false | _ :: _ => true
theorem putL_no {s : Sp} {cs : List Cl} {i o : Int} (h : ¬ CV s cs) : putL s cs i o = [] ∧ putOk s cs i o = false := by
  unfold putL putOk; rw [if_neg h, freeV_no fun hh => h hh.1]; exact ⟨rfl, rfl⟩
theorem putL_nil {s : Sp} {cs : List Cl} {i o : Int} (h : CV s cs) (hf : freeV s cs i o = []) : putL s cs i o = cs ∧ putOk s cs i o = false := by
  unfold putL putOk; rw [if_pos h, hf]; exact ⟨rfl, rfl⟩
theorem putL_cons {s : Sp} {cs : List Cl} {i o v : Int} {vs : List Int} (h : CV s cs) (hf : freeV s cs i o = v :: vs) : putL s cs i o = cs ++ [⟨i, o, v⟩] ∧ putOk s cs i o = true := by
  unfold putL putOk; rw [if_pos h, hf]; exact ⟨rfl, rfl⟩
theorem putL_len {s : Sp} {cs : List Cl} {i o : Int} : (putL s cs i o).length ≤ 13 := by
  by_cases h : CV s cs
  · have := h.len
    cases hf : freeV s cs i o with
    | nil => rw [(putL_nil h hf).1]; omega
    | cons v vs => rw [(putL_cons h hf).1]; simp; omega
  · rw [(putL_no h).1]; simp
theorem specPut_at (σ : AHeap) (s : Sp) (h o : Nat) (cs : List Cl) (I O : Int) (hv : TrisAt σ h o cs) (hl : cs.length ≤ 1048576) :
    ACall Try.prog w0 39 [.agg #[.int .i64 s.O, .int .i64 s.E, .int .i64 s.M], .slice (some ⟨h, o, none⟩) cs.length 3, .int .i64 I, .int .i64 O] σ fun r σ' => ∃ v, r = .tuple #[v, .bool (putOk s cs I O)] ∧ Sub σ σ' ∧ OwnC σ σ' v (putL s cs I O) := by
  refine acall_go mixed Try.func39 rfl good39 fun pr => ?_
  simp -implicitDefEqProofs (disch := omega) only [List.any_cons, List.any_nil, Nat.reduceEqDiff, List.map_cons, List.map_nil, Option.map_some, Option.map_none, List.nil_append, ↓reduceIte, vcu, ↓vcd]
  refine r_boxed fun b τ nb s1 e1 => ?_
  replace e1 : τ b = some ⟨[.int .i64 s.O, .int .i64 s.E, .int .i64 s.M], false⟩ := e1
  have m3 : ∀ τ', Sub τ τ' → lds τ' b 0 3 = some [.int .i64 s.O, .int .i64 s.E, .int .i64 s.M] := fun τ' hs => lds_three (ld_of (hs _ _ e1) rfl) (ld_of (hs _ _ e1) rfl) (ld_of (hs _ _ e1) rfl)
  have l3 := m3 τ (Sub.refl _)
  simp -implicitDefEqProofs (disch := omega) only [List.any_cons, List.any_nil, Nat.reduceEqDiff, List.map_cons, List.map_nil, Option.map_some, Option.map_none, List.nil_append, ↓reduceIte, vcu, ↓vcd, l3, co24]
  refine (specCV_at τ s.O s.E s.M h o cs (hv.sub s1) hl).mono ?_
  rintro r _ ⟨rfl, rfl⟩
  rename_i τ
  by_cases hC : CV s cs
  case neg =>
    obtain ⟨q1, q2⟩ := putL_no (i := I) (o := O) hC
    rw [decide_eq_false hC, q1, q2]
    simp -implicitDefEqProofs (disch := omega) only [List.any_cons, List.any_nil, Nat.reduceEqDiff, List.map_cons, List.map_nil, Option.map_some, Option.map_none, List.nil_append, ↓reduceIte, vcu, ↓vcd, opK_some, Bool.not_false]
    refine r_lit el29 (out := #[]) (by kernel_rfl) (by kernel_rfl) fun ea τ3 n3 s3 v3 => ?_
    simp -implicitDefEqProofs (disch := omega) only [List.any_cons, List.any_nil, Nat.reduceEqDiff, List.map_cons, List.map_nil, Option.map_some, Option.map_none, List.nil_append, ↓reduceIte, vcu, ↓vcd]
    refine fin_two Try.results39 ⟨.slice (some ⟨ea, 0, none⟩) 0 3, ?_, s1.trans s3, .inr ⟨ea, rfl, v3, free_sub s1 n3⟩⟩
    simp -implicitDefEqProofs (disch := omega) only [List.any_cons, List.any_nil, Nat.reduceEqDiff, List.map_cons, List.map_nil, Option.map_some, Option.map_none, List.nil_append, ↓reduceIte, vcu, ↓vcd]
  rw [decide_eq_true hC]
  have hl12 := hC.len
  simp -implicitDefEqProofs (disch := omega) only [List.any_cons, List.any_nil, Nat.reduceEqDiff, List.map_cons, List.map_nil, Option.map_some, Option.map_none, List.nil_append, ↓reduceIte, vcu, ↓vcd, opK_some, Bool.not_true]
  refine r_lit el29 (out := #[]) (by kernel_rfl) (by kernel_rfl) fun ea τ3 n3 s3 v3 => ?_
  simp -implicitDefEqProofs (disch := omega) only [List.any_cons, List.any_nil, Nat.reduceEqDiff, List.map_cons, List.map_nil, Option.map_some, Option.map_none, List.nil_append, ↓reduceIte, vcu, ↓vcd]
  refine r_pushC (g := ea) (e := h) (o := o) (cs := []) (ds := cs) (m := cs.length) (len := 0) el29 (by omega) sl29 (by simp -implicitDefEqProofs (disch := omega) only [List.any_cons, List.any_nil, Nat.reduceEqDiff, List.map_cons, List.map_nil, Option.map_some, Option.map_none, List.nil_append, ↓reduceIte, vcu, ↓vcd]) v3 rfl (by simp -implicitDefEqProofs (disch := omega) only [List.any_cons, List.any_nil, Nat.reduceEqDiff, List.map_cons, List.map_nil, Option.map_some, Option.map_none, List.nil_append, ↓reduceIte, vcu, ↓vcd]) (hv.sub (s1.trans s3)) rfl (by omega) fun gb τ4 n4 k4 v4 => ?_
  rw [List.nil_append] at v4
  have hs4 : Sub τ τ4 := k4.sub s3 n3
  have nτb : τ gb = none := free_sub s3 n4
  have nσb : σ gb = none := free_sub s1 nτb
  have l4 := m3 τ4 hs4
  clear v3 n3 s3 k4 n4
  simp -implicitDefEqProofs (disch := omega) only [List.any_cons, List.any_nil, Nat.reduceEqDiff, List.map_cons, List.map_nil, Option.map_some, Option.map_none, List.nil_append, ↓reduceIte, vcu, ↓vcd, l4, co24, Nat.zero_add]
  refine (specFree_at τ4 s h o cs I O (hv.sub (s1.trans hs4)) hl).mono ?_
  rintro vf τ5 ⟨s5, wf⟩
  have hs5 := hs4.trans s5
  have hlf := ownI_lenD wf
  have v5 := s5 _ _ v4
  cases hf : freeV s cs I O with
  | cons v0 vs =>
    obtain ⟨q1, q2⟩ := putL_cons hC hf
    rw [hf] at wf hlf
    obtain ⟨gf, rfl, wf1, -⟩ := rowI_D wf (by simp)
    have lx := intsAt_own wf1 0 (by simp)
    have hg0 : (v0 :: vs).getD 0 0 = v0 := rfl
    rw [hg0] at lx
    have hpos : (0 : Int) < ((v0 :: vs).length : Int) := by simp
    have hpos' : 0 < (v0 :: vs).length := by simp
    rw [q1, q2]
    generalize (v0 :: vs).length = lf at hlf hpos hpos'
    simp -implicitDefEqProofs (disch := omega) only [List.any_cons, List.any_nil, Nat.reduceEqDiff, List.map_cons, List.map_nil, Option.map_some, Option.map_none, List.nil_append, ↓reduceIte, vcu, ↓vcd, opK_some, hlf, lx, Int.toNat_zero, Nat.mul_one]
    rw [r_build]
    refine ⟨(_, #[.int .i64 I, .int .i64 O, .int .i64 v0]), ⟨ze34, by simp -implicitDefEqProofs (disch := omega) only [List.any_cons, List.any_nil, Nat.reduceEqDiff, List.map_cons, List.map_nil, Option.map_some, Option.map_none, List.nil_append, ↓reduceIte, vcu, ↓vcd]; kernel_rfl⟩, ?_⟩
    simp -implicitDefEqProofs (disch := omega) only [List.any_cons, List.any_nil, Nat.reduceEqDiff, List.map_cons, List.map_nil, Option.map_some, Option.map_none, List.nil_append, ↓reduceIte, vcu, ↓vcd]
    refine r_lit el29 (out := #[.int .i64 I, .int .i64 O, .int .i64 v0]) (by first | kernel_rfl | (simp -implicitDefEqProofs (disch := omega) only [List.any_cons, List.any_nil, Nat.reduceEqDiff, List.map_cons, List.map_nil, Option.map_some, Option.map_none, List.nil_append, ↓reduceIte, vcu, ↓vcd]; kernel_rfl)) (by rfl) fun eb τ6 n6 s6 v6 => ?_
    replace v6 : τ6 eb = some ⟨tris [⟨I, O, v0⟩], false⟩ := v6
    refine r_pushC (g := gb) (e := eb) (o := 0) (cs := cs) (ds := [⟨I, O, v0⟩]) (m := 1) (len := cs.length) el29 (by omega) sl29 (by simp -implicitDefEqProofs (disch := omega) only [List.any_cons, List.any_nil, Nat.reduceEqDiff, List.map_cons, List.map_nil, Option.map_some, Option.map_none, List.nil_append, ↓reduceIte, vcu, ↓vcd]) (s6 _ _ v5) rfl (by simp -implicitDefEqProofs (disch := omega) only [List.any_cons, List.any_nil, Nat.reduceEqDiff, List.map_cons, List.map_nil, Option.map_some, Option.map_none, List.nil_append, ↓reduceIte, vcu, ↓vcd]) (trisAt_own v6) rfl (by omega) fun gc9 τ9 n9 k9 v9 => ?_
    have s9 : Sub τ τ9 := k9.sub (hs5.trans s6) nτb
    simp -implicitDefEqProofs (disch := omega) only [List.any_cons, List.any_nil, Nat.reduceEqDiff, List.map_cons, List.map_nil, Option.map_some, Option.map_none, List.nil_append, ↓reduceIte, vcu, ↓vcd]
    refine fin_two Try.results39 ⟨.slice (some ⟨gc9, 0, none⟩) (cs.length + 1) 3, ?_, s1.trans s9, .inr ⟨gc9, by simp, v9, free_sub (s1.trans (hs5.trans s6)) n9⟩⟩
    simp -implicitDefEqProofs (disch := omega) only [List.any_cons, List.any_nil, Nat.reduceEqDiff, List.map_cons, List.map_nil, Option.map_some, Option.map_none, List.nil_append, ↓reduceIte, vcu, ↓vcd]
  | nil =>
    obtain ⟨q1, q2⟩ := putL_nil hC hf
    rw [hf] at hlf
    rw [q1, q2]
    simp -implicitDefEqProofs (disch := omega) only [List.any_cons, List.any_nil, Nat.reduceEqDiff, List.map_cons, List.map_nil, Option.map_some, Option.map_none, List.nil_append, ↓reduceIte, vcu, ↓vcd, opK_some, hlf, List.length_nil, Int.natCast_zero]
    refine fin_two Try.results39 ⟨.slice (some ⟨gb, 0, none⟩) cs.length 3, ?_, s1.trans hs5, .inr ⟨gb, rfl, v5, nσb⟩⟩
    simp -implicitDefEqProofs (disch := omega) only [List.any_cons, List.any_nil, Nat.reduceEqDiff, List.map_cons, List.map_nil, Option.map_some, Option.map_none, List.nil_append, ↓reduceIte, vcu, ↓vcd]

def dropOk (s : Sp) (cs : List Cl) (i : Int) : Bool := decide (CV s cs ∧ (dropL cs i).length < cs.length)
def drL (s : Sp) (cs : List Cl) (i : Int) : List Cl := if CV s cs then dropL cs i else []
theorem drL_no {s : Sp} {cs : List Cl} {i : Int} (h : ¬ CV s cs) : drL s cs i = [] ∧ dropOk s cs i = false := by
  unfold drL dropOk; rw [if_neg h, decide_eq_false fun hh => h hh.1]; exact ⟨rfl, rfl⟩
theorem drL_ok {s : Sp} {cs : List Cl} {i : Int} (h : CV s cs) : drL s cs i = dropL cs i ∧ dropOk s cs i = decide ((dropL cs i).length < cs.length) := by
  unfold drL dropOk; rw [if_pos h]; exact ⟨rfl, decide_eq_decide.2 ⟨fun hh => hh.2, fun hh => ⟨h, hh⟩⟩⟩
theorem dropL_le (cs : List Cl) (i : Int) : (dropL cs i).length ≤ cs.length := List.length_filter_le _ _
theorem drL_len {s : Sp} {cs : List Cl} {i : Int} : (drL s cs i).length ≤ 13 := by
  by_cases h : CV s cs
  · rw [(drL_ok h).1]; have := h.len; have := dropL_le cs i; omega
  · rw [(drL_no h).1]; simp
theorem specDrop_at (σ : AHeap) (s : Sp) (h o : Nat) (cs : List Cl) (I : Int) (hv : TrisAt σ h o cs) (hl : cs.length ≤ 1048576) :
    ACall Try.prog w0 44 [.agg #[.int .i64 s.O, .int .i64 s.E, .int .i64 s.M], .slice (some ⟨h, o, none⟩) cs.length 3, .int .i64 I] σ fun r σ' => ∃ v, r = .tuple #[v, .bool (dropOk s cs I)] ∧ Sub σ σ' ∧ OwnC σ σ' v (drL s cs I) := by
  refine acall_go mixed Try.func44 rfl good44 fun pr => ?_
  simp -implicitDefEqProofs (disch := omega) only [List.any_cons, List.any_nil, Nat.reduceEqDiff, List.map_cons, List.map_nil, Option.map_some, Option.map_none, List.nil_append, ↓reduceIte, vcu, ↓vcd]
  refine r_boxed fun b τ nb s1 e1 => ?_
  replace e1 : τ b = some ⟨[.int .i64 s.O, .int .i64 s.E, .int .i64 s.M], false⟩ := e1
  have l3 : lds τ b 0 3 = some [.int .i64 s.O, .int .i64 s.E, .int .i64 s.M] := lds_three (ld_of e1 rfl) (ld_of e1 rfl) (ld_of e1 rfl)
  simp -implicitDefEqProofs (disch := omega) only [List.any_cons, List.any_nil, Nat.reduceEqDiff, List.map_cons, List.map_nil, Option.map_some, Option.map_none, List.nil_append, ↓reduceIte, vcu, ↓vcd, l3, co24]
  refine (specCV_at τ s.O s.E s.M h o cs (hv.sub s1) hl).mono ?_
  rintro r _ ⟨rfl, rfl⟩
  rename_i τ
  by_cases hC : CV s cs
  case neg =>
    obtain ⟨q1, q2⟩ := drL_no (i := I) hC
    rw [decide_eq_false hC, q1, q2]
    simp -implicitDefEqProofs (disch := omega) only [List.any_cons, List.any_nil, Nat.reduceEqDiff, List.map_cons, List.map_nil, Option.map_some, Option.map_none, List.nil_append, ↓reduceIte, vcu, ↓vcd, opK_some, Bool.not_false]
    refine r_lit el29 (out := #[]) (by kernel_rfl) (by kernel_rfl) fun ea τ3 n3 s3 v3 => ?_
    simp -implicitDefEqProofs (disch := omega) only [List.any_cons, List.any_nil, Nat.reduceEqDiff, List.map_cons, List.map_nil, Option.map_some, Option.map_none, List.nil_append, ↓reduceIte, vcu, ↓vcd]
    refine fin_two Try.results44 ⟨.slice (some ⟨ea, 0, none⟩) 0 3, ?_, s1.trans s3, .inr ⟨ea, rfl, v3, free_sub s1 n3⟩⟩
    simp -implicitDefEqProofs (disch := omega) only [List.any_cons, List.any_nil, Nat.reduceEqDiff, List.map_cons, List.map_nil, Option.map_some, Option.map_none, List.nil_append, ↓reduceIte, vcu, ↓vcd]
  rw [decide_eq_true hC]
  obtain ⟨q1, q2⟩ := drL_ok (i := I) hC
  rw [q1, q2]
  have hl12 := hC.len
  simp -implicitDefEqProofs (disch := omega) only [List.any_cons, List.any_nil, Nat.reduceEqDiff, List.map_cons, List.map_nil, Option.map_some, Option.map_none, List.nil_append, ↓reduceIte, vcu, ↓vcd, opK_some, Bool.not_true]
  refine r_lit el29 (out := #[]) (by kernel_rfl) (by kernel_rfl) fun ea τ3 n3 s3 v3 => ?_
  simp -implicitDefEqProofs (disch := omega) only [List.any_cons, List.any_nil, Nat.reduceEqDiff, List.map_cons, List.map_nil, Option.map_some, Option.map_none, List.nil_append, ↓reduceIte, vcu, ↓vcd]
  refine vc_loop_c mixed (by kernel_rfl) [1, 2] (fun m a τ' => ∃ (k g : Nat), m + k = cs.length ∧ a 9 = .int .i64 k ∧ a 8 = .slice (some ⟨g, 0, none⟩) (dropL (cs.take k) I).length 3 ∧ Sub τ τ' ∧ τ' g = some ⟨tris (dropL (cs.take k) I), false⟩ ∧ τ g = none) cs.length ⟨0, ea, by simp, rfl, rfl, s3, v3, n3⟩ ?_
  rintro m a τ2 hc ⟨k, g, hk, h9, h8, hs, hg, hn⟩
  simp -implicitDefEqProofs (disch := omega) only [List.any_cons, List.any_nil, Nat.reduceEqDiff, List.map_cons, List.map_nil, Option.map_some, Option.map_none, List.nil_append, ↓reduceIte, vcu, ↓vcd] at hc
  obtain ⟨h1, h2, -⟩ := hc
  by_cases hlt : k < cs.length
  case neg =>
    obtain rfl : k = cs.length := by omega
    rw [List.take_length] at h8 hg
    simp -implicitDefEqProofs (disch := omega) only [List.any_cons, List.any_nil, Nat.reduceEqDiff, List.map_cons, List.map_nil, Option.map_some, Option.map_none, List.nil_append, ↓reduceIte, vcu, ↓vcd, h1, h2, h8, h9]
    refine fin_two Try.results44 ⟨.slice (some ⟨g, 0, none⟩) (dropL cs I).length 3, ?_, s1.trans hs, .inr ⟨g, rfl, hg, free_sub s1 hn⟩⟩
    simp -implicitDefEqProofs (disch := omega) only [List.any_cons, List.any_nil, Nat.reduceEqDiff, List.map_cons, List.map_nil, Option.map_some, Option.map_none, List.nil_append, ↓reduceIte, vcu, ↓vcd]
    simp
  have hall := ((hv.sub s1).sub hs).all hlt
  obtain ⟨x1, -, -⟩ := ((hv.sub s1).sub hs) k hlt
  have hgk : cs.getD k cl0 = gc cs k := rfl
  rw [hgk] at hall x1
  have ht := dropL_take cs I hlt
  have hle : (dropL (cs.take k) I).length ≤ k := by have := dropL_le (cs.take k) I; simp at this; omega
  generalize gc cs k = c at hall x1 ht
  obtain ⟨ci, co, cv⟩ := c
  dsimp only at hall x1 ht
  by_cases he : ci = I
  · rw [if_pos he, List.append_nil] at ht
    simp -implicitDefEqProofs (disch := omega) only [List.any_cons, List.any_nil, Nat.reduceEqDiff, List.map_cons, List.map_nil, Option.map_some, Option.map_none, List.nil_append, ↓reduceIte, vcu, ↓vcd, h1, h2, h8, h9, x1, Nat.add_zero]
    exact ⟨⟨trivial, trivial, trivial⟩, m - 1, by omega, k + 1, g, by omega, by simp, by rw [ht], hs, by rw [ht]; exact hg, hn⟩
  · rw [if_neg he] at ht
    simp -implicitDefEqProofs (disch := omega) only [List.any_cons, List.any_nil, Nat.reduceEqDiff, List.map_cons, List.map_nil, Option.map_some, Option.map_none, List.nil_append, ↓reduceIte, vcu, ↓vcd, h1, h2, h8, h9, x1, hall, co34, Nat.add_zero]
    refine r_lit el29 (out := #[.int .i64 ci, .int .i64 co, .int .i64 cv]) (by first | kernel_rfl | (simp -implicitDefEqProofs (disch := omega) only [List.any_cons, List.any_nil, Nat.reduceEqDiff, List.map_cons, List.map_nil, Option.map_some, Option.map_none, List.nil_append, ↓reduceIte, vcu, ↓vcd]; kernel_rfl)) (by rfl) fun eb τ6 n6 s6 v6 => ?_
    replace v6 : τ6 eb = some ⟨tris [⟨ci, co, cv⟩], false⟩ := v6
    refine r_pushC (g := g) (e := eb) (o := 0) (cs := dropL (cs.take k) I) (ds := [⟨ci, co, cv⟩]) (m := 1) (len := (dropL (cs.take k) I).length) el29 (by omega) sl29 (by simp -implicitDefEqProofs (disch := omega) only [List.any_cons, List.any_nil, Nat.reduceEqDiff, List.map_cons, List.map_nil, Option.map_some, Option.map_none, List.nil_append, ↓reduceIte, vcu, ↓vcd]) (s6 _ _ hg) rfl (by simp -implicitDefEqProofs (disch := omega) only [List.any_cons, List.any_nil, Nat.reduceEqDiff, List.map_cons, List.map_nil, Option.map_some, Option.map_none, List.nil_append, ↓reduceIte, vcu, ↓vcd]) (trisAt_own v6) rfl (by omega) fun gc9 τ9 n9 k9 v9 => ?_
    rw [← ht] at v9
    have hle2 : (dropL (cs.take k) I).length + 1 = (dropL (cs.take (k + 1)) I).length := by rw [ht]; simp
    simp -implicitDefEqProofs (disch := omega) only [List.any_cons, List.any_nil, Nat.reduceEqDiff, List.map_cons, List.map_nil, Option.map_some, Option.map_none, List.nil_append, ↓reduceIte, vcu, ↓vcd, h1, h2, h9, hle2]
    exact ⟨⟨trivial, trivial, trivial⟩, m - 1, by omega, k + 1, gc9, by omega, by simp, rfl, k9.sub (hs.trans s6) hn, v9, free_sub (hs.trans s6) n9⟩

theorem specMoved_at (σ : AHeap) (h o g p : Nat) (xs ys : List Cl) (hv : TrisAt σ h o xs) (hu : TrisAt σ g p ys) (hl : xs.length ≤ 1048576) (hl2 : ys.length ≤ 1048576) :
    ACall Try.prog w0 55 [.slice (some ⟨h, o, none⟩) xs.length 3, .slice (some ⟨g, p, none⟩) ys.length 3] σ fun r σ' => r = .int .i64 (moved xs ys) ∧ σ' = σ := by
  refine acall_go mixed Try.func55 rfl good55 fun pr => ?_
  simp -implicitDefEqProofs (disch := omega) only [List.any_cons, List.any_nil, Nat.reduceEqDiff, List.map_cons, List.map_nil, Option.map_some, Option.map_none, List.nil_append, ↓reduceIte, vcu, ↓vcd]
  refine vc_loop_c mixed (by kernel_rfl) [0, 1] (fun m a τ => ∃ k : Nat, m + k = min xs.length ys.length ∧ a 6 = .int .i64 k ∧ a 5 = .int .i64 (movedN xs ys k) ∧ τ = σ) (min xs.length ys.length) ⟨0, by simp, rfl, rfl, rfl⟩ ?_
  rintro m a τ hc ⟨k, hk, h6, h5, rfl⟩
  simp -implicitDefEqProofs (disch := omega) only [List.any_cons, List.any_nil, Nat.reduceEqDiff, List.map_cons, List.map_nil, Option.map_some, Option.map_none, List.nil_append, ↓reduceIte, vcu, ↓vcd] at hc
  obtain ⟨h0, h1, -⟩ := hc
  have hle := movedN_le xs ys k
  by_cases hx : k < xs.length
  case neg =>
    simp -implicitDefEqProofs (disch := omega) only [List.any_cons, List.any_nil, Nat.reduceEqDiff, List.map_cons, List.map_nil, Option.map_some, Option.map_none, List.nil_append, ↓reduceIte, vcu, ↓vcd, h0, h1, h5, h6]
    obtain rfl : k = min xs.length ys.length := by omega
    refine fin_one Try.results55 ⟨?_, rfl⟩
    simp -implicitDefEqProofs (disch := omega) only [List.any_cons, List.any_nil, Nat.reduceEqDiff, List.map_cons, List.map_nil, Option.map_some, Option.map_none, List.nil_append, ↓reduceIte, vcu, ↓vcd, h5]
    rfl
  by_cases hy : k < ys.length
  case neg =>
    simp -implicitDefEqProofs (disch := omega) only [List.any_cons, List.any_nil, Nat.reduceEqDiff, List.map_cons, List.map_nil, Option.map_some, Option.map_none, List.nil_append, ↓reduceIte, vcu, ↓vcd, h0, h1, h5, h6]
    obtain rfl : k = min xs.length ys.length := by omega
    refine fin_one Try.results55 ⟨?_, rfl⟩
    simp -implicitDefEqProofs (disch := omega) only [List.any_cons, List.any_nil, Nat.reduceEqDiff, List.map_cons, List.map_nil, Option.map_some, Option.map_none, List.nil_append, ↓reduceIte, vcu, ↓vcd, h5]
    rfl
  obtain ⟨-, -, x3⟩ := hv k hx
  obtain ⟨-, -, y3⟩ := hu k hy
  have hsc := movedN_succ xs ys k
  have hgx : xs.getD k cl0 = gc xs k := rfl
  have hgy : ys.getD k cl0 = gc ys k := rfl
  rw [hgx] at x3
  rw [hgy] at y3
  by_cases he : (gc xs k).v = (gc ys k).v
  · rw [if_neg (by simpa using he)] at hsc
    rw [he] at x3
    simp -implicitDefEqProofs (disch := omega) only [List.any_cons, List.any_nil, Nat.reduceEqDiff, List.map_cons, List.map_nil, Option.map_some, Option.map_none, List.nil_append, ↓reduceIte, vcu, ↓vcd, h0, h1, h5, h6, x3, y3, ne_eq, not_true_eq_false]
    exact ⟨⟨trivial, trivial, trivial⟩, m - 1, by omega, k + 1, by omega, by simp, by rw [hsc, Nat.add_zero], trivial⟩
  · rw [if_pos he] at hsc
    simp -implicitDefEqProofs (disch := omega) only [List.any_cons, List.any_nil, Nat.reduceEqDiff, List.map_cons, List.map_nil, Option.map_some, Option.map_none, List.nil_append, ↓reduceIte, vcu, ↓vcd, h0, h1, h5, h6, x3, y3]
    exact ⟨⟨trivial, trivial, trivial⟩, m - 1, by omega, k + 1, by omega, by simp, by rw [hsc]; simp, trivial⟩
theorem implMoved_at (σ : AHeap) (h o g p : Nat) (xs ys : List Cl) (hv : TrisAt σ h o xs) (hu : TrisAt σ g p ys) (hl : xs.length ≤ 1048576) (hl2 : ys.length ≤ 1048576) :
    ACall Try.prog w0 42 [.slice (some ⟨h, o, none⟩) xs.length 3, .slice (some ⟨g, p, none⟩) ys.length 3] σ fun r σ' => r = .int .i64 (moved xs ys) ∧ σ' = σ := by
  refine acall_go mixed Try.func42 rfl good42 fun pr => ?_
  have hmin : (min (xs.length : Int) ys.length) = ((min xs.length ys.length : Nat) : Int) := by omega
  simp -implicitDefEqProofs (disch := omega) only [List.any_cons, List.any_nil, Nat.reduceEqDiff, List.map_cons, List.map_nil, Option.map_some, Option.map_none, List.nil_append, ↓reduceIte, vcu, ↓vcd, hmin]
  refine vc_loop_c mixed (by kernel_rfl) [0, 1, 11] (fun m a τ => ∃ k : Nat, m + k = min xs.length ys.length ∧ a 12 = .int .i64 k ∧ a 5 = .int .i64 (movedN xs ys k) ∧ τ = σ) (min xs.length ys.length) ⟨0, by simp, rfl, rfl, rfl⟩ ?_
  rintro m a τ hc ⟨k, hk, h12, h5, rfl⟩
  simp -implicitDefEqProofs (disch := omega) only [List.any_cons, List.any_nil, Nat.reduceEqDiff, List.map_cons, List.map_nil, Option.map_some, Option.map_none, List.nil_append, ↓reduceIte, vcu, ↓vcd] at hc
  obtain ⟨h0, h1, h11, -⟩ := hc
  have hle := movedN_le xs ys k
  by_cases hx : k < min xs.length ys.length
  case neg =>
    simp -implicitDefEqProofs (disch := omega) only [List.any_cons, List.any_nil, Nat.reduceEqDiff, List.map_cons, List.map_nil, Option.map_some, Option.map_none, List.nil_append, ↓reduceIte, vcu, ↓vcd, h0, h1, h5, h11, h12]
    obtain rfl : k = min xs.length ys.length := by omega
    refine fin_one Try.results42 ⟨?_, rfl⟩
    simp -implicitDefEqProofs (disch := omega) only [List.any_cons, List.any_nil, Nat.reduceEqDiff, List.map_cons, List.map_nil, Option.map_some, Option.map_none, List.nil_append, ↓reduceIte, vcu, ↓vcd, h5]
    rfl
  obtain ⟨-, -, x3⟩ := hv k (by omega)
  obtain ⟨-, -, y3⟩ := hu k (by omega)
  have hsc := movedN_succ xs ys k
  have hgx : xs.getD k cl0 = gc xs k := rfl
  have hgy : ys.getD k cl0 = gc ys k := rfl
  rw [hgx] at x3
  rw [hgy] at y3
  by_cases he : (gc xs k).v = (gc ys k).v
  · rw [if_neg (by simpa using he)] at hsc
    rw [he] at x3
    simp -implicitDefEqProofs (disch := omega) only [List.any_cons, List.any_nil, Nat.reduceEqDiff, List.map_cons, List.map_nil, Option.map_some, Option.map_none, List.nil_append, ↓reduceIte, vcu, ↓vcd, h0, h1, h5, h11, h12, x3, y3, ne_eq, not_true_eq_false]
    exact ⟨⟨trivial, trivial, trivial, trivial⟩, m - 1, by omega, k + 1, by omega, by simp, by rw [hsc, Nat.add_zero], trivial⟩
  · rw [if_pos he] at hsc
    simp -implicitDefEqProofs (disch := omega) only [List.any_cons, List.any_nil, Nat.reduceEqDiff, List.map_cons, List.map_nil, Option.map_some, Option.map_none, List.nil_append, ↓reduceIte, vcu, ↓vcd, h0, h1, h5, h11, h12, x3, y3]
    exact ⟨⟨trivial, trivial, trivial, trivial⟩, m - 1, by omega, k + 1, by omega, by simp, by rw [hsc]; simp, trivial⟩

theorem flat_call (a b c d e f : Int) : flatEq Try.prog 34 #[.int .i64 a, .int .i64 b, .int .i64 c] #[.int .i64 d, .int .i64 e, .int .i64 f] = some ((a == d) && ((b == e) && ((c == f) && true))) := by kernel_rfl
theorem neq_call (a b c d e f : Int) : abin Try.prog 34 .neq (.agg #[.int .i64 a, .int .i64 b, .int .i64 c]) (.agg #[.int .i64 d, .int .i64 e, .int .i64 f]) = some (.bool (!decide ((⟨a, b, c⟩ : Cl) = ⟨d, e, f⟩))) := by
  show (flatEq Try.prog 34 #[.int .i64 a, .int .i64 b, .int .i64 c] #[.int .i64 d, .int .i64 e, .int .i64 f]).map _ = _
  rw [flat_call]
  simp only [Option.map_some, Cl.mk.injEq]
  congr 3
  by_cases h1 : a = d
  · by_cases h2 : b = e
    · by_cases h3 : c = f <;> simp [h1, h2, h3]
    · simp [h1, h2]
  · simp [h1]
theorem sameCl_at (σ : AHeap) (h o g p : Nat) (xs ys : List Cl) (hv : TrisAt σ h o xs) (hu : TrisAt σ g p ys) (hl : xs.length ≤ 1048576) (hl2 : ys.length ≤ 1048576) :
    ACall Try.prog w0 40 [.slice (some ⟨h, o, none⟩) xs.length 3, .slice (some ⟨g, p, none⟩) ys.length 3] σ fun r σ' => r = .bool (decide (xs = ys)) ∧ σ' = σ := by
  refine acall_go mixed Try.func40 rfl good40 fun pr => ?_
  by_cases hlen : xs.length = ys.length
  · simp -implicitDefEqProofs (disch := omega) only [List.any_cons, List.any_nil, Nat.reduceEqDiff, List.map_cons, List.map_nil, Option.map_some, Option.map_none, List.nil_append, ↓reduceIte, vcu, ↓vcd]
    refine vc_loop_c mixed (by kernel_rfl) [0, 1] (fun m a σ' => ∃ k : Nat, m + k = xs.length ∧ a 5 = .int .i64 k ∧ σ' = σ ∧ ∀ j, j < k → xs.getD j cl0 = ys.getD j cl0) xs.length ⟨0, by simp, rfl, rfl, by simp⟩ ?_
    rintro m a σ' hc ⟨k, hk, h5, rfl, he⟩
    simp -implicitDefEqProofs (disch := omega) only [List.any_cons, List.any_nil, Nat.reduceEqDiff, List.map_cons, List.map_nil, Option.map_some, Option.map_none, List.nil_append, ↓reduceIte, vcu, ↓vcd] at hc
    obtain ⟨h0, h1, -⟩ := hc
    by_cases hlt : k < xs.length
    · have hx := hv.all hlt
      have hy := hu.all (show k < ys.length by omega)
      generalize hcx : xs.getD k cl0 = c at hx
      generalize hcy : ys.getD k cl0 = d at hy
      obtain ⟨A, B, C⟩ := c
      obtain ⟨D, E, F⟩ := d
      dsimp only at hx hy
      by_cases hxy : (⟨A, B, C⟩ : Cl) = ⟨D, E, F⟩
      · have hd : decide ((⟨A, B, C⟩ : Cl) = ⟨D, E, F⟩) = true := decide_eq_true hxy
        simp -implicitDefEqProofs (disch := omega) only [List.any_cons, List.any_nil, Nat.reduceEqDiff, List.map_cons, List.map_nil, Option.map_some, Option.map_none, List.nil_append, ↓reduceIte, vcu, ↓vcd, h0, h1, h5, hx, hy, co34, neq_call, hd, Bool.not_true]
        refine ⟨⟨trivial, trivial, trivial⟩, m - 1, by omega, k + 1, by omega, by simp, trivial, fun j hj => ?_⟩
        by_cases e : j = k
        · subst e; rw [hcx, hcy]; exact hxy
        · exact he j (by omega)
      · have hd : decide ((⟨A, B, C⟩ : Cl) = ⟨D, E, F⟩) = false := decide_eq_false hxy
        simp -implicitDefEqProofs (disch := omega) only [List.any_cons, List.any_nil, Nat.reduceEqDiff, List.map_cons, List.map_nil, Option.map_some, Option.map_none, List.nil_append, ↓reduceIte, vcu, ↓vcd, h0, h1, h5, hx, hy, co34, neq_call, hd, Bool.not_false]
        refine fin_one Try.results40 ⟨?_, rfl⟩
        simp -implicitDefEqProofs (disch := omega) only [List.any_cons, List.any_nil, Nat.reduceEqDiff, List.map_cons, List.map_nil, Option.map_some, Option.map_none, List.nil_append, ↓reduceIte, vcu, ↓vcd]
        have : xs ≠ ys := fun e => hxy (by rw [← hcx, ← hcy, e])
        simp [this]
    · simp -implicitDefEqProofs (disch := omega) only [List.any_cons, List.any_nil, Nat.reduceEqDiff, List.map_cons, List.map_nil, Option.map_some, Option.map_none, List.nil_append, ↓reduceIte, vcu, ↓vcd, h0, h1, h5]
      refine fin_one Try.results40 ⟨?_, rfl⟩
      simp -implicitDefEqProofs (disch := omega) only [List.any_cons, List.any_nil, Nat.reduceEqDiff, List.map_cons, List.map_nil, Option.map_some, Option.map_none, List.nil_append, ↓reduceIte, vcu, ↓vcd]
      have : xs = ys := list_eq hlen fun j hj => he j (by omega)
      simp [this]
  · simp -implicitDefEqProofs (disch := omega) only [List.any_cons, List.any_nil, Nat.reduceEqDiff, List.map_cons, List.map_nil, Option.map_some, Option.map_none, List.nil_append, ↓reduceIte, vcu, ↓vcd]
    refine fin_one Try.results40 ⟨?_, rfl⟩
    simp -implicitDefEqProofs (disch := omega) only [List.any_cons, List.any_nil, Nat.reduceEqDiff, List.map_cons, List.map_nil, Option.map_some, Option.map_none, List.nil_append, ↓reduceIte, vcu, ↓vcd]
    have : xs ≠ ys := fun e => hlen (by rw [e])
    simp [this]
theorem sameCl_calls (σ : AHeap) (v u : Value) (xs ys : List Cl) (hv : Tris σ v xs) (hu : Tris σ u ys) (hl : xs.length ≤ 1048576) (hl2 : ys.length ≤ 1048576) :
    ACall Try.prog w0 40 [v, u] σ fun r σ' => r = .bool (decide (xs = ys)) ∧ σ' = σ :=
  ACall.tris_quiet (pre := []) (post := [u]) (by kernel_rfl) hv fun σ1 h o hs hg =>
    ACall.tris_quiet (pre := [_]) (post := []) (by kernel_rfl) (hu.sub hs) fun σ2 g p hs2 hg2 => sameCl_at σ2 h o g p xs ys (hg.sub hs2) hg2 hl hl2
theorem busy_at (σ : AHeap) (h o : Nat) (cs : List Cl) (I O : Int) (hv : TrisAt σ h o cs) (hl : cs.length ≤ 1048576) :
    ACall Try.prog w0 34 [.slice (some ⟨h, o, none⟩) cs.length 3, .int .i64 I, .int .i64 O] σ fun r σ' => r = .bool (decide (Busy cs I O)) ∧ σ' = σ := by
  refine acall_go mixed Try.func34 rfl good34 fun pr => ?_
  simp -implicitDefEqProofs (disch := omega) only [List.any_cons, List.any_nil, Nat.reduceEqDiff, List.map_cons, List.map_nil, Option.map_some, Option.map_none, List.nil_append, ↓reduceIte, vcu, ↓vcd]
  refine vc_loop_c mixed (by kernel_rfl) [0, 1, 2] (fun m a τ => ∃ k : Nat, m + k = cs.length ∧ a 7 = .int .i64 k ∧ τ = σ ∧ ∀ c ∈ cs.take k, c.i ≠ I ∧ c.o ≠ O) cs.length ⟨0, by simp, rfl, rfl, by simp⟩ ?_
  rintro m a τ hc ⟨k, hk, h7, rfl, hN⟩
  simp -implicitDefEqProofs (disch := omega) only [List.any_cons, List.any_nil, Nat.reduceEqDiff, List.map_cons, List.map_nil, Option.map_some, Option.map_none, List.nil_append, ↓reduceIte, vcu, ↓vcd] at hc
  obtain ⟨h0, h1, h2, -⟩ := hc
  by_cases hlt : k < cs.length
  case neg =>
    obtain rfl : k = cs.length := by omega
    rw [List.take_length] at hN
    rw [decide_eq_false (fun hB : Busy cs I O => by obtain ⟨c, hc, e⟩ := hB; exact e.elim (hN c hc).1 (hN c hc).2)]
    simp -implicitDefEqProofs (disch := omega) only [List.any_cons, List.any_nil, Nat.reduceEqDiff, List.map_cons, List.map_nil, Option.map_some, Option.map_none, List.nil_append, ↓reduceIte, vcu, ↓vcd, h0, h1, h2, h7]
    refine fin_one Try.results34 ⟨?_, rfl⟩
    simp -implicitDefEqProofs (disch := omega) only [List.any_cons, List.any_nil, Nat.reduceEqDiff, List.map_cons, List.map_nil, Option.map_some, Option.map_none, List.nil_append, ↓reduceIte, vcu, ↓vcd]
  obtain ⟨x1, x2, -⟩ := hv k hlt
  have hm := gc_mem hlt
  have ht := take_gc hlt
  have hgk : cs.getD k cl0 = gc cs k := rfl
  rw [hgk] at x1 x2
  generalize gc cs k = c at x1 x2 hm ht
  by_cases c1 : c.i = I
  · rw [decide_eq_true (show Busy cs I O from ⟨c, hm, .inl c1⟩)]
    simp -implicitDefEqProofs (disch := omega) only [List.any_cons, List.any_nil, Nat.reduceEqDiff, List.map_cons, List.map_nil, Option.map_some, Option.map_none, List.nil_append, ↓reduceIte, vcu, ↓vcd, h0, h1, h2, h7, x1, x2, Nat.add_zero]
    refine fin_one Try.results34 ⟨?_, rfl⟩
    simp -implicitDefEqProofs (disch := omega) only [List.any_cons, List.any_nil, Nat.reduceEqDiff, List.map_cons, List.map_nil, Option.map_some, Option.map_none, List.nil_append, ↓reduceIte, vcu, ↓vcd]
  by_cases c2 : c.o = O
  · rw [decide_eq_true (show Busy cs I O from ⟨c, hm, .inr c2⟩)]
    simp -implicitDefEqProofs (disch := omega) only [List.any_cons, List.any_nil, Nat.reduceEqDiff, List.map_cons, List.map_nil, Option.map_some, Option.map_none, List.nil_append, ↓reduceIte, vcu, ↓vcd, h0, h1, h2, h7, x1, x2, Nat.add_zero]
    refine fin_one Try.results34 ⟨?_, rfl⟩
    simp -implicitDefEqProofs (disch := omega) only [List.any_cons, List.any_nil, Nat.reduceEqDiff, List.map_cons, List.map_nil, Option.map_some, Option.map_none, List.nil_append, ↓reduceIte, vcu, ↓vcd]
  simp -implicitDefEqProofs (disch := omega) only [List.any_cons, List.any_nil, Nat.reduceEqDiff, List.map_cons, List.map_nil, Option.map_some, Option.map_none, List.nil_append, ↓reduceIte, vcu, ↓vcd, h0, h1, h2, h7, x1, x2, Nat.add_zero]
  refine ⟨⟨trivial, trivial, trivial, trivial⟩, m - 1, by omega, k + 1, by omega, by simp, trivial, fun d hd => ?_⟩
  rw [ht] at hd
  rcases List.mem_append.1 hd with hd | hd
  · exact hN d hd
  · rw [List.mem_singleton] at hd; subst hd; exact ⟨c1, c2⟩
theorem busy_calls (σ : AHeap) (v : Value) (cs : List Cl) (I O : Int) (hv : Tris σ v cs) (hl : cs.length ≤ 1048576) :
    ACall Try.prog w0 34 [v, .int .i64 I, .int .i64 O] σ fun r σ' => r = .bool (decide (Busy cs I O)) ∧ σ' = σ :=
  ACall.tris_quiet (pre := []) (post := [_, _]) (by kernel_rfl) hv fun σ1 h o _ hg => busy_at σ1 h o cs I O hg hl
theorem ascend_at (σ : AHeap) (h o : Nat) (xs : List Int) (hv : IntsAt .i64 σ h o xs) (hl : xs.length ≤ 1048576) (ha : Asc xs) :
    ACall Try.prog w0 36 [.slice (some ⟨h, o, none⟩) xs.length 1] σ fun r σ' => r = .bool true ∧ σ' = σ := by
  refine acall_go mixed Try.func36 rfl good36 fun pr => ?_
  simp -implicitDefEqProofs (disch := omega) only [List.any_cons, List.any_nil, Nat.reduceEqDiff, List.map_cons, List.map_nil, Option.map_some, Option.map_none, List.nil_append, ↓reduceIte, vcu, ↓vcd]
  refine vc_loop_c mixed (by kernel_rfl) [0] (fun m a τ => ∃ k : Nat, m + k = xs.length ∧ a 3 = .int .i64 ((k : Int) + 1) ∧ τ = σ) xs.length ⟨0, by simp, rfl, rfl⟩ ?_
  rintro m a τ hc ⟨k, hk, h3, rfl⟩
  simp -implicitDefEqProofs (disch := omega) only [List.any_cons, List.any_nil, Nat.reduceEqDiff, List.map_cons, List.map_nil, Option.map_some, Option.map_none, List.nil_append, ↓reduceIte, vcu, ↓vcd] at hc
  obtain ⟨h0, -⟩ := hc
  by_cases hlt : k + 1 < xs.length
  case neg =>
    simp -implicitDefEqProofs (disch := omega) only [List.any_cons, List.any_nil, Nat.reduceEqDiff, List.map_cons, List.map_nil, Option.map_some, Option.map_none, List.nil_append, ↓reduceIte, vcu, ↓vcd, h0, h3]
    refine fin_one Try.results36 ⟨?_, rfl⟩
    simp -implicitDefEqProofs (disch := omega) only [List.any_cons, List.any_nil, Nat.reduceEqDiff, List.map_cons, List.map_nil, Option.map_some, Option.map_none, List.nil_append, ↓reduceIte, vcu, ↓vcd]
  have hx := hv k (by omega)
  have hy := hv (k + 1) hlt
  have hA := ha k hlt
  have e1 : ((k : Int) + 1 - 1).toNat = k := by omega
  have e2 : ((k : Int) + 1).toNat = k + 1 := by omega
  simp -implicitDefEqProofs (disch := omega) only [List.any_cons, List.any_nil, Nat.reduceEqDiff, List.map_cons, List.map_nil, Option.map_some, Option.map_none, List.nil_append, ↓reduceIte, vcu, ↓vcd, h0, h3, e1, e2, hx, hy, Nat.mul_one]
  exact ⟨⟨trivial, trivial⟩, m - 1, by omega, k + 1, by omega, by simp, trivial⟩
theorem ascend_calls (σ : AHeap) (v : Value) (xs : List Int) (hv : Ints .i64 σ v xs) (hl : xs.length ≤ 1048576) (ha : Asc xs) :
    ACall Try.prog w0 36 [v] σ fun r σ' => r = .bool true ∧ σ' = σ :=
  ACall.ints_quiet (pre := []) (by kernel_rfl) hv fun σ1 h o _ hg => ascend_at σ1 h o xs hg hl ha
end Go.Proofs.Ytphacjkogompoaa
