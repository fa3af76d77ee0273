/- Split, of the program. -/
import Derived.Test.YtbfldpcikcdlpaaSb
set_option linter.unusedSimpArgs false
set_option linter.unusedVariables false
namespace Go.Proofs.Ytbfldpcikcdlpaa
open Go Go.Abs Go.RowKit
variable {w0 : World}

/-- what Split gives -/
def SplitF (rows list : List (List Int)) (b : Bool) : Prop := (¬ EvenT rows ∧ list = [] ∧ b = false) ∨ (EvenT rows ∧ b = true ∧ list = listK rows (most rows rows.length).toNat)
theorem even_sq {T : List (List Int)} {n : Nat} (hE : EvenT T) (hn : T.length = n) : Sq n T := ⟨hn, fun i hi => by rw [(hE.1.2 i (by omega)).1, hn]⟩

theorem implSplit_at (σ : AHeap) (h o : Nat) (rows : List (List Int)) (hv : RowsAt σ h o rows) (hl : rows.length ≤ 1048576) :
    ACall Try.prog w0 26 [.slice (some ⟨h, o, none⟩) rows.length 1] σ fun r σ' => ∃ (v : Value) (b : Bool) (list : List (List Int)), r = .tuple #[v, .bool b] ∧ Sub σ σ' ∧ OwnTV σ σ' v list ∧ SplitF rows list b := by
  refine acall_go mixed Try.func26 rfl good26 ?_
  simp -implicitDefEqProofs (disch := omega) only [List.any_cons, List.any_nil, Nat.reduceEqDiff, List.map_cons, List.map_nil, Option.map_some, Option.map_none, List.nil_append, ↓reduceIte, vcu0, vcu1, vcu2, vcu3, vcu4, vcu5, vcu6, vcu7, vcu8, vcu9, vcu10, vcu11, vcu12, vcu13, vcu14, vcu15, vcu16, ↓vcd0, ↓vcd1, ↓vcd2, ↓vcd3]
  refine (implEven_at σ h o rows hv hl).mono ?_
  rintro r σ1 ⟨rfl, s1⟩
  by_cases hE : EvenT rows
  · rw [decide_eq_true hE]
    have hn6 := hE.1.1
    obtain ⟨n, hn⟩ : ∃ n, rows.length = n := ⟨_, rfl⟩
    have hsq := even_sq hE hn
    have hM0 := most_le hE.1 rows.length (Nat.le_refl _)
    have hmv : mostV rows = most rows rows.length := if_pos hE.1
    rw [hn]
    simp -implicitDefEqProofs (disch := omega) only [List.any_cons, List.any_nil, Nat.reduceEqDiff, List.map_cons, List.map_nil, Option.map_some, Option.map_none, List.nil_append, ↓reduceIte, vcu0, vcu1, vcu2, vcu3, vcu4, vcu5, vcu6, vcu7, vcu8, vcu9, vcu10, vcu11, vcu12, vcu13, vcu14, vcu15, vcu16, ↓vcd0, ↓vcd1, ↓vcd2, ↓vcd3, opK_some]
    refine (copyT_at σ1 h o rows n (hv.sub s1) hsq (by omega)).mono ?_
    rintro left σ2 ⟨s2, hleft⟩
    simp -implicitDefEqProofs (disch := omega) only [List.any_cons, List.any_nil, Nat.reduceEqDiff, List.map_cons, List.map_nil, Option.map_some, Option.map_none, List.nil_append, ↓reduceIte, vcu0, vcu1, vcu2, vcu3, vcu4, vcu5, vcu6, vcu7, vcu8, vcu9, vcu10, vcu11, vcu12, vcu13, vcu14, vcu15, vcu16, ↓vcd0, ↓vcd1, ↓vcd2, ↓vcd3, opK_some]
    have hml := implMost_at (w0 := w0) σ2 h o rows ((hv.sub s1).sub s2) hl
    rw [hn] at hml
    refine hml.mono ?_
    rintro r σ3 ⟨rfl, s3⟩
    have hs3 := (s1.trans s2).trans s3
    rw [hmv]
    obtain ⟨K, hK⟩ : ∃ K : Nat, most rows rows.length = K := ⟨(most rows rows.length).toNat, by omega⟩
    rw [hK]
    have hSF : SplitF rows (listK rows K) true := .inr ⟨hE, rfl, by rw [hK, Int.toNat_natCast]⟩
    simp -implicitDefEqProofs (disch := omega) only [List.any_cons, List.any_nil, Nat.reduceEqDiff, List.map_cons, List.map_nil, Option.map_some, Option.map_none, List.nil_append, ↓reduceIte, vcu0, vcu1, vcu2, vcu3, vcu4, vcu5, vcu6, vcu7, vcu8, vcu9, vcu10, vcu11, vcu12, vcu13, vcu14, vcu15, vcu16, ↓vcd0, ↓vcd1, ↓vcd2, ↓vcd3, opK_some]
    rcases hleft with ⟨rfl, he⟩ | ⟨gL, qL, rfl, hL⟩
    · have hK0 : K = 0 := by rw [he] at hK; simp [most] at hK; omega
      subst hK0
      refine vc_loop_c mixed (by kernel_rfl) [16, 5] (fun m a σ' => a 17 = .int .i64 0 ∧ σ' = σ3) 0 ⟨rfl, rfl⟩ ?_
      rintro m a σ' hc ⟨h17, rfl⟩
      simp -implicitDefEqProofs (disch := omega) only [List.any_cons, List.any_nil, Nat.reduceEqDiff, List.map_cons, List.map_nil, Option.map_some, Option.map_none, List.nil_append, ↓reduceIte, vcu0, vcu1, vcu2, vcu3, vcu4, vcu5, vcu6, vcu7, vcu8, vcu9, vcu10, vcu11, vcu12, vcu13, vcu14, vcu15, vcu16, ↓vcd0, ↓vcd1, ↓vcd2, ↓vcd3] at hc
      obtain ⟨h16, h5, -⟩ := hc
      simp -implicitDefEqProofs (disch := omega) only [List.any_cons, List.any_nil, Nat.reduceEqDiff, List.map_cons, List.map_nil, Option.map_some, Option.map_none, List.nil_append, ↓reduceIte, vcu0, vcu1, vcu2, vcu3, vcu4, vcu5, vcu6, vcu7, vcu8, vcu9, vcu10, vcu11, vcu12, vcu13, vcu14, vcu15, vcu16, ↓vcd0, ↓vcd1, ↓vcd2, ↓vcd3, h16, h17, h5]
      refine fin_two Try.results26 ⟨.slice none 0 0, true, [], ?_, hs3, .inl ⟨rfl, rfl⟩, by simpa [listK] using hSF⟩
      simp -implicitDefEqProofs (disch := omega) only [List.any_cons, List.any_nil, Nat.reduceEqDiff, List.map_cons, List.map_nil, Option.map_some, Option.map_none, List.nil_append, ↓reduceIte, vcu0, vcu1, vcu2, vcu3, vcu4, vcu5, vcu6, vcu7, vcu8, vcu9, vcu10, vcu11, vcu12, vcu13, vcu14, vcu15, vcu16, ↓vcd0, ↓vcd1, ↓vcd2, ↓vcd3]
    · have hL3 : OwnT σ σ3 gL qL (leftK rows 0) := (hL.base s1).sub s3
      refine vc_loop_c mixed (by kernel_rfl) [4, 16] (fun m a σ' => ∃ (k : Nat) (v5 : Value), m + k = K ∧ a 17 = .int .i64 k ∧ a 5 = v5 ∧ Sub σ σ' ∧ OwnT σ σ' gL qL (leftK rows k) ∧ Apart σ σ' (FL gL qL n) v5 (listK rows k)) K
        ⟨0, _, by simp, rfl, rfl, hs3, hL3, .inl ⟨rfl, rfl⟩⟩ ?_
      clear hL3 hL
      rintro m a σ4 hc ⟨k, v5, hk, h17, h5, hs, hL, hA⟩
      simp -implicitDefEqProofs (disch := omega) only [List.any_cons, List.any_nil, Nat.reduceEqDiff, List.map_cons, List.map_nil, Option.map_some, Option.map_none, List.nil_append, ↓reduceIte, vcu0, vcu1, vcu2, vcu3, vcu4, vcu5, vcu6, vcu7, vcu8, vcu9, vcu10, vcu11, vcu12, vcu13, vcu14, vcu15, vcu16, ↓vcd0, ↓vcd1, ↓vcd2, ↓vcd3, hn] at hc
      obtain ⟨h4, h16, -⟩ := hc
      by_cases hlt : k < K
      · obtain ⟨l1, l2, l3⟩ := leftK_ok hE k (by rw [hK]; omega)
        rw [hn] at l1 l3
        have hpos : 0 < most (leftK rows k) (leftK rows k).length := by rw [l1, l3, ← hn, hK]; omega
        obtain ⟨p0, pp, pl, pm⟩ := mp_ok l2 hpos
        rw [l1] at p0 pl
        have hsqk := even_sq l2 l1
        simp -implicitDefEqProofs (disch := omega) only [List.any_cons, List.any_nil, Nat.reduceEqDiff, List.map_cons, List.map_nil, Option.map_some, Option.map_none, List.nil_append, ↓reduceIte, vcu0, vcu1, vcu2, vcu3, vcu4, vcu5, vcu6, vcu7, vcu8, vcu9, vcu10, vcu11, vcu12, vcu13, vcu14, vcu15, vcu16, ↓vcd0, ↓vcd1, ↓vcd2, ↓vcd3, h4, h5, h16, h17]
        refine (leastMatch_at σ4 gL 0 (leftK rows k) n hL.rows hsqk (by omega)).mono ?_
        rintro r σ5 ⟨u, b, ps, rfl, s5, hu, hf, ht⟩
        cases b with
        | false => exact absurd (even_can l2 hpos) (hf rfl).2
        | true =>
        obtain ⟨t1, t2⟩ := ht rfl
        have hmp : mp (leftK rows k) = ps := mp_at (.inr ⟨l2.1, .inr ⟨rfl, by rw [l1]; exact t1, t2⟩⟩)
        have hgo : leftK rows (k + 1) = subP (leftK rows k) ps n := by show subP _ (mp _) _ = _; rw [hmp, hn]
        have hlo : listK rows (k + 1) = listK rows k ++ [ps] := by rw [listK_succ, hmp]
        rcases hu with ⟨-, e⟩ | ⟨z, rfl, ez, nz⟩
        · rw [e] at t1; simp at t1; omega
        have hV := pre_valid t2 (by rw [l1]; exact t1) (by omega)
        obtain ⟨hin, hnn⟩ := valid_in hV t1
        have hfz : σ z = none := free_sub hs nz
        have hzL : z ≠ gL := ne_of nz hL.at_
        have hzq : ∀ i, i < (leftK rows k).length → qL i ≠ z := fun i hi => ne_of' nz (hL.row i hi)
        have hFz : ¬ FL gL qL n z := by
          rintro (e | ⟨i, hi, e⟩)
          · exact hzL e
          · exact hzq i (by omega) e
        have hA5 := (hA.add nz).sub s5
        have hL5 := hL.sub s5
        rw [t1]
        simp -implicitDefEqProofs (disch := omega) only [List.any_cons, List.any_nil, Nat.reduceEqDiff, List.map_cons, List.map_nil, Option.map_some, Option.map_none, List.nil_append, ↓reduceIte, vcu0, vcu1, vcu2, vcu3, vcu4, vcu5, vcu6, vcu7, vcu8, vcu9, vcu10, vcu11, vcu12, vcu13, vcu14, vcu15, vcu16, ↓vcd0, ↓vcd1, ↓vcd2, ↓vcd3, opK_some, List.getElem?_toArray, List.getElem?_cons_zero, List.getElem?_cons_succ, h4, h5, h16, h17]
        refine vc_loop_c mixed (by kernel_rfl) [4, 5, 6, 16, 17, 24, 25] (fun m a σ' => ∃ j : Nat, m + j = n ∧ a 26 = .int .i64 j ∧ Sub σ σ' ∧ OwnT σ σ' gL qL (subP (leftK rows k) ps j) ∧ Apart σ σ' (fun x => FL gL qL n x ∨ x = z) v5 (listK rows k) ∧ σ' z = some ⟨ints .i64 ps, false⟩) n
          ⟨0, by simp, rfl, hs.trans s5, hL5, hA5, ez⟩ ?_
        clear hA5 hL5 ez hL hA hs s5 nz
        rintro m2 a2 σ6 hc2 ⟨j, hj, h26, hs, hL, hA, ez⟩
        simp -implicitDefEqProofs (disch := omega) only [List.any_cons, List.any_nil, Nat.reduceEqDiff, List.map_cons, List.map_nil, Option.map_some, Option.map_none, List.nil_append, ↓reduceIte, vcu0, vcu1, vcu2, vcu3, vcu4, vcu5, vcu6, vcu7, vcu8, vcu9, vcu10, vcu11, vcu12, vcu13, vcu14, vcu15, vcu16, ↓vcd0, ↓vcd1, ↓vcd2, ↓vcd3, h4, h5, h16, h17] at hc2
        obtain ⟨c4, c5, c6, c16, c17, c24, c25, -⟩ := hc2
        have hsqj := subP_sq hsqk ps j (by omega)
        by_cases hjl : j < n
        · have hgj := hL.get (i := j) (by rw [hsqj.1]; exact hjl)
          have hrj := hL.row j (by rw [hsqj.1]; exact hjl)
          have hrl := hsqj.2 j hjl
          have hpj := hin.2 j hjl
          have hp0 := hnn j hjl
          have hpx := own_at ez (i := j) (by omega)
          have hej : en (subP (leftK rows k) ps j) j (ps.getD j 0).toNat = en (leftK rows k) j (ps.getD j 0).toNat := by
            rw [en_subP hsqk hin _ _ j (by omega), if_neg (by omega)]; omega
          have hedge := (t2.ok j (by omega)).2.2.1
          have hle6 := l2.1.at (i := j) (j := (ps.getD j 0).toNat) (by omega) (by omega)
          have hE1 : en (leftK rows k) j (ps.getD j 0).toNat = ((leftK rows k).getD j []).getD (ps.getD j 0).toNat 0 := rfl
          rw [← hE1] at hle6
          have hld : ld σ6 (qL j) (0 + (ps.getD j 0).toNat) = some (.int .i64 (en (leftK rows k) j (ps.getD j 0).toNat)) := by
            rw [own_at hrj (by rw [hrl]; exact hpj), ← hej]; rfl
          have hab : subP (leftK rows k) ps (j + 1) = less1 (subP (leftK rows k) ps j) j (ps.getD j 0).toNat := rfl
          unfold less1 at hab
          rw [hej] at hab
          generalize en (leftK rows k) j (ps.getD j 0).toNat = x at hld hab hle6
          simp -implicitDefEqProofs (disch := omega) only [List.any_cons, List.any_nil, Nat.reduceEqDiff, List.map_cons, List.map_nil, Option.map_some, Option.map_none, List.nil_append, ↓reduceIte, vcu0, vcu1, vcu2, vcu3, vcu4, vcu5, vcu6, vcu7, vcu8, vcu9, vcu10, vcu11, vcu12, vcu13, vcu14, vcu15, vcu16, ↓vcd0, ↓vcd1, ↓vcd2, ↓vcd3, c4, c5, c6, c16, c17, c24, c25, h26, hgj, hpx, hld, hrl]
          refine r_setI (g := qL j) (i := 0 + (ps.getD j 0).toNat) (v := x - 1) (by simp -implicitDefEqProofs (disch := omega) only [List.any_cons, List.any_nil, Nat.reduceEqDiff, List.map_cons, List.map_nil, Option.map_some, Option.map_none, List.nil_append, ↓reduceIte, vcu0, vcu1, vcu2, vcu3, vcu4, vcu5, vcu6, vcu7, vcu8, vcu9, vcu10, vcu11, vcu12, vcu13, vcu14, vcu15, vcu16, ↓vcd0, ↓vcd1, ↓vcd2, ↓vcd3]) (by simp -implicitDefEqProofs (disch := omega) only [List.any_cons, List.any_nil, Nat.reduceEqDiff, List.map_cons, List.map_nil, Option.map_some, Option.map_none, List.nil_append, ↓reduceIte, vcu0, vcu1, vcu2, vcu3, vcu4, vcu5, vcu6, vcu7, vcu8, vcu9, vcu10, vcu11, vcu12, vcu13, vcu14, vcu15, vcu16, ↓vcd0, ↓vcd1, ↓vcd2, ↓vcd3]) co3 hrj (by omega) fun τ5 k5 e5 => ?_
          rw [Nat.zero_add] at e5
          have hzj : z ≠ qL j := fun e => hFz (.inr ⟨j, hjl, e.symm⟩)
          simp -implicitDefEqProofs (disch := omega) only [List.any_cons, List.any_nil, Nat.reduceEqDiff, List.map_cons, List.map_nil, Option.map_some, Option.map_none, List.nil_append, ↓reduceIte, vcu0, vcu1, vcu2, vcu3, vcu4, vcu5, vcu6, vcu7, vcu8, vcu9, vcu10, vcu11, vcu12, vcu13, vcu14, vcu15, vcu16, ↓vcd0, ↓vcd1, ↓vcd2, ↓vcd3, h26]
          refine ⟨?_, m2 - 1, by omega, j + 1, by omega, by simp, k5.sub hs (hL.free j (by rw [hsqj.1]; exact hjl)), ?_, hA.keptx k5 (.inl (.inr ⟨j, hjl, rfl⟩)), k5.at ez hzj⟩
          · simp [c4, c5, c6, c16, c17, c24, c25, h4, h5, h16, h17]
          · rw [hab]
            exact hL.write (by rw [hsqj.1]; exact hjl) (by simp) k5 e5
        · have ejn : j = n := by omega
          subst ejn
          simp -implicitDefEqProofs (disch := omega) only [List.any_cons, List.any_nil, Nat.reduceEqDiff, List.map_cons, List.map_nil, Option.map_some, Option.map_none, List.nil_append, ↓reduceIte, vcu0, vcu1, vcu2, vcu3, vcu4, vcu5, vcu6, vcu7, vcu8, vcu9, vcu10, vcu11, vcu12, vcu13, vcu14, vcu15, vcu16, ↓vcd0, ↓vcd1, ↓vcd2, ↓vcd3, c4, c5, c6, c16, c17, c24, c25, h26]
          refine r_lit el23 (out := #[.slice (some ⟨z, 0, none⟩) j 1]) (by simp -implicitDefEqProofs (disch := omega) only [List.any_cons, List.any_nil, Nat.reduceEqDiff, List.map_cons, List.map_nil, Option.map_some, Option.map_none, List.nil_append, ↓reduceIte, vcu0, vcu1, vcu2, vcu3, vcu4, vcu5, vcu6, vcu7, vcu8, vcu9, vcu10, vcu11, vcu12, vcu13, vcu14, vcu15, vcu16, ↓vcd0, ↓vcd1, ↓vcd2, ↓vcd3]; kernel_rfl) (by kernel_rfl) fun e7 τ7 n7 s7 v7 => ?_
          refine r_pushA (σ0 := σ) (σ := τ7) (F := FL gL qL j) (O := listK rows k) (row := ps) (r := z) (e := e7) (v := v5) el23 (by omega) sl23 (by simp -implicitDefEqProofs (disch := omega) only [List.any_cons, List.any_nil, Nat.reduceEqDiff, List.map_cons, List.map_nil, Option.map_some, Option.map_none, List.nil_append, ↓reduceIte, vcu0, vcu1, vcu2, vcu3, vcu4, vcu5, vcu6, vcu7, vcu8, vcu9, vcu10, vcu11, vcu12, vcu13, vcu14, vcu15, vcu16, ↓vcd0, ↓vcd1, ↓vcd2, ↓vcd3, c5]) (hA.sub s7) ((hL.sub s7).hasF hsqj.1) (by simp -implicitDefEqProofs (disch := omega) only [List.any_cons, List.any_nil, Nat.reduceEqDiff, List.map_cons, List.map_nil, Option.map_some, Option.map_none, List.nil_append, ↓reduceIte, vcu0, vcu1, vcu2, vcu3, vcu4, vcu5, vcu6, vcu7, vcu8, vcu9, vcu10, vcu11, vcu12, vcu13, vcu14, vcu15, vcu16, ↓vcd0, ↓vcd1, ↓vcd2, ↓vcd3]) (by rw [v7]; simp [rowV, t1]) (s7 _ _ ez) hfz hFz (hs.trans s7) (by rw [listK_length]; omega) fun g8 τ8 hA8 s8 hk8 => ?_
          rw [listK_length] at hA8
          simp -implicitDefEqProofs (disch := omega) only [List.any_cons, List.any_nil, Nat.reduceEqDiff, List.map_cons, List.map_nil, Option.map_some, Option.map_none, List.nil_append, ↓reduceIte, vcu0, vcu1, vcu2, vcu3, vcu4, vcu5, vcu6, vcu7, vcu8, vcu9, vcu10, vcu11, vcu12, vcu13, vcu14, vcu15, vcu16, ↓vcd0, ↓vcd1, ↓vcd2, ↓vcd3, c17, listK_length]
          refine ⟨?_, m - 1, by omega, k + 1, _, by omega, by simp, rfl, s8, by rw [hgo]; exact (hL.sub s7).keepF hsqj.1 hk8, by rw [hlo]; exact hA8⟩
          simp [c4, c16, h4, h16, hn]
      · have e : k = K := by omega
        subst e
        simp -implicitDefEqProofs (disch := omega) only [List.any_cons, List.any_nil, Nat.reduceEqDiff, List.map_cons, List.map_nil, Option.map_some, Option.map_none, List.nil_append, ↓reduceIte, vcu0, vcu1, vcu2, vcu3, vcu4, vcu5, vcu6, vcu7, vcu8, vcu9, vcu10, vcu11, vcu12, vcu13, vcu14, vcu15, vcu16, ↓vcd0, ↓vcd1, ↓vcd2, ↓vcd3, h4, h5, h16, h17]
        refine fin_two Try.results26 ⟨v5, true, _, ?_, hs, hA.own, hSF⟩
        simp -implicitDefEqProofs (disch := omega) only [List.any_cons, List.any_nil, Nat.reduceEqDiff, List.map_cons, List.map_nil, Option.map_some, Option.map_none, List.nil_append, ↓reduceIte, vcu0, vcu1, vcu2, vcu3, vcu4, vcu5, vcu6, vcu7, vcu8, vcu9, vcu10, vcu11, vcu12, vcu13, vcu14, vcu15, vcu16, ↓vcd0, ↓vcd1, ↓vcd2, ↓vcd3, h5]
  · rw [decide_eq_false hE]
    simp -implicitDefEqProofs (disch := omega) only [List.any_cons, List.any_nil, Nat.reduceEqDiff, List.map_cons, List.map_nil, Option.map_some, Option.map_none, List.nil_append, ↓reduceIte, vcu0, vcu1, vcu2, vcu3, vcu4, vcu5, vcu6, vcu7, vcu8, vcu9, vcu10, vcu11, vcu12, vcu13, vcu14, vcu15, vcu16, ↓vcd0, ↓vcd1, ↓vcd2, ↓vcd3, opK_some]
    refine fin_two Try.results26 ⟨.slice none 0 0, false, [], ?_, s1, .inl ⟨rfl, rfl⟩, .inl ⟨hE, rfl, rfl⟩⟩
    simp -implicitDefEqProofs (disch := omega) only [List.any_cons, List.any_nil, Nat.reduceEqDiff, List.map_cons, List.map_nil, Option.map_some, Option.map_none, List.nil_append, ↓reduceIte, vcu0, vcu1, vcu2, vcu3, vcu4, vcu5, vcu6, vcu7, vcu8, vcu9, vcu10, vcu11, vcu12, vcu13, vcu14, vcu15, vcu16, ↓vcd0, ↓vcd1, ↓vcd2, ↓vcd3]
end Go.Proofs.Ytbfldpcikcdlpaa
