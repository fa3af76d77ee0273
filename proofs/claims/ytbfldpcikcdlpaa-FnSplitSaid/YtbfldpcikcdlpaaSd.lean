/- Split, of the reference. -/
import Derived.Test.YtbfldpcikcdlpaaSc
set_option linter.unusedSimpArgs false
set_option linter.unusedVariables false
namespace Go.Proofs.Ytbfldpcikcdlpaa
open Go Go.Abs Go.RowKit
variable {w0 : World}

theorem specSplit_at (σ : AHeap) (h o : Nat) (rows : List (List Int)) (hv : RowsAt σ h o rows) (hl : rows.length ≤ 1048576) :
    ACall Try.prog w0 35 [.slice (some ⟨h, o, none⟩) rows.length 1] σ fun r σ' => ∃ (v : Value) (b : Bool) (list : List (List Int)), r = .tuple #[v, .bool b] ∧ Sub σ σ' ∧ OwnTV σ σ' v list ∧ SplitF rows list b := by
  refine acall_go mixed Try.func35 rfl good35 ?_
  simp -implicitDefEqProofs (disch := omega) only [List.any_cons, List.any_nil, Nat.reduceEqDiff, List.map_cons, List.map_nil, Option.map_some, Option.map_none, List.nil_append, ↓reduceIte, vcu0, vcu1, vcu2, vcu3, vcu4, vcu5, vcu6, vcu7, vcu8, vcu9, vcu10, vcu11, vcu12, vcu13, vcu14, vcu15, vcu16, ↓vcd0, ↓vcd1, ↓vcd2, ↓vcd3]
  refine r_lit el23 (out := #[]) (by kernel_rfl) (by kernel_rfl) fun e1 σ1 n1 s1 v1 => ?_
  simp -implicitDefEqProofs (disch := omega) only [List.any_cons, List.any_nil, Nat.reduceEqDiff, List.map_cons, List.map_nil, Option.map_some, Option.map_none, List.nil_append, ↓reduceIte, vcu0, vcu1, vcu2, vcu3, vcu4, vcu5, vcu6, vcu7, vcu8, vcu9, vcu10, vcu11, vcu12, vcu13, vcu14, vcu15, vcu16, ↓vcd0, ↓vcd1, ↓vcd2, ↓vcd3]
  refine (specEven_at σ1 h o rows (hv.sub s1) hl).mono ?_
  rintro r _ ⟨rfl, rfl⟩
  rename_i σ1
  by_cases hE : EvenT rows
  · rw [decide_eq_true hE]
    have hn6 := hE.1.1
    obtain ⟨n, hn⟩ : ∃ n, rows.length = n := ⟨_, rfl⟩
    have hsq := even_sq hE hn
    have hM0 := most_le hE.1 rows.length (Nat.le_refl _)
    simp -implicitDefEqProofs (disch := omega) only [List.any_cons, List.any_nil, Nat.reduceEqDiff, List.map_cons, List.map_nil, Option.map_some, Option.map_none, List.nil_append, ↓reduceIte, vcu0, vcu1, vcu2, vcu3, vcu4, vcu5, vcu6, vcu7, vcu8, vcu9, vcu10, vcu11, vcu12, vcu13, vcu14, vcu15, vcu16, ↓vcd0, ↓vcd1, ↓vcd2, ↓vcd3, opK_some]
    refine r_lit el23 (out := #[]) (by kernel_rfl) (by kernel_rfl) fun e2 σ2 n2 s2 v2 => ?_
    simp -implicitDefEqProofs (disch := omega) only [List.any_cons, List.any_nil, Nat.reduceEqDiff, List.map_cons, List.map_nil, Option.map_some, Option.map_none, List.nil_append, ↓reduceIte, vcu0, vcu1, vcu2, vcu3, vcu4, vcu5, vcu6, vcu7, vcu8, vcu9, vcu10, vcu11, vcu12, vcu13, vcu14, vcu15, vcu16, ↓vcd0, ↓vcd1, ↓vcd2, ↓vcd3]
    have hne12 : e1 ≠ e2 := ne_of' n2 v1
    -- the copy
    refine vc_loop_c mixed (by kernel_rfl) [0, 4] (fun m a σ' => ∃ (k gL : Nat) (qL : Nat → Nat), m + k = n ∧ a 6 = .int .i64 k ∧ a 5 = .slice (some ⟨gL, 0, none⟩) k 1 ∧ Sub σ σ' ∧ σ' e1 = some ⟨[], false⟩ ∧ OwnT σ σ' gL qL (rows.take k) ∧ e1 ≠ gL) n
      ⟨0, e2, fun _ => 0, by simp, rfl, rfl, s1.trans s2, s2 _ _ v1, by simpa using OwnT.nil _ v2 (free_sub s1 n2), hne12⟩ ?_
    rintro m a σ3 hc ⟨k, gL, qL, hk, h6, h5, hs, he1, hL, hF1⟩
    simp -implicitDefEqProofs (disch := omega) only [List.any_cons, List.any_nil, Nat.reduceEqDiff, List.map_cons, List.map_nil, Option.map_some, Option.map_none, List.nil_append, ↓reduceIte, vcu0, vcu1, vcu2, vcu3, vcu4, vcu5, vcu6, vcu7, vcu8, vcu9, vcu10, vcu11, vcu12, vcu13, vcu14, vcu15, vcu16, ↓vcd0, ↓vcd1, ↓vcd2, ↓vcd3, hn] at hc
    obtain ⟨h0, h4, -⟩ := hc
    have hkl : (rows.take k).length = k := by simp; omega
    by_cases hlt : k < n
    · obtain ⟨u, hx, hi⟩ := (hv.sub hs) k (by omega)
      have hrl := hsq.2 k hlt
      have htk : rows.take (k + 1) = rows.take k ++ [rows.getD k []] := by
        rw [List.take_succ_eq_append_getElem (by omega)]; simp [List.getD, hn, hlt]
      generalize hrow : rows.getD k [] = row at hi hrl htk
      rcases hi with ⟨rfl, rfl⟩ | ⟨rg, ro, rfl, hat⟩
      · simp at hrl; omega
      simp -implicitDefEqProofs (disch := omega) only [List.any_cons, List.any_nil, Nat.reduceEqDiff, List.map_cons, List.map_nil, Option.map_some, Option.map_none, List.nil_append, ↓reduceIte, vcu0, vcu1, vcu2, vcu3, vcu4, vcu5, vcu6, vcu7, vcu8, vcu9, vcu10, vcu11, vcu12, vcu13, vcu14, vcu15, vcu16, ↓vcd0, ↓vcd1, ↓vcd2, ↓vcd3, h0, h5, h6]
      refine r_lit el27 (out := #[]) (by kernel_rfl) (by kernel_rfl) fun e5 σ5 n5 s5 v5 => ?_
      have hx5 := s5
      have hx' := ld_sub s5 hx
      simp -implicitDefEqProofs (disch := omega) only [List.any_cons, List.any_nil, Nat.reduceEqDiff, List.map_cons, List.map_nil, Option.map_some, Option.map_none, List.nil_append, ↓reduceIte, vcu0, vcu1, vcu2, vcu3, vcu4, vcu5, vcu6, vcu7, vcu8, vcu9, vcu10, vcu11, vcu12, vcu13, vcu14, vcu15, vcu16, ↓vcd0, ↓vcd1, ↓vcd2, ↓vcd3, h0, h6, hx']
      refine r_pushI (g := e5) (e := rg) (o := ro) (k := .i64) (xs := []) (ys := row) (m := row.length) (len := 0) el27 (by omega) sl27 (by simp -implicitDefEqProofs (disch := omega) only [List.any_cons, List.any_nil, Nat.reduceEqDiff, List.map_cons, List.map_nil, Option.map_some, Option.map_none, List.nil_append, ↓reduceIte, vcu0, vcu1, vcu2, vcu3, vcu4, vcu5, vcu6, vcu7, vcu8, vcu9, vcu10, vcu11, vcu12, vcu13, vcu14, vcu15, vcu16, ↓vcd0, ↓vcd1, ↓vcd2, ↓vcd3]) v5 rfl (by simp -implicitDefEqProofs (disch := omega) only [List.any_cons, List.any_nil, Nat.reduceEqDiff, List.map_cons, List.map_nil, Option.map_some, Option.map_none, List.nil_append, ↓reduceIte, vcu0, vcu1, vcu2, vcu3, vcu4, vcu5, vcu6, vcu7, vcu8, vcu9, vcu10, vcu11, vcu12, vcu13, vcu14, vcu15, vcu16, ↓vcd0, ↓vcd1, ↓vcd2, ↓vcd3]) (hat.sub s5) rfl (by omega) fun z σ6 n6 k6 v6 => ?_
      rw [List.nil_append] at v6
      have s6 : Sub σ3 σ6 := k6.sub s5 n5
      have nz : σ3 z = none := free_sub s5 n6
      simp -implicitDefEqProofs (disch := omega) only [List.any_cons, List.any_nil, Nat.reduceEqDiff, List.map_cons, List.map_nil, Option.map_some, Option.map_none, List.nil_append, ↓reduceIte, vcu0, vcu1, vcu2, vcu3, vcu4, vcu5, vcu6, vcu7, vcu8, vcu9, vcu10, vcu11, vcu12, vcu13, vcu14, vcu15, vcu16, ↓vcd0, ↓vcd1, ↓vcd2, ↓vcd3, Nat.zero_add]
      refine r_lit el23 (out := #[.slice (some ⟨z, 0, none⟩) row.length 1]) (by simp -implicitDefEqProofs (disch := omega) only [List.any_cons, List.any_nil, Nat.reduceEqDiff, List.map_cons, List.map_nil, Option.map_some, Option.map_none, List.nil_append, ↓reduceIte, vcu0, vcu1, vcu2, vcu3, vcu4, vcu5, vcu6, vcu7, vcu8, vcu9, vcu10, vcu11, vcu12, vcu13, vcu14, vcu15, vcu16, ↓vcd0, ↓vcd1, ↓vcd2, ↓vcd3]; kernel_rfl) (by kernel_rfl) fun e7 σ7 n7 s7 v7 => ?_
      refine r_pushT (β := σ) (len := k) (g := gL) (e := e7) (r := z) (q := qL) (rows := rows.take k) (row := row) el23 (by omega) sl23 (by simp -implicitDefEqProofs (disch := omega) only [List.any_cons, List.any_nil, Nat.reduceEqDiff, List.map_cons, List.map_nil, Option.map_some, Option.map_none, List.nil_append, ↓reduceIte, vcu0, vcu1, vcu2, vcu3, vcu4, vcu5, vcu6, vcu7, vcu8, vcu9, vcu10, vcu11, vcu12, vcu13, vcu14, vcu15, vcu16, ↓vcd0, ↓vcd1, ↓vcd2, ↓vcd3, h5]) hkl ((hL.sub s6).sub s7) (by simp -implicitDefEqProofs (disch := omega) only [List.any_cons, List.any_nil, Nat.reduceEqDiff, List.map_cons, List.map_nil, Option.map_some, Option.map_none, List.nil_append, ↓reduceIte, vcu0, vcu1, vcu2, vcu3, vcu4, vcu5, vcu6, vcu7, vcu8, vcu9, vcu10, vcu11, vcu12, vcu13, vcu14, vcu15, vcu16, ↓vcd0, ↓vcd1, ↓vcd2, ↓vcd3]) (by rw [v7]; simp [rowV]) (s7 _ _ v6) (free_sub hs nz) (ne_of nz hL.at_) (fun i hi => ne_of' nz (hL.row i hi)) ((hs.trans s6).trans s7) (by omega) fun g' q' σ8 s8 hO8 k8 n8 => ?_
      have he7 := s7 _ _ (s6 _ _ he1)
      simp -implicitDefEqProofs (disch := omega) only [List.any_cons, List.any_nil, Nat.reduceEqDiff, List.map_cons, List.map_nil, Option.map_some, Option.map_none, List.nil_append, ↓reduceIte, vcu0, vcu1, vcu2, vcu3, vcu4, vcu5, vcu6, vcu7, vcu8, vcu9, vcu10, vcu11, vcu12, vcu13, vcu14, vcu15, vcu16, ↓vcd0, ↓vcd1, ↓vcd2, ↓vcd3, h0, h4, h6]
      refine ⟨⟨by rw [hn], trivial, trivial⟩, m - 1, by omega, k + 1, g', q', by omega, by simp, by simp, s8, k8.at he7 hF1, by rw [htk]; exact hO8, ne_of' n8 he7⟩
    · have hkn : n = k := by omega
      subst hkn
      rw [List.take_of_length_le (by omega)] at hL
      obtain ⟨K, hK⟩ : ∃ K : Nat, most rows rows.length = K := ⟨(most rows rows.length).toNat, by omega⟩
      have hFe : ¬ FL gL qL n e1 := by
        rintro (e | ⟨i, hi, e⟩)
        · exact hF1 e
        · have h1 := hL.row i (by omega)
          have h2 := hsq.2 i hi
          rw [e, he1] at h1
          injection h1 with h1
          injection h1 with h1
          have : (ints IntKind.i64 (rows.getD i [])).length = 0 := by rw [← h1]; rfl
          rw [ints_length] at this
          omega
      simp -implicitDefEqProofs (disch := omega) only [List.any_cons, List.any_nil, Nat.reduceEqDiff, List.map_cons, List.map_nil, Option.map_some, Option.map_none, List.nil_append, ↓reduceIte, vcu0, vcu1, vcu2, vcu3, vcu4, vcu5, vcu6, vcu7, vcu8, vcu9, vcu10, vcu11, vcu12, vcu13, vcu14, vcu15, vcu16, ↓vcd0, ↓vcd1, ↓vcd2, ↓vcd3, h0, h4, h5, h6]
      have hL0 : OwnT σ σ3 gL qL (leftK rows 0) := hL
      refine vc_loop_c mixed (by kernel_rfl) [5] (fun m a σ' => ∃ (k : Nat) (v4 : Value), m + k = K ∧ a 4 = v4 ∧ Sub σ σ' ∧ OwnT σ σ' gL qL (leftK rows k) ∧ Apart σ σ' (FL gL qL n) v4 (listK rows k)) K
        ⟨0, _, by simp, by rw [listK_length]; simpa [fset] using h4, hs, hL0, .inr ⟨e1, fun _ => 0, rfl, OwnT.nil _ he1 n1, hFe, fun i hi => absurd hi (by simp [listK])⟩⟩ ?_
      clear hL0 hL hs he1 hF1 hFe h6 h4
      rintro m2 a2 σ4 hc2 ⟨k, v4, hk2, h4, hs, hL, hA⟩
      simp -implicitDefEqProofs (disch := omega) only [List.any_cons, List.any_nil, Nat.reduceEqDiff, List.map_cons, List.map_nil, Option.map_some, Option.map_none, List.nil_append, ↓reduceIte, vcu0, vcu1, vcu2, vcu3, vcu4, vcu5, vcu6, vcu7, vcu8, vcu9, vcu10, vcu11, vcu12, vcu13, vcu14, vcu15, vcu16, ↓vcd0, ↓vcd1, ↓vcd2, ↓vcd3, h5] at hc2
      obtain ⟨c5, -⟩ := hc2
      obtain ⟨l1, l2, l3⟩ := leftK_ok hE k (by rw [hK]; omega)
      rw [hn] at l1 l3
      have hsqk := even_sq l2 l1
      have hmv : mostV (leftK rows k) = (K : Int) - k := by
        have : mostV (leftK rows k) = most (leftK rows k) (leftK rows k).length := if_pos l2.1
        rw [this, l1, l3, ← hn, hK]
      have hms := specMost_at (w0 := w0) σ4 gL 0 (leftK rows k) hL.rows (by omega)
      rw [l1, hmv] at hms
      simp -implicitDefEqProofs (disch := omega) only [List.any_cons, List.any_nil, Nat.reduceEqDiff, List.map_cons, List.map_nil, Option.map_some, Option.map_none, List.nil_append, ↓reduceIte, vcu0, vcu1, vcu2, vcu3, vcu4, vcu5, vcu6, vcu7, vcu8, vcu9, vcu10, vcu11, vcu12, vcu13, vcu14, vcu15, vcu16, ↓vcd0, ↓vcd1, ↓vcd2, ↓vcd3, c5, h4]
      refine hms.mono ?_
      rintro r _ ⟨rfl, rfl⟩
      rename_i σ4
      by_cases hlt2 : k < K
      · have hpos : 0 < most (leftK rows k) (leftK rows k).length := by rw [l1, l3, ← hn, hK]; omega
        obtain ⟨p0, pp, pl, pm⟩ := mp_ok l2 hpos
        rw [l1] at p0 pl
        simp -implicitDefEqProofs (disch := omega) only [List.any_cons, List.any_nil, Nat.reduceEqDiff, List.map_cons, List.map_nil, Option.map_some, Option.map_none, List.nil_append, ↓reduceIte, vcu0, vcu1, vcu2, vcu3, vcu4, vcu5, vcu6, vcu7, vcu8, vcu9, vcu10, vcu11, vcu12, vcu13, vcu14, vcu15, vcu16, ↓vcd0, ↓vcd1, ↓vcd2, ↓vcd3, opK_some, c5, h4]
        have hmf := specMF_at (w0 := w0) σ4 gL 0 (leftK rows k) hL.rows (by omega)
        rw [l1] at hmf
        refine hmf.mono ?_
        rintro r σ5 ⟨u, b, ps, rfl, s5, hu, hMF⟩
        have hbt : b = true := by
          rcases hMF with ⟨h, -, -⟩ | ⟨-, ⟨-, -, h⟩ | ⟨h, -, -⟩⟩
          · exact absurd l2.1 h
          · exact absurd (even_can l2 hpos) h
          · exact h
        subst hbt
        obtain ⟨t1, t2⟩ : ps.length = n ∧ Pre (leftK rows k) ps := by
          rcases hMF with ⟨-, -, h⟩ | ⟨-, ⟨h, -, -⟩ | ⟨-, a, b⟩⟩
          · cases h
          · cases h
          · exact ⟨by omega, b⟩
        have hmp : mp (leftK rows k) = ps := mp_at hMF
        have hgo : leftK rows (k + 1) = subP (leftK rows k) ps n := by show subP _ (mp _) _ = _; rw [hmp, hn]
        have hlo : listK rows (k + 1) = listK rows k ++ [ps] := by rw [listK_succ, hmp]
        rcases hu with ⟨-, e⟩ | ⟨z, rfl, ez, nz⟩
        · rw [e] at t1; simp at t1; omega
        have hV := pre_valid t2 (by rw [l1]; exact t1) (by omega)
        obtain ⟨hin, hnn⟩ := valid_in hV t1
        have hfz : σ z = none := free_sub hs nz
        have hFz : ¬ FL gL qL n z := by
          rintro (e | ⟨i, hi, e⟩)
          · exact ne_of nz hL.at_ e
          · exact ne_of' nz (hL.row i (by omega)) e
        have hA5 := (hA.add nz).sub s5
        have hL5 := hL.sub s5
        rw [t1]
        simp -implicitDefEqProofs (disch := omega) only [List.any_cons, List.any_nil, Nat.reduceEqDiff, List.map_cons, List.map_nil, Option.map_some, Option.map_none, List.nil_append, ↓reduceIte, vcu0, vcu1, vcu2, vcu3, vcu4, vcu5, vcu6, vcu7, vcu8, vcu9, vcu10, vcu11, vcu12, vcu13, vcu14, vcu15, vcu16, ↓vcd0, ↓vcd1, ↓vcd2, ↓vcd3, opK_some, List.getElem?_toArray, List.getElem?_cons_zero, List.getElem?_cons_succ, c5, h4]
        refine vc_loop_c mixed (by kernel_rfl) [4, 5, 7] (fun m a σ' => ∃ j : Nat, m + j = n ∧ a 9 = .int .i64 j ∧ Sub σ σ' ∧ OwnT σ σ' gL qL (subP (leftK rows k) ps j) ∧ Apart σ σ' (fun x => FL gL qL n x ∨ x = z) v4 (listK rows k) ∧ σ' z = some ⟨ints .i64 ps, false⟩) n
          ⟨0, by simp, rfl, hs.trans s5, hL5, hA5, ez⟩ ?_
        clear hA5 hL5 ez hL hA hs s5 nz hms hmf
        rintro m3 a3 σ6 hc3 ⟨j, hj, h9, hs, hL, hA, ez⟩
        simp -implicitDefEqProofs (disch := omega) only [List.any_cons, List.any_nil, Nat.reduceEqDiff, List.map_cons, List.map_nil, Option.map_some, Option.map_none, List.nil_append, ↓reduceIte, vcu0, vcu1, vcu2, vcu3, vcu4, vcu5, vcu6, vcu7, vcu8, vcu9, vcu10, vcu11, vcu12, vcu13, vcu14, vcu15, vcu16, ↓vcd0, ↓vcd1, ↓vcd2, ↓vcd3, h4, c5] at hc3
        obtain ⟨d4, d5, d7, -⟩ := hc3
        have hsqj := subP_sq hsqk ps j (by omega)
        by_cases hjl : j < n
        · have hgj := hL.get (i := j) (by rw [hsqj.1]; exact hjl)
          have hrj := hL.row j (by rw [hsqj.1]; exact hjl)
          have hrl := hsqj.2 j hjl
          have hpj := hin.2 j hjl
          have hp0 := hnn j hjl
          have hpx := own_at ez (i := j) (by omega)
          have hej : en (subP (leftK rows k) ps j) j (ps.getD j 0).toNat = en (leftK rows k) j (ps.getD j 0).toNat := by
            rw [en_subP hsqk hin _ _ j (by omega), if_neg (by omega)]; omega
          have hle6 := l2.1.at (i := j) (j := (ps.getD j 0).toNat) (by omega) (by omega)
          have hE1 : en (leftK rows k) j (ps.getD j 0).toNat = ((leftK rows k).getD j []).getD (ps.getD j 0).toNat 0 := rfl
          rw [← hE1] at hle6
          have hld : ld σ6 (qL j) (0 + (ps.getD j 0).toNat) = some (.int .i64 (en (leftK rows k) j (ps.getD j 0).toNat)) := by
            rw [own_at hrj (by rw [hrl]; exact hpj), ← hej]; rfl
          have hab : subP (leftK rows k) ps (j + 1) = less1 (subP (leftK rows k) ps j) j (ps.getD j 0).toNat := rfl
          unfold less1 at hab
          rw [hej] at hab
          generalize en (leftK rows k) j (ps.getD j 0).toNat = x at hld hab hle6
          rw [hrl] at hgj
          simp -implicitDefEqProofs (disch := omega) only [List.any_cons, List.any_nil, Nat.reduceEqDiff, List.map_cons, List.map_nil, Option.map_some, Option.map_none, List.nil_append, ↓reduceIte, vcu0, vcu1, vcu2, vcu3, vcu4, vcu5, vcu6, vcu7, vcu8, vcu9, vcu10, vcu11, vcu12, vcu13, vcu14, vcu15, vcu16, ↓vcd0, ↓vcd1, ↓vcd2, ↓vcd3, d4, d5, d7, h9]
          refine region_tree mixed (quiets [0, 1, 2, 3, 4, 5, 6, 7, 8, 9, 10, 11, 12, 13, 14, 15, 16, 17, 18, 19] (.one 20 .stop)) [([0, 1, 2, 3, 4, 5, 6, 7, 8, 9, 10, 11, 12, 13, 14, 15, 16, 17, 18, 19], Sub σ6)] (by kernel_rfl) (by kernel_rfl) (fun p hp => by
            simp only [List.mem_cons, List.not_mem_nil, or_false] at hp
            subst hp; exact Sub.refl _) ?_
          refine tree_quiets σ6 _ _ _ sf1 (by kernel_rfl) (by kernel_rfl) ?_
          simp -implicitDefEqProofs (disch := omega) only [List.any_cons, List.any_nil, Nat.reduceEqDiff, List.map_cons, List.map_nil, Option.map_some, Option.map_none, List.nil_append, ↓reduceIte, vcu0, vcu1, vcu2, vcu3, vcu4, vcu5, vcu6, vcu7, vcu8, vcu9, vcu10, vcu11, vcu12, vcu13, vcu14, vcu15, vcu16, ↓vcd0, ↓vcd1, ↓vcd2, ↓vcd3, pickOps_nil, pickOps_cons, pickO_some, List.getElem?_cons_succ, List.getElem?_cons_zero, d4, d5, d7, h9, hgj, hpx, hld]
          refine tree_one rfl ?_
          refine r_setI (g := qL j) (i := 0 + (ps.getD j 0).toNat) (v := x - 1) (by simp -implicitDefEqProofs (disch := omega) only [List.any_cons, List.any_nil, Nat.reduceEqDiff, List.map_cons, List.map_nil, Option.map_some, Option.map_none, List.nil_append, ↓reduceIte, vcu0, vcu1, vcu2, vcu3, vcu4, vcu5, vcu6, vcu7, vcu8, vcu9, vcu10, vcu11, vcu12, vcu13, vcu14, vcu15, vcu16, ↓vcd0, ↓vcd1, ↓vcd2, ↓vcd3]) (by simp -implicitDefEqProofs (disch := omega) only [List.any_cons, List.any_nil, Nat.reduceEqDiff, List.map_cons, List.map_nil, Option.map_some, Option.map_none, List.nil_append, ↓reduceIte, vcu0, vcu1, vcu2, vcu3, vcu4, vcu5, vcu6, vcu7, vcu8, vcu9, vcu10, vcu11, vcu12, vcu13, vcu14, vcu15, vcu16, ↓vcd0, ↓vcd1, ↓vcd2, ↓vcd3]) co3 hrj (by omega) fun τ5 k5 e5 => ?_
          rw [Nat.zero_add] at e5
          have hzj : z ≠ qL j := fun e => hFz (.inr ⟨j, hjl, e.symm⟩)
          simp -implicitDefEqProofs (disch := omega) only [List.any_cons, List.any_nil, Nat.reduceEqDiff, List.map_cons, List.map_nil, Option.map_some, Option.map_none, List.nil_append, ↓reduceIte, vcu0, vcu1, vcu2, vcu3, vcu4, vcu5, vcu6, vcu7, vcu8, vcu9, vcu10, vcu11, vcu12, vcu13, vcu14, vcu15, vcu16, ↓vcd0, ↓vcd1, ↓vcd2, ↓vcd3]
          refine ⟨keep_of rfl (fun p hp => by
            simp only [List.mem_cons, List.not_mem_nil, or_false] at hp
            subst hp; exact .inl (by kernel_rfl)), tree_stop ?_⟩
          simp -implicitDefEqProofs (disch := omega) only [List.any_cons, List.any_nil, Nat.reduceEqDiff, List.map_cons, List.map_nil, Option.map_some, Option.map_none, List.nil_append, ↓reduceIte, vcu0, vcu1, vcu2, vcu3, vcu4, vcu5, vcu6, vcu7, vcu8, vcu9, vcu10, vcu11, vcu12, vcu13, vcu14, vcu15, vcu16, ↓vcd0, ↓vcd1, ↓vcd2, ↓vcd3, h9]
          refine ⟨?_, m3 - 1, by omega, j + 1, by omega, by simp, k5.sub hs (hL.free j (by rw [hsqj.1]; exact hjl)), ?_, hA.keptx k5 (.inl (.inr ⟨j, hjl, rfl⟩)), k5.at ez hzj⟩
          · simp [d4, d5, d7, h4, c5]
          · rw [hab]
            exact hL.write (by rw [hsqj.1]; exact hjl) (by simp) k5 e5
        · have ejn : j = n := by omega
          subst ejn
          simp -implicitDefEqProofs (disch := omega) only [List.any_cons, List.any_nil, Nat.reduceEqDiff, List.map_cons, List.map_nil, Option.map_some, Option.map_none, List.nil_append, ↓reduceIte, vcu0, vcu1, vcu2, vcu3, vcu4, vcu5, vcu6, vcu7, vcu8, vcu9, vcu10, vcu11, vcu12, vcu13, vcu14, vcu15, vcu16, ↓vcd0, ↓vcd1, ↓vcd2, ↓vcd3, d4, d5, d7, h9]
          refine r_lit el23 (out := #[.slice (some ⟨z, 0, none⟩) j 1]) (by simp -implicitDefEqProofs (disch := omega) only [List.any_cons, List.any_nil, Nat.reduceEqDiff, List.map_cons, List.map_nil, Option.map_some, Option.map_none, List.nil_append, ↓reduceIte, vcu0, vcu1, vcu2, vcu3, vcu4, vcu5, vcu6, vcu7, vcu8, vcu9, vcu10, vcu11, vcu12, vcu13, vcu14, vcu15, vcu16, ↓vcd0, ↓vcd1, ↓vcd2, ↓vcd3]; kernel_rfl) (by kernel_rfl) fun e7 τ7 n7 s7 v7 => ?_
          refine r_pushA (σ0 := σ) (σ := τ7) (F := FL gL qL j) (O := listK rows k) (row := ps) (r := z) (e := e7) (v := v4) el23 (by omega) sl23 (by simp -implicitDefEqProofs (disch := omega) only [List.any_cons, List.any_nil, Nat.reduceEqDiff, List.map_cons, List.map_nil, Option.map_some, Option.map_none, List.nil_append, ↓reduceIte, vcu0, vcu1, vcu2, vcu3, vcu4, vcu5, vcu6, vcu7, vcu8, vcu9, vcu10, vcu11, vcu12, vcu13, vcu14, vcu15, vcu16, ↓vcd0, ↓vcd1, ↓vcd2, ↓vcd3, d4]) (hA.sub s7) ((hL.sub s7).hasF hsqj.1) (by simp -implicitDefEqProofs (disch := omega) only [List.any_cons, List.any_nil, Nat.reduceEqDiff, List.map_cons, List.map_nil, Option.map_some, Option.map_none, List.nil_append, ↓reduceIte, vcu0, vcu1, vcu2, vcu3, vcu4, vcu5, vcu6, vcu7, vcu8, vcu9, vcu10, vcu11, vcu12, vcu13, vcu14, vcu15, vcu16, ↓vcd0, ↓vcd1, ↓vcd2, ↓vcd3]) (by rw [v7]; simp [rowV, t1]) (s7 _ _ ez) hfz hFz (hs.trans s7) (by rw [listK_length]; omega) fun g8 τ8 hA8 s8 hk8 => ?_
          rw [listK_length] at hA8
          simp -implicitDefEqProofs (disch := omega) only [List.any_cons, List.any_nil, Nat.reduceEqDiff, List.map_cons, List.map_nil, Option.map_some, Option.map_none, List.nil_append, ↓reduceIte, vcu0, vcu1, vcu2, vcu3, vcu4, vcu5, vcu6, vcu7, vcu8, vcu9, vcu10, vcu11, vcu12, vcu13, vcu14, vcu15, vcu16, ↓vcd0, ↓vcd1, ↓vcd2, ↓vcd3, listK_length]
          refine ⟨?_, m2 - 1, by omega, k + 1, _, by omega, rfl, s8, by rw [hgo]; exact (hL.sub s7).keepF hsqj.1 hk8, by rw [hlo]; exact hA8⟩
          simp [d5, h5, c5]
      · have e : k = K := by omega
        subst e
        simp -implicitDefEqProofs (disch := omega) only [List.any_cons, List.any_nil, Nat.reduceEqDiff, List.map_cons, List.map_nil, Option.map_some, Option.map_none, List.nil_append, ↓reduceIte, vcu0, vcu1, vcu2, vcu3, vcu4, vcu5, vcu6, vcu7, vcu8, vcu9, vcu10, vcu11, vcu12, vcu13, vcu14, vcu15, vcu16, ↓vcd0, ↓vcd1, ↓vcd2, ↓vcd3, opK_some, c5, h4]
        refine fin_two Try.results35 ⟨v4, true, _, ?_, hs, hA.own, .inr ⟨hE, rfl, by rw [hK, Int.toNat_natCast]⟩⟩
        simp -implicitDefEqProofs (disch := omega) only [List.any_cons, List.any_nil, Nat.reduceEqDiff, List.map_cons, List.map_nil, Option.map_some, Option.map_none, List.nil_append, ↓reduceIte, vcu0, vcu1, vcu2, vcu3, vcu4, vcu5, vcu6, vcu7, vcu8, vcu9, vcu10, vcu11, vcu12, vcu13, vcu14, vcu15, vcu16, ↓vcd0, ↓vcd1, ↓vcd2, ↓vcd3]
  · rw [decide_eq_false hE]
    simp -implicitDefEqProofs (disch := omega) only [List.any_cons, List.any_nil, Nat.reduceEqDiff, List.map_cons, List.map_nil, Option.map_some, Option.map_none, List.nil_append, ↓reduceIte, vcu0, vcu1, vcu2, vcu3, vcu4, vcu5, vcu6, vcu7, vcu8, vcu9, vcu10, vcu11, vcu12, vcu13, vcu14, vcu15, vcu16, ↓vcd0, ↓vcd1, ↓vcd2, ↓vcd3, opK_some]
    refine fin_two Try.results35 ⟨_, false, [], ?_, s1, .inr ⟨e1, fun _ => 0, rfl, OwnT.nil _ v1 n1⟩, .inl ⟨hE, rfl, rfl⟩⟩
    simp -implicitDefEqProofs (disch := omega) only [List.any_cons, List.any_nil, Nat.reduceEqDiff, List.map_cons, List.map_nil, Option.map_some, Option.map_none, List.nil_append, ↓reduceIte, vcu0, vcu1, vcu2, vcu3, vcu4, vcu5, vcu6, vcu7, vcu8, vcu9, vcu10, vcu11, vcu12, vcu13, vcu14, vcu15, vcu16, ↓vcd0, ↓vcd1, ↓vcd2, ↓vcd3]
    rfl
end Go.Proofs.Ytbfldpcikcdlpaa
