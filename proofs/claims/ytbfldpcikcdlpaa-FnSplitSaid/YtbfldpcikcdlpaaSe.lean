/- A splitting, put together, is the traffic. -/
import Derived.Test.YtbfldpcikcdlpaaLawSp
set_option linter.unusedSimpArgs false
set_option linter.unusedVariables false
namespace Go.Proofs.Ytbfldpcikcdlpaa
open Go Go.Abs Go.RowKit
variable {w0 : World}

theorem en_leftK {rows : List (List Int)} (hE : EvenT rows) {K : Nat} (hK : (K : Int) ≤ most rows rows.length) : ∀ k, k ≤ K → ∀ a b, a < rows.length → en (leftK rows k) a b = en rows a b - (cntL (listK rows K) a b k : Nat)
  | 0, _, a, b, _ => by simp [leftK, cntL]
  | k + 1, hk, a, b, ha => by
    obtain ⟨l1, l2, l3⟩ := leftK_ok hE k (by omega)
    obtain ⟨hv, hl⟩ := listK_row hE hK (i := k) (by omega)
    obtain ⟨hin, -⟩ := valid_in hv hl
    rw [listK_getD (by omega)] at hin
    have h1 : en (leftK rows (k + 1)) a b = en (subP (leftK rows k) (mp (leftK rows k)) rows.length) a b := rfl
    rw [h1, en_subP (even_sq l2 l1) hin a b _ (Nat.le_refl _), en_leftK hE hK k (by omega) a b ha, cntL, listK_getD (by omega)]
    by_cases e : b = ((mp (leftK rows k)).getD a 0).toNat
    · rw [if_pos ⟨ha, e⟩, if_pos e]; omega
    · rw [if_neg (fun hh => e hh.2), if_neg e]; omega
theorem en_zero_most {T : List (List Int)} (hT : TV T) (h0 : most T T.length = 0) {a b : Nat} (ha : a < T.length) (hb : b < T.length) : en T a b = 0 := by
  have h1 := (le_most (rows := T) (i := a) (k := T.length) ha).1
  rw [h0, psum_sumTo] at h1
  have h2 : sumTo (fun o => if o = b then en T a b else 0) T.length ≤ sumTo (fun o => (T.getD a []).getD o 0) T.length := sumTo_le _ fun o ho => by
    have := (hT.at ha ho).1
    by_cases e : o = b
    · subst e; rw [if_pos rfl]; exact Int.le_refl _
    · rw [if_neg e]; exact this
  rw [sumTo_one hb] at h2
  have h3 : 0 ≤ en T a b := (hT.at ha hb).1
  omega
theorem sq_ext {n : Nat} {A B : List (List Int)} (hA : Sq n A) (hB : Sq n B) (h : ∀ a b, a < n → b < n → en A a b = en B a b) : A = B := by
  apply List.ext_getElem (by rw [hA.1, hB.1])
  intro i h1 h2
  have e1 : A[i] = A.getD i [] := by simp [List.getD, h1]
  have e2 : B[i] = B.getD i [] := by simp [List.getD, h2]
  have hi : i < n := by rw [← hA.1]; exact h1
  rw [e1, e2]
  apply List.ext_getElem (by rw [hA.2 i hi, hB.2 i hi])
  intro j g1 g2
  have hj : j < n := by rw [← hA.2 i hi]; exact g1
  have := h i j hi hj
  unfold en at this
  rw [getD_lt g1, getD_lt g2] at this
  exact this
theorem load_split {rows : List (List Int)} (hE : EvenT rows) : loadV rows.length (listK rows (most rows rows.length).toNat) = rows := by
  have hm := most_le hE.1 rows.length (Nat.le_refl _)
  obtain ⟨K, hK⟩ : ∃ K : Nat, most rows rows.length = K := ⟨(most rows rows.length).toNat, by omega⟩
  rw [hK, Int.toNat_natCast]
  have hrow : ∀ i, i < K → Valid ((listK rows K).getD i []) ∧ ((listK rows K).getD i []).length = rows.length := fun i hi => listK_row hE (by omega) hi
  have hcnt : ∀ a b, a < rows.length → b < rows.length → (cntL (listK rows K) a b K : Nat) = en rows a b := fun a b ha hb => by
    have h1 := en_leftK hE (K := K) (by omega) K (Nat.le_refl _) a b ha
    obtain ⟨l1, l2, l3⟩ := leftK_ok hE K (by omega)
    have h2 := en_zero_most l2.1 (by rw [l1, l3, hK]; omega) (a := a) (b := b) (by omega) (by omega)
    omega
  have hL : LoadOk rows.length (listK rows K) := by
    refine ⟨by have := hE.1.1; omega, fun i hi => ?_, fun a ha b hb => ?_⟩
    · rw [listK_length] at hi
      rw [Int.toNat_natCast]; exact hrow i hi
    · rw [Int.toNat_natCast] at ha hb
      rw [listK_length]
      have h1 := hcnt a b ha hb
      have h2 := (hE.1.at ha hb).2
      unfold en at h1
      omega
  unfold loadV
  rw [if_pos hL, Int.toNat_natCast, listK_length]
  refine sq_ext (addL_sq _ _ _) (even_sq hE rfl) fun a b ha hb => ?_
  rw [en_addL ha b K (fun i hi => (valid_in (hrow i hi).1 (hrow i hi).2).1), hcnt a b ha hb]

theorem implLoad_calls (σ : AHeap) (ports : Int) (v : Value) (rows : List (List Int)) (hv : RowsV σ v rows) (hl : rows.length ≤ 1048576) (hr : ∀ i, i < rows.length → (rows.getD i []).length ≤ 1048576) :
    ACall Try.prog w0 28 [.int .i64 ports, v] σ fun r σ' => Sub σ σ' ∧ OwnTV σ σ' r (loadV ports rows) :=
  ACall.rows_arg (pre := [_]) (post := []) (by kernel_rfl) hv fun σ1 g o hs hg => (implLoad_at σ1 ports g o rows hg hl hr).mono fun r σ' ⟨a, b⟩ => ⟨hs.trans a, b.base hs⟩

theorem drawSplit_at (σ : AHeap) (h o : Nat) (bs : List Int) (hv : IntsAt .u8 σ h o bs) (hl : bs.length ≤ 1048576) (hb : ∀ b ∈ bs, 0 ≤ b ∧ b ≤ 255) :
    ACall Try.prog w0 34 [.slice (some ⟨h, o, none⟩) bs.length 1] σ fun r σ' => ∃ (g2 : Nat) (q : Nat → Nat) (rows : List (List Int)), r = .slice (some ⟨g2, 0, none⟩) rows.length 1 ∧ OwnT σ σ' g2 q rows ∧ rows.length ≤ 7 ∧ (∀ i, i < rows.length → (rows.getD i []).length ≤ 6) ∧ Sub σ σ' := by
  refine acall_go mixed Try.func34 rfl good34 ?_
  simp -implicitDefEqProofs (disch := omega) only [List.any_cons, List.any_nil, Nat.reduceEqDiff, List.map_cons, List.map_nil, Option.map_some, Option.map_none, List.nil_append, ↓reduceIte, vcu0, vcu1, vcu2, vcu3, vcu4, vcu5, vcu6, vcu7, vcu8, vcu9, vcu10, vcu11, vcu12, vcu13, vcu14, vcu15, vcu16, ↓vcd0, ↓vcd1, ↓vcd2, ↓vcd3]
  refine (open_at σ h o bs hl).mono ?_
  rintro r τ ⟨g, m, hg, hm, hmb, rfl, hτ⟩
  have htl : (bs.take m).length = m := by simp; omega
  have hR : Rd σ τ g h o (bs.take m) 0 := ⟨by rw [hτ, htl]; exact AHeap.upd_same _ _ _, by rw [hτ]; exact sub_upd hg, hg, hv.take m, by rw [htl]; exact hm, fun b hb' => hb b (List.mem_of_mem_take hb')⟩
  clear hτ
  simp -implicitDefEqProofs (disch := omega) only [List.any_cons, List.any_nil, Nat.reduceEqDiff, List.map_cons, List.map_nil, Option.map_some, Option.map_none, List.nil_append, ↓reduceIte, vcu0, vcu1, vcu2, vcu3, vcu4, vcu5, vcu6, vcu7, vcu8, vcu9, vcu10, vcu11, vcu12, vcu13, vcu14, vcu15, vcu16, ↓vcd0, ↓vcd1, ↓vcd2, ↓vcd3, opK_some]
  refine (pick_at σ τ g h o _ _ 3 hR (by omega) (by omega)).mono ?_
  rintro r τ2 ⟨z, rfl, hz0, hz1, hR2, hK2⟩
  by_cases hz : 0 < z
  · simp -implicitDefEqProofs (disch := omega) only [List.any_cons, List.any_nil, Nat.reduceEqDiff, List.map_cons, List.map_nil, Option.map_some, Option.map_none, List.nil_append, ↓reduceIte, vcu0, vcu1, vcu2, vcu3, vcu4, vcu5, vcu6, vcu7, vcu8, vcu9, vcu10, vcu11, vcu12, vcu13, vcu14, vcu15, vcu16, ↓vcd0, ↓vcd1, ↓vcd2, ↓vcd3, opK_some]
    refine (even_k σ τ2 g h o _ _ hR2 (by omega)).mono ?_
    rintro r τ1 ⟨g2, q, rows, p', rfl, hO, h6, hsq, hK, -, -, hR3⟩
    simp -implicitDefEqProofs (disch := omega) only [List.any_cons, List.any_nil, Nat.reduceEqDiff, List.map_cons, List.map_nil, Option.map_some, Option.map_none, List.nil_append, ↓reduceIte, vcu0, vcu1, vcu2, vcu3, vcu4, vcu5, vcu6, vcu7, vcu8, vcu9, vcu10, vcu11, vcu12, vcu13, vcu14, vcu15, vcu16, ↓vcd0, ↓vcd1, ↓vcd2, ↓vcd3, opK_some]
    refine fin_one Try.results34 ⟨g2, q, rows, ?_, (hO.older (kept_dom hK2 hR2.at_)).base hR.sub, by omega, fun i hi => by rw [hsq.2 i hi]; omega, hR3.sub⟩
    simp -implicitDefEqProofs (disch := omega) only [List.any_cons, List.any_nil, Nat.reduceEqDiff, List.map_cons, List.map_nil, Option.map_some, Option.map_none, List.nil_append, ↓reduceIte, vcu0, vcu1, vcu2, vcu3, vcu4, vcu5, vcu6, vcu7, vcu8, vcu9, vcu10, vcu11, vcu12, vcu13, vcu14, vcu15, vcu16, ↓vcd0, ↓vcd1, ↓vcd2, ↓vcd3]
  · simp -implicitDefEqProofs (disch := omega) only [List.any_cons, List.any_nil, Nat.reduceEqDiff, List.map_cons, List.map_nil, Option.map_some, Option.map_none, List.nil_append, ↓reduceIte, vcu0, vcu1, vcu2, vcu3, vcu4, vcu5, vcu6, vcu7, vcu8, vcu9, vcu10, vcu11, vcu12, vcu13, vcu14, vcu15, vcu16, ↓vcd0, ↓vcd1, ↓vcd2, ↓vcd3, opK_some]
    refine (traffic_k σ τ2 g h o _ _ 9 hR2 (by omega) (by omega)).mono ?_
    rintro r τ1 ⟨g2, q, rows, p', rfl, hO, h7, h6, hK, -, -, hR3⟩
    simp -implicitDefEqProofs (disch := omega) only [List.any_cons, List.any_nil, Nat.reduceEqDiff, List.map_cons, List.map_nil, Option.map_some, Option.map_none, List.nil_append, ↓reduceIte, vcu0, vcu1, vcu2, vcu3, vcu4, vcu5, vcu6, vcu7, vcu8, vcu9, vcu10, vcu11, vcu12, vcu13, vcu14, vcu15, vcu16, ↓vcd0, ↓vcd1, ↓vcd2, ↓vcd3, opK_some]
    refine fin_one Try.results34 ⟨g2, q, rows, ?_, (hO.older (kept_dom hK2 hR2.at_)).base hR.sub, h7, h6, hR3.sub⟩
    simp -implicitDefEqProofs (disch := omega) only [List.any_cons, List.any_nil, Nat.reduceEqDiff, List.map_cons, List.map_nil, Option.map_some, Option.map_none, List.nil_append, ↓reduceIte, vcu0, vcu1, vcu2, vcu3, vcu4, vcu5, vcu6, vcu7, vcu8, vcu9, vcu10, vcu11, vcu12, vcu13, vcu14, vcu15, vcu16, ↓vcd0, ↓vcd1, ↓vcd2, ↓vcd3]
end Go.Proofs.Ytbfldpcikcdlpaa
