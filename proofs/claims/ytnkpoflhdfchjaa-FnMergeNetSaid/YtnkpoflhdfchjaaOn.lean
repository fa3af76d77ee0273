/- merge and mergeSort of the program. -/
import Derived.Test.YtnkpoflhdfchjaaOm
import Derived.Test.YtnkpoflhdfchjaaNq
set_option linter.unusedSimpArgs false
set_option linter.unusedVariables false
namespace Go.Proofs.Ytnkpoflhdfchjaa
open Go Go.Abs Go.RowKit
variable {w0 : World}

def tli (first d : Int) (k : Nat) : List (Int × Int) := (List.range k).map fun (i : Nat) => (first + (2 * (i : Int) + 1) * d, first + (2 * (i : Int) + 2) * d)
theorem tli_succ (first d : Int) (k : Nat) : tli first d (k + 1) = tli first d k ++ [(first + (2 * (k : Int) + 1) * d, first + (2 * (k : Int) + 2) * d)] := by simp [tli, List.range_succ]
theorem tli_length (first d : Int) (k : Nat) : (tli first d k).length = k := by simp [tli]
def mgi : Nat → Int → Nat → Int → List (Int × Int)
  | 0, _, _, _ => []
  | f + 1, first, count, d => if count = 2 then [(first, first + d)] else mgi f first (count / 2) (2 * d) ++ mgi f (first + d) (count / 2) (2 * d) ++ tli first d (count / 2 - 1)
theorem mgi_length : ∀ (f : Nat) (first : Int) (count : Nat) (d : Int), count ≤ 8 → (mgi f first count d).length + 4 ≤ 5 * 2 ^ f
  | 0, _, _, _, _ => by simp [mgi]
  | f + 1, first, count, d, h => by
    have hp : 2 ^ (f + 1) = 2 * 2 ^ f := by rw [Nat.pow_succ]; omega
    have h1 : 1 ≤ 2 ^ f := Nat.one_le_two_pow
    have a1 := mgi_length f first (count / 2) (2 * d) (by omega)
    have a2 := mgi_length f (first + d) (count / 2) (2 * d) (by omega)
    unfold mgi
    split
    · simp; omega
    · rw [List.length_append, List.length_append, tli_length]; omega
def two (A B : List (Int × Int)) : Nat → List (Int × Int)
  | 0 => A
  | 1 => B
  | _ => []
def three (A B C : List (Int × Int)) : Nat → List (Int × Int)
  | 0 => A
  | 1 => B
  | 2 => C
  | _ => []

theorem mergeI_at : ∀ (f : Nat) (σ : AHeap) (first : Int) (count : Nat) (d : Int), 0 ≤ first → first ≤ 100 - 10 * (f : Int) → (count = 2 ∧ f = 1 ∨ count = 4 ∧ f = 2 ∨ count = 8 ∧ f = 3) → (d = 1 ∨ d = 2 ∧ count ≤ 4 ∨ d = 4 ∧ count ≤ 2) →
    ACall Try.prog w0 101 [.int .i64 first, .int .i64 count, .int .i64 d] σ fun r σ' => Sub σ σ' ∧ RowP σ σ' r (mgi f first count d) := by
  intro f
  induction f with
  | zero => intros; omega
  | succ f ih =>
    intro σ first count d hf0 hf1 hc hd
    unfold mgi
    refine acall_go mixed Try.func101 rfl good101 fun pr => ?_
    by_cases h2 : count = 2
    · subst h2
      rw [if_pos rfl]
      simp -implicitDefEqProofs (disch := omega) only [List.any_cons, List.any_nil, Nat.reduceEqDiff, List.map_cons, List.map_nil, Option.map_some, Option.map_none, List.nil_append, ↓reduceIte, vcu0, vcu1, vcu2, vcu3, vcu4, vcu5, vcu6, vcu7, vcu8, vcu9, vcu10, vcu11, vcu12, vcu13, vcu14, vcu15, vcu16, vcu17, vcu18, vcu19, vcu20, vcu21, vcu22, vcu23, vcu24, vcu25, vcu26, ↓vcd0, ↓vcd1, ↓vcd2, ↓vcd3, Int.cast_ofNat_Int]
      rw [r_build]
      refine ⟨(_, #[.int .i64 first, .int .i64 (first + d)]), ⟨ze28, by simp -implicitDefEqProofs (disch := omega) only [List.any_cons, List.any_nil, Nat.reduceEqDiff, List.map_cons, List.map_nil, Option.map_some, Option.map_none, List.nil_append, ↓reduceIte, vcu0, vcu1, vcu2, vcu3, vcu4, vcu5, vcu6, vcu7, vcu8, vcu9, vcu10, vcu11, vcu12, vcu13, vcu14, vcu15, vcu16, vcu17, vcu18, vcu19, vcu20, vcu21, vcu22, vcu23, vcu24, vcu25, vcu26, ↓vcd0, ↓vcd1, ↓vcd2, ↓vcd3]; kernel_rfl⟩, ?_⟩
      simp -implicitDefEqProofs (disch := omega) only [List.any_cons, List.any_nil, Nat.reduceEqDiff, List.map_cons, List.map_nil, Option.map_some, Option.map_none, List.nil_append, ↓reduceIte, vcu0, vcu1, vcu2, vcu3, vcu4, vcu5, vcu6, vcu7, vcu8, vcu9, vcu10, vcu11, vcu12, vcu13, vcu14, vcu15, vcu16, vcu17, vcu18, vcu19, vcu20, vcu21, vcu22, vcu23, vcu24, vcu25, vcu26, ↓vcd0, ↓vcd1, ↓vcd2, ↓vcd3]
      refine r_lit el23 (out := #[.int .i64 first, .int .i64 (first + d)]) (by simp -implicitDefEqProofs (disch := omega) only [List.any_cons, List.any_nil, Nat.reduceEqDiff, List.map_cons, List.map_nil, Option.map_some, Option.map_none, List.nil_append, ↓reduceIte, vcu0, vcu1, vcu2, vcu3, vcu4, vcu5, vcu6, vcu7, vcu8, vcu9, vcu10, vcu11, vcu12, vcu13, vcu14, vcu15, vcu16, vcu17, vcu18, vcu19, vcu20, vcu21, vcu22, vcu23, vcu24, vcu25, vcu26, ↓vcd0, ↓vcd1, ↓vcd2, ↓vcd3]; kernel_rfl) (by rfl) fun e τ n0 s0 v0 => ?_
      simp -implicitDefEqProofs (disch := omega) only [List.any_cons, List.any_nil, Nat.reduceEqDiff, List.map_cons, List.map_nil, Option.map_some, Option.map_none, List.nil_append, ↓reduceIte, vcu0, vcu1, vcu2, vcu3, vcu4, vcu5, vcu6, vcu7, vcu8, vcu9, vcu10, vcu11, vcu12, vcu13, vcu14, vcu15, vcu16, vcu17, vcu18, vcu19, vcu20, vcu21, vcu22, vcu23, vcu24, vcu25, vcu26, ↓vcd0, ↓vcd1, ↓vcd2, ↓vcd3]
      refine fin_one Try.results101 ⟨s0, e, ?_, v0, n0⟩
      simp -implicitDefEqProofs (disch := omega) only [List.any_cons, List.any_nil, Nat.reduceEqDiff, List.map_cons, List.map_nil, Option.map_some, Option.map_none, List.nil_append, ↓reduceIte, vcu0, vcu1, vcu2, vcu3, vcu4, vcu5, vcu6, vcu7, vcu8, vcu9, vcu10, vcu11, vcu12, vcu13, vcu14, vcu15, vcu16, vcu17, vcu18, vcu19, vcu20, vcu21, vcu22, vcu23, vcu24, vcu25, vcu26, ↓vcd0, ↓vcd1, ↓vcd2, ↓vcd3]
      rfl
    · rw [if_neg h2]
      have hcc : count = 4 ∨ count = 8 := by omega
      have eh : (count : Int) / 2 = ((count / 2 : Nat) : Int) := by omega
      have l1 := mgi_length f first (count / 2) (2 * d) (by omega)
      have l2 := mgi_length f (first + d) (count / 2) (2 * d) (by omega)
      have hp : 2 ^ f ≤ 2 ^ 2 := Nat.pow_le_pow_right (by omega) (by omega)
      simp -implicitDefEqProofs (disch := omega) only [List.any_cons, List.any_nil, Nat.reduceEqDiff, List.map_cons, List.map_nil, Option.map_some, Option.map_none, List.nil_append, ↓reduceIte, vcu0, vcu1, vcu2, vcu3, vcu4, vcu5, vcu6, vcu7, vcu8, vcu9, vcu10, vcu11, vcu12, vcu13, vcu14, vcu15, vcu16, vcu17, vcu18, vcu19, vcu20, vcu21, vcu22, vcu23, vcu24, vcu25, vcu26, ↓vcd0, ↓vcd1, ↓vcd2, ↓vcd3, eh]
      refine (ih σ first (count / 2) (2 * d) hf0 (by omega) (by omega) (by omega)).mono ?_
      rintro _ τ1 ⟨s1, g1, rfl, v1, n1⟩
      simp -implicitDefEqProofs (disch := omega) only [List.any_cons, List.any_nil, Nat.reduceEqDiff, List.map_cons, List.map_nil, Option.map_some, Option.map_none, List.nil_append, ↓reduceIte, vcu0, vcu1, vcu2, vcu3, vcu4, vcu5, vcu6, vcu7, vcu8, vcu9, vcu10, vcu11, vcu12, vcu13, vcu14, vcu15, vcu16, vcu17, vcu18, vcu19, vcu20, vcu21, vcu22, vcu23, vcu24, vcu25, vcu26, ↓vcd0, ↓vcd1, ↓vcd2, ↓vcd3, opK_some, eh]
      refine (ih τ1 (first + d) (count / 2) (2 * d) (by omega) (by omega) (by omega) (by omega)).mono ?_
      rintro _ τ2 ⟨s2, g2, rfl, v2, n2⟩
      generalize hA : mgi f first (count / 2) (2 * d) = A at v1 l1
      generalize hB : mgi f (first + d) (count / 2) (2 * d) = B at v2 l2
      simp -implicitDefEqProofs (disch := omega) only [List.any_cons, List.any_nil, Nat.reduceEqDiff, List.map_cons, List.map_nil, Option.map_some, Option.map_none, List.nil_append, ↓reduceIte, vcu0, vcu1, vcu2, vcu3, vcu4, vcu5, vcu6, vcu7, vcu8, vcu9, vcu10, vcu11, vcu12, vcu13, vcu14, vcu15, vcu16, vcu17, vcu18, vcu19, vcu20, vcu21, vcu22, vcu23, vcu24, vcu25, vcu26, ↓vcd0, ↓vcd1, ↓vcd2, ↓vcd3, opK_some]
      refine r_lit el83 (out := #[.slice (some ⟨g1, 0, none⟩) A.length 2, .slice (some ⟨g2, 0, none⟩) B.length 2]) (by simp -implicitDefEqProofs (disch := omega) only [List.any_cons, List.any_nil, Nat.reduceEqDiff, List.map_cons, List.map_nil, Option.map_some, Option.map_none, List.nil_append, ↓reduceIte, vcu0, vcu1, vcu2, vcu3, vcu4, vcu5, vcu6, vcu7, vcu8, vcu9, vcu10, vcu11, vcu12, vcu13, vcu14, vcu15, vcu16, vcu17, vcu18, vcu19, vcu20, vcu21, vcu22, vcu23, vcu24, vcu25, vcu26, ↓vcd0, ↓vcd1, ↓vcd2, ↓vcd3, hA, hB]; kernel_rfl) (by rfl) fun e τ3 n3 s3 v3 => ?_
      have hcat := concat_at (w0 := w0) τ3 e [.slice (some ⟨g1, 0, none⟩) A.length 2, .slice (some ⟨g2, 0, none⟩) B.length 2] (two A B) v3 (by simp) (fun k v hk => by
        match k with
        | 0 => simp at hk; subst hk; exact .inr ⟨g1, 0, rfl, pairsAt_own (s3 _ _ (s2 _ _ v1))⟩
        | 1 => simp at hk; subst hk; exact .inr ⟨g2, 0, rfl, pairsAt_own (s3 _ _ v2)⟩
        | k + 2 => simp at hk) (fun k => by
        match k with
        | 0 => show A.length ≤ 1000; omega
        | 1 => show B.length ≤ 1000; omega
        | k + 2 => simp [two])
      simp -implicitDefEqProofs (disch := omega) only [List.any_cons, List.any_nil, Nat.reduceEqDiff, List.map_cons, List.map_nil, Option.map_some, Option.map_none, List.nil_append, ↓reduceIte, vcu0, vcu1, vcu2, vcu3, vcu4, vcu5, vcu6, vcu7, vcu8, vcu9, vcu10, vcu11, vcu12, vcu13, vcu14, vcu15, vcu16, vcu17, vcu18, vcu19, vcu20, vcu21, vcu22, vcu23, vcu24, vcu25, vcu26, ↓vcd0, ↓vcd1, ↓vcd2, ↓vcd3]
      refine hcat.mono ?_
      rintro v τ4 ⟨s4, hv⟩
      have hs4 : Sub σ τ4 := ((s1.trans s2).trans s3).trans s4
      have hAB : OwnP σ τ4 v (A ++ B) := by
        have : cat (two A B) 2 = A ++ B := by simp [cat, two]
        rw [← this]
        exact hv.imp id fun ⟨g, a, b, c⟩ => ⟨g, a, b, free_sub ((s1.trans s2).trans s3) c⟩
      generalize hAe : A ++ B = AB at hAB
      have hABl : AB.length ≤ 40 := by rw [← hAe, List.length_append]; omega
      clear hcat hv s4 v3 v1 v2 s1 s2 s3 n1 n2 n3
      simp -implicitDefEqProofs (disch := omega) only [List.any_cons, List.any_nil, Nat.reduceEqDiff, List.map_cons, List.map_nil, Option.map_some, Option.map_none, List.nil_append, ↓reduceIte, vcu0, vcu1, vcu2, vcu3, vcu4, vcu5, vcu6, vcu7, vcu8, vcu9, vcu10, vcu11, vcu12, vcu13, vcu14, vcu15, vcu16, vcu17, vcu18, vcu19, vcu20, vcu21, vcu22, vcu23, vcu24, vcu25, vcu26, ↓vcd0, ↓vcd1, ↓vcd2, ↓vcd3, opK_some]
      refine vc_loop_c mixed (by kernel_rfl) [0, 1, 2] (fun m a τ => ∃ i : Nat, m + i = count / 2 - 1 ∧ a 8 = .int .i64 (2 * (i : Int) + 1) ∧ OwnP σ τ (a 7) (AB ++ tli first d i) ∧ Sub σ τ ∧ (0 < i → ∃ g, a 7 = .slice (some ⟨g, 0, none⟩) (AB ++ tli first d i).length 2 ∧ τ g = some ⟨pairs (AB ++ tli first d i), false⟩ ∧ σ g = none)) (count / 2 - 1) ⟨0, by simp, rfl, by simpa [tli, fset] using hAB, hs4, fun h => absurd h (by omega)⟩ ?_
      rintro m a τ hc2 ⟨i, hi, h8, ho, hs, hrow⟩
      simp -implicitDefEqProofs (disch := omega) only [List.any_cons, List.any_nil, Nat.reduceEqDiff, List.map_cons, List.map_nil, Option.map_some, Option.map_none, List.nil_append, ↓reduceIte, vcu0, vcu1, vcu2, vcu3, vcu4, vcu5, vcu6, vcu7, vcu8, vcu9, vcu10, vcu11, vcu12, vcu13, vcu14, vcu15, vcu16, vcu17, vcu18, vcu19, vcu20, vcu21, vcu22, vcu23, vcu24, vcu25, vcu26, ↓vcd0, ↓vcd1, ↓vcd2, ↓vcd3] at hc2
      obtain ⟨h0, h1, h2', -⟩ := hc2
      have htl := tli_length first d i
      by_cases hlt : i < count / 2 - 1
      · have hts := tli_succ first d i
        have hdd : d = 1 ∨ d = 2 ∨ d = 4 := by omega
        have e1 : 2 * (i : Int) + 1 + 1 = 2 * (i : Int) + 2 := by omega
        rcases hdd with rfl | rfl | rfl
        · simp -implicitDefEqProofs (disch := omega) only [List.any_cons, List.any_nil, Nat.reduceEqDiff, List.map_cons, List.map_nil, Option.map_some, Option.map_none, List.nil_append, ↓reduceIte, vcu0, vcu1, vcu2, vcu3, vcu4, vcu5, vcu6, vcu7, vcu8, vcu9, vcu10, vcu11, vcu12, vcu13, vcu14, vcu15, vcu16, vcu17, vcu18, vcu19, vcu20, vcu21, vcu22, vcu23, vcu24, vcu25, vcu26, ↓vcd0, ↓vcd1, ↓vcd2, ↓vcd3, h0, h1, h2', h8, e1]
          rw [r_build]
          refine ⟨(_, #[.int .i64 (first + (2 * (i : Int) + 1) * 1), .int .i64 (first + (2 * (i : Int) + 2) * 1)]), ⟨ze28, by simp -implicitDefEqProofs (disch := omega) only [List.any_cons, List.any_nil, Nat.reduceEqDiff, List.map_cons, List.map_nil, Option.map_some, Option.map_none, List.nil_append, ↓reduceIte, vcu0, vcu1, vcu2, vcu3, vcu4, vcu5, vcu6, vcu7, vcu8, vcu9, vcu10, vcu11, vcu12, vcu13, vcu14, vcu15, vcu16, vcu17, vcu18, vcu19, vcu20, vcu21, vcu22, vcu23, vcu24, vcu25, vcu26, ↓vcd0, ↓vcd1, ↓vcd2, ↓vcd3]; kernel_rfl⟩, ?_⟩
          simp -implicitDefEqProofs (disch := omega) only [List.any_cons, List.any_nil, Nat.reduceEqDiff, List.map_cons, List.map_nil, Option.map_some, Option.map_none, List.nil_append, ↓reduceIte, vcu0, vcu1, vcu2, vcu3, vcu4, vcu5, vcu6, vcu7, vcu8, vcu9, vcu10, vcu11, vcu12, vcu13, vcu14, vcu15, vcu16, vcu17, vcu18, vcu19, vcu20, vcu21, vcu22, vcu23, vcu24, vcu25, vcu26, ↓vcd0, ↓vcd1, ↓vcd2, ↓vcd3]
          refine r_lit el23 (out := #[.int .i64 (first + (2 * (i : Int) + 1) * 1), .int .i64 (first + (2 * (i : Int) + 2) * 1)]) (by simp -implicitDefEqProofs (disch := omega) only [List.any_cons, List.any_nil, Nat.reduceEqDiff, List.map_cons, List.map_nil, Option.map_some, Option.map_none, List.nil_append, ↓reduceIte, vcu0, vcu1, vcu2, vcu3, vcu4, vcu5, vcu6, vcu7, vcu8, vcu9, vcu10, vcu11, vcu12, vcu13, vcu14, vcu15, vcu16, vcu17, vcu18, vcu19, vcu20, vcu21, vcu22, vcu23, vcu24, vcu25, vcu26, ↓vcd0, ↓vcd1, ↓vcd2, ↓vcd3]; kernel_rfl) (by rfl) fun e τ3 n3 s3 v3 => ?_
          refine r_pushP (e := e) (o := 0) (m := 1) (cs := AB ++ tli first 1 i) (ds := [(first + (2 * (i : Int) + 1) * 1, first + (2 * (i : Int) + 2) * 1)]) el23 (by omega) sl23 (hs.trans s3) rfl (by simp -implicitDefEqProofs (disch := omega) only [List.any_cons, List.any_nil, Nat.reduceEqDiff, List.map_cons, List.map_nil, Option.map_some, Option.map_none, List.nil_append, ↓reduceIte, vcu0, vcu1, vcu2, vcu3, vcu4, vcu5, vcu6, vcu7, vcu8, vcu9, vcu10, vcu11, vcu12, vcu13, vcu14, vcu15, vcu16, vcu17, vcu18, vcu19, vcu20, vcu21, vcu22, vcu23, vcu24, vcu25, vcu26, ↓vcd0, ↓vcd1, ↓vcd2, ↓vcd3]; exact ho.sub s3) (by simp -implicitDefEqProofs (disch := omega) only [List.any_cons, List.any_nil, Nat.reduceEqDiff, List.map_cons, List.map_nil, Option.map_some, Option.map_none, List.nil_append, ↓reduceIte, vcu0, vcu1, vcu2, vcu3, vcu4, vcu5, vcu6, vcu7, vcu8, vcu9, vcu10, vcu11, vcu12, vcu13, vcu14, vcu15, vcu16, vcu17, vcu18, vcu19, vcu20, vcu21, vcu22, vcu23, vcu24, vcu25, vcu26, ↓vcd0, ↓vcd1, ↓vcd2, ↓vcd3]) (pairsAt_own v3) rfl (by rw [List.length_append, htl]; omega) fun g τ4 hs5 hg4 hv4 => ?_
          rw [List.append_assoc, ← hts] at hv4
          simp -implicitDefEqProofs (disch := omega) only [List.any_cons, List.any_nil, Nat.reduceEqDiff, List.map_cons, List.map_nil, Option.map_some, Option.map_none, List.nil_append, ↓reduceIte, vcu0, vcu1, vcu2, vcu3, vcu4, vcu5, vcu6, vcu7, vcu8, vcu9, vcu10, vcu11, vcu12, vcu13, vcu14, vcu15, vcu16, vcu17, vcu18, vcu19, vcu20, vcu21, vcu22, vcu23, vcu24, vcu25, vcu26, ↓vcd0, ↓vcd1, ↓vcd2, ↓vcd3, h0, h1, h2', h8]
          have hlen : (AB ++ tli first 1 i).length + 1 = (AB ++ tli first 1 (i + 1)).length := by rw [List.length_append, List.length_append, tli_length, tli_length]; omega
          exact ⟨⟨trivial, trivial, trivial, trivial⟩, m - 1, by omega, i + 1, by omega, by congr 1 <;> omega, .inr ⟨g, by rw [hlen], hv4, hg4⟩, hs5, fun _ => ⟨g, by rw [hlen], hv4, hg4⟩⟩
        · simp -implicitDefEqProofs (disch := omega) only [List.any_cons, List.any_nil, Nat.reduceEqDiff, List.map_cons, List.map_nil, Option.map_some, Option.map_none, List.nil_append, ↓reduceIte, vcu0, vcu1, vcu2, vcu3, vcu4, vcu5, vcu6, vcu7, vcu8, vcu9, vcu10, vcu11, vcu12, vcu13, vcu14, vcu15, vcu16, vcu17, vcu18, vcu19, vcu20, vcu21, vcu22, vcu23, vcu24, vcu25, vcu26, ↓vcd0, ↓vcd1, ↓vcd2, ↓vcd3, h0, h1, h2', h8, e1]
          rw [r_build]
          refine ⟨(_, #[.int .i64 (first + (2 * (i : Int) + 1) * 2), .int .i64 (first + (2 * (i : Int) + 2) * 2)]), ⟨ze28, by simp -implicitDefEqProofs (disch := omega) only [List.any_cons, List.any_nil, Nat.reduceEqDiff, List.map_cons, List.map_nil, Option.map_some, Option.map_none, List.nil_append, ↓reduceIte, vcu0, vcu1, vcu2, vcu3, vcu4, vcu5, vcu6, vcu7, vcu8, vcu9, vcu10, vcu11, vcu12, vcu13, vcu14, vcu15, vcu16, vcu17, vcu18, vcu19, vcu20, vcu21, vcu22, vcu23, vcu24, vcu25, vcu26, ↓vcd0, ↓vcd1, ↓vcd2, ↓vcd3]; kernel_rfl⟩, ?_⟩
          simp -implicitDefEqProofs (disch := omega) only [List.any_cons, List.any_nil, Nat.reduceEqDiff, List.map_cons, List.map_nil, Option.map_some, Option.map_none, List.nil_append, ↓reduceIte, vcu0, vcu1, vcu2, vcu3, vcu4, vcu5, vcu6, vcu7, vcu8, vcu9, vcu10, vcu11, vcu12, vcu13, vcu14, vcu15, vcu16, vcu17, vcu18, vcu19, vcu20, vcu21, vcu22, vcu23, vcu24, vcu25, vcu26, ↓vcd0, ↓vcd1, ↓vcd2, ↓vcd3]
          refine r_lit el23 (out := #[.int .i64 (first + (2 * (i : Int) + 1) * 2), .int .i64 (first + (2 * (i : Int) + 2) * 2)]) (by simp -implicitDefEqProofs (disch := omega) only [List.any_cons, List.any_nil, Nat.reduceEqDiff, List.map_cons, List.map_nil, Option.map_some, Option.map_none, List.nil_append, ↓reduceIte, vcu0, vcu1, vcu2, vcu3, vcu4, vcu5, vcu6, vcu7, vcu8, vcu9, vcu10, vcu11, vcu12, vcu13, vcu14, vcu15, vcu16, vcu17, vcu18, vcu19, vcu20, vcu21, vcu22, vcu23, vcu24, vcu25, vcu26, ↓vcd0, ↓vcd1, ↓vcd2, ↓vcd3]; kernel_rfl) (by rfl) fun e τ3 n3 s3 v3 => ?_
          refine r_pushP (e := e) (o := 0) (m := 1) (cs := AB ++ tli first 2 i) (ds := [(first + (2 * (i : Int) + 1) * 2, first + (2 * (i : Int) + 2) * 2)]) el23 (by omega) sl23 (hs.trans s3) rfl (by simp -implicitDefEqProofs (disch := omega) only [List.any_cons, List.any_nil, Nat.reduceEqDiff, List.map_cons, List.map_nil, Option.map_some, Option.map_none, List.nil_append, ↓reduceIte, vcu0, vcu1, vcu2, vcu3, vcu4, vcu5, vcu6, vcu7, vcu8, vcu9, vcu10, vcu11, vcu12, vcu13, vcu14, vcu15, vcu16, vcu17, vcu18, vcu19, vcu20, vcu21, vcu22, vcu23, vcu24, vcu25, vcu26, ↓vcd0, ↓vcd1, ↓vcd2, ↓vcd3]; exact ho.sub s3) (by simp -implicitDefEqProofs (disch := omega) only [List.any_cons, List.any_nil, Nat.reduceEqDiff, List.map_cons, List.map_nil, Option.map_some, Option.map_none, List.nil_append, ↓reduceIte, vcu0, vcu1, vcu2, vcu3, vcu4, vcu5, vcu6, vcu7, vcu8, vcu9, vcu10, vcu11, vcu12, vcu13, vcu14, vcu15, vcu16, vcu17, vcu18, vcu19, vcu20, vcu21, vcu22, vcu23, vcu24, vcu25, vcu26, ↓vcd0, ↓vcd1, ↓vcd2, ↓vcd3]) (pairsAt_own v3) rfl (by rw [List.length_append, htl]; omega) fun g τ4 hs5 hg4 hv4 => ?_
          rw [List.append_assoc, ← hts] at hv4
          simp -implicitDefEqProofs (disch := omega) only [List.any_cons, List.any_nil, Nat.reduceEqDiff, List.map_cons, List.map_nil, Option.map_some, Option.map_none, List.nil_append, ↓reduceIte, vcu0, vcu1, vcu2, vcu3, vcu4, vcu5, vcu6, vcu7, vcu8, vcu9, vcu10, vcu11, vcu12, vcu13, vcu14, vcu15, vcu16, vcu17, vcu18, vcu19, vcu20, vcu21, vcu22, vcu23, vcu24, vcu25, vcu26, ↓vcd0, ↓vcd1, ↓vcd2, ↓vcd3, h0, h1, h2', h8]
          have hlen : (AB ++ tli first 2 i).length + 1 = (AB ++ tli first 2 (i + 1)).length := by rw [List.length_append, List.length_append, tli_length, tli_length]; omega
          exact ⟨⟨trivial, trivial, trivial, trivial⟩, m - 1, by omega, i + 1, by omega, by congr 1 <;> omega, .inr ⟨g, by rw [hlen], hv4, hg4⟩, hs5, fun _ => ⟨g, by rw [hlen], hv4, hg4⟩⟩
        · omega
      · simp -implicitDefEqProofs (disch := omega) only [List.any_cons, List.any_nil, Nat.reduceEqDiff, List.map_cons, List.map_nil, Option.map_some, Option.map_none, List.nil_append, ↓reduceIte, vcu0, vcu1, vcu2, vcu3, vcu4, vcu5, vcu6, vcu7, vcu8, vcu9, vcu10, vcu11, vcu12, vcu13, vcu14, vcu15, vcu16, vcu17, vcu18, vcu19, vcu20, vcu21, vcu22, vcu23, vcu24, vcu25, vcu26, ↓vcd0, ↓vcd1, ↓vcd2, ↓vcd3, h0, h1, h2', h8]
        have e : i = count / 2 - 1 := by omega
        obtain ⟨g, q1, q2, q3⟩ := hrow (by omega)
        rw [e] at q1 q2
        refine fin_one Try.results101 ⟨hs, g, ?_, q2, q3⟩
        simp -implicitDefEqProofs (disch := omega) only [List.any_cons, List.any_nil, Nat.reduceEqDiff, List.map_cons, List.map_nil, Option.map_some, Option.map_none, List.nil_append, ↓reduceIte, vcu0, vcu1, vcu2, vcu3, vcu4, vcu5, vcu6, vcu7, vcu8, vcu9, vcu10, vcu11, vcu12, vcu13, vcu14, vcu15, vcu16, vcu17, vcu18, vcu19, vcu20, vcu21, vcu22, vcu23, vcu24, vcu25, vcu26, ↓vcd0, ↓vcd1, ↓vcd2, ↓vcd3, q1]

def bti : Nat → Int → List (Int × Int)
  | 0, _ => []
  | f + 1, first => bti f first ++ bti f (first + (2 ^ f : Nat)) ++ mgi (f + 1) first (2 ^ (f + 1)) 1
theorem bti_length : ∀ (f : Nat) (first : Int), f ≤ 3 → (bti f first).length ≤ 60 * f * f
  | 0, _, _ => by simp [bti]
  | f + 1, first, h => by
    have hp : 2 ^ (f + 1) ≤ 2 ^ 3 := Nat.pow_le_pow_right (by omega) h
    have a1 := bti_length f first (by omega)
    have a2 := bti_length f (first + (2 ^ f : Nat)) (by omega)
    have a3 := mgi_length (f + 1) first (2 ^ (f + 1)) 1 (by omega)
    rw [bti, List.length_append, List.length_append]
    have : f = 0 ∨ f = 1 ∨ f = 2 := by omega
    rcases this with rfl | rfl | rfl <;> omega
theorem own_form {β σ : AHeap} {v : Value} {cs : List (Int × Int)} (h : OwnP β σ v cs) : ∃ ad l z, v = .slice ad l z := by
  rcases h with ⟨rfl, _⟩ | ⟨g, rfl, _⟩ <;> exact ⟨_, _, _, rfl⟩
theorem mergeSort_at : ∀ (f : Nat) (σ : AHeap) (first : Int), f ≤ 3 → 0 ≤ first → first ≤ 60 - 10 * (f : Int) →
    ACall Try.prog w0 90 [.int .i64 first, .int .i64 (2 ^ f : Nat)] σ fun r σ' => Sub σ σ' ∧ OwnP σ σ' r (bti f first) := by
  intro f
  induction f with
  | zero =>
    intro σ first _ _ _
    refine acall_go mixed Try.func90 rfl good90 fun pr => ?_
    have e : ((2 ^ 0 : Nat) : Int) = 1 := rfl
    simp -implicitDefEqProofs (disch := omega) only [List.any_cons, List.any_nil, Nat.reduceEqDiff, List.map_cons, List.map_nil, Option.map_some, Option.map_none, List.nil_append, ↓reduceIte, vcu0, vcu1, vcu2, vcu3, vcu4, vcu5, vcu6, vcu7, vcu8, vcu9, vcu10, vcu11, vcu12, vcu13, vcu14, vcu15, vcu16, vcu17, vcu18, vcu19, vcu20, vcu21, vcu22, vcu23, vcu24, vcu25, vcu26, ↓vcd0, ↓vcd1, ↓vcd2, ↓vcd3, e]
    refine fin_one Try.results90 ⟨Sub.refl _, .inl ⟨?_, rfl⟩⟩
    simp -implicitDefEqProofs (disch := omega) only [List.any_cons, List.any_nil, Nat.reduceEqDiff, List.map_cons, List.map_nil, Option.map_some, Option.map_none, List.nil_append, ↓reduceIte, vcu0, vcu1, vcu2, vcu3, vcu4, vcu5, vcu6, vcu7, vcu8, vcu9, vcu10, vcu11, vcu12, vcu13, vcu14, vcu15, vcu16, vcu17, vcu18, vcu19, vcu20, vcu21, vcu22, vcu23, vcu24, vcu25, vcu26, ↓vcd0, ↓vcd1, ↓vcd2, ↓vcd3]
  | succ f ih =>
    intro σ first hf h0 h1
    unfold bti
    have hp : 2 ^ (f + 1) = 2 * 2 ^ f := by rw [Nat.pow_succ]; omega
    have hp1 : 1 ≤ 2 ^ f := Nat.one_le_two_pow
    have hp2 : 2 ^ f ≤ 2 ^ 2 := Nat.pow_le_pow_right (by omega) (by omega)
    have hcase : 2 ^ (f + 1) = 2 ∧ f + 1 = 1 ∨ 2 ^ (f + 1) = 4 ∧ f + 1 = 2 ∨ 2 ^ (f + 1) = 8 ∧ f + 1 = 3 := by
      have : f = 0 ∨ f = 1 ∨ f = 2 := by omega
      rcases this with rfl | rfl | rfl <;> simp
    have b1 := bti_length f first (by omega)
    have b2 := bti_length f (first + (2 ^ f : Nat)) (by omega)
    have b3 := mgi_length (f + 1) first (2 ^ (f + 1)) 1 (by omega)
    have b4 : 60 * f * f ≤ 240 := by
      have : f = 0 ∨ f = 1 ∨ f = 2 := by omega
      rcases this with rfl | rfl | rfl <;> omega
    have hm := fun σ => mergeI_at (w0 := w0) (f + 1) σ first (2 ^ (f + 1)) 1 h0 (by omega) hcase (.inl rfl)
    refine acall_go mixed Try.func90 rfl good90 fun pr => ?_
    have ih1 := fun σ => ih σ first (by omega) h0 (by omega)
    have ih2 := fun σ => ih σ (first + (2 ^ f : Nat)) (by omega) (by omega) (by omega)
    have hb5 : 5 * 2 ^ (f + 1) ≤ 40 := by omega
    generalize bti f first = A at b1 ih1
    generalize bti f (first + (2 ^ f : Nat)) = B at b2 ih2
    generalize mgi (f + 1) first (2 ^ (f + 1)) 1 = C at b3 hm
    have eh : ((2 ^ (f + 1) : Nat) : Int) / 2 = ((2 ^ f : Nat) : Int) := by omega
    have eh2 : 2 ≤ ((2 ^ (f + 1) : Nat) : Int) := by omega
    have eh3 : ((2 ^ f : Nat) : Int) ≤ 4 := by omega
    generalize 2 ^ (f + 1) = N1 at eh hm eh2 hb5
    generalize 2 ^ f = N0 at eh ih1 ih2 eh3
    simp -implicitDefEqProofs (disch := omega) only [List.any_cons, List.any_nil, Nat.reduceEqDiff, List.map_cons, List.map_nil, Option.map_some, Option.map_none, List.nil_append, ↓reduceIte, vcu0, vcu1, vcu2, vcu3, vcu4, vcu5, vcu6, vcu7, vcu8, vcu9, vcu10, vcu11, vcu12, vcu13, vcu14, vcu15, vcu16, vcu17, vcu18, vcu19, vcu20, vcu21, vcu22, vcu23, vcu24, vcu25, vcu26, ↓vcd0, ↓vcd1, ↓vcd2, ↓vcd3, eh]
    refine (ih1 σ).mono ?_
    rintro va τ1 ⟨s1, ha⟩
    simp -implicitDefEqProofs (disch := omega) only [List.any_cons, List.any_nil, Nat.reduceEqDiff, List.map_cons, List.map_nil, Option.map_some, Option.map_none, List.nil_append, ↓reduceIte, vcu0, vcu1, vcu2, vcu3, vcu4, vcu5, vcu6, vcu7, vcu8, vcu9, vcu10, vcu11, vcu12, vcu13, vcu14, vcu15, vcu16, vcu17, vcu18, vcu19, vcu20, vcu21, vcu22, vcu23, vcu24, vcu25, vcu26, ↓vcd0, ↓vcd1, ↓vcd2, ↓vcd3, opK_some, eh]
    refine (ih2 τ1).mono ?_
    rintro vb τ2 ⟨s2, hb⟩
    simp -implicitDefEqProofs (disch := omega) only [List.any_cons, List.any_nil, Nat.reduceEqDiff, List.map_cons, List.map_nil, Option.map_some, Option.map_none, List.nil_append, ↓reduceIte, vcu0, vcu1, vcu2, vcu3, vcu4, vcu5, vcu6, vcu7, vcu8, vcu9, vcu10, vcu11, vcu12, vcu13, vcu14, vcu15, vcu16, vcu17, vcu18, vcu19, vcu20, vcu21, vcu22, vcu23, vcu24, vcu25, vcu26, ↓vcd0, ↓vcd1, ↓vcd2, ↓vcd3, opK_some]
    refine (hm τ2).mono ?_
    rintro _ τ3 ⟨s3, g3, rfl, v3, n3⟩
    have pa := ha.pairs.sub (s2.trans s3)
    have pb := hb.pairs.sub s3
    obtain ⟨ad1, l1, z1, rfl⟩ := own_form ha
    obtain ⟨ad2, l2, z2, rfl⟩ := own_form hb
    simp -implicitDefEqProofs (disch := omega) only [List.any_cons, List.any_nil, Nat.reduceEqDiff, List.map_cons, List.map_nil, Option.map_some, Option.map_none, List.nil_append, ↓reduceIte, vcu0, vcu1, vcu2, vcu3, vcu4, vcu5, vcu6, vcu7, vcu8, vcu9, vcu10, vcu11, vcu12, vcu13, vcu14, vcu15, vcu16, vcu17, vcu18, vcu19, vcu20, vcu21, vcu22, vcu23, vcu24, vcu25, vcu26, ↓vcd0, ↓vcd1, ↓vcd2, ↓vcd3, opK_some]
    refine r_lit el83 (out := #[.slice ad1 l1 z1, .slice ad2 l2 z2, .slice (some ⟨g3, 0, none⟩) C.length 2]) (by simp -implicitDefEqProofs (disch := omega) only [List.any_cons, List.any_nil, Nat.reduceEqDiff, List.map_cons, List.map_nil, Option.map_some, Option.map_none, List.nil_append, ↓reduceIte, vcu0, vcu1, vcu2, vcu3, vcu4, vcu5, vcu6, vcu7, vcu8, vcu9, vcu10, vcu11, vcu12, vcu13, vcu14, vcu15, vcu16, vcu17, vcu18, vcu19, vcu20, vcu21, vcu22, vcu23, vcu24, vcu25, vcu26, ↓vcd0, ↓vcd1, ↓vcd2, ↓vcd3]; kernel_rfl) (by rfl) fun e τ4 n4 s4 v4 => ?_
    have hcat := concat_at (w0 := w0) τ4 e [.slice ad1 l1 z1, .slice ad2 l2 z2, .slice (some ⟨g3, 0, none⟩) C.length 2] (three A B C) v4 (by simp) (fun k v hk => by
      match k with
      | 0 => simp at hk; subst hk; exact pa.sub s4
      | 1 => simp at hk; subst hk; exact pb.sub s4
      | 2 => simp at hk; subst hk; exact .inr ⟨g3, 0, rfl, pairsAt_own (s4 _ _ v3)⟩
      | k + 3 => simp at hk) (fun k => by
      match k with
      | 0 => show A.length ≤ 1000; omega
      | 1 => show B.length ≤ 1000; omega
      | 2 => show C.length ≤ 1000; omega
      | k + 3 => simp [three])
    simp -implicitDefEqProofs (disch := omega) only [List.any_cons, List.any_nil, Nat.reduceEqDiff, List.map_cons, List.map_nil, Option.map_some, Option.map_none, List.nil_append, ↓reduceIte, vcu0, vcu1, vcu2, vcu3, vcu4, vcu5, vcu6, vcu7, vcu8, vcu9, vcu10, vcu11, vcu12, vcu13, vcu14, vcu15, vcu16, vcu17, vcu18, vcu19, vcu20, vcu21, vcu22, vcu23, vcu24, vcu25, vcu26, ↓vcd0, ↓vcd1, ↓vcd2, ↓vcd3]
    refine hcat.mono ?_
    rintro v τ5 ⟨s5, hv⟩
    have hs5 : Sub σ τ5 := (((s1.trans s2).trans s3).trans s4).trans s5
    simp -implicitDefEqProofs (disch := omega) only [List.any_cons, List.any_nil, Nat.reduceEqDiff, List.map_cons, List.map_nil, Option.map_some, Option.map_none, List.nil_append, ↓reduceIte, vcu0, vcu1, vcu2, vcu3, vcu4, vcu5, vcu6, vcu7, vcu8, vcu9, vcu10, vcu11, vcu12, vcu13, vcu14, vcu15, vcu16, vcu17, vcu18, vcu19, vcu20, vcu21, vcu22, vcu23, vcu24, vcu25, vcu26, ↓vcd0, ↓vcd1, ↓vcd2, ↓vcd3, opK_some]
    refine fin_one Try.results90 ⟨hs5, ?_⟩
    simp -implicitDefEqProofs (disch := omega) only [List.any_cons, List.any_nil, Nat.reduceEqDiff, List.map_cons, List.map_nil, Option.map_some, Option.map_none, List.nil_append, ↓reduceIte, vcu0, vcu1, vcu2, vcu3, vcu4, vcu5, vcu6, vcu7, vcu8, vcu9, vcu10, vcu11, vcu12, vcu13, vcu14, vcu15, vcu16, vcu17, vcu18, vcu19, vcu20, vcu21, vcu22, vcu23, vcu24, vcu25, vcu26, ↓vcd0, ↓vcd1, ↓vcd2, ↓vcd3]
    have : cat (three A B C) 3 = A ++ B ++ C := by simp [cat, three]
    rw [← this]
    exact hv.imp id fun ⟨g, a, b, c⟩ => ⟨g, a, b, free_sub (((s1.trans s2).trans s3).trans s4) c⟩
end Go.Proofs.Ytnkpoflhdfchjaa
