/- The draws of the laws on networks, as rows; what is sorted. -/
import Derived.Test.YtnkpoflhdfchjaaOg
import Derived.Test.YtnkpoflhdfchjaaNx
set_option linter.unusedSimpArgs false
set_option linter.unusedVariables false
namespace Go.Proofs.Ytnkpoflhdfchjaa
open Go Go.Abs Go.RowKit
variable {w0 : World}

/-- what a law is given: lines, and a row of comparators -/
def DrawnR (σ σ' : AHeap) (r : Value) : Prop := ∃ (lines : Int) (g2 : Nat) (net : List (Int × Int)), r = .tuple #[.int .i64 lines, .slice (some ⟨g2, 0, none⟩) net.length 2] ∧ -1 ≤ lines ∧ lines ≤ 7 ∧ net.length ≤ 1010 ∧ Fits net ∧ σ' g2 = some ⟨pairs net, false⟩ ∧ Sub σ σ'
theorem drawBitFault_at (σ : AHeap) (h o : Nat) (bs : List Int) (hv : IntsAt .u8 σ h o bs) (hl : bs.length ≤ 1048576) (hb : ∀ b ∈ bs, 0 ≤ b ∧ b ≤ 255) :
    ACall Try.prog w0 40 [.slice (some ⟨h, o, none⟩) bs.length 1] σ fun r σ' => DrawnR σ σ' r := by
  refine acall_go mixed Try.func40 rfl good40 fun pr => ?_
  simp -implicitDefEqProofs (disch := omega) only [List.any_cons, List.any_nil, Nat.reduceEqDiff, List.map_cons, List.map_nil, Option.map_some, Option.map_none, List.nil_append, ↓reduceIte, vcu0, vcu1, vcu2, vcu3, vcu4, vcu5, vcu6, vcu7, vcu8, vcu9, vcu10, vcu11, vcu12, vcu13, vcu14, vcu15, vcu16, vcu17, vcu18, vcu19, vcu20, vcu21, vcu22, vcu23, vcu24, vcu25, vcu26, ↓vcd0, ↓vcd1, ↓vcd2, ↓vcd3]
  refine (open_at σ h o bs hl).mono ?_
  rintro r τ ⟨g, m, hg, hm, hmb, rfl, hτ⟩
  have htl : (bs.take m).length = m := by simp; omega
  have hs0 : Sub σ τ := by rw [hτ]; exact sub_upd hg
  have hR : Rd σ τ g h o (bs.take m) 0 := ⟨by rw [hτ, htl]; exact AHeap.upd_same _ _ _, hs0, hg, hv.take m, by rw [htl]; exact hm, fun b hb' => hb b (List.mem_of_mem_take hb')⟩
  clear hτ
  simp -implicitDefEqProofs (disch := omega) only [List.any_cons, List.any_nil, Nat.reduceEqDiff, List.map_cons, List.map_nil, Option.map_some, Option.map_none, List.nil_append, ↓reduceIte, vcu0, vcu1, vcu2, vcu3, vcu4, vcu5, vcu6, vcu7, vcu8, vcu9, vcu10, vcu11, vcu12, vcu13, vcu14, vcu15, vcu16, vcu17, vcu18, vcu19, vcu20, vcu21, vcu22, vcu23, vcu24, vcu25, vcu26, ↓vcd0, ↓vcd1, ↓vcd2, ↓vcd3, opK_some]
  refine (netRow_k σ τ g h o _ _ 12 hR (by omega) (by omega)).mono ?_
  rintro r τ1 ⟨lines, g2, net, p', rfl, hl1, hl2, hnl, -, -, hD, hg2, hn2⟩
  simp -implicitDefEqProofs (disch := omega) only [List.any_cons, List.any_nil, Nat.reduceEqDiff, List.map_cons, List.map_nil, Option.map_some, Option.map_none, List.nil_append, ↓reduceIte, vcu0, vcu1, vcu2, vcu3, vcu4, vcu5, vcu6, vcu7, vcu8, vcu9, vcu10, vcu11, vcu12, vcu13, vcu14, vcu15, vcu16, vcu17, vcu18, vcu19, vcu20, vcu21, vcu22, vcu23, vcu24, vcu25, vcu26, ↓vcd0, ↓vcd1, ↓vcd2, ↓vcd3, opK_some, List.getElem?_toArray, List.getElem?_cons_zero, List.getElem?_cons_succ]
  refine fin_two Try.results40 ⟨lines, g2, net, ?_, hl1, hl2, hnl, hD.fit, hg2, hD.rd.sub⟩
  simp -implicitDefEqProofs (disch := omega) only [List.any_cons, List.any_nil, Nat.reduceEqDiff, List.map_cons, List.map_nil, Option.map_some, Option.map_none, List.nil_append, ↓reduceIte, vcu0, vcu1, vcu2, vcu3, vcu4, vcu5, vcu6, vcu7, vcu8, vcu9, vcu10, vcu11, vcu12, vcu13, vcu14, vcu15, vcu16, vcu17, vcu18, vcu19, vcu20, vcu21, vcu22, vcu23, vcu24, vcu25, vcu26, ↓vcd0, ↓vcd1, ↓vcd2, ↓vcd3]
theorem drawNetSorts_at (σ : AHeap) (h o : Nat) (bs : List Int) (hv : IntsAt .u8 σ h o bs) (hl : bs.length ≤ 1048576) (hb : ∀ b ∈ bs, 0 ≤ b ∧ b ≤ 255) :
    ACall Try.prog w0 34 [.slice (some ⟨h, o, none⟩) bs.length 1] σ fun r σ' => DrawnR σ σ' r := by
  refine acall_go mixed Try.func34 rfl good34 fun pr => ?_
  simp -implicitDefEqProofs (disch := omega) only [List.any_cons, List.any_nil, Nat.reduceEqDiff, List.map_cons, List.map_nil, Option.map_some, Option.map_none, List.nil_append, ↓reduceIte, vcu0, vcu1, vcu2, vcu3, vcu4, vcu5, vcu6, vcu7, vcu8, vcu9, vcu10, vcu11, vcu12, vcu13, vcu14, vcu15, vcu16, vcu17, vcu18, vcu19, vcu20, vcu21, vcu22, vcu23, vcu24, vcu25, vcu26, ↓vcd0, ↓vcd1, ↓vcd2, ↓vcd3]
  refine (open_at σ h o bs hl).mono ?_
  rintro r τ ⟨g, m, hg, hm, hmb, rfl, hτ⟩
  have htl : (bs.take m).length = m := by simp; omega
  have hs0 : Sub σ τ := by rw [hτ]; exact sub_upd hg
  have hR : Rd σ τ g h o (bs.take m) 0 := ⟨by rw [hτ, htl]; exact AHeap.upd_same _ _ _, hs0, hg, hv.take m, by rw [htl]; exact hm, fun b hb' => hb b (List.mem_of_mem_take hb')⟩
  clear hτ
  simp -implicitDefEqProofs (disch := omega) only [List.any_cons, List.any_nil, Nat.reduceEqDiff, List.map_cons, List.map_nil, Option.map_some, Option.map_none, List.nil_append, ↓reduceIte, vcu0, vcu1, vcu2, vcu3, vcu4, vcu5, vcu6, vcu7, vcu8, vcu9, vcu10, vcu11, vcu12, vcu13, vcu14, vcu15, vcu16, vcu17, vcu18, vcu19, vcu20, vcu21, vcu22, vcu23, vcu24, vcu25, vcu26, ↓vcd0, ↓vcd1, ↓vcd2, ↓vcd3, opK_some]
  refine (netRow_k σ τ g h o _ _ 12 hR (by omega) (by omega)).mono ?_
  rintro r τ1 ⟨lines, g2, net, p', rfl, hl1, hl2, hnl, -, -, hD, hg2, hn2⟩
  simp -implicitDefEqProofs (disch := omega) only [List.any_cons, List.any_nil, Nat.reduceEqDiff, List.map_cons, List.map_nil, Option.map_some, Option.map_none, List.nil_append, ↓reduceIte, vcu0, vcu1, vcu2, vcu3, vcu4, vcu5, vcu6, vcu7, vcu8, vcu9, vcu10, vcu11, vcu12, vcu13, vcu14, vcu15, vcu16, vcu17, vcu18, vcu19, vcu20, vcu21, vcu22, vcu23, vcu24, vcu25, vcu26, ↓vcd0, ↓vcd1, ↓vcd2, ↓vcd3, opK_some, List.getElem?_toArray, List.getElem?_cons_zero, List.getElem?_cons_succ]
  refine fin_two Try.results34 ⟨lines, g2, net, ?_, hl1, hl2, hnl, hD.fit, hg2, hD.rd.sub⟩
  simp -implicitDefEqProofs (disch := omega) only [List.any_cons, List.any_nil, Nat.reduceEqDiff, List.map_cons, List.map_nil, Option.map_some, Option.map_none, List.nil_append, ↓reduceIte, vcu0, vcu1, vcu2, vcu3, vcu4, vcu5, vcu6, vcu7, vcu8, vcu9, vcu10, vcu11, vcu12, vcu13, vcu14, vcu15, vcu16, vcu17, vcu18, vcu19, vcu20, vcu21, vcu22, vcu23, vcu24, vcu25, vcu26, ↓vcd0, ↓vcd1, ↓vcd2, ↓vcd3]
theorem drawNetUseless_at (σ : AHeap) (h o : Nat) (bs : List Int) (hv : IntsAt .u8 σ h o bs) (hl : bs.length ≤ 1048576) (hb : ∀ b ∈ bs, 0 ≤ b ∧ b ≤ 255) :
    ACall Try.prog w0 61 [.slice (some ⟨h, o, none⟩) bs.length 1] σ fun r σ' => DrawnR σ σ' r := by
  refine acall_go mixed Try.func61 rfl good61 fun pr => ?_
  simp -implicitDefEqProofs (disch := omega) only [List.any_cons, List.any_nil, Nat.reduceEqDiff, List.map_cons, List.map_nil, Option.map_some, Option.map_none, List.nil_append, ↓reduceIte, vcu0, vcu1, vcu2, vcu3, vcu4, vcu5, vcu6, vcu7, vcu8, vcu9, vcu10, vcu11, vcu12, vcu13, vcu14, vcu15, vcu16, vcu17, vcu18, vcu19, vcu20, vcu21, vcu22, vcu23, vcu24, vcu25, vcu26, ↓vcd0, ↓vcd1, ↓vcd2, ↓vcd3]
  refine (open_at σ h o bs hl).mono ?_
  rintro r τ ⟨g, m, hg, hm, hmb, rfl, hτ⟩
  have htl : (bs.take m).length = m := by simp; omega
  have hs0 : Sub σ τ := by rw [hτ]; exact sub_upd hg
  have hR : Rd σ τ g h o (bs.take m) 0 := ⟨by rw [hτ, htl]; exact AHeap.upd_same _ _ _, hs0, hg, hv.take m, by rw [htl]; exact hm, fun b hb' => hb b (List.mem_of_mem_take hb')⟩
  clear hτ
  simp -implicitDefEqProofs (disch := omega) only [List.any_cons, List.any_nil, Nat.reduceEqDiff, List.map_cons, List.map_nil, Option.map_some, Option.map_none, List.nil_append, ↓reduceIte, vcu0, vcu1, vcu2, vcu3, vcu4, vcu5, vcu6, vcu7, vcu8, vcu9, vcu10, vcu11, vcu12, vcu13, vcu14, vcu15, vcu16, vcu17, vcu18, vcu19, vcu20, vcu21, vcu22, vcu23, vcu24, vcu25, vcu26, ↓vcd0, ↓vcd1, ↓vcd2, ↓vcd3, opK_some]
  refine (netRow_k σ τ g h o _ _ 9 hR (by omega) (by omega)).mono ?_
  rintro r τ1 ⟨lines, g2, net, p', rfl, hl1, hl2, hnl, -, -, hD, hg2, hn2⟩
  simp -implicitDefEqProofs (disch := omega) only [List.any_cons, List.any_nil, Nat.reduceEqDiff, List.map_cons, List.map_nil, Option.map_some, Option.map_none, List.nil_append, ↓reduceIte, vcu0, vcu1, vcu2, vcu3, vcu4, vcu5, vcu6, vcu7, vcu8, vcu9, vcu10, vcu11, vcu12, vcu13, vcu14, vcu15, vcu16, vcu17, vcu18, vcu19, vcu20, vcu21, vcu22, vcu23, vcu24, vcu25, vcu26, ↓vcd0, ↓vcd1, ↓vcd2, ↓vcd3, opK_some, List.getElem?_toArray, List.getElem?_cons_zero, List.getElem?_cons_succ]
  refine fin_two Try.results61 ⟨lines, g2, net, ?_, hl1, hl2, hnl, hD.fit, hg2, hD.rd.sub⟩
  simp -implicitDefEqProofs (disch := omega) only [List.any_cons, List.any_nil, Nat.reduceEqDiff, List.map_cons, List.map_nil, Option.map_some, Option.map_none, List.nil_append, ↓reduceIte, vcu0, vcu1, vcu2, vcu3, vcu4, vcu5, vcu6, vcu7, vcu8, vcu9, vcu10, vcu11, vcu12, vcu13, vcu14, vcu15, vcu16, vcu17, vcu18, vcu19, vcu20, vcu21, vcu22, vcu23, vcu24, vcu25, vcu26, ↓vcd0, ↓vcd1, ↓vcd2, ↓vcd3]

theorem sorted_at (σ : AHeap) (h o : Nat) (xs : List Int) (hv : IntsAt .i64 σ h o xs) (hl : xs.length ≤ 1048576) :
    ACall Try.prog w0 38 [.slice (some ⟨h, o, none⟩) xs.length 1] σ fun r σ' => r = .bool (decide (Up xs)) ∧ σ' = σ := by
  refine acall_go mixed Try.func38 rfl good38 fun pr => ?_
  simp -implicitDefEqProofs (disch := omega) only [List.any_cons, List.any_nil, Nat.reduceEqDiff, List.map_cons, List.map_nil, Option.map_some, Option.map_none, List.nil_append, ↓reduceIte, vcu0, vcu1, vcu2, vcu3, vcu4, vcu5, vcu6, vcu7, vcu8, vcu9, vcu10, vcu11, vcu12, vcu13, vcu14, vcu15, vcu16, vcu17, vcu18, vcu19, vcu20, vcu21, vcu22, vcu23, vcu24, vcu25, vcu26, ↓vcd0, ↓vcd1, ↓vcd2, ↓vcd3]
  refine vc_loop_c mixed (by kernel_rfl) [0] (fun m a σ' => ∃ k : Nat, m + k = xs.length ∧ a 3 = .int .i64 (k + 1 : Nat) ∧ σ' = σ ∧ ∀ i : Nat, i < k → xs.getD i 0 ≤ xs.getD (i + 1) 0) xs.length ⟨0, by omega, rfl, rfl, fun i h1 => by omega⟩ ?_
  rintro m a σ' hc ⟨k, hk, h3, rfl, hp⟩
  simp -implicitDefEqProofs (disch := omega) only [List.any_cons, List.any_nil, Nat.reduceEqDiff, List.map_cons, List.map_nil, Option.map_some, Option.map_none, List.nil_append, ↓reduceIte, vcu0, vcu1, vcu2, vcu3, vcu4, vcu5, vcu6, vcu7, vcu8, vcu9, vcu10, vcu11, vcu12, vcu13, vcu14, vcu15, vcu16, vcu17, vcu18, vcu19, vcu20, vcu21, vcu22, vcu23, vcu24, vcu25, vcu26, ↓vcd0, ↓vcd1, ↓vcd2, ↓vcd3] at hc
  obtain ⟨h0, -⟩ := hc
  by_cases hlt : k + 1 < xs.length
  · have hx := hv (k + 1) hlt
    have hy := hv k (by omega)
    have e1 : ((k + 1 : Nat) : Int) - 1 = (k : Nat) := by omega
    by_cases hd : xs.getD (k + 1) 0 < xs.getD k 0
    · simp -implicitDefEqProofs (disch := omega) only [List.any_cons, List.any_nil, Nat.reduceEqDiff, List.map_cons, List.map_nil, Option.map_some, Option.map_none, List.nil_append, ↓reduceIte, vcu0, vcu1, vcu2, vcu3, vcu4, vcu5, vcu6, vcu7, vcu8, vcu9, vcu10, vcu11, vcu12, vcu13, vcu14, vcu15, vcu16, vcu17, vcu18, vcu19, vcu20, vcu21, vcu22, vcu23, vcu24, vcu25, vcu26, ↓vcd0, ↓vcd1, ↓vcd2, ↓vcd3, h0, h3, hx, hy, e1]
      refine fin_one Try.results38 ⟨?_, rfl⟩
      simp -implicitDefEqProofs (disch := omega) only [List.any_cons, List.any_nil, Nat.reduceEqDiff, List.map_cons, List.map_nil, Option.map_some, Option.map_none, List.nil_append, ↓reduceIte, vcu0, vcu1, vcu2, vcu3, vcu4, vcu5, vcu6, vcu7, vcu8, vcu9, vcu10, vcu11, vcu12, vcu13, vcu14, vcu15, vcu16, vcu17, vcu18, vcu19, vcu20, vcu21, vcu22, vcu23, vcu24, vcu25, vcu26, ↓vcd0, ↓vcd1, ↓vcd2, ↓vcd3]
      have : ¬ Up xs := fun hU => by have := hU k (by omega); omega
      simp [this]
    · simp -implicitDefEqProofs (disch := omega) only [List.any_cons, List.any_nil, Nat.reduceEqDiff, List.map_cons, List.map_nil, Option.map_some, Option.map_none, List.nil_append, ↓reduceIte, vcu0, vcu1, vcu2, vcu3, vcu4, vcu5, vcu6, vcu7, vcu8, vcu9, vcu10, vcu11, vcu12, vcu13, vcu14, vcu15, vcu16, vcu17, vcu18, vcu19, vcu20, vcu21, vcu22, vcu23, vcu24, vcu25, vcu26, ↓vcd0, ↓vcd1, ↓vcd2, ↓vcd3, h0, h3, hx, hy, e1]
      refine ⟨⟨trivial, trivial⟩, m - 1, by omega, k + 1, by omega, by simp, trivial, fun i h1 => ?_⟩
      by_cases e : i = k
      · subst e; omega
      · exact hp i (by omega)
  · simp -implicitDefEqProofs (disch := omega) only [List.any_cons, List.any_nil, Nat.reduceEqDiff, List.map_cons, List.map_nil, Option.map_some, Option.map_none, List.nil_append, ↓reduceIte, vcu0, vcu1, vcu2, vcu3, vcu4, vcu5, vcu6, vcu7, vcu8, vcu9, vcu10, vcu11, vcu12, vcu13, vcu14, vcu15, vcu16, vcu17, vcu18, vcu19, vcu20, vcu21, vcu22, vcu23, vcu24, vcu25, vcu26, ↓vcd0, ↓vcd1, ↓vcd2, ↓vcd3, h0, h3]
    refine fin_one Try.results38 ⟨?_, rfl⟩
    simp -implicitDefEqProofs (disch := omega) only [List.any_cons, List.any_nil, Nat.reduceEqDiff, List.map_cons, List.map_nil, Option.map_some, Option.map_none, List.nil_append, ↓reduceIte, vcu0, vcu1, vcu2, vcu3, vcu4, vcu5, vcu6, vcu7, vcu8, vcu9, vcu10, vcu11, vcu12, vcu13, vcu14, vcu15, vcu16, vcu17, vcu18, vcu19, vcu20, vcu21, vcu22, vcu23, vcu24, vcu25, vcu26, ↓vcd0, ↓vcd1, ↓vcd2, ↓vcd3]
    have : Up xs := fun i hi => hp i (by omega)
    simp [this]
theorem sorted_calls (σ : AHeap) (v : Value) (xs : List Int) (hv : Ints .i64 σ v xs) (hl : xs.length ≤ 1048576) :
    ACall Try.prog w0 38 [v] σ fun r σ' => r = .bool (decide (Up xs)) ∧ σ' = σ :=
  ACall.ints_quiet (pre := []) (by kernel_rfl) hv fun σ1 h o _ hg => sorted_at σ1 h o xs hg hl
end Go.Proofs.Ytnkpoflhdfchjaa
