/- The draws of the laws on networks. -/
import Derived.Test.YtnkpoflhdfchjaaNs
set_option linter.unusedSimpArgs false
set_option linter.unusedVariables false
namespace Go.Proofs.Ytnkpoflhdfchjaa
open Go Go.Abs Go.RowKit
variable {w0 : World}

theorem pairs_acells {σ : AHeap} {v : Value} {cs : List (Int × Int)} (h : Pairs σ v cs) : acells 2 σ v = some (pairs cs) := by
  rcases h with ⟨rfl, rfl⟩ | ⟨g, o, rfl, hg⟩
  · rfl
  · exact acells_pairs hg
/-- a row, or nothing, put behind a row of one's own -/
theorem r_pushV {b0 : Base} {P : Program} {a : AFrame} {σ β : AHeap} {K : AK} {all os : List Oper} {d : Nat} {ty : TypeId} {pos : String} {af : Array Edge} {t u : TypeId} {zv : Value} {b : Nat} {x y : Operand} {v w : Value} {cs ds : List (Int × Int)}
    (hE : Elems P t 2 zv b) (hb : b ≤ 64) (hu : ∃ e2, P.underlying u = some (.slice e2)) (hs : Sub β σ) (hx : ev a x = v) (hv : OwnP β σ v cs) (hy : ev a y = w) (he : Pairs σ w ds) (hl : cs.length + ds.length ≤ 1048576)
    (hk : ∀ g' τ, Sub β τ → β g' = none → τ g' = some ⟨pairs (cs ++ ds), false⟩ → vcR P b0 false all os (fset a d (.slice (some ⟨g', 0, none⟩) (cs.length + ds.length) 2)) τ K) :
    vcR P b0 false all (⟨some d, .call ⟨.builtin .append, #[x, y], #[t, u]⟩, ty, pos, af, none⟩ :: os) a σ K := by
  have hd2 : (pairs ds).length / 2 = ds.length := by rw [pairs_length]; omega
  have hac : acells 2 σ (ev a y) = some (pairs ds) := by rw [hy]; exact pairs_acells he
  rcases hv with ⟨rfl, rfl⟩ | ⟨g, rfl, hg, hn⟩
  · refine r_push_nil hE hu hx hac ?_ fun g' τ h1 h2 h3 => ?_
    · rw [pairs_length]
      have : ds.length * 2 * b ≤ 2097152 * 64 := Nat.mul_le_mul (by simp at hl; omega) hb
      simp at hl
      omega
    · rw [hd2]
      have := hk g' τ (hs.trans h2) (free_sub hs h1) (by simpa using h3)
      simpa using this
  · refine r_push hE hu hx hg (by rw [pairs_length]) hac (pairs_one ds) ?_ fun g' τ h1 h2 h3 => ?_
    · rw [pairs_length]
      have : (cs.length * 2 + ds.length * 2) * b ≤ 2097152 * 64 := Nat.mul_le_mul (by omega) hb
      omega
    · rw [hd2]
      rw [← pairs_append] at h3
      exact hk g' τ (h2.sub hs hn) (free_sub hs h1) h3

theorem implNV_calls (σ : AHeap) (lines : Int) (v : Value) (cs : List (Int × Int)) (hv : Pairs σ v cs) (hl : cs.length ≤ 1048576) (hf : Fits cs) (hr : InR lines) :
    ACall Try.prog w0 26 [.int .i64 lines, v] σ fun r σ' => r = .bool (decide (NV lines cs)) ∧ σ' = σ :=
  ACall.pairs_quiet (pre := [_]) (post := []) (by kernel_rfl) hv fun σ1 h o _ hg => implNV_at σ1 lines h o cs hg hl hf hr
theorem specNV_calls (σ : AHeap) (lines : Int) (v : Value) (cs : List (Int × Int)) (hv : Pairs σ v cs) (hl : cs.length ≤ 1048576) (hf : Fits cs) (hr : InR lines) :
    ACall Try.prog w0 27 [.int .i64 lines, v] σ fun r σ' => r = .bool (decide (NV lines cs)) ∧ σ' = σ :=
  ACall.pairs_quiet (pre := [_]) (post := []) (by kernel_rfl) hv fun σ1 h o _ hg => specNV_at σ1 lines h o cs hg hl hf hr

/-- what a law is given: lines, and a network of its own -/
def Drawn (σ σ' : AHeap) (r : Value) : Prop := ∃ (lines : Int) (v : Value) (net : List (Int × Int)), r = .tuple #[.int .i64 lines, v] ∧ -1 ≤ lines ∧ lines ≤ 7 ∧ net.length ≤ 1010 ∧ Fits net ∧ OwnP σ σ' v net ∧ Sub σ σ'

theorem drawNetValid_at (σ : AHeap) (h o : Nat) (bs : List Int) (hv : IntsAt .u8 σ h o bs) (hl : bs.length ≤ 1048576) (hb : ∀ b ∈ bs, 0 ≤ b ∧ b ≤ 255) :
    ACall Try.prog w0 25 [.slice (some ⟨h, o, none⟩) bs.length 1] σ fun r σ' => Drawn σ σ' r := by
  refine acall_go mixed Try.func25 rfl good25 fun pr => ?_
  simp -implicitDefEqProofs (disch := omega) only [List.any_cons, List.any_nil, Nat.reduceEqDiff, List.map_cons, List.map_nil, Option.map_some, Option.map_none, List.nil_append, ↓reduceIte, vcu0, vcu1, vcu2, vcu3, vcu4, vcu5, vcu6, vcu7, vcu8, vcu9, vcu10, vcu11, vcu12, vcu13, vcu14, vcu15, vcu16, vcu17, vcu18, vcu19, vcu20, vcu21, vcu22, vcu23, vcu24, vcu25, vcu26, ↓vcd0, ↓vcd1, ↓vcd2, ↓vcd3]
  refine (open_at σ h o bs hl).mono ?_
  rintro r τ ⟨g, m, hg, hm, hmb, rfl, hτ⟩
  have htl : (bs.take m).length = m := by simp; omega
  have hs0 : Sub σ τ := by rw [hτ]; exact sub_upd hg
  have hR : Rd σ τ g h o (bs.take m) 0 := ⟨by rw [hτ, htl]; exact AHeap.upd_same _ _ _, hs0, hg, hv.take m, by rw [htl]; exact hm, fun b hb' => hb b (List.mem_of_mem_take hb')⟩
  clear hτ
  simp -implicitDefEqProofs (disch := omega) only [List.any_cons, List.any_nil, Nat.reduceEqDiff, List.map_cons, List.map_nil, Option.map_some, Option.map_none, List.nil_append, ↓reduceIte, vcu0, vcu1, vcu2, vcu3, vcu4, vcu5, vcu6, vcu7, vcu8, vcu9, vcu10, vcu11, vcu12, vcu13, vcu14, vcu15, vcu16, vcu17, vcu18, vcu19, vcu20, vcu21, vcu22, vcu23, vcu24, vcu25, vcu26, ↓vcd0, ↓vcd1, ↓vcd2, ↓vcd3, opK_some]
  refine (net_k σ τ g h o _ _ 2 hR (by omega) (by omega)).mono ?_
  rintro r τ1 ⟨lines, v, net, p', rfl, hl1, hl2, hnl, -, -, hD⟩
  simp -implicitDefEqProofs (disch := omega) only [List.any_cons, List.any_nil, Nat.reduceEqDiff, List.map_cons, List.map_nil, Option.map_some, Option.map_none, List.nil_append, ↓reduceIte, vcu0, vcu1, vcu2, vcu3, vcu4, vcu5, vcu6, vcu7, vcu8, vcu9, vcu10, vcu11, vcu12, vcu13, vcu14, vcu15, vcu16, vcu17, vcu18, vcu19, vcu20, vcu21, vcu22, vcu23, vcu24, vcu25, vcu26, ↓vcd0, ↓vcd1, ↓vcd2, ↓vcd3, opK_some, List.getElem?_toArray, List.getElem?_cons_zero, List.getElem?_cons_succ]
  refine fin_two Try.results25 ⟨lines, v, net, ?_, hl1, hl2, hnl, hD.fit, hD.own.imp id fun ⟨g2, a1, a2, a3⟩ => ⟨g2, a1, a2, free_sub hs0 a3⟩, hD.rd.sub⟩
  simp -implicitDefEqProofs (disch := omega) only [List.any_cons, List.any_nil, Nat.reduceEqDiff, List.map_cons, List.map_nil, Option.map_some, Option.map_none, List.nil_append, ↓reduceIte, vcu0, vcu1, vcu2, vcu3, vcu4, vcu5, vcu6, vcu7, vcu8, vcu9, vcu10, vcu11, vcu12, vcu13, vcu14, vcu15, vcu16, vcu17, vcu18, vcu19, vcu20, vcu21, vcu22, vcu23, vcu24, vcu25, vcu26, ↓vcd0, ↓vcd1, ↓vcd2, ↓vcd3]
theorem drawNetDepth_at (σ : AHeap) (h o : Nat) (bs : List Int) (hv : IntsAt .u8 σ h o bs) (hl : bs.length ≤ 1048576) (hb : ∀ b ∈ bs, 0 ≤ b ∧ b ≤ 255) :
    ACall Try.prog w0 48 [.slice (some ⟨h, o, none⟩) bs.length 1] σ fun r σ' => Drawn σ σ' r := by
  refine acall_go mixed Try.func48 rfl good48 fun pr => ?_
  simp -implicitDefEqProofs (disch := omega) only [List.any_cons, List.any_nil, Nat.reduceEqDiff, List.map_cons, List.map_nil, Option.map_some, Option.map_none, List.nil_append, ↓reduceIte, vcu0, vcu1, vcu2, vcu3, vcu4, vcu5, vcu6, vcu7, vcu8, vcu9, vcu10, vcu11, vcu12, vcu13, vcu14, vcu15, vcu16, vcu17, vcu18, vcu19, vcu20, vcu21, vcu22, vcu23, vcu24, vcu25, vcu26, ↓vcd0, ↓vcd1, ↓vcd2, ↓vcd3]
  refine (open_at σ h o bs hl).mono ?_
  rintro r τ ⟨g, m, hg, hm, hmb, rfl, hτ⟩
  have htl : (bs.take m).length = m := by simp; omega
  have hs0 : Sub σ τ := by rw [hτ]; exact sub_upd hg
  have hR : Rd σ τ g h o (bs.take m) 0 := ⟨by rw [hτ, htl]; exact AHeap.upd_same _ _ _, hs0, hg, hv.take m, by rw [htl]; exact hm, fun b hb' => hb b (List.mem_of_mem_take hb')⟩
  clear hτ
  simp -implicitDefEqProofs (disch := omega) only [List.any_cons, List.any_nil, Nat.reduceEqDiff, List.map_cons, List.map_nil, Option.map_some, Option.map_none, List.nil_append, ↓reduceIte, vcu0, vcu1, vcu2, vcu3, vcu4, vcu5, vcu6, vcu7, vcu8, vcu9, vcu10, vcu11, vcu12, vcu13, vcu14, vcu15, vcu16, vcu17, vcu18, vcu19, vcu20, vcu21, vcu22, vcu23, vcu24, vcu25, vcu26, ↓vcd0, ↓vcd1, ↓vcd2, ↓vcd3, opK_some]
  refine (net_k σ τ g h o _ _ 9 hR (by omega) (by omega)).mono ?_
  rintro r τ1 ⟨lines, v, net, p', rfl, hl1, hl2, hnl, -, -, hD⟩
  simp -implicitDefEqProofs (disch := omega) only [List.any_cons, List.any_nil, Nat.reduceEqDiff, List.map_cons, List.map_nil, Option.map_some, Option.map_none, List.nil_append, ↓reduceIte, vcu0, vcu1, vcu2, vcu3, vcu4, vcu5, vcu6, vcu7, vcu8, vcu9, vcu10, vcu11, vcu12, vcu13, vcu14, vcu15, vcu16, vcu17, vcu18, vcu19, vcu20, vcu21, vcu22, vcu23, vcu24, vcu25, vcu26, ↓vcd0, ↓vcd1, ↓vcd2, ↓vcd3, opK_some, List.getElem?_toArray, List.getElem?_cons_zero, List.getElem?_cons_succ]
  refine fin_two Try.results48 ⟨lines, v, net, ?_, hl1, hl2, hnl, hD.fit, hD.own.imp id fun ⟨g2, a1, a2, a3⟩ => ⟨g2, a1, a2, free_sub hs0 a3⟩, hD.rd.sub⟩
  simp -implicitDefEqProofs (disch := omega) only [List.any_cons, List.any_nil, Nat.reduceEqDiff, List.map_cons, List.map_nil, Option.map_some, Option.map_none, List.nil_append, ↓reduceIte, vcu0, vcu1, vcu2, vcu3, vcu4, vcu5, vcu6, vcu7, vcu8, vcu9, vcu10, vcu11, vcu12, vcu13, vcu14, vcu15, vcu16, vcu17, vcu18, vcu19, vcu20, vcu21, vcu22, vcu23, vcu24, vcu25, vcu26, ↓vcd0, ↓vcd1, ↓vcd2, ↓vcd3]
end Go.Proofs.Ytnkpoflhdfchjaa
