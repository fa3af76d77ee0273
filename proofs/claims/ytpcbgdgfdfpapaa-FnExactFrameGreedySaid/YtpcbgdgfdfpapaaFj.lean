/- The draws of chapter 5; sums and columns. -/
import Derived.Test.YtpcbgdgfdfpapaaFi
set_option linter.unusedSimpArgs false
set_option linter.unusedVariables false
namespace Go.Proofs.Ytpcbgdgfdfpapaa
open Go Go.Abs Go.RowKit Go.Frames
variable {w0 : World}

theorem drawFrameOk_at (σ : AHeap) (h o : Nat) (bs : List Int) (hv : IntsAt .u8 σ h o bs) (hl : bs.length ≤ 1048576) (hb : ∀ b ∈ bs, 0 ≤ b ∧ b ≤ 255) :
    ACall Try.prog w0 17 [.slice (some ⟨h, o, none⟩) bs.length 1] σ fun r σ' => ∃ (g2 : Nat) (q : Nat → Nat) (T : List (List Int)) (g3 : Nat) (q3 : Nat → Nat) (F : List (List Int)), r = .tuple #[.slice (some ⟨g2, 0, none⟩) T.length 1, .slice (some ⟨g3, 0, none⟩) F.length 1] ∧
      OwnT σ σ' g2 q T ∧ OwnT σ σ' g3 q3 F ∧ T.length ≤ 7 ∧ (∀ i, i < T.length → (T.getD i []).length ≤ 6) ∧ F.length ≤ 72 ∧ (∀ i, i < F.length → (F.getD i []).length ≤ 6) ∧ Sub σ σ' := by
  refine acall_go mixed Try.func17 rfl good17 fun pr => ?_
  simp -implicitDefEqProofs (disch := omega) only [List.any_cons, List.any_nil, Nat.reduceEqDiff, List.map_cons, List.map_nil, Option.map_some, Option.map_none, List.nil_append, ↓reduceIte, vcu, ↓vcd]
  refine (open_at σ h o bs hl).mono ?_
  rintro r τ ⟨g, m, hg, hm, hmb, rfl, hτ⟩
  have htl : (bs.take m).length = m := by simp; omega
  have hR : Rd σ τ g h o (bs.take m) 0 := ⟨by rw [hτ, htl]; exact AHeap.upd_same _ _ _, by rw [hτ]; exact sub_upd hg, hg, hv.take m, by rw [htl]; exact hm, fun b hb' => hb b (List.mem_of_mem_take hb')⟩
  clear hτ
  simp -implicitDefEqProofs (disch := omega) only [List.any_cons, List.any_nil, Nat.reduceEqDiff, List.map_cons, List.map_nil, Option.map_some, Option.map_none, List.nil_append, ↓reduceIte, vcu, ↓vcd, opK_some]
  refine (frame_k σ τ g h o _ _ hR (by omega)).mono ?_
  rintro r τ1 ⟨g2, q, T, g3, q3, F, rfl, hT, hF, t1, t2, f1, f2, hK, p', hR2⟩
  simp -implicitDefEqProofs (disch := omega) only [List.any_cons, List.any_nil, Nat.reduceEqDiff, List.map_cons, List.map_nil, Option.map_some, Option.map_none, List.nil_append, ↓reduceIte, vcu, ↓vcd, opK_some, List.getElem?_toArray, List.getElem?_cons_zero, List.getElem?_cons_succ]
  refine fin_two Try.results17 ⟨g2, q, T, g3, q3, F, ?_, hT.base hR.sub, hF.base hR.sub, t1, t2, f1, f2, hR2.sub⟩
  simp -implicitDefEqProofs (disch := omega) only [List.any_cons, List.any_nil, Nat.reduceEqDiff, List.map_cons, List.map_nil, Option.map_some, Option.map_none, List.nil_append, ↓reduceIte, vcu, ↓vcd]

theorem drawFrameLeft_at (σ : AHeap) (h o : Nat) (bs : List Int) (hv : IntsAt .u8 σ h o bs) (hl : bs.length ≤ 1048576) (hb : ∀ b ∈ bs, 0 ≤ b ∧ b ≤ 255) :
    ACall Try.prog w0 26 [.slice (some ⟨h, o, none⟩) bs.length 1] σ fun r σ' => ∃ (g2 : Nat) (q : Nat → Nat) (T : List (List Int)) (g3 : Nat) (q3 : Nat → Nat) (F : List (List Int)), r = .tuple #[.slice (some ⟨g2, 0, none⟩) T.length 1, .slice (some ⟨g3, 0, none⟩) F.length 1] ∧
      OwnT σ σ' g2 q T ∧ OwnT σ σ' g3 q3 F ∧ T.length ≤ 7 ∧ (∀ i, i < T.length → (T.getD i []).length ≤ 6) ∧ F.length ≤ 72 ∧ (∀ i, i < F.length → (F.getD i []).length ≤ 6) ∧ Sub σ σ' := by
  refine acall_go mixed Try.func26 rfl good26 fun pr => ?_
  simp -implicitDefEqProofs (disch := omega) only [List.any_cons, List.any_nil, Nat.reduceEqDiff, List.map_cons, List.map_nil, Option.map_some, Option.map_none, List.nil_append, ↓reduceIte, vcu, ↓vcd]
  refine (open_at σ h o bs hl).mono ?_
  rintro r τ ⟨g, m, hg, hm, hmb, rfl, hτ⟩
  have htl : (bs.take m).length = m := by simp; omega
  have hR : Rd σ τ g h o (bs.take m) 0 := ⟨by rw [hτ, htl]; exact AHeap.upd_same _ _ _, by rw [hτ]; exact sub_upd hg, hg, hv.take m, by rw [htl]; exact hm, fun b hb' => hb b (List.mem_of_mem_take hb')⟩
  clear hτ
  simp -implicitDefEqProofs (disch := omega) only [List.any_cons, List.any_nil, Nat.reduceEqDiff, List.map_cons, List.map_nil, Option.map_some, Option.map_none, List.nil_append, ↓reduceIte, vcu, ↓vcd, opK_some]
  refine (frame_k σ τ g h o _ _ hR (by omega)).mono ?_
  rintro r τ1 ⟨g2, q, T, g3, q3, F, rfl, hT, hF, t1, t2, f1, f2, hK, p', hR2⟩
  simp -implicitDefEqProofs (disch := omega) only [List.any_cons, List.any_nil, Nat.reduceEqDiff, List.map_cons, List.map_nil, Option.map_some, Option.map_none, List.nil_append, ↓reduceIte, vcu, ↓vcd, opK_some, List.getElem?_toArray, List.getElem?_cons_zero, List.getElem?_cons_succ]
  refine fin_two Try.results26 ⟨g2, q, T, g3, q3, F, ?_, hT.base hR.sub, hF.base hR.sub, t1, t2, f1, f2, hR2.sub⟩
  simp -implicitDefEqProofs (disch := omega) only [List.any_cons, List.any_nil, Nat.reduceEqDiff, List.map_cons, List.map_nil, Option.map_some, Option.map_none, List.nil_append, ↓reduceIte, vcu, ↓vcd]

theorem drawFrameSends_at (σ : AHeap) (h o : Nat) (bs : List Int) (hv : IntsAt .u8 σ h o bs) (hl : bs.length ≤ 1048576) (hb : ∀ b ∈ bs, 0 ≤ b ∧ b ≤ 255) :
    ACall Try.prog w0 30 [.slice (some ⟨h, o, none⟩) bs.length 1] σ fun r σ' => ∃ (g3 : Nat) (q3 : Nat → Nat) (F : List (List Int)), r = .slice (some ⟨g3, 0, none⟩) F.length 1 ∧
      OwnT σ σ' g3 q3 F ∧ F.length ≤ 72 ∧ (∀ i, i < F.length → (F.getD i []).length ≤ 6) ∧ Sub σ σ' := by
  refine acall_go mixed Try.func30 rfl good30 fun pr => ?_
  simp -implicitDefEqProofs (disch := omega) only [List.any_cons, List.any_nil, Nat.reduceEqDiff, List.map_cons, List.map_nil, Option.map_some, Option.map_none, List.nil_append, ↓reduceIte, vcu, ↓vcd]
  refine (open_at σ h o bs hl).mono ?_
  rintro r τ ⟨g, m, hg, hm, hmb, rfl, hτ⟩
  have htl : (bs.take m).length = m := by simp; omega
  have hR : Rd σ τ g h o (bs.take m) 0 := ⟨by rw [hτ, htl]; exact AHeap.upd_same _ _ _, by rw [hτ]; exact sub_upd hg, hg, hv.take m, by rw [htl]; exact hm, fun b hb' => hb b (List.mem_of_mem_take hb')⟩
  clear hτ
  simp -implicitDefEqProofs (disch := omega) only [List.any_cons, List.any_nil, Nat.reduceEqDiff, List.map_cons, List.map_nil, Option.map_some, Option.map_none, List.nil_append, ↓reduceIte, vcu, ↓vcd, opK_some]
  refine (frame_k σ τ g h o _ _ hR (by omega)).mono ?_
  rintro r τ1 ⟨g2, q, T, g3, q3, F, rfl, hT, hF, t1, t2, f1, f2, hK, p', hR2⟩
  simp -implicitDefEqProofs (disch := omega) only [List.any_cons, List.any_nil, Nat.reduceEqDiff, List.map_cons, List.map_nil, Option.map_some, Option.map_none, List.nil_append, ↓reduceIte, vcu, ↓vcd, opK_some, List.getElem?_toArray, List.getElem?_cons_zero, List.getElem?_cons_succ]
  refine fin_one Try.results30 ⟨g3, q3, F, ?_, hF.base hR.sub, f1, f2, hR2.sub⟩
  simp -implicitDefEqProofs (disch := omega) only [List.any_cons, List.any_nil, Nat.reduceEqDiff, List.map_cons, List.map_nil, Option.map_some, Option.map_none, List.nil_append, ↓reduceIte, vcu, ↓vcd]

theorem drawTrafficAll_at (σ : AHeap) (h o : Nat) (bs : List Int) (hv : IntsAt .u8 σ h o bs) (hl : bs.length ≤ 1048576) (hb : ∀ b ∈ bs, 0 ≤ b ∧ b ≤ 255) :
    ACall Try.prog w0 32 [.slice (some ⟨h, o, none⟩) bs.length 1] σ fun r σ' => ∃ (g2 : Nat) (q : Nat → Nat) (rows : List (List Int)), r = .slice (some ⟨g2, 0, none⟩) rows.length 1 ∧ OwnT σ σ' g2 q rows ∧ rows.length ≤ 7 ∧ (∀ i, i < rows.length → (rows.getD i []).length ≤ 6) ∧ Sub σ σ' := by
  refine acall_go mixed Try.func32 rfl good32 fun pr => ?_
  simp -implicitDefEqProofs (disch := omega) only [List.any_cons, List.any_nil, Nat.reduceEqDiff, List.map_cons, List.map_nil, Option.map_some, Option.map_none, List.nil_append, ↓reduceIte, vcu, ↓vcd]
  refine (open_at σ h o bs hl).mono ?_
  rintro r τ ⟨g, m, hg, hm, hmb, rfl, hτ⟩
  have htl : (bs.take m).length = m := by simp; omega
  have hR : Rd σ τ g h o (bs.take m) 0 := ⟨by rw [hτ, htl]; exact AHeap.upd_same _ _ _, by rw [hτ]; exact sub_upd hg, hg, hv.take m, by rw [htl]; exact hm, fun b hb' => hb b (List.mem_of_mem_take hb')⟩
  clear hτ
  simp -implicitDefEqProofs (disch := omega) only [List.any_cons, List.any_nil, Nat.reduceEqDiff, List.map_cons, List.map_nil, Option.map_some, Option.map_none, List.nil_append, ↓reduceIte, vcu, ↓vcd, opK_some]
  refine (traffic_k σ τ g h o _ _ 9 hR (by omega) (by omega)).mono ?_
  rintro r τ1 ⟨g2, q, rows, p', rfl, hO, h7, h6, hK, -, -, hR2⟩
  simp -implicitDefEqProofs (disch := omega) only [List.any_cons, List.any_nil, Nat.reduceEqDiff, List.map_cons, List.map_nil, Option.map_some, Option.map_none, List.nil_append, ↓reduceIte, vcu, ↓vcd, opK_some]
  refine fin_one Try.results32 ⟨g2, q, rows, ?_, hO.base hR.sub, h7, h6, hR2.sub⟩
  simp -implicitDefEqProofs (disch := omega) only [List.any_cons, List.any_nil, Nat.reduceEqDiff, List.map_cons, List.map_nil, Option.map_some, Option.map_none, List.nil_append, ↓reduceIte, vcu, ↓vcd]

theorem drawFillUp_at (σ : AHeap) (h o : Nat) (bs : List Int) (hv : IntsAt .u8 σ h o bs) (hl : bs.length ≤ 1048576) (hb : ∀ b ∈ bs, 0 ≤ b ∧ b ≤ 255) :
    ACall Try.prog w0 35 [.slice (some ⟨h, o, none⟩) bs.length 1] σ fun r σ' => ∃ (g2 : Nat) (q : Nat → Nat) (rows : List (List Int)), r = .slice (some ⟨g2, 0, none⟩) rows.length 1 ∧ OwnT σ σ' g2 q rows ∧ rows.length ≤ 7 ∧ (∀ i, i < rows.length → (rows.getD i []).length ≤ 6) ∧ Sub σ σ' := by
  refine acall_go mixed Try.func35 rfl good35 fun pr => ?_
  simp -implicitDefEqProofs (disch := omega) only [List.any_cons, List.any_nil, Nat.reduceEqDiff, List.map_cons, List.map_nil, Option.map_some, Option.map_none, List.nil_append, ↓reduceIte, vcu, ↓vcd]
  refine (open_at σ h o bs hl).mono ?_
  rintro r τ ⟨g, m, hg, hm, hmb, rfl, hτ⟩
  have htl : (bs.take m).length = m := by simp; omega
  have hR : Rd σ τ g h o (bs.take m) 0 := ⟨by rw [hτ, htl]; exact AHeap.upd_same _ _ _, by rw [hτ]; exact sub_upd hg, hg, hv.take m, by rw [htl]; exact hm, fun b hb' => hb b (List.mem_of_mem_take hb')⟩
  clear hτ
  simp -implicitDefEqProofs (disch := omega) only [List.any_cons, List.any_nil, Nat.reduceEqDiff, List.map_cons, List.map_nil, Option.map_some, Option.map_none, List.nil_append, ↓reduceIte, vcu, ↓vcd, opK_some]
  refine (traffic_k σ τ g h o _ _ 9 hR (by omega) (by omega)).mono ?_
  rintro r τ1 ⟨g2, q, rows, p', rfl, hO, h7, h6, hK, -, -, hR2⟩
  simp -implicitDefEqProofs (disch := omega) only [List.any_cons, List.any_nil, Nat.reduceEqDiff, List.map_cons, List.map_nil, Option.map_some, Option.map_none, List.nil_append, ↓reduceIte, vcu, ↓vcd, opK_some]
  refine fin_one Try.results35 ⟨g2, q, rows, ?_, hO.base hR.sub, h7, h6, hR2.sub⟩
  simp -implicitDefEqProofs (disch := omega) only [List.any_cons, List.any_nil, Nat.reduceEqDiff, List.map_cons, List.map_nil, Option.map_some, Option.map_none, List.nil_append, ↓reduceIte, vcu, ↓vcd]

theorem drawFrameBest_at (σ : AHeap) (h o : Nat) (bs : List Int) (hv : IntsAt .u8 σ h o bs) (hl : bs.length ≤ 1048576) (hb : ∀ b ∈ bs, 0 ≤ b ∧ b ≤ 255) :
    ACall Try.prog w0 39 [.slice (some ⟨h, o, none⟩) bs.length 1] σ fun r σ' => ∃ (g2 : Nat) (q : Nat → Nat) (rows : List (List Int)), r = .slice (some ⟨g2, 0, none⟩) rows.length 1 ∧ OwnT σ σ' g2 q rows ∧ rows.length ≤ 7 ∧ (∀ i, i < rows.length → (rows.getD i []).length ≤ 6) ∧ Sub σ σ' := by
  refine acall_go mixed Try.func39 rfl good39 fun pr => ?_
  simp -implicitDefEqProofs (disch := omega) only [List.any_cons, List.any_nil, Nat.reduceEqDiff, List.map_cons, List.map_nil, Option.map_some, Option.map_none, List.nil_append, ↓reduceIte, vcu, ↓vcd]
  refine (open_at σ h o bs hl).mono ?_
  rintro r τ ⟨g, m, hg, hm, hmb, rfl, hτ⟩
  have htl : (bs.take m).length = m := by simp; omega
  have hR : Rd σ τ g h o (bs.take m) 0 := ⟨by rw [hτ, htl]; exact AHeap.upd_same _ _ _, by rw [hτ]; exact sub_upd hg, hg, hv.take m, by rw [htl]; exact hm, fun b hb' => hb b (List.mem_of_mem_take hb')⟩
  clear hτ
  simp -implicitDefEqProofs (disch := omega) only [List.any_cons, List.any_nil, Nat.reduceEqDiff, List.map_cons, List.map_nil, Option.map_some, Option.map_none, List.nil_append, ↓reduceIte, vcu, ↓vcd, opK_some]
  refine (traffic_k σ τ g h o _ _ 9 hR (by omega) (by omega)).mono ?_
  rintro r τ1 ⟨g2, q, rows, p', rfl, hO, h7, h6, hK, -, -, hR2⟩
  simp -implicitDefEqProofs (disch := omega) only [List.any_cons, List.any_nil, Nat.reduceEqDiff, List.map_cons, List.map_nil, Option.map_some, Option.map_none, List.nil_append, ↓reduceIte, vcu, ↓vcd, opK_some]
  refine fin_one Try.results39 ⟨g2, q, rows, ?_, hO.base hR.sub, h7, h6, hR2.sub⟩
  simp -implicitDefEqProofs (disch := omega) only [List.any_cons, List.any_nil, Nat.reduceEqDiff, List.map_cons, List.map_nil, Option.map_some, Option.map_none, List.nil_append, ↓reduceIte, vcu, ↓vcd]

theorem drawFrameGreedy_at (σ : AHeap) (h o : Nat) (bs : List Int) (hv : IntsAt .u8 σ h o bs) (hl : bs.length ≤ 1048576) (hb : ∀ b ∈ bs, 0 ≤ b ∧ b ≤ 255) :
    ACall Try.prog w0 42 [.slice (some ⟨h, o, none⟩) bs.length 1] σ fun r σ' => ∃ (g2 : Nat) (q : Nat → Nat) (rows : List (List Int)), r = .slice (some ⟨g2, 0, none⟩) rows.length 1 ∧ OwnT σ σ' g2 q rows ∧ rows.length ≤ 7 ∧ (∀ i, i < rows.length → (rows.getD i []).length ≤ 6) ∧ Sub σ σ' := by
  refine acall_go mixed Try.func42 rfl good42 fun pr => ?_
  simp -implicitDefEqProofs (disch := omega) only [List.any_cons, List.any_nil, Nat.reduceEqDiff, List.map_cons, List.map_nil, Option.map_some, Option.map_none, List.nil_append, ↓reduceIte, vcu, ↓vcd]
  refine (open_at σ h o bs hl).mono ?_
  rintro r τ ⟨g, m, hg, hm, hmb, rfl, hτ⟩
  have htl : (bs.take m).length = m := by simp; omega
  have hR : Rd σ τ g h o (bs.take m) 0 := ⟨by rw [hτ, htl]; exact AHeap.upd_same _ _ _, by rw [hτ]; exact sub_upd hg, hg, hv.take m, by rw [htl]; exact hm, fun b hb' => hb b (List.mem_of_mem_take hb')⟩
  clear hτ
  simp -implicitDefEqProofs (disch := omega) only [List.any_cons, List.any_nil, Nat.reduceEqDiff, List.map_cons, List.map_nil, Option.map_some, Option.map_none, List.nil_append, ↓reduceIte, vcu, ↓vcd, opK_some]
  refine (traffic_k σ τ g h o _ _ 9 hR (by omega) (by omega)).mono ?_
  rintro r τ1 ⟨g2, q, rows, p', rfl, hO, h7, h6, hK, -, -, hR2⟩
  simp -implicitDefEqProofs (disch := omega) only [List.any_cons, List.any_nil, Nat.reduceEqDiff, List.map_cons, List.map_nil, Option.map_some, Option.map_none, List.nil_append, ↓reduceIte, vcu, ↓vcd, opK_some]
  refine fin_one Try.results42 ⟨g2, q, rows, ?_, hO.base hR.sub, h7, h6, hR2.sub⟩
  simp -implicitDefEqProofs (disch := omega) only [List.any_cons, List.any_nil, Nat.reduceEqDiff, List.map_cons, List.map_nil, Option.map_some, Option.map_none, List.nil_append, ↓reduceIte, vcu, ↓vcd]

end Go.Proofs.Ytpcbgdgfdfpapaa