/- The program: what is left; whether a frame is valid. -/
import Derived.Test.YtpcbgdgfdfpapaaJa
set_option linter.unusedSimpArgs false
set_option linter.unusedVariables false
namespace Go.Proofs.Ytpcbgdgfdfpapaa
open Go Go.Abs Go.RowKit Go.Frames
variable {w0 : World}

theorem implLeft_at (σ : AHeap) (h o g0 p0 : Nat) (T F : List (List Int)) (hv : RowsAt σ h o T) (hl : T.length ≤ 1048576) (hf : RowsAt σ g0 p0 F) (hfl : F.length ≤ 1048576) (hfr : ∀ i, i < F.length → (F.getD i []).length ≤ 1048576) :
    ACall Try.prog w0 21 [.slice (some ⟨h, o, none⟩) T.length 1, .slice (some ⟨g0, p0, none⟩) F.length 1] σ fun r σ' => Sub σ σ' ∧ OwnTV σ σ' r (leftV T F) := by
  refine acall_go mixed Try.func21 rfl good21 fun pr => ?_
  simp -implicitDefEqProofs (disch := omega) only [List.any_cons, List.any_nil, Nat.reduceEqDiff, List.map_cons, List.map_nil, Option.map_some, Option.map_none, List.nil_append, ↓reduceIte, vcu, ↓vcd]
  refine (implTV_at σ h o T hv hl).mono ?_
  rintro r _ ⟨rfl, rfl⟩
  rename_i σ
  by_cases hT : TV T
  case neg =>
    rw [decide_eq_false hT]
    simp -implicitDefEqProofs (disch := omega) only [List.any_cons, List.any_nil, Nat.reduceEqDiff, List.map_cons, List.map_nil, Option.map_some, Option.map_none, List.nil_append, ↓reduceIte, vcu, ↓vcd, opK_some, Bool.not_false]
    refine fin_one Try.results21 ⟨Sub.refl _, .inl ⟨?_, leftV_not hT F⟩⟩
    simp -implicitDefEqProofs (disch := omega) only [List.any_cons, List.any_nil, Nat.reduceEqDiff, List.map_cons, List.map_nil, Option.map_some, Option.map_none, List.nil_append, ↓reduceIte, vcu, ↓vcd]
  rw [decide_eq_true hT]
  have h6 := hT.1
  have hsqT := tv_sq hT
  simp -implicitDefEqProofs (disch := omega) only [List.any_cons, List.any_nil, Nat.reduceEqDiff, List.map_cons, List.map_nil, Option.map_some, Option.map_none, List.nil_append, ↓reduceIte, vcu, ↓vcd, opK_some, Bool.not_true]
  refine (copyN_at σ h o T T.length hv hsqT h6).mono ?_
  rintro r τ ⟨hs, gL, qL, rfl, hL⟩
  rw [leftV_tv hT]
  have hL0 : OwnT σ τ gL qL (frameL T F 0) := hL
  clear hL
  simp -implicitDefEqProofs (disch := omega) only [List.any_cons, List.any_nil, Nat.reduceEqDiff, List.map_cons, List.map_nil, Option.map_some, Option.map_none, List.nil_append, ↓reduceIte, vcu, ↓vcd, opK_some]
  refine vc_loop_c mixed (by kernel_rfl) [5, 15, 16] (fun m a σ' => ∃ s : Nat, m + s = F.length ∧ a 17 = .int .i64 s ∧ Sub σ σ' ∧ OwnT σ σ' gL qL (frameL T F s)) F.length ⟨0, by simp, rfl, hs, hL0⟩ ?_
  clear hL0 hs
  rintro m a σ2 hc ⟨s, hsm, h17, hs, hL⟩
  simp -implicitDefEqProofs (disch := omega) only [List.any_cons, List.any_nil, Nat.reduceEqDiff, List.map_cons, List.map_nil, Option.map_some, Option.map_none, List.nil_append, ↓reduceIte, vcu, ↓vcd] at hc
  obtain ⟨h5, h15, h16, -⟩ := hc
  have hsqs := frameL_sq hsqT F s
  by_cases hlt : s < F.length
  · obtain ⟨v, hx0, hi⟩ := hf s hlt
    have hx := ld_sub hs hx0
    have hrk := hfr s hlt
    have hgo : frameL T F (s + 1) = slotL T.length (frameL T F s) (F.getD s []) (min (F.getD s []).length T.length) := rfl
    have hbd := fun k a b => slot_bound (T := T) (F := F) (m := s) (k := k) (a := a) (b := b) (by omega)
    rw [leftB_tv hT] at hbd
    generalize hrow : F.getD s [] = row at hi hrk hgo hbd
    have hmin : min (row.length : Int) (T.length : Int) = ((min row.length T.length : Nat) : Int) := by omega
    rcases hi with ⟨rfl, rfl⟩ | ⟨rg, ro, rfl, hg⟩
    · have hm0 : min (0 : Int) (T.length : Int) = 0 := by omega
      simp -implicitDefEqProofs (disch := omega) only [List.any_cons, List.any_nil, Nat.reduceEqDiff, List.map_cons, List.map_nil, Option.map_some, Option.map_none, List.nil_append, ↓reduceIte, vcu, ↓vcd, h5, h15, h16, h17, hx, hm0]
      refine vc_loop_c mixed (by kernel_rfl) [5, 15, 16, 17] (fun m3 a3 σ3 => a3 28 = .int .i64 0 ∧ a3 29 = .int .i64 0 ∧ σ3 = σ2) 0 ⟨by simp -implicitDefEqProofs (disch := omega) only [List.any_cons, List.any_nil, Nat.reduceEqDiff, List.map_cons, List.map_nil, Option.map_some, Option.map_none, List.nil_append, ↓reduceIte, vcu, ↓vcd]; rfl, rfl, rfl⟩ ?_
      rintro m3 a3 σ3 hc3 ⟨h28, h29, rfl⟩
      simp -implicitDefEqProofs (disch := omega) only [List.any_cons, List.any_nil, Nat.reduceEqDiff, List.map_cons, List.map_nil, Option.map_some, Option.map_none, List.nil_append, ↓reduceIte, vcu, ↓vcd, h5, h15, h16, h17] at hc3
      obtain ⟨d5, d15, d16, d17, -⟩ := hc3
      simp -implicitDefEqProofs (disch := omega) only [List.any_cons, List.any_nil, Nat.reduceEqDiff, List.map_cons, List.map_nil, Option.map_some, Option.map_none, List.nil_append, ↓reduceIte, vcu, ↓vcd, d5, d15, d16, d17, h28, h29]
      refine ⟨by simp [d5, d15, d16, h5, h15, h16], m - 1, by omega, s + 1, by omega, by simp, hs, by rw [hgo]; exact hL⟩
    simp -implicitDefEqProofs (disch := omega) only [List.any_cons, List.any_nil, Nat.reduceEqDiff, List.map_cons, List.map_nil, Option.map_some, Option.map_none, List.nil_append, ↓reduceIte, vcu, ↓vcd, h5, h15, h16, h17, hx, hmin, Int.toNat_natCast]
    refine vc_loop_c mixed (by kernel_rfl) [5, 15, 16, 17, 27, 28] (fun m3 a3 σ3 => ∃ j : Nat, m3 + j = min row.length T.length ∧ a3 29 = .int .i64 j ∧ Sub σ σ3 ∧ OwnT σ σ3 gL qL (slotL T.length (frameL T F s) row j)) (min row.length T.length) ⟨0, by simp, rfl, hs, hL⟩ ?_
    clear hL hs hx
    rintro m3 a3 σ3 hc3 ⟨j, hj, h29, hs, hL⟩
    simp -implicitDefEqProofs (disch := omega) only [List.any_cons, List.any_nil, Nat.reduceEqDiff, List.map_cons, List.map_nil, Option.map_some, Option.map_none, List.nil_append, ↓reduceIte, vcu, ↓vcd, h5, h15, h16, h17] at hc3
    obtain ⟨d5, d15, d16, d17, d27, d28, -⟩ := hc3
    have hsqj := slotL_sq hsqs row j (by omega)
    by_cases hjl : j < min row.length T.length
    · have hy := (hg.sub hs) j (by omega)
      have hst : slotL T.length (frameL T F s) row (j + 1) = if 0 ≤ row.getD j 0 ∧ row.getD j 0 ≤ (T.length : Int) - 1 then less1 (slotL T.length (frameL T F s) row j) j (row.getD j 0).toNat else slotL T.length (frameL T F s) row j := rfl
      have hgj := hL.get (i := j) (by rw [hsqj.1]; omega)
      have hrj := hL.row j (by rw [hsqj.1]; omega)
      have hrl := hsqj.2 j (by omega)
      rw [hrl] at hgj
      by_cases h0 : 0 ≤ row.getD j 0
      · by_cases h1 : row.getD j 0 < (T.length : Int)
        · rw [if_pos ⟨h0, by omega⟩] at hst
          have hb2 := hbd j j (row.getD j 0).toNat (by omega) (by omega) (by omega)
          have hld : ld σ3 (qL j) (0 + (row.getD j 0).toNat) = some (.int .i64 (en (slotL T.length (frameL T F s) row j) j (row.getD j 0).toNat)) := by
            rw [own_at hrj (by rw [hrl]; omega)]; rfl
          have hpl : (row.getD j 0).toNat < T.length := by omega
          unfold less1 at hst
          generalize hE : en (slotL T.length (frameL T F s) row j) j (row.getD j 0).toNat = E at hb2 hld hst
          simp -implicitDefEqProofs (disch := omega) only [List.any_cons, List.any_nil, Nat.reduceEqDiff, List.map_cons, List.map_nil, Option.map_some, Option.map_none, List.nil_append, ↓reduceIte, vcu, ↓vcd, d5, d15, d16, d17, d27, d28, h29, hy, hgj, hld, hrl]
          refine r_setI (g := qL j) (i := 0 + (row.getD j 0).toNat) (v := E - 1) (by simp -implicitDefEqProofs (disch := omega) only [List.any_cons, List.any_nil, Nat.reduceEqDiff, List.map_cons, List.map_nil, Option.map_some, Option.map_none, List.nil_append, ↓reduceIte, vcu, ↓vcd]) (by simp -implicitDefEqProofs (disch := omega) only [List.any_cons, List.any_nil, Nat.reduceEqDiff, List.map_cons, List.map_nil, Option.map_some, Option.map_none, List.nil_append, ↓reduceIte, vcu, ↓vcd]) co3 hrj (by omega) fun τ4 k4 e4 => ?_
          rw [Nat.zero_add] at e4
          have q1 := hL.write (by rw [hsqj.1]; omega) (by simp) k4 e4
          rw [← hst] at q1
          simp -implicitDefEqProofs (disch := omega) only [List.any_cons, List.any_nil, Nat.reduceEqDiff, List.map_cons, List.map_nil, Option.map_some, Option.map_none, List.nil_append, ↓reduceIte, vcu, ↓vcd, d5, d15, d16, d17, d27, d28, h29]
          refine ⟨by simp [d5, d15, d16, d17, d27, d28, h5, h15, h16, h17], m3 - 1, by omega, j + 1, by omega, by simp, k4.sub hs (hL.free j (by rw [hsqj.1]; omega)), q1⟩
        · rw [if_neg fun hh => h1 (by omega)] at hst
          simp -implicitDefEqProofs (disch := omega) only [List.any_cons, List.any_nil, Nat.reduceEqDiff, List.map_cons, List.map_nil, Option.map_some, Option.map_none, List.nil_append, ↓reduceIte, vcu, ↓vcd, d5, d15, d16, d17, d27, d28, h29, hy]
          refine ⟨by simp [d5, d15, d16, d17, d27, d28, h5, h15, h16, h17], m3 - 1, by omega, j + 1, by omega, by simp, hs, by rw [hst]; exact hL⟩
      · rw [if_neg fun hh => h0 hh.1] at hst
        simp -implicitDefEqProofs (disch := omega) only [List.any_cons, List.any_nil, Nat.reduceEqDiff, List.map_cons, List.map_nil, Option.map_some, Option.map_none, List.nil_append, ↓reduceIte, vcu, ↓vcd, d5, d15, d16, d17, d27, d28, h29, hy]
        refine ⟨by simp [d5, d15, d16, d17, d27, d28, h5, h15, h16, h17], m3 - 1, by omega, j + 1, by omega, by simp, hs, by rw [hst]; exact hL⟩
    · have e : j = min row.length T.length := by omega
      simp -implicitDefEqProofs (disch := omega) only [List.any_cons, List.any_nil, Nat.reduceEqDiff, List.map_cons, List.map_nil, Option.map_some, Option.map_none, List.nil_append, ↓reduceIte, vcu, ↓vcd, d5, d15, d16, d17, d27, d28, h29]
      refine ⟨by simp [d5, d15, d16, h5, h15, h16], m - 1, by omega, s + 1, by omega, by simp, hs, by rw [hgo, ← e]; exact hL⟩
  · have e : s = F.length := by omega
    subst e
    simp -implicitDefEqProofs (disch := omega) only [List.any_cons, List.any_nil, Nat.reduceEqDiff, List.map_cons, List.map_nil, Option.map_some, Option.map_none, List.nil_append, ↓reduceIte, vcu, ↓vcd, h5, h15, h16, h17]
    refine fin_one Try.results21 ⟨hs, .inr ⟨gL, qL, ?_, hL⟩⟩
    simp -implicitDefEqProofs (disch := omega) only [List.any_cons, List.any_nil, Nat.reduceEqDiff, List.map_cons, List.map_nil, Option.map_some, Option.map_none, List.nil_append, ↓reduceIte, vcu, ↓vcd, h5]
    rw [hsqs.1]

/-- the same, never nil -/
theorem implLeftN_at (σ : AHeap) (h o g0 p0 : Nat) (T F : List (List Int)) (hv : RowsAt σ h o T) (hl : T.length ≤ 1048576) (hf : RowsAt σ g0 p0 F) (hfl : F.length ≤ 1048576) (hfr : ∀ i, i < F.length → (F.getD i []).length ≤ 1048576) :
    ACall Try.prog w0 21 [.slice (some ⟨h, o, none⟩) T.length 1, .slice (some ⟨g0, p0, none⟩) F.length 1] σ fun r σ' => Sub σ σ' ∧ ∃ g q, r = .slice (some ⟨g, 0, none⟩) (leftV T F).length 1 ∧ OwnT σ σ' g q (leftV T F) := by
  refine (implLeft_at σ h o g0 p0 T F hv hl hf hfl hfr).named1 (z := 1) ?_
  rintro r σ' ⟨hs, ⟨rfl, e⟩ | ⟨g, q, rfl, hO⟩⟩
  · refine .inr ⟨rfl, fun g hg => ⟨hs.trans (sub_upd hg), g, fun _ => 0, by rw [e]; rfl, by rw [e]; exact OwnT.nil _ (AHeap.upd_same _ _ _) (free_sub hs hg)⟩⟩
  · exact .inl ⟨hs, g, q, rfl, hO⟩

theorem seenB_neg (xs : List Int) {x : Int} (h : x < 0) : seenB (xs ++ [x]) = seenB xs := by
  unfold seenB
  apply List.map_congr_left
  intro i _
  have : (i : Int) ≠ x := by omega
  simp [this]

theorem implSlot_at (σ : AHeap) (h o : Nat) (xs : List Int) (n : Nat) (hv : IntsAt .i64 σ h o xs) (hl : xs.length ≤ 1048576) (hn6 : n ≤ 6) :
    ACall Try.prog w0 53 [.slice (some ⟨h, o, none⟩) xs.length 1, .int .i64 n] σ fun r σ' => r = .bool (decide (SlotOk n xs)) ∧ σ' = σ := by
  refine acall_go mixed Try.func53 rfl good53 fun pr => ?_
  by_cases hlen : xs.length = n
  case neg =>
    simp -implicitDefEqProofs (disch := omega) only [List.any_cons, List.any_nil, Nat.reduceEqDiff, List.map_cons, List.map_nil, Option.map_some, Option.map_none, List.nil_append, ↓reduceIte, vcu, ↓vcd]
    refine fin_one Try.results53 ⟨?_, rfl⟩
    simp -implicitDefEqProofs (disch := omega) only [List.any_cons, List.any_nil, Nat.reduceEqDiff, List.map_cons, List.map_nil, Option.map_some, Option.map_none, List.nil_append, ↓reduceIte, vcu, ↓vcd]
    rw [decide_eq_false (fun hS : SlotOk n xs => hlen hS.1)]
  simp -implicitDefEqProofs (disch := omega) only [List.any_cons, List.any_nil, Nat.reduceEqDiff, List.map_cons, List.map_nil, Option.map_some, Option.map_none, List.nil_append, ↓reduceIte, vcu, ↓vcd]
  refine r_alloc_at ze57 fun g hg => ?_
  simp -implicitDefEqProofs (disch := omega) only [List.any_cons, List.any_nil, Nat.reduceEqDiff, List.map_cons, List.map_nil, Option.map_some, Option.map_none, List.nil_append, ↓reduceIte, vcu, ↓vcd]
  refine vc_loop_c mixed (by kernel_rfl) [1, 5, 12, 13] (fun m a σ' => ∃ k : Nat, m + k = xs.length ∧ a 14 = .int .i64 k ∧ σ' = σ.upd g (some ⟨seenB (xs.take k), false⟩) ∧ ∀ j, j < k → (-1 ≤ xs.getD j 0 ∧ xs.getD j 0 ≤ (n : Int) - 1) ∧ (0 ≤ xs.getD j 0 → xs.getD j 0 ∉ xs.take j)) xs.length ⟨0, by simp, rfl, rfl, by simp⟩ ?_
  rintro m a σ' hc ⟨k, hk, h14, rfl, hp⟩
  simp -implicitDefEqProofs (disch := omega) only [List.any_cons, List.any_nil, Nat.reduceEqDiff, List.map_cons, List.map_nil, Option.map_some, Option.map_none, List.nil_append, ↓reduceIte, vcu, ↓vcd] at hc
  obtain ⟨h1, h5, h12, h13, -⟩ := hc
  by_cases hlt : k < xs.length
  · have hx := (hv.sub (sub_upd (o := some ⟨seenB (xs.take k), false⟩) hg)) k hlt
    have bad : ¬ ((-1 ≤ xs.getD k 0 ∧ xs.getD k 0 ≤ (n : Int) - 1) ∧ (0 ≤ xs.getD k 0 → xs.getD k 0 ∉ xs.take k)) → decide (SlotOk n xs) = false := fun hh => decide_eq_false fun hS : SlotOk n xs => hh (hS.2 k (by omega))
    have good : ((-1 ≤ xs.getD k 0 ∧ xs.getD k 0 ≤ (n : Int) - 1) ∧ (0 ≤ xs.getD k 0 → xs.getD k 0 ∉ xs.take k)) → ∀ j, j < k + 1 → (-1 ≤ xs.getD j 0 ∧ xs.getD j 0 ≤ (n : Int) - 1) ∧ (0 ≤ xs.getD j 0 → xs.getD j 0 ∉ xs.take j) := fun hh j hj => by
      by_cases e : j = k
      · subst e; exact hh
      · exact hp j (by omega)
    have htk : xs.take (k + 1) = xs.take k ++ [xs.getD k 0] := by rw [List.take_succ_eq_append_getElem hlt]; simp [List.getD, hlt]
    generalize hxx : xs.getD k 0 = x at hx bad good htk
    by_cases hm1 : x = -1
    · subst hm1
      simp -implicitDefEqProofs (disch := omega) only [List.any_cons, List.any_nil, Nat.reduceEqDiff, List.map_cons, List.map_nil, Option.map_some, Option.map_none, List.nil_append, ↓reduceIte, vcu, ↓vcd, h1, h5, h12, h13, h14, hx]
      refine ⟨by simp [h1, h5, h12, h13], m - 1, by omega, k + 1, by omega, by simp, by rw [htk, seenB_neg _ (by omega)], good ⟨by omega, fun h0 => by omega⟩⟩
    by_cases hneg : x < 0
    · simp -implicitDefEqProofs (disch := omega) only [List.any_cons, List.any_nil, Nat.reduceEqDiff, List.map_cons, List.map_nil, Option.map_some, Option.map_none, List.nil_append, ↓reduceIte, vcu, ↓vcd, h1, h5, h12, h13, h14, hx]
      refine fin_drop Try.results53 σ (sub_upd hg) ⟨?_, rfl⟩
      simp -implicitDefEqProofs (disch := omega) only [List.any_cons, List.any_nil, Nat.reduceEqDiff, List.map_cons, List.map_nil, Option.map_some, Option.map_none, List.nil_append, ↓reduceIte, vcu, ↓vcd]
      rw [bad (by omega)]
    by_cases hbig : (n : Int) ≤ x
    · simp -implicitDefEqProofs (disch := omega) only [List.any_cons, List.any_nil, Nat.reduceEqDiff, List.map_cons, List.map_nil, Option.map_some, Option.map_none, List.nil_append, ↓reduceIte, vcu, ↓vcd, h1, h5, h12, h13, h14, hx]
      refine fin_drop Try.results53 σ (sub_upd hg) ⟨?_, rfl⟩
      simp -implicitDefEqProofs (disch := omega) only [List.any_cons, List.any_nil, Nat.reduceEqDiff, List.map_cons, List.map_nil, Option.map_some, Option.map_none, List.nil_append, ↓reduceIte, vcu, ↓vcd]
      rw [bad (by omega)]
    have hs : ld (σ.upd g (some ⟨seenB (xs.take k), false⟩)) g (0 + x.toNat) = some (.bool (decide (x ∈ xs.take k))) := by
      rw [ld_upd_same]
      dsimp only
      rw [Nat.zero_add, seenB_get _ (by omega)]
      have : ((x.toNat : Nat) : Int) = x := by omega
      rw [this]
    by_cases hm : x ∈ xs.take k
    · rw [decide_eq_true hm] at hs
      simp -implicitDefEqProofs (disch := omega) only [List.any_cons, List.any_nil, Nat.reduceEqDiff, List.map_cons, List.map_nil, Option.map_some, Option.map_none, List.nil_append, ↓reduceIte, vcu, ↓vcd, h1, h5, h12, h13, h14, hx, hs]
      refine fin_drop Try.results53 σ (sub_upd hg) ⟨?_, rfl⟩
      simp -implicitDefEqProofs (disch := omega) only [List.any_cons, List.any_nil, Nat.reduceEqDiff, List.map_cons, List.map_nil, Option.map_some, Option.map_none, List.nil_append, ↓reduceIte, vcu, ↓vcd]
      rw [bad fun hh => hh.2 (by omega) hm]
    · rw [decide_eq_false hm] at hs
      simp -implicitDefEqProofs (disch := omega) only [List.any_cons, List.any_nil, Nat.reduceEqDiff, List.map_cons, List.map_nil, Option.map_some, Option.map_none, List.nil_append, ↓reduceIte, vcu, ↓vcd, h1, h5, h12, h13, h14, hx, hs]
      have hst := sts_one (σ := σ.upd g (some ⟨seenB (xs.take k), false⟩)) (h := g) (cs := seenB (xs.take k)) (i := 0 + x.toNat) (v := .bool true) (AHeap.upd_same _ _ _) (by rw [seenB_length]; omega)
      refine r_store_at (h := g) (i := 0 + x.toNat) (by simp -implicitDefEqProofs (disch := omega) only [List.any_cons, List.any_nil, Nat.reduceEqDiff, List.map_cons, List.map_nil, Option.map_some, Option.map_none, List.nil_append, ↓reduceIte, vcu, ↓vcd, h5]) (by rfl) (by rfl) hst ?_
      rw [Nat.zero_add, seenB_set _ (by omega) (by omega), AHeap.upd_upd, ← htk]
      simp -implicitDefEqProofs (disch := omega) only [List.any_cons, List.any_nil, Nat.reduceEqDiff, List.map_cons, List.map_nil, Option.map_some, Option.map_none, List.nil_append, ↓reduceIte, vcu, ↓vcd, h1, h5, h12, h13, h14]
      refine ⟨by simp [h1, h5, h12, h13], m - 1, by omega, k + 1, by omega, by simp, rfl, good ⟨by omega, fun _ => hm⟩⟩
  · simp -implicitDefEqProofs (disch := omega) only [List.any_cons, List.any_nil, Nat.reduceEqDiff, List.map_cons, List.map_nil, Option.map_some, Option.map_none, List.nil_append, ↓reduceIte, vcu, ↓vcd, h1, h5, h12, h13, h14]
    refine fin_drop Try.results53 σ (sub_upd hg) ⟨?_, rfl⟩
    simp -implicitDefEqProofs (disch := omega) only [List.any_cons, List.any_nil, Nat.reduceEqDiff, List.map_cons, List.map_nil, Option.map_some, Option.map_none, List.nil_append, ↓reduceIte, vcu, ↓vcd]
    rw [decide_eq_true (show SlotOk n xs from ⟨hlen, fun j hj => hp j (by omega)⟩)]
theorem implSlot_calls (σ : AHeap) (v : Value) (xs : List Int) (n : Nat) (hv : Ints .i64 σ v xs) (hl : xs.length ≤ 1048576) (hn6 : n ≤ 6) :
    ACall Try.prog w0 53 [v, .int .i64 n] σ fun r σ' => r = .bool (decide (SlotOk n xs)) ∧ σ' = σ :=
  ACall.ints_quiet (pre := []) (post := [_]) (by kernel_rfl) hv fun σ1 g o _ hg => implSlot_at σ1 g o xs n hg hl hn6

theorem neg_one (xs : List Int) : xs.getD 0 0 < 0 ↔ ∃ j, j < 1 ∧ xs.getD j 0 < 0 := by
  constructor
  · exact fun hh => ⟨0, by omega, hh⟩
  · rintro ⟨j, hj, hh⟩
    have e : j = 0 := by omega
    rwa [e] at hh
theorem minI_at (σ : AHeap) (h o : Nat) (xs : List Int) (n : Nat) (hv : IntsAt .i64 σ h o xs) (hn : xs.length = n) (h0 : 0 < n) (hl : n ≤ 1048576) :
    ACall Try.prog w0 54 [.slice (some ⟨h, o, none⟩) n 1] σ fun r σ' => ∃ z, r = .int .i64 z ∧ (z < 0 ↔ ∃ j, j < n ∧ xs.getD j 0 < 0) ∧ σ' = σ := by
  have hx0 := hv 0 (by omega)
  refine acall_go mixed Try.func54 rfl good54 fun pr => ?_
  simp -implicitDefEqProofs (disch := omega) only [List.any_cons, List.any_nil, Nat.reduceEqDiff, List.map_cons, List.map_nil, Option.map_some, Option.map_none, List.nil_append, ↓reduceIte, vcu, ↓vcd, Int.toNat_zero, hx0]
  refine vc_loop_c mixed (by kernel_rfl) [0] (fun m a σ' => ∃ (k : Nat) (z : Int), m + k = n ∧ 1 ≤ k ∧ a 3 = .int .i64 z ∧ a 4 = .int .i64 k ∧ (z < 0 ↔ ∃ j, j < k ∧ xs.getD j 0 < 0) ∧ σ' = σ) (n - 1) ⟨1, xs.getD 0 0, by omega, by omega, by simp -implicitDefEqProofs (disch := omega) only [List.any_cons, List.any_nil, Nat.reduceEqDiff, List.map_cons, List.map_nil, Option.map_some, Option.map_none, List.nil_append, ↓reduceIte, vcu, ↓vcd], by simp -implicitDefEqProofs (disch := omega) only [List.any_cons, List.any_nil, Nat.reduceEqDiff, List.map_cons, List.map_nil, Option.map_some, Option.map_none, List.nil_append, ↓reduceIte, vcu, ↓vcd]; rfl, neg_one xs, rfl⟩ ?_
  rintro m a σ' hc ⟨k, z, hk, hk1, h3, h4, hz, rfl⟩
  simp -implicitDefEqProofs (disch := omega) only [List.any_cons, List.any_nil, Nat.reduceEqDiff, List.map_cons, List.map_nil, Option.map_some, Option.map_none, List.nil_append, ↓reduceIte, vcu, ↓vcd] at hc
  obtain ⟨h0', -⟩ := hc
  by_cases hlt : k < n
  · have hx := hv k (by omega)
    simp -implicitDefEqProofs (disch := omega) only [List.any_cons, List.any_nil, Nat.reduceEqDiff, List.map_cons, List.map_nil, Option.map_some, Option.map_none, List.nil_append, ↓reduceIte, vcu, ↓vcd, h0', h3, h4, hx]
    refine ⟨by simp [h0'], m - 1, by omega, k + 1, _, by omega, by omega, rfl, by simp, ?_, trivial⟩
    constructor
    · intro hh
      by_cases hm : z < 0
      · obtain ⟨j, hj, hj2⟩ := hz.1 hm
        exact ⟨j, by omega, hj2⟩
      · exact ⟨k, by omega, by omega⟩
    · rintro ⟨j, hj, hj2⟩
      by_cases e : j = k
      · subst e; omega
      · have := hz.2 ⟨j, by omega, hj2⟩
        omega
  · have e : k = n := by omega
    subst e
    simp -implicitDefEqProofs (disch := omega) only [List.any_cons, List.any_nil, Nat.reduceEqDiff, List.map_cons, List.map_nil, Option.map_some, Option.map_none, List.nil_append, ↓reduceIte, vcu, ↓vcd, h0', h3, h4]
    refine fin_one Try.results54 ⟨z, ?_, hz, rfl⟩
    simp -implicitDefEqProofs (disch := omega) only [List.any_cons, List.any_nil, Nat.reduceEqDiff, List.map_cons, List.map_nil, Option.map_some, Option.map_none, List.nil_append, ↓reduceIte, vcu, ↓vcd, h3]

theorem implFrOk_at (σ : AHeap) (h o g0 p0 : Nat) (T F : List (List Int)) (hv : RowsAt σ h o T) (hl : T.length ≤ 1048576) (hf : RowsAt σ g0 p0 F) (hfl : F.length ≤ 1048576) (hfr : ∀ i, i < F.length → (F.getD i []).length ≤ 1048576) :
    ACall Try.prog w0 18 [.slice (some ⟨h, o, none⟩) T.length 1, .slice (some ⟨g0, p0, none⟩) F.length 1] σ fun r σ' => r = .bool (decide (FrOk T F)) ∧ Sub σ σ' := by
  refine acall_go mixed Try.func18 rfl good18 fun pr => ?_
  simp -implicitDefEqProofs (disch := omega) only [List.any_cons, List.any_nil, Nat.reduceEqDiff, List.map_cons, List.map_nil, Option.map_some, Option.map_none, List.nil_append, ↓reduceIte, vcu, ↓vcd]
  refine (implTV_at σ h o T hv hl).mono ?_
  rintro r _ ⟨rfl, rfl⟩
  rename_i σ
  by_cases hT : TV T
  case neg =>
    rw [decide_eq_false hT]
    simp -implicitDefEqProofs (disch := omega) only [List.any_cons, List.any_nil, Nat.reduceEqDiff, List.map_cons, List.map_nil, Option.map_some, Option.map_none, List.nil_append, ↓reduceIte, vcu, ↓vcd, opK_some, Bool.not_false]
    refine fin_one Try.results18 ⟨?_, Sub.refl _⟩
    simp -implicitDefEqProofs (disch := omega) only [List.any_cons, List.any_nil, Nat.reduceEqDiff, List.map_cons, List.map_nil, Option.map_some, Option.map_none, List.nil_append, ↓reduceIte, vcu, ↓vcd]
    rw [decide_eq_false (fun hh : FrOk T F => hT hh.1)]
  rw [decide_eq_true hT]
  have h6 := hT.1
  by_cases h36 : 36 < F.length
  · simp -implicitDefEqProofs (disch := omega) only [List.any_cons, List.any_nil, Nat.reduceEqDiff, List.map_cons, List.map_nil, Option.map_some, Option.map_none, List.nil_append, ↓reduceIte, vcu, ↓vcd, opK_some, Bool.not_true]
    refine fin_one Try.results18 ⟨?_, Sub.refl _⟩
    simp -implicitDefEqProofs (disch := omega) only [List.any_cons, List.any_nil, Nat.reduceEqDiff, List.map_cons, List.map_nil, Option.map_some, Option.map_none, List.nil_append, ↓reduceIte, vcu, ↓vcd]
    rw [decide_eq_false (fun hh : FrOk T F => by have := hh.2.1; omega)]
  simp -implicitDefEqProofs (disch := omega) only [List.any_cons, List.any_nil, Nat.reduceEqDiff, List.map_cons, List.map_nil, Option.map_some, Option.map_none, List.nil_append, ↓reduceIte, vcu, ↓vcd, opK_some, Bool.not_true]
  refine vc_loop_c mixed (by kernel_rfl) [0, 1, 17, 18] (fun m a σ' => ∃ s : Nat, m + s = F.length ∧ a 19 = .int .i64 s ∧ σ' = σ ∧ ∀ i, i < s → SlotOk T.length (F.getD i [])) F.length ⟨0, by simp, rfl, rfl, fun i hi => absurd hi (by omega)⟩ ?_
  rintro m a σ' hc ⟨s, hs, h19, rfl, hok⟩
  simp -implicitDefEqProofs (disch := omega) only [List.any_cons, List.any_nil, Nat.reduceEqDiff, List.map_cons, List.map_nil, Option.map_some, Option.map_none, List.nil_append, ↓reduceIte, vcu, ↓vcd] at hc
  obtain ⟨h0, h1, h17, h18, -⟩ := hc
  by_cases hlt : s < F.length
  · obtain ⟨v, hx, hi⟩ := hf s hlt
    have hrk := hfr s hlt
    simp -implicitDefEqProofs (disch := omega) only [List.any_cons, List.any_nil, Nat.reduceEqDiff, List.map_cons, List.map_nil, Option.map_some, Option.map_none, List.nil_append, ↓reduceIte, vcu, ↓vcd, h0, h1, h17, h18, h19, hx]
    refine (implSlot_calls σ' v _ T.length hi hrk h6).mono ?_
    rintro r _ ⟨rfl, rfl⟩
    rename_i σ'
    by_cases hS : SlotOk T.length (F.getD s [])
    · rw [decide_eq_true hS]
      simp -implicitDefEqProofs (disch := omega) only [List.any_cons, List.any_nil, Nat.reduceEqDiff, List.map_cons, List.map_nil, Option.map_some, Option.map_none, List.nil_append, ↓reduceIte, vcu, ↓vcd, opK_some, Bool.not_true, h0, h1, h17, h18, h19]
      refine ⟨by simp [h0, h1, h17, h18], m - 1, by omega, s + 1, by omega, by simp, trivial, fun i hi => ?_⟩
      by_cases e : i = s
      · subst e; exact hS
      · exact hok i (by omega)
    · rw [decide_eq_false hS]
      simp -implicitDefEqProofs (disch := omega) only [List.any_cons, List.any_nil, Nat.reduceEqDiff, List.map_cons, List.map_nil, Option.map_some, Option.map_none, List.nil_append, ↓reduceIte, vcu, ↓vcd, opK_some, Bool.not_false]
      refine fin_one Try.results18 ⟨?_, Sub.refl _⟩
      simp -implicitDefEqProofs (disch := omega) only [List.any_cons, List.any_nil, Nat.reduceEqDiff, List.map_cons, List.map_nil, Option.map_some, Option.map_none, List.nil_append, ↓reduceIte, vcu, ↓vcd]
      rw [decide_eq_false (fun hh : FrOk T F => hS (hh.2.2.1 s hlt))]
  have e : s = F.length := by omega
  subst e
  have hL2 := leftV_tv hT F
  have hsqL := frameL_sq (tv_sq hT) F F.length
  have hiff : FrOk T F ↔ NonNeg (frameL T F F.length) := ⟨fun hh => hh.2.2.2, fun hh => ⟨hT, by omega, hok, hh⟩⟩
  simp -implicitDefEqProofs (disch := omega) only [List.any_cons, List.any_nil, Nat.reduceEqDiff, List.map_cons, List.map_nil, Option.map_some, Option.map_none, List.nil_append, ↓reduceIte, vcu, ↓vcd, h0, h1, h17, h18, h19]
  refine (implLeftN_at σ' h o g0 p0 T F hv hl hf hfl hfr).mono ?_
  rintro r τ ⟨s1, g, q, rfl, hL⟩
  rw [hL2] at hL ⊢
  have hll := hsqL.1
  rw [hll]
  generalize frameL T F F.length = L at hL hsqL hiff hll
  clear hL2 hok
  simp -implicitDefEqProofs (disch := omega) only [List.any_cons, List.any_nil, Nat.reduceEqDiff, List.map_cons, List.map_nil, Option.map_some, Option.map_none, List.nil_append, ↓reduceIte, vcu, ↓vcd, opK_some]
  refine vc_loop_c mixed (by kernel_rfl) [31, 32] (fun m a τ' => ∃ k : Nat, m + k = T.length ∧ a 33 = .int .i64 k ∧ τ' = τ ∧ ∀ i, i < k → ∀ j, j < T.length → 0 ≤ en L i j) T.length ⟨0, by simp, rfl, rfl, fun i hi => absurd hi (by omega)⟩ ?_
  rintro m a2 τ' hc2 ⟨k, hk, h33, rfl, hnn⟩
  simp -implicitDefEqProofs (disch := omega) only [List.any_cons, List.any_nil, Nat.reduceEqDiff, List.map_cons, List.map_nil, Option.map_some, Option.map_none, List.nil_append, ↓reduceIte, vcu, ↓vcd] at hc2
  obtain ⟨h31, h32, -⟩ := hc2
  by_cases hkl : k < T.length
  · have hgk := hL.get (i := k) (by omega)
    have hrk := hL.row k (by omega)
    have hrl := hsqL.2 k hkl
    rw [hrl] at hgk
    simp -implicitDefEqProofs (disch := omega) only [List.any_cons, List.any_nil, Nat.reduceEqDiff, List.map_cons, List.map_nil, Option.map_some, Option.map_none, List.nil_append, ↓reduceIte, vcu, ↓vcd, h31, h32, h33, hgk]
    refine (minI_at τ' (q k) 0 (L.getD k []) T.length (intsAt_own hrk) hrl (by omega) (by omega)).mono ?_
    rintro r _ ⟨z, rfl, hz, rfl⟩
    rename_i τ'
    by_cases hneg : z < 0
    · obtain ⟨j, hj, hj2⟩ := hz.1 hneg
      have hn : ¬ FrOk T F := fun hh => by
        have := hiff.1 hh k (by omega) j (by rw [hrl]; exact hj)
        unfold en at this
        omega
      simp -implicitDefEqProofs (disch := omega) only [List.any_cons, List.any_nil, Nat.reduceEqDiff, List.map_cons, List.map_nil, Option.map_some, Option.map_none, List.nil_append, ↓reduceIte, vcu, ↓vcd, opK_some]
      refine fin_one Try.results18 ⟨?_, s1⟩
      simp -implicitDefEqProofs (disch := omega) only [List.any_cons, List.any_nil, Nat.reduceEqDiff, List.map_cons, List.map_nil, Option.map_some, Option.map_none, List.nil_append, ↓reduceIte, vcu, ↓vcd]
      rw [decide_eq_false hn]
    · simp -implicitDefEqProofs (disch := omega) only [List.any_cons, List.any_nil, Nat.reduceEqDiff, List.map_cons, List.map_nil, Option.map_some, Option.map_none, List.nil_append, ↓reduceIte, vcu, ↓vcd, opK_some, h31, h32, h33]
      refine ⟨by simp [h31, h32], m - 1, by omega, k + 1, by omega, by simp, trivial, fun i hi' j hj => ?_⟩
      by_cases e : i = k
      · subst e
        by_cases hh : en L i j < 0
        · exact absurd (hz.2 ⟨j, hj, hh⟩) hneg
        · omega
      · exact hnn i (by omega) j hj
  · have hF : FrOk T F := hiff.2 fun i hi j hj => hnn i (by omega) j (by rw [hsqL.2 i (by omega)] at hj; exact hj)
    simp -implicitDefEqProofs (disch := omega) only [List.any_cons, List.any_nil, Nat.reduceEqDiff, List.map_cons, List.map_nil, Option.map_some, Option.map_none, List.nil_append, ↓reduceIte, vcu, ↓vcd, h31, h32, h33]
    refine fin_one Try.results18 ⟨?_, s1⟩
    simp -implicitDefEqProofs (disch := omega) only [List.any_cons, List.any_nil, Nat.reduceEqDiff, List.map_cons, List.map_nil, Option.map_some, Option.map_none, List.nil_append, ↓reduceIte, vcu, ↓vcd]
    rw [decide_eq_true hF]
end Go.Proofs.Ytpcbgdgfdfpapaa
