/- The program: the greedy frame. -/
import Derived.Test.YtpcbgdgfdfpapaaJf
set_option linter.unusedSimpArgs false
set_option linter.unusedVariables false
namespace Go.Proofs.Ytpcbgdgfdfpapaa
open Go Go.Abs Go.RowKit Go.Frames
variable {w0 : World}

/-- which outputs a slot has -/
def tak (n : Nat) (slot : List Int) : List Bool := (List.range n).map fun (i : Nat) => decide ((i : Int) ∈ slot)
theorem tak_length (n : Nat) (slot : List Int) : (tak n slot).length = n := by simp [tak]
theorem tak_getD {n j : Nat} (slot : List Int) (h : j < n) : (tak n slot).getD j false = decide ((j : Int) ∈ slot) := by simp [tak, List.getD, h]
theorem tak_nil (n : Nat) : tak n [] = List.replicate n false := by
  apply List.ext_getElem
  · simp [tak]
  · intro i h1 h2; simp [tak]
theorem tak_neg (n : Nat) (slot : List Int) {y : Int} (h : y < 0) : tak n (slot ++ [y]) = tak n slot := by
  unfold tak
  apply List.map_congr_left
  intro i _
  have : (i : Int) ≠ y := by omega
  simp [this]
theorem tak_set {n : Nat} (slot : List Int) {y : Int} (h0 : 0 ≤ y) (h : y < n) : (tak n slot).set y.toNat true = tak n (slot ++ [y]) := by
  apply List.ext_getElem?
  intro i
  rw [List.getElem?_set]
  by_cases hi : i < n
  · by_cases e : y.toNat = i
    · have : (i : Int) = y := by omega
      rw [if_pos e, if_pos (by rw [tak_length]; omega)]; simp [tak, hi, this]
    · have : (i : Int) ≠ y := by omega
      rw [if_neg e]; simp [tak, hi, this]
  · rw [if_neg (by omega), List.getElem?_eq_none (by simp [tak]; omega), List.getElem?_eq_none (by simp [tak]; omega)]
theorem firstJ_stay (L : List (List Int)) (k : Nat) (slot : List Int) {j : Nat} (h : 0 ≤ firstJ L k slot j) : ∀ d, firstJ L k slot (j + d) = firstJ L k slot j
  | 0 => rfl
  | d + 1 => by
    have ih := firstJ_stay L k slot h d
    have e : firstJ L k slot (j + (d + 1)) = if firstJ L k slot (j + d) < 0 ∧ 0 < en L k (j + d) ∧ ((j + d : Nat) : Int) ∉ slot then ((j + d : Nat) : Int) else firstJ L k slot (j + d) := rfl
    rw [e, if_neg (by omega), ih]
theorem firstFree_at (σ : AHeap) (h o g p : Nat) (row : List Int) (n : Nat) (L : List (List Int)) (k : Nat) (slot : List Int) (hv : IntsAt .i64 σ h o row) (hrl : row.length = n) (ht : Abs.BoolsAt σ g p (tak n slot)) (hrow : ∀ j, j < n → row.getD j 0 = en L k j) (hn : n ≤ 1000) :
    ACall Try.prog w0 69 [.slice (some ⟨h, o, none⟩) n 1, .slice (some ⟨g, p, none⟩) n 1] σ fun r σ' => r = .int .i64 (firstJ L k slot n) ∧ σ' = σ := by
  refine acall_go mixed Try.func69 rfl good69 fun pr => ?_
  simp -implicitDefEqProofs (disch := omega) only [List.any_cons, List.any_nil, Nat.reduceEqDiff, List.map_cons, List.map_nil, Option.map_some, Option.map_none, List.nil_append, ↓reduceIte, vcu, ↓vcd]
  refine vc_loop_c mixed (by kernel_rfl) [1, 7, 8] (fun m a σ' => ∃ j : Nat, m + j = n ∧ a 9 = .int .i64 j ∧ firstJ L k slot j = -1 ∧ σ' = σ) n ⟨0, by simp, rfl, rfl, rfl⟩ ?_
  rintro m a σ' hc ⟨j, hj, h9, hf, rfl⟩
  simp -implicitDefEqProofs (disch := omega) only [List.any_cons, List.any_nil, Nat.reduceEqDiff, List.map_cons, List.map_nil, Option.map_some, Option.map_none, List.nil_append, ↓reduceIte, vcu, ↓vcd] at hc
  obtain ⟨h1, h7, h8, -⟩ := hc
  by_cases hjn : j < n
  · have hx := hv j (by omega)
    rw [hrow j hjn] at hx
    have hb := ht j (by rw [tak_length]; exact hjn)
    rw [tak_getD _ hjn] at hb
    have hgo : firstJ L k slot (j + 1) = if firstJ L k slot j < 0 ∧ 0 < en L k j ∧ (j : Int) ∉ slot then (j : Int) else firstJ L k slot j := rfl
    by_cases f2 : 0 < en L k j
    · by_cases f3 : (j : Int) ∈ slot
      · rw [decide_eq_true f3] at hb
        rw [if_neg fun hh => hh.2.2 f3, hf] at hgo
        simp -implicitDefEqProofs (disch := omega) only [List.any_cons, List.any_nil, Nat.reduceEqDiff, List.map_cons, List.map_nil, Option.map_some, Option.map_none, List.nil_append, ↓reduceIte, vcu, ↓vcd, h1, h7, h8, h9, hx, hb, Bool.not_true]
        exact ⟨by simp [h1, h7, h8], m - 1, by omega, j + 1, by omega, by simp, hgo, trivial⟩
      · rw [decide_eq_false f3] at hb
        rw [if_pos ⟨by omega, f2, f3⟩] at hgo
        have hst := firstJ_stay L k slot (j := j + 1) (by omega) (n - (j + 1))
        rw [show j + 1 + (n - (j + 1)) = n by omega, hgo] at hst
        simp -implicitDefEqProofs (disch := omega) only [List.any_cons, List.any_nil, Nat.reduceEqDiff, List.map_cons, List.map_nil, Option.map_some, Option.map_none, List.nil_append, ↓reduceIte, vcu, ↓vcd, h1, h7, h8, h9, hx, hb, Bool.not_false]
        refine fin_one Try.results69 ⟨?_, rfl⟩
        simp -implicitDefEqProofs (disch := omega) only [List.any_cons, List.any_nil, Nat.reduceEqDiff, List.map_cons, List.map_nil, Option.map_some, Option.map_none, List.nil_append, ↓reduceIte, vcu, ↓vcd]
        rw [hst]
    · rw [if_neg fun hh => f2 hh.2.1, hf] at hgo
      simp -implicitDefEqProofs (disch := omega) only [List.any_cons, List.any_nil, Nat.reduceEqDiff, List.map_cons, List.map_nil, Option.map_some, Option.map_none, List.nil_append, ↓reduceIte, vcu, ↓vcd, h1, h7, h8, h9, hx]
      exact ⟨by simp [h1, h7, h8], m - 1, by omega, j + 1, by omega, by simp, hgo, trivial⟩
  · have e : j = n := by omega
    subst e
    simp -implicitDefEqProofs (disch := omega) only [List.any_cons, List.any_nil, Nat.reduceEqDiff, List.map_cons, List.map_nil, Option.map_some, Option.map_none, List.nil_append, ↓reduceIte, vcu, ↓vcd, h1, h7, h8, h9]
    refine fin_one Try.results69 ⟨?_, rfl⟩
    simp -implicitDefEqProofs (disch := omega) only [List.any_cons, List.any_nil, Nat.reduceEqDiff, List.map_cons, List.map_nil, Option.map_some, Option.map_none, List.nil_append, ↓reduceIte, vcu, ↓vcd]
    rw [hf]
theorem grF_row {T : List (List Int)} {k : Nat} : ∀ row ∈ grF T k, row.length = T.length := fun row h => by
  obtain ⟨i, _, rfl⟩ := List.mem_map.1 h
  exact grS_length _ _ _

set_option maxHeartbeats 1000000 in
theorem implGreedy_at (σ : AHeap) (h o : Nat) (T : List (List Int)) (hv : RowsAt σ h o T) (hl : T.length ≤ 1048576) :
    ACall Try.prog w0 43 [.slice (some ⟨h, o, none⟩) T.length 1] σ fun r σ' => Sub σ σ' ∧ ∃ O, OwnTV σ σ' r O ∧ GrOk T O := by
  refine acall_go mixed Try.func43 rfl good43 fun pr => ?_
  simp -implicitDefEqProofs (disch := omega) only [List.any_cons, List.any_nil, Nat.reduceEqDiff, List.map_cons, List.map_nil, Option.map_some, Option.map_none, List.nil_append, ↓reduceIte, vcu, ↓vcd]
  refine (implTV_at σ h o T hv hl).mono ?_
  rintro r _ ⟨rfl, rfl⟩
  rename_i σ
  by_cases hT : TV T
  case neg =>
    rw [decide_eq_false hT]
    simp -implicitDefEqProofs (disch := omega) only [List.any_cons, List.any_nil, Nat.reduceEqDiff, List.map_cons, List.map_nil, Option.map_some, Option.map_none, List.nil_append, ↓reduceIte, vcu, ↓vcd, opK_some, Bool.not_false]
    refine fin_one Try.results43 ⟨Sub.refl _, [], .inl ⟨?_, rfl⟩, .inl ⟨hT, rfl⟩⟩
    simp -implicitDefEqProofs (disch := omega) only [List.any_cons, List.any_nil, Nat.reduceEqDiff, List.map_cons, List.map_nil, Option.map_some, Option.map_none, List.nil_append, ↓reduceIte, vcu, ↓vcd]
  rw [decide_eq_true hT]
  have h6 := hT.1
  have hsqT := tv_sq hT
  have hN := allN_le hT _ (Nat.le_refl _)
  simp -implicitDefEqProofs (disch := omega) only [List.any_cons, List.any_nil, Nat.reduceEqDiff, List.map_cons, List.map_nil, Option.map_some, Option.map_none, List.nil_append, ↓reduceIte, vcu, ↓vcd, opK_some, Bool.not_true]
  refine (copyN_at σ h o T T.length hv hsqT h6).mono ?_
  rintro r τ1 ⟨s1, gL, qL, rfl, hL1⟩
  simp -implicitDefEqProofs (disch := omega) only [List.any_cons, List.any_nil, Nat.reduceEqDiff, List.map_cons, List.map_nil, Option.map_some, Option.map_none, List.nil_append, ↓reduceIte, vcu, ↓vcd, opK_some]
  refine r_makeB (kx := .i64) (ky := .i64) (l := T.length) (c := T.length) el49 (by omega) (by simp -implicitDefEqProofs (disch := omega) only [List.any_cons, List.any_nil, Nat.reduceEqDiff, List.map_cons, List.map_nil, Option.map_some, Option.map_none, List.nil_append, ↓reduceIte, vcu, ↓vcd]) (by simp -implicitDefEqProofs (disch := omega) only [List.any_cons, List.any_nil, Nat.reduceEqDiff, List.map_cons, List.map_nil, Option.map_some, Option.map_none, List.nil_append, ↓reduceIte, vcu, ↓vcd]) (by omega) fun gT τ2 nT s2 vT => ?_
  simp -implicitDefEqProofs (disch := omega) only [List.any_cons, List.any_nil, Nat.reduceEqDiff, List.map_cons, List.map_nil, Option.map_some, Option.map_none, List.nil_append, ↓reduceIte, vcu, ↓vcd]
  refine (implAll_at τ2 h o T ((hv.sub s1).sub s2) hl).mono ?_
  rintro r _ ⟨rfl, rfl⟩
  rename_i τ2
  unfold allV2
  rw [if_pos hT]
  have hs2 := s1.trans s2
  have fL : ∀ i, i < T.length → ∃ ob, τ2 (qL i) = some ob := fun i hi => ⟨_, s2 _ _ (hL1.row i hi)⟩
  have nL : ∀ i, i < T.length → gT ≠ qL i := fun i hi => ne_of nT (hL1.row i hi)
  have nG : gT ≠ gL := ne_of nT hL1.at_
  have hm0 : (((allN T T.length).toNat : Nat) : Int) = allN (grL T 0) T.length := by show _ = allN T T.length; omega
  simp -implicitDefEqProofs (disch := omega) only [List.any_cons, List.any_nil, Nat.reduceEqDiff, List.map_cons, List.map_nil, Option.map_some, Option.map_none, List.nil_append, ↓reduceIte, vcu, ↓vcd, opK_some]
  refine vc_loop_c mixed (by kernel_rfl) [0, 3, 4] (fun m a σ' => ∃ (s : Nat) (bs : List Bool), (m : Int) = allN (grL T s) T.length ∧ m + s ≤ 216 ∧ a 6 = .int .i64 (allN (grL T s) T.length) ∧ Sub σ σ' ∧ (∀ k, (∃ ob, τ2 k = some ob) → ∃ ob, σ' k = some ob) ∧ OwnT σ σ' gL qL (grL T s) ∧ σ' gT = some ⟨Abs.bools bs, false⟩ ∧ bs.length = T.length ∧ LI (fun k => ∃ ob, τ2 k = some ob) σ' (a 5) (grF T s).flatten ∧ ∀ s', s' < s → 0 < allN (grL T s') T.length) (allN T T.length).toNat
    ⟨0, _, hm0, by omega, rfl, hs2, fun k hk => hk, hL1.sub s2, vT, by simp, .inl ⟨rfl, rfl⟩, fun s' hs' => absurd hs' (by omega)⟩ ?_
  clear hm0
  rintro m a σ1 hc ⟨s, bs, hm, hms, h6', hs0, hF0, hL, vb, hbs, hI, hpos⟩
  simp -implicitDefEqProofs (disch := omega) only [List.any_cons, List.any_nil, Nat.reduceEqDiff, List.map_cons, List.map_nil, Option.map_some, Option.map_none, List.nil_append, ↓reduceIte, vcu, ↓vcd] at hc
  obtain ⟨h0, h3, h4, -⟩ := hc
  have hfl := flat_len (grF T s) grF_row
  rw [grF_length] at hfl
  have hsn : s * T.length ≤ 216 * 6 := Nat.mul_le_mul (by omega) h6
  by_cases hlt : 0 < allN (grL T s) T.length
  case neg =>
    have hnn := gr_nonneg hT s
    have hch := chunk_flat T.length (grF T s) grF_row
    rw [grF_length] at hch
    have hOI : OwnI σ σ1 (a 5) (grF T s).flatten := hI.imp id fun ⟨g, e, hg, hn⟩ => ⟨g, e, hg, by
      cases e2 : σ g with
      | none => rfl
      | some ob => exact absurd ⟨ob, s2 _ _ (s1 _ _ e2)⟩ hn⟩
    have hn0 : 0 < T.length ∨ s = 0 := by
      rcases Nat.eq_zero_or_pos s with e | e
      · exact .inr e
      · refine .inl ?_
        rcases Nat.eq_zero_or_pos T.length with e2 | e2
        · have := hpos 0 e
          rw [e2] at this
          simp [allN] at this
        · exact e2
    have hM := most_le hT _ (Nat.le_refl _)
    have hle := (gr_len hT (k := s) (by omega) hpos).2
    have hs7 : s ≤ 71 := by
      rcases Nat.eq_zero_or_pos s with e | e
      · omega
      · have := hle e; omega
    have hsn2 : s * T.length ≤ 71 * 6 := Nat.mul_le_mul hs7 h6
    simp -implicitDefEqProofs (disch := omega) only [List.any_cons, List.any_nil, Nat.reduceEqDiff, List.map_cons, List.map_nil, Option.map_some, Option.map_none, List.nil_append, ↓reduceIte, vcu, ↓vcd, h0, h3, h4, h6']
    refine (cut_calls σ σ1 hs0 (a 5) s T.length _ hOI hfl hn0 (by omega)).mono ?_
    rintro r σ2 ⟨q1, q2⟩
    rw [hch] at q2
    simp -implicitDefEqProofs (disch := omega) only [List.any_cons, List.any_nil, Nat.reduceEqDiff, List.map_cons, List.map_nil, Option.map_some, Option.map_none, List.nil_append, ↓reduceIte, vcu, ↓vcd, opK_some]
    refine fin_one Try.results43 ⟨q1, grF T s, ?_, .inr ⟨hT, s, rfl, by omega, hpos⟩⟩
    simp -implicitDefEqProofs (disch := omega) only [List.any_cons, List.any_nil, Nat.reduceEqDiff, List.map_cons, List.map_nil, Option.map_some, Option.map_none, List.nil_append, ↓reduceIte, vcu, ↓vcd]
    exact q2
  have hposS : ∀ s', s' < s + 1 → 0 < allN (grL T s') T.length := fun s' hs' => by
    by_cases e : s' = s
    · rw [e]; exact hlt
    · exact hpos s' (by omega)
  clear hpos
  have hst := gr_step hT s
  have hls := gr_less hT hlt
  have hnn := gr_nonneg hT (s + 1)
  have hS1 : grL T (s + 1) = slotL T.length (grL T s) (grS T.length (grL T s) T.length) T.length := rfl
  have hF1 : (grF T (s + 1)).flatten = (grF T s).flatten ++ grS T.length (grL T s) T.length := by rw [grF_succ, List.flatten_append]; simp
  have hent := fun a b => grL_le (a := a) (b := b) hT s
  have hLsq := grL_sq (tv_sq hT) s
  generalize allN (grL T s) T.length = A at *
  generalize hA1 : allN (grL T (s + 1)) T.length = A1 at *
  generalize hLL : grL T s = L at *
  generalize (grF T s).flatten = O at *
  have hsb := sendsR_01 (grS T.length L T.length)
  simp -implicitDefEqProofs (disch := omega) only [List.any_cons, List.any_nil, Nat.reduceEqDiff, List.map_cons, List.map_nil, Option.map_some, Option.map_none, List.nil_append, ↓reduceIte, vcu, ↓vcd, h0, h3, h4, h6']
  have hall : (azeros (.bool false) (T.length * 1)).all Value.oneCell' = true := by rw [Nat.mul_one, azeros_bools]; exact Abs.bools_one _
  have hn1 : 0 < T.length := by
    rcases Nat.eq_zero_or_pos T.length with e | e
    · have := hsb T.length
      rw [e] at this hls
      simp only [sendsR] at hls
      omega
    · exact e
  have hstc : sts σ1 gT 0 (azeros (.bool false) (T.length * 1)) = some (σ1.upd gT (some ⟨Abs.bools (List.replicate T.length false), false⟩)) := by
    rw [Nat.mul_one, azeros_bools]
    unfold sts
    rw [vb]
    simp only [Option.bind_some]
    rw [if_pos ⟨trivial, by rw [Abs.bools_length, Abs.bools_length, List.length_replicate]; omega, by rw [Abs.bools_length, List.length_replicate]; omega⟩]
    congr 2
    unfold lwrite
    rw [Nat.zero_add, List.take_zero, List.nil_append, List.drop_eq_nil_of_le (by rw [Abs.bools_length, Abs.bools_length, List.length_replicate]; omega), List.append_nil]
  refine r_clear_at (e := 4) (i := Try.t4) (z := .bool false) (h := gT) (b := 0) (len := T.length) Try.underlying49 rfl rfl (by simp -implicitDefEqProofs (disch := omega) only [List.any_cons, List.any_nil, Nat.reduceEqDiff, List.map_cons, List.map_nil, Option.map_some, Option.map_none, List.nil_append, ↓reduceIte, vcu, ↓vcd]; rfl) (.inr ⟨hall, hstc⟩) ?_
  have kT : Kept gT σ1 (σ1.upd gT (some ⟨Abs.bools (List.replicate T.length false), false⟩)) := Kept.put _ _ _
  have hvT : (σ1.upd gT (some ⟨Abs.bools (List.replicate T.length false), false⟩)) gT = some ⟨Abs.bools (tak T.length (grS T.length L 0)), false⟩ := by
    rw [AHeap.upd_same]
    show (_ : Option AObj) = some ⟨Abs.bools (tak T.length []), false⟩
    rw [tak_nil]
  generalize σ1.upd gT (some ⟨Abs.bools (List.replicate T.length false), false⟩) = σ2 at *
  have hs2' := kT.sub hs0 (free_sub s1 nT)
  have hL2 : OwnT σ σ2 gL qL (slotL T.length L (grS T.length L T.length) 0) := hL.keptx kT nG.symm fun i hi => (nL i (by rw [← hLsq.1]; exact hi)).symm
  have hF2 : ∀ k, (∃ ob, τ2 k = some ob) → ∃ ob, σ2 k = some ob := fun k hk => by
    by_cases e : k = gT
    · subst e; exact ⟨_, hvT⟩
    · obtain ⟨ob, e2⟩ := hF0 k hk; exact ⟨ob, kT.at e2 e⟩
  have hI2 : LI (fun k => ∃ ob, τ2 k = some ob) σ2 (a 5) (O ++ grS T.length L 0) := by
    have : O ++ grS T.length L 0 = O := by simp [grS]
    rw [this]; exact hI.kept kT ⟨_, vT⟩
  clear hI hF0 hL hs0 vb kT hstc hall
  simp -implicitDefEqProofs (disch := omega) only [List.any_cons, List.any_nil, Nat.reduceEqDiff, List.map_cons, List.map_nil, Option.map_some, Option.map_none, List.nil_append, ↓reduceIte, vcu, ↓vcd, h0, h3, h4, h6']
  refine vc_loop_c mixed (by kernel_rfl) [0, 3, 4, 23, 24] (fun m a σ' => ∃ k : Nat, m + k = T.length ∧ a 25 = .int .i64 k ∧ a 6 = .int .i64 (A - sendsR (grS T.length L T.length) k) ∧ Sub σ σ' ∧ (∀ k, (∃ ob, τ2 k = some ob) → ∃ ob, σ' k = some ob) ∧ OwnT σ σ' gL qL (slotL T.length L (grS T.length L T.length) k) ∧ σ' gT = some ⟨Abs.bools (tak T.length (grS T.length L k)), false⟩ ∧ LI (fun k => ∃ ob, τ2 k = some ob) σ' (a 5) (O ++ grS T.length L k)) T.length
    ⟨0, by simp, by simp -implicitDefEqProofs (disch := omega) only [List.any_cons, List.any_nil, Nat.reduceEqDiff, List.map_cons, List.map_nil, Option.map_some, Option.map_none, List.nil_append, ↓reduceIte, vcu, ↓vcd]; rfl, by simp -implicitDefEqProofs (disch := omega) only [List.any_cons, List.any_nil, Nat.reduceEqDiff, List.map_cons, List.map_nil, Option.map_some, Option.map_none, List.nil_append, ↓reduceIte, vcu, ↓vcd, h6']; simp [sendsR], hs2', hF2, hL2, hvT, by simp -implicitDefEqProofs (disch := omega) only [List.any_cons, List.any_nil, Nat.reduceEqDiff, List.map_cons, List.map_nil, Option.map_some, Option.map_none, List.nil_append, ↓reduceIte, vcu, ↓vcd]; exact hI2⟩ ?_
  clear hI2 hF2 hL2 hs2' hvT
  rintro m2 a2 σ3 hc2 ⟨k, hk, h25, c6, hs3, hF3, hL, vB, hI⟩
  simp -implicitDefEqProofs (disch := omega) only [List.any_cons, List.any_nil, Nat.reduceEqDiff, List.map_cons, List.map_nil, Option.map_some, Option.map_none, List.nil_append, ↓reduceIte, vcu, ↓vcd, h0, h3, h4] at hc2
  obtain ⟨d0, d3, d4, d23, d24, -⟩ := hc2
  have hLk := slotL_sq hLsq (grS T.length L T.length) k (by omega)
  have hgl := grS_length T.length L k
  by_cases hkn : k < T.length
  case neg =>
    have e : k = T.length := by omega
    subst e
    rw [← hF1] at hI
    simp -implicitDefEqProofs (disch := omega) only [List.any_cons, List.any_nil, Nat.reduceEqDiff, List.map_cons, List.map_nil, Option.map_some, Option.map_none, List.nil_append, ↓reduceIte, vcu, ↓vcd, d0, d3, d4, d23, d24, h25, c6]
    refine ⟨by simp [d0, d3, d4, h0, h3, h4], A1.toNat, by omega, s + 1, _, by omega, by omega, by rw [hA1, hst], hs3, hF3, by rw [hS1]; exact hL, vB, tak_length _ _, hI, hposS⟩
  have hgk := hL.get (i := k) (by rw [hLk.1]; exact hkn)
  have hrk := hL.row k (by rw [hLk.1]; exact hkn)
  have hrl := hLk.2 k hkn
  rw [hrl] at hgk
  have hekj : ∀ j, j < T.length → en (slotL T.length L (grS T.length L T.length) k) k j = en L k j := fun j hj => by rw [en_slotL hLsq _ k (by omega) k j hj, if_neg (by omega)]; omega
  simp -implicitDefEqProofs (disch := omega) only [List.any_cons, List.any_nil, Nat.reduceEqDiff, List.map_cons, List.map_nil, Option.map_some, Option.map_none, List.nil_append, ↓reduceIte, vcu, ↓vcd, d0, d3, d4, d23, d24, h25, c6, hgk]
  refine (firstFree_at σ3 (qL k) 0 gT 0 ((slotL T.length L (grS T.length L T.length) k).getD k []) T.length L k (grS T.length L k) (intsAt_own hrk) hrl (Abs.boolsAt_own vB) hekj (by omega)).mono ?_
  rintro r _ ⟨rfl, rfl⟩
  rename_i σ3
  have hfj := firstJ_le L k (grS T.length L k) T.length
  have hSk := grS_getD T.length L T.length hkn
  have hgs : grS T.length L (k + 1) = grS T.length L k ++ [firstJ L k (grS T.length L k) T.length] := rfl
  have hRk : sendsR (grS T.length L T.length) (k + 1) = sendsR (grS T.length L T.length) k + if 0 ≤ (grS T.length L T.length).getD k 0 then 1 else 0 := rfl
  have hLk1 : slotL T.length L (grS T.length L T.length) (k + 1) = if 0 ≤ (grS T.length L T.length).getD k 0 ∧ (grS T.length L T.length).getD k 0 ≤ (T.length : Int) - 1 then less1 (slotL T.length L (grS T.length L T.length) k) k ((grS T.length L T.length).getD k 0).toNat else slotL T.length L (grS T.length L T.length) k := rfl
  have hsbk := hsb k
  have hent2 : ∀ b, b < T.length → 0 ≤ en L k b ∧ en L k b ≤ 6 := fun b hb => hent k b hkn hb
  rw [hSk] at hRk hLk1
  generalize firstJ L k (grS T.length L k) T.length = y at *
  have hset := tak_set (n := T.length) (grS T.length L k) (y := y)
  have hneg := tak_neg T.length (grS T.length L k) (y := y)
  rw [← hgs] at hset hneg
  have fin : ∀ (τ6 τ7 τ8 : AHeap) (v' : Value), Sub σ τ6 → (∀ k, (∃ ob, τ2 k = some ob) → ∃ ob, τ6 k = some ob) → OwnT σ τ6 gL qL (slotL T.length L (grS T.length L T.length) (k + 1)) → τ6 gT = some ⟨Abs.bools (tak T.length (grS T.length L (k + 1))), false⟩ → Sub τ6 τ7 →
      LI (fun k => ∃ ob, τ2 k = some ob) τ8 v' (O ++ grS T.length L k ++ [y]) → (∀ k ob, (∃ ob, τ2 k = some ob) → τ7 k = some ob → τ8 k = some ob) →
      Sub σ τ8 ∧ (∀ k, (∃ ob, τ2 k = some ob) → ∃ ob, τ8 k = some ob) ∧ OwnT σ τ8 gL qL (slotL T.length L (grS T.length L T.length) (k + 1)) ∧ τ8 gT = some ⟨Abs.bools (tak T.length (grS T.length L (k + 1))), false⟩ ∧ LI (fun k => ∃ ob, τ2 k = some ob) τ8 v' (O ++ grS T.length L (k + 1)) := by
    intro τ6 τ7 τ8 v' s6 F6 L6 T6 s7 I8 K8
    refine ⟨fun k ob e => K8 k ob ⟨ob, s2 _ _ (s1 _ _ e)⟩ (s7 _ _ (s6 _ _ e)), fun k hk => ?_, ?_, K8 _ _ ⟨_, vT⟩ (s7 _ _ T6), by rw [hgs, ← List.append_assoc]; exact I8⟩
    · obtain ⟨ob, e⟩ := F6 k hk
      exact ⟨ob, K8 k ob hk (s7 _ _ e)⟩
    · refine L6.keepF (n := T.length) (slotL_sq hLsq _ _ (by omega)).1 fun k ob hk e => K8 k ob ?_ (s7 _ _ e)
      rcases hk with rfl | ⟨i, hi, rfl⟩
      · exact ⟨_, s2 _ _ hL1.at_⟩
      · exact fL i hi
  by_cases hy : 0 ≤ y
  · rw [if_pos hy] at hRk
    rw [if_pos ⟨hy, by omega⟩] at hLk1
    have hE := hekj y.toNat (by omega)
    have hb := hent2 y.toNat (by omega)
    have hld : ld σ3 (qL k) (0 + y.toNat) = some (.int .i64 (en L k y.toNat)) := by rw [own_at hrk (by rw [hrl]; omega), ← hE]; rfl
    unfold less1 at hLk1
    rw [hE] at hLk1
    simp -implicitDefEqProofs (disch := omega) only [List.any_cons, List.any_nil, Nat.reduceEqDiff, List.map_cons, List.map_nil, Option.map_some, Option.map_none, List.nil_append, ↓reduceIte, vcu, ↓vcd, opK_some, d0, d3, d4, d23, d24, h25, c6, hld]
    refine r_setI (g := qL k) (i := 0 + y.toNat) (v := en L k y.toNat - 1) (by simp -implicitDefEqProofs (disch := omega) only [List.any_cons, List.any_nil, Nat.reduceEqDiff, List.map_cons, List.map_nil, Option.map_some, Option.map_none, List.nil_append, ↓reduceIte, vcu, ↓vcd]) (by simp -implicitDefEqProofs (disch := omega) only [List.any_cons, List.any_nil, Nat.reduceEqDiff, List.map_cons, List.map_nil, Option.map_some, Option.map_none, List.nil_append, ↓reduceIte, vcu, ↓vcd]) co3 hrk (by omega) fun τ5 k5 e5 => ?_
    rw [Nat.zero_add] at e5
    have L5 := hL.write (by rw [hLk.1]; exact hkn) (by simp) k5 e5
    rw [← hLk1] at L5
    have I5 := hI.kept k5 (fL k hkn)
    have v5 := k5.at vB (nL k hkn)
    have s5 := k5.sub hs3 (hL1.free k hkn)
    have F5 : ∀ k, (∃ ob, τ2 k = some ob) → ∃ ob, τ5 k = some ob := fun x hx => by
      by_cases e : x = qL k
      · subst e; exact ⟨_, e5⟩
      · obtain ⟨ob, e2⟩ := hF3 x hx; exact ⟨ob, k5.at e2 e⟩
    clear hL hI hF3 hs3 k5 hgk hld
    simp -implicitDefEqProofs (disch := omega) only [List.any_cons, List.any_nil, Nat.reduceEqDiff, List.map_cons, List.map_nil, Option.map_some, Option.map_none, List.nil_append, ↓reduceIte, vcu, ↓vcd, d0, d3, d4, d23, d24, h25, c6]
    refine r_setB (g := gT) (i := 0 + y.toNat) (v := true) (by simp -implicitDefEqProofs (disch := omega) only [List.any_cons, List.any_nil, Nat.reduceEqDiff, List.map_cons, List.map_nil, Option.map_some, Option.map_none, List.nil_append, ↓reduceIte, vcu, ↓vcd]) (by simp -implicitDefEqProofs (disch := omega) only [List.any_cons, List.any_nil, Nat.reduceEqDiff, List.map_cons, List.map_nil, Option.map_some, Option.map_none, List.nil_append, ↓reduceIte, vcu, ↓vcd]) co4 v5 (by rw [tak_length]; omega) fun τ6 k6 e6 => ?_
    rw [Nat.zero_add, hset hy hfj.2] at e6
    have L6 := L5.keptx k6 nG.symm fun i hi => (nL i (by rw [← (slotL_sq hLsq (grS T.length L T.length) (k + 1) (by omega)).1]; exact hi)).symm
    have I6 := I5.kept k6 (show ∃ ob, τ2 gT = some ob from ⟨_, vT⟩)
    have s6 := k6.sub s5 (free_sub s1 nT)
    have F6 : ∀ k, (∃ ob, τ2 k = some ob) → ∃ ob, τ6 k = some ob := fun x hx => by
      by_cases e : x = gT
      · subst e; exact ⟨_, e6⟩
      · obtain ⟨ob, e2⟩ := F5 x hx; exact ⟨ob, k6.at e2 e⟩
    simp -implicitDefEqProofs (disch := omega) only [List.any_cons, List.any_nil, Nat.reduceEqDiff, List.map_cons, List.map_nil, Option.map_some, Option.map_none, List.nil_append, ↓reduceIte, vcu, ↓vcd, d0, d3, d4, d23, d24, h25, c6]
    refine r_lit el30 (out := #[.int .i64 y]) (by simp -implicitDefEqProofs (disch := omega) only [List.any_cons, List.any_nil, Nat.reduceEqDiff, List.map_cons, List.map_nil, Option.map_some, Option.map_none, List.nil_append, ↓reduceIte, vcu, ↓vcd]; kernel_rfl) (by kernel_rfl) fun e7 τ7 n7 s7 v7 => ?_
    refine r_pushF (F := fun k => ∃ ob, τ2 k = some ob) (e := e7) (o := 0) (m := 1) (cs := O ++ grS T.length L k) (ds := [y]) el30 (by omega) sl30 (by simp -implicitDefEqProofs (disch := omega) only [List.any_cons, List.any_nil, Nat.reduceEqDiff, List.map_cons, List.map_nil, Option.map_some, Option.map_none, List.nil_append, ↓reduceIte, vcu, ↓vcd]) (I6.sub s7) (fun k hk => let ⟨ob, e⟩ := F6 k hk; ⟨ob, s7 _ _ e⟩) (by simp -implicitDefEqProofs (disch := omega) only [List.any_cons, List.any_nil, Nat.reduceEqDiff, List.map_cons, List.map_nil, Option.map_some, Option.map_none, List.nil_append, ↓reduceIte, vcu, ↓vcd]) (intsAt_own v7) rfl (by rw [List.length_append, hgl]; omega) fun v' τ8 I8 K8 => ?_
    obtain ⟨w1, w2, w3, w4, w5⟩ := fin τ6 τ7 τ8 v' s6 F6 L6 e6 s7 I8 K8
    simp -implicitDefEqProofs (disch := omega) only [List.any_cons, List.any_nil, Nat.reduceEqDiff, List.map_cons, List.map_nil, Option.map_some, Option.map_none, List.nil_append, ↓reduceIte, vcu, ↓vcd, d0, d3, d4, d23, d24, h25, c6]
    exact ⟨by simp [d0, d3, d4, d23, d24, h0, h3, h4], m2 - 1, by omega, k + 1, by omega, by simp, by rw [hRk]; congr 1; omega, w1, w2, w3, w4, w5⟩
  · rw [if_neg hy] at hRk
    rw [if_neg fun hh => hy hh.1] at hLk1
    rw [← hLk1] at hL
    rw [← hneg (by omega)] at vB
    simp -implicitDefEqProofs (disch := omega) only [List.any_cons, List.any_nil, Nat.reduceEqDiff, List.map_cons, List.map_nil, Option.map_some, Option.map_none, List.nil_append, ↓reduceIte, vcu, ↓vcd, opK_some, d0, d3, d4, d23, d24, h25, c6]
    refine r_lit el30 (out := #[.int .i64 y]) (by simp -implicitDefEqProofs (disch := omega) only [List.any_cons, List.any_nil, Nat.reduceEqDiff, List.map_cons, List.map_nil, Option.map_some, Option.map_none, List.nil_append, ↓reduceIte, vcu, ↓vcd]; kernel_rfl) (by kernel_rfl) fun e7 τ7 n7 s7 v7 => ?_
    refine r_pushF (F := fun k => ∃ ob, τ2 k = some ob) (e := e7) (o := 0) (m := 1) (cs := O ++ grS T.length L k) (ds := [y]) el30 (by omega) sl30 (by simp -implicitDefEqProofs (disch := omega) only [List.any_cons, List.any_nil, Nat.reduceEqDiff, List.map_cons, List.map_nil, Option.map_some, Option.map_none, List.nil_append, ↓reduceIte, vcu, ↓vcd]) (hI.sub s7) (fun k hk => let ⟨ob, e⟩ := hF3 k hk; ⟨ob, s7 _ _ e⟩) (by simp -implicitDefEqProofs (disch := omega) only [List.any_cons, List.any_nil, Nat.reduceEqDiff, List.map_cons, List.map_nil, Option.map_some, Option.map_none, List.nil_append, ↓reduceIte, vcu, ↓vcd]) (intsAt_own v7) rfl (by rw [List.length_append, hgl]; omega) fun v' τ8 I8 K8 => ?_
    obtain ⟨w1, w2, w3, w4, w5⟩ := fin σ3 τ7 τ8 v' hs3 hF3 hL vB s7 I8 K8
    simp -implicitDefEqProofs (disch := omega) only [List.any_cons, List.any_nil, Nat.reduceEqDiff, List.map_cons, List.map_nil, Option.map_some, Option.map_none, List.nil_append, ↓reduceIte, vcu, ↓vcd, d0, d3, d4, d23, d24, h25, c6]
    exact ⟨by simp [d0, d3, d4, d23, d24, h0, h3, h4], m2 - 1, by omega, k + 1, by omega, by simp, by rw [hRk]; congr 1; omega, w1, w2, w3, w4, w5⟩
end Go.Proofs.Ytpcbgdgfdfpapaa
