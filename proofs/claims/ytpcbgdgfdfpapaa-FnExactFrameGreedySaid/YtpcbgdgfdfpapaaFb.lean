/- The reference: what a frame leaves. -/
import Derived.Test.YtpcbgdgfdfpapaaFa
set_option linter.unusedSimpArgs false
set_option linter.unusedVariables false
namespace Go.Proofs.Ytpcbgdgfdfpapaa
open Go Go.Abs Go.RowKit Go.Frames
variable {w0 : World}

theorem acodeB_monoF {P : Program} {b : Base} {n : NR} {c : Code} {a : AFrame} {σ : AHeap} {Q Q' : AQ} (h : ACodeB P b n c a σ Q') (hq : ∀ e a σ, Q' e a σ → Q e a σ) : ACodeB P b n c a σ Q := ACode.mono h hq
/-- valid traffic; nothing in place of other tables -/
def leftB (T : List (List Int)) : List (List Int) := if TV T then T else []
def leftV (T F : List (List Int)) : List (List Int) := frameL (leftB T) F F.length
theorem leftB_sq (T : List (List Int)) : Sq (leftB T).length (leftB T) := by
  unfold leftB; split
  · rename_i h; exact tv_sq h
  · exact ⟨rfl, fun i hi => absurd hi (by simp)⟩
theorem leftB_le (T : List (List Int)) : (leftB T).length ≤ 6 := by
  unfold leftB; split
  · rename_i h; exact h.1
  · simp
theorem leftB_at (T : List (List Int)) {a b : Nat} (ha : a < (leftB T).length) (hb : b < (leftB T).length) : 0 ≤ en (leftB T) a b ∧ en (leftB T) a b ≤ 6 := by
  by_cases h : TV T
  · rw [show leftB T = T from if_pos h] at *; exact h.at ha hb
  · rw [show leftB T = [] from if_neg h] at ha; simp at ha
theorem leftB_tv {T : List (List Int)} (h : TV T) : leftB T = T := if_pos h
theorem leftV_tv {T : List (List Int)} (h : TV T) (F : List (List Int)) : leftV T F = frameL T F F.length := by unfold leftV; rw [leftB_tv h]
theorem sent_le (f : Nat → Nat → Int) (a b : Nat) : ∀ m : Nat, 0 ≤ sent f a b m ∧ sent f a b m ≤ m
  | 0 => by simp [sent, sm]
  | m + 1 => by
    have h1 := sent_le f a b m
    have h2 := hit_01 f m a b
    have h3 : sent f a b (m + 1) = sent f a b m + hit f m a b := rfl
    omega
theorem leftV_len (T F : List (List Int)) : (leftV T F).length = (leftB T).length := (frameL_sq (leftB_sq T) F F.length).1
theorem leftV_not {T : List (List Int)} (h : ¬ TV T) (F : List (List Int)) : leftV T F = [] := by
  have := leftV_len T F
  rw [leftB, if_neg h] at this
  exact List.eq_nil_of_length_eq_zero this
/-- a number within a slot behind k of its numbers -/
theorem slot_bound {T F : List (List Int)} {m k a b : Nat} (hm : m ≤ 1048576) (hk : k ≤ (leftB T).length) (ha : a < (leftB T).length) (hb : b < (leftB T).length) :
    -1048577 ≤ en (slotL (leftB T).length (frameL (leftB T) F m) (F.getD m []) k) a b ∧ en (slotL (leftB T).length (frameL (leftB T) F m) (F.getD m []) k) a b ≤ 6 := by
  rw [en_slotL (frameL_sq (leftB_sq T) F m) _ k hk a b hb, en_frameL (leftB_sq T) F m a b ha hb]
  have h1 := leftB_at T ha hb
  have h2 := sent_le (fS F) a b m
  split <;> omega

theorem specLeft_at (σ : AHeap) (h o g0 p0 : Nat) (T F : List (List Int)) (hv : RowsAt σ h o T) (hl : T.length ≤ 1048576) (hf : RowsAt σ g0 p0 F) (hfl : F.length ≤ 1048576) (hfr : ∀ i, i < F.length → (F.getD i []).length ≤ 1048576) :
    ACall Try.prog w0 28 [.slice (some ⟨h, o, none⟩) T.length 1, .slice (some ⟨g0, p0, none⟩) F.length 1] σ fun r σ' => Sub σ σ' ∧ ∃ g q, r = .slice (some ⟨g, 0, none⟩) (leftV T F).length 1 ∧ OwnT σ σ' g q (leftV T F) := by
  refine acall_go mixed Try.func28 rfl good28 fun pr => ?_
  simp -implicitDefEqProofs (disch := omega) only [List.any_cons, List.any_nil, Nat.reduceEqDiff, List.map_cons, List.map_nil, Option.map_some, Option.map_none, List.nil_append, ↓reduceIte, vcu, ↓vcd]
  refine r_lit el23 (out := #[]) (by kernel_rfl) (by kernel_rfl) fun e1 σ1 n1 s1 v1 => ?_
  simp -implicitDefEqProofs (disch := omega) only [List.any_cons, List.any_nil, Nat.reduceEqDiff, List.map_cons, List.map_nil, Option.map_some, Option.map_none, List.nil_append, ↓reduceIte, vcu, ↓vcd]
  obtain ⟨n, hn⟩ : ∃ n, (leftB T).length = n := ⟨_, rfl⟩
  have hn6 := leftB_le T
  have hsqB := leftB_sq T
  rw [hn] at hn6 hsqB
  -- the copy
  refine acodeB_monoF (Q' := fun e a' τ => e = .exit 0 ∧ a' 1 = .slice (some ⟨g0, p0, none⟩) F.length 1 ∧ ∃ (g : Nat) (q : Nat → Nat), a' 5 = .slice (some ⟨g, 0, none⟩) n 1 ∧ Sub σ τ ∧ OwnT σ τ g q (leftB T))
    (vc_loop_c mixed (by kernel_rfl) [0, 1] (fun m a σ' => ∃ (k g : Nat) (q : Nat → Nat), m + k = n ∧ a 5 = .slice (some ⟨g, 0, none⟩) k 1 ∧ a 6 = .int .i64 k ∧ Sub σ σ' ∧ OwnT σ σ' g q ((leftB T).take k)) n ⟨0, e1, fun _ => 0, by simp, rfl, rfl, s1, by simpa using OwnT.nil _ v1 n1⟩ ?_) ?_
  · rintro m a σ' hc ⟨k, g, q, hk, h5, h6, hs, hO⟩
    simp -implicitDefEqProofs (disch := omega) only [List.any_cons, List.any_nil, Nat.reduceEqDiff, List.map_cons, List.map_nil, Option.map_some, Option.map_none, List.nil_append, ↓reduceIte, vcu, ↓vcd] at hc
    obtain ⟨h0, h1, -⟩ := hc
    have htv := specTV_at (w0 := w0) σ' h o T (hv.sub hs) hl
    by_cases hT : TV T
    · have eB := leftB_tv hT
      rw [eB] at hO hn hsqB ⊢
      have hkl : (T.take k).length = k := by simp; omega
      by_cases hlt : k < T.length
      · obtain ⟨u, hx, hi⟩ := (hv.sub hs) k hlt
        have hrl := (hT.2 k hlt).1
        have htk : T.take (k + 1) = T.take k ++ [T.getD k []] := by
          rw [List.take_succ_eq_append_getElem hlt]; simp [List.getD, hlt]
        generalize hrow : T.getD k [] = row at hi hrl htk
        rcases hi with ⟨rfl, rfl⟩ | ⟨rg, ro, rfl, hat⟩
        · simp at hrl; omega
        simp -implicitDefEqProofs (disch := omega) only [List.any_cons, List.any_nil, Nat.reduceEqDiff, List.map_cons, List.map_nil, Option.map_some, Option.map_none, List.nil_append, ↓reduceIte, vcu, ↓vcd, h0, h1, h5, h6]
        refine htv.mono ?_
        rintro r _ ⟨rfl, rfl⟩
        rename_i σ3
        rw [decide_eq_true hT]
        simp -implicitDefEqProofs (disch := omega) only [List.any_cons, List.any_nil, Nat.reduceEqDiff, List.map_cons, List.map_nil, Option.map_some, Option.map_none, List.nil_append, ↓reduceIte, vcu, ↓vcd, opK_some, h0, h1, h5, h6]
        refine r_lit el30 (out := #[]) (by kernel_rfl) (by kernel_rfl) fun e5 σ5 n5 s5 v5 => ?_
        have hx' := ld_sub s5 hx
        simp -implicitDefEqProofs (disch := omega) only [List.any_cons, List.any_nil, Nat.reduceEqDiff, List.map_cons, List.map_nil, Option.map_some, Option.map_none, List.nil_append, ↓reduceIte, vcu, ↓vcd, h0, h6, hx']
        refine r_pushI (g := e5) (e := rg) (o := ro) (k := .i64) (xs := []) (ys := row) (m := row.length) (len := 0) el30 (by omega) sl30 (by simp -implicitDefEqProofs (disch := omega) only [List.any_cons, List.any_nil, Nat.reduceEqDiff, List.map_cons, List.map_nil, Option.map_some, Option.map_none, List.nil_append, ↓reduceIte, vcu, ↓vcd]) v5 rfl (by simp -implicitDefEqProofs (disch := omega) only [List.any_cons, List.any_nil, Nat.reduceEqDiff, List.map_cons, List.map_nil, Option.map_some, Option.map_none, List.nil_append, ↓reduceIte, vcu, ↓vcd]) (hat.sub s5) rfl (by omega) fun z σ6 n6 k6 v6 => ?_
        rw [List.nil_append] at v6
        have s6 : Sub σ3 σ6 := k6.sub s5 n5
        have nz : σ3 z = none := free_sub s5 n6
        simp -implicitDefEqProofs (disch := omega) only [List.any_cons, List.any_nil, Nat.reduceEqDiff, List.map_cons, List.map_nil, Option.map_some, Option.map_none, List.nil_append, ↓reduceIte, vcu, ↓vcd, Nat.zero_add]
        refine r_lit el23 (out := #[.slice (some ⟨z, 0, none⟩) row.length 1]) (by simp -implicitDefEqProofs (disch := omega) only [List.any_cons, List.any_nil, Nat.reduceEqDiff, List.map_cons, List.map_nil, Option.map_some, Option.map_none, List.nil_append, ↓reduceIte, vcu, ↓vcd]; kernel_rfl) (by kernel_rfl) fun e7 σ7 n7 s7 v7 => ?_
        refine r_pushT (β := σ) (len := k) (g := g) (e := e7) (r := z) (q := q) (rows := T.take k) (row := row) el23 (by omega) sl23 (by simp -implicitDefEqProofs (disch := omega) only [List.any_cons, List.any_nil, Nat.reduceEqDiff, List.map_cons, List.map_nil, Option.map_some, Option.map_none, List.nil_append, ↓reduceIte, vcu, ↓vcd, h5]) hkl ((hO.sub s6).sub s7) (by simp -implicitDefEqProofs (disch := omega) only [List.any_cons, List.any_nil, Nat.reduceEqDiff, List.map_cons, List.map_nil, Option.map_some, Option.map_none, List.nil_append, ↓reduceIte, vcu, ↓vcd]) (by rw [v7]; simp [rowV]) (s7 _ _ v6) (free_sub hs nz) (ne_of nz hO.at_) (fun i hi => ne_of' nz (hO.row i hi)) ((hs.trans s6).trans s7) (by omega) fun g' q' σ8 s8 hO8 k8 n8 => ?_
        simp -implicitDefEqProofs (disch := omega) only [List.any_cons, List.any_nil, Nat.reduceEqDiff, List.map_cons, List.map_nil, Option.map_some, Option.map_none, List.nil_append, ↓reduceIte, vcu, ↓vcd, h0, h1, h6]
        refine ⟨⟨(by first | trivial | rfl | exact Eq.symm (by assumption)), (by first | trivial | rfl | exact Eq.symm (by assumption)), trivial⟩, m - 1, by omega, k + 1, g', q', by omega, by simp, by simp, s8, by rw [htk]; exact hO8⟩
      · have e : k = n := by omega
        subst e
        rw [List.take_of_length_le (by omega)] at hO
        simp -implicitDefEqProofs (disch := omega) only [List.any_cons, List.any_nil, Nat.reduceEqDiff, List.map_cons, List.map_nil, Option.map_some, Option.map_none, List.nil_append, ↓reduceIte, vcu, ↓vcd, h0, h1, h5, h6]
        exact ⟨trivial, trivial, g, q, rfl, hs, hO⟩
    · have eB : leftB T = [] := if_neg hT
      have hn0 : n = 0 := by rw [← hn, eB]; rfl
      have hk0 : k = 0 := by omega
      subst hk0; subst hn0
      have hpos : 0 < T.length := by
        rcases Nat.eq_zero_or_pos T.length with e | e
        · exact absurd (show TV T from ⟨by omega, fun i hi => by omega⟩) hT
        · exact e
      rw [eB, List.take_nil] at hO
      rw [eB]
      simp -implicitDefEqProofs (disch := omega) only [List.any_cons, List.any_nil, Nat.reduceEqDiff, List.map_cons, List.map_nil, Option.map_some, Option.map_none, List.nil_append, ↓reduceIte, vcu, ↓vcd, h0, h1, h5, h6]
      refine htv.mono ?_
      rintro r _ ⟨rfl, rfl⟩
      rename_i σ3
      rw [decide_eq_false hT]
      simp -implicitDefEqProofs (disch := omega) only [List.any_cons, List.any_nil, Nat.reduceEqDiff, List.map_cons, List.map_nil, Option.map_some, Option.map_none, List.nil_append, ↓reduceIte, vcu, ↓vcd, opK_some, h0, h1, h5, h6]
      exact ⟨trivial, trivial, g, q, rfl, hs, hO⟩
  clear v1 s1 n1
  rintro _ a τ ⟨rfl, h1, gL, qL, h5, hs, hL⟩
  have hL0 : OwnT σ τ gL qL (frameL (leftB T) F 0) := hL
  clear hL
  simp -implicitDefEqProofs (disch := omega) only [List.any_cons, List.any_nil, Nat.reduceEqDiff, List.map_cons, List.map_nil, Option.map_some, Option.map_none, List.nil_append, ↓reduceIte, vcu, ↓vcd, h1, h5]
  refine vc_loop_c mixed (by kernel_rfl) [1, 5] (fun m a σ' => ∃ s : Nat, m + s = F.length ∧ a 7 = .int .i64 s ∧ Sub σ σ' ∧ OwnT σ σ' gL qL (frameL (leftB T) F s)) F.length ⟨0, by simp, rfl, hs, hL0⟩ ?_
  clear hL0 hs
  rintro m a2 σ2 hc ⟨s, hsm, h7, hs, hL⟩
  simp -implicitDefEqProofs (disch := omega) only [List.any_cons, List.any_nil, Nat.reduceEqDiff, List.map_cons, List.map_nil, Option.map_some, Option.map_none, List.nil_append, ↓reduceIte, vcu, ↓vcd, h1, h5] at hc
  obtain ⟨c1, c5, -⟩ := hc
  have hsqs := frameL_sq (leftB_sq T) F s
  rw [hn] at hsqs
  by_cases hlt : s < F.length
  · obtain ⟨v, hx, hi⟩ := hf s hlt
    have hrk := hfr s hlt
    have hgo : frameL (leftB T) F (s + 1) = slotL n (frameL (leftB T) F s) (F.getD s []) (min (F.getD s []).length n) := by rw [frameL, hn]
    have hbd := fun k a b => slot_bound (T := T) (F := F) (m := s) (k := k) (a := a) (b := b) (by omega)
    rw [hn] at hbd
    generalize hrow : F.getD s [] = row at hi hrk hgo hbd
    obtain ⟨pb, pz, rfl⟩ := ints_len hi
    simp -implicitDefEqProofs (disch := omega) only [List.any_cons, List.any_nil, Nat.reduceEqDiff, List.map_cons, List.map_nil, Option.map_some, Option.map_none, List.nil_append, ↓reduceIte, vcu, ↓vcd, c1, c5, h7]
    refine vc_loop_c mixed (by kernel_rfl) [1, 5, 7] (fun m3 a3 σ3 => ∃ j : Nat, m3 + j = min row.length n ∧ a3 8 = .int .i64 j ∧ Sub σ σ3 ∧ OwnT σ σ3 gL qL (slotL n (frameL (leftB T) F s) row j)) (min row.length n) ⟨0, by simp, rfl, hs, hL⟩ ?_
    clear hL hs
    rintro m3 a3 σ3 hc3 ⟨j, hj, h8, hs, hL⟩
    simp -implicitDefEqProofs (disch := omega) only [List.any_cons, List.any_nil, Nat.reduceEqDiff, List.map_cons, List.map_nil, Option.map_some, Option.map_none, List.nil_append, ↓reduceIte, vcu, ↓vcd, c1, c5, h7] at hc3
    obtain ⟨d1, d5, d7, -⟩ := hc3
    have hsqj := slotL_sq hsqs row j (by omega)
    have hx3 := ld_sub hs hx
    by_cases hjl : j < min row.length n
    · rcases hi with ⟨e, rfl⟩ | ⟨g, p, e, hg⟩
      · simp at hjl
      injection e with ea eb ec
      subst ea; subst ec
      have hy := (hg.sub hs) j (by omega)
      have hst : slotL n (frameL (leftB T) F s) row (j + 1) = if 0 ≤ row.getD j 0 ∧ row.getD j 0 ≤ (n : Int) - 1 then less1 (slotL n (frameL (leftB T) F s) row j) j (row.getD j 0).toNat else slotL n (frameL (leftB T) F s) row j := rfl
      have hgj := hL.get (i := j) (by rw [hsqj.1]; omega)
      have hrj := hL.row j (by rw [hsqj.1]; omega)
      have hrl := hsqj.2 j (by omega)
      have hnew : σ (qL j) = none := hL.free j (by rw [hsqj.1]; omega)
      rw [hrl] at hgj
      simp -implicitDefEqProofs (disch := omega) only [List.any_cons, List.any_nil, Nat.reduceEqDiff, List.map_cons, List.map_nil, Option.map_some, Option.map_none, List.nil_append, ↓reduceIte, vcu, ↓vcd, d1, d5, d7, h8, hx3, hy]
      refine (in_calls _ _ _ _).mono ?_
      rintro r _ ⟨rfl, rfl⟩
      rename_i σ3
      by_cases hin : 0 ≤ row.getD j 0 ∧ row.getD j 0 ≤ (n : Int) - 1
      · rw [decide_eq_true hin]
        rw [if_pos hin] at hst
        have hb2 := hbd j j (row.getD j 0).toNat (by omega) (by omega) (by omega)
        have hld : ld σ3 (qL j) (0 + (row.getD j 0).toNat) = some (.int .i64 (en (slotL n (frameL (leftB T) F s) row j) j (row.getD j 0).toNat)) := by
          rw [own_at hrj (by rw [hrl]; omega)]; rfl
        have hpl : (row.getD j 0).toNat < n := by omega
        unfold less1 at hst
        generalize hE : en (slotL n (frameL (leftB T) F s) row j) j (row.getD j 0).toNat = E at hb2 hld hst
        simp -implicitDefEqProofs (disch := omega) only [List.any_cons, List.any_nil, Nat.reduceEqDiff, List.map_cons, List.map_nil, Option.map_some, Option.map_none, List.nil_append, ↓reduceIte, vcu, ↓vcd, opK_some, d1, d5, d7, h8]
        refine region_tree mixed (quiets [0, 1, 2, 3, 4, 5, 6, 7, 8, 9, 10, 11, 12, 13, 14, 15, 16, 17, 18, 19, 20, 21, 22, 23, 24, 25] (.one 26 .stop)) [([0, 1, 2, 3, 4, 5, 6, 7, 8, 9, 10, 11, 12, 13, 14, 15, 16, 17, 18, 19, 20, 21, 22, 23, 24, 25], Sub σ3)] (by kernel_rfl) (by kernel_rfl) (fun p hp => by
          simp only [List.mem_cons, List.not_mem_nil, or_false] at hp
          subst hp; exact Sub.refl _) ?_
        refine tree_quiets σ3 _ _ _ sf1 (by kernel_rfl) (by kernel_rfl) ?_
        simp -implicitDefEqProofs (disch := omega) only [List.any_cons, List.any_nil, Nat.reduceEqDiff, List.map_cons, List.map_nil, Option.map_some, Option.map_none, List.nil_append, ↓reduceIte, vcu, ↓vcd, pickOps_nil, pickOps_cons, pickO_some, List.getElem?_cons_succ, List.getElem?_cons_zero, d1, d5, d7, h8, hgj, hx3, hy, hld, hrl]
        refine tree_one rfl ?_
        refine r_setI (g := qL j) (i := 0 + (row.getD j 0).toNat) (v := E - 1) (by simp -implicitDefEqProofs (disch := omega) only [List.any_cons, List.any_nil, Nat.reduceEqDiff, List.map_cons, List.map_nil, Option.map_some, Option.map_none, List.nil_append, ↓reduceIte, vcu, ↓vcd]) (by simp -implicitDefEqProofs (disch := omega) only [List.any_cons, List.any_nil, Nat.reduceEqDiff, List.map_cons, List.map_nil, Option.map_some, Option.map_none, List.nil_append, ↓reduceIte, vcu, ↓vcd]) co3 hrj (by omega) fun τ5 k5 e5 => ?_
        rw [Nat.zero_add] at e5
        simp -implicitDefEqProofs (disch := omega) only [List.any_cons, List.any_nil, Nat.reduceEqDiff, List.map_cons, List.map_nil, Option.map_some, Option.map_none, List.nil_append, ↓reduceIte, vcu, ↓vcd]
        refine ⟨keep_of rfl (fun p hp => by
          simp only [List.mem_cons, List.not_mem_nil, or_false] at hp
          subst hp; exact .inl (by kernel_rfl)), tree_stop ?_⟩
        simp -implicitDefEqProofs (disch := omega) only [List.any_cons, List.any_nil, Nat.reduceEqDiff, List.map_cons, List.map_nil, Option.map_some, Option.map_none, List.nil_append, ↓reduceIte, vcu, ↓vcd, h8]
        refine ⟨by simp [d1, d5, d7, c1, c5, h7, h1, h5], m3 - 1, by omega, j + 1, by omega, by simp, k5.sub hs hnew, ?_⟩
        rw [hst]
        exact hL.write (by rw [hsqj.1]; omega) (by simp) k5 e5
      · rw [decide_eq_false hin]
        rw [if_neg hin] at hst
        simp -implicitDefEqProofs (disch := omega) only [List.any_cons, List.any_nil, Nat.reduceEqDiff, List.map_cons, List.map_nil, Option.map_some, Option.map_none, List.nil_append, ↓reduceIte, vcu, ↓vcd, opK_some, d1, d5, d7, h8]
        refine ⟨by simp [d1, d5, d7, c1, c5, h7, h1, h5], m3 - 1, by omega, j + 1, by omega, by simp, hs, by rw [hst]; exact hL⟩
    · have e : j = min row.length n := by omega
      by_cases h2 : j < row.length
      · have e2 : j = n := by omega
        simp -implicitDefEqProofs (disch := omega) only [List.any_cons, List.any_nil, Nat.reduceEqDiff, List.map_cons, List.map_nil, Option.map_some, Option.map_none, List.nil_append, ↓reduceIte, vcu, ↓vcd, d1, d5, d7, h8, hx3]
        refine ⟨by simp [d1, d5, c1, c5, h1, h5], m - 1, by omega, s + 1, by omega, by simp, hs, by rw [hgo, ← e]; exact hL⟩
      · simp -implicitDefEqProofs (disch := omega) only [List.any_cons, List.any_nil, Nat.reduceEqDiff, List.map_cons, List.map_nil, Option.map_some, Option.map_none, List.nil_append, ↓reduceIte, vcu, ↓vcd, d1, d5, d7, h8, hx3]
        refine ⟨by simp [d1, d5, c1, c5, h1, h5], m - 1, by omega, s + 1, by omega, by simp, hs, by rw [hgo, ← e]; exact hL⟩
  · have e : s = F.length := by omega
    subst e
    have hll := leftV_len T F
    rw [hn] at hll
    simp -implicitDefEqProofs (disch := omega) only [List.any_cons, List.any_nil, Nat.reduceEqDiff, List.map_cons, List.map_nil, Option.map_some, Option.map_none, List.nil_append, ↓reduceIte, vcu, ↓vcd, c1, c5, h7]
    refine fin_one Try.results28 ⟨hs, gL, qL, ?_, hL⟩
    simp -implicitDefEqProofs (disch := omega) only [List.any_cons, List.any_nil, Nat.reduceEqDiff, List.map_cons, List.map_nil, Option.map_some, Option.map_none, List.nil_append, ↓reduceIte, vcu, ↓vcd, c5, hll]
end Go.Proofs.Ytpcbgdgfdfpapaa
