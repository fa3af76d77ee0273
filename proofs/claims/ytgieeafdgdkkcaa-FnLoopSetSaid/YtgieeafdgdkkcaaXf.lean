/- Lists that have each number once; lines that meet. -/
import Derived.Test.YtgieeafdgdkkcaaXd
set_option linter.unusedSimpArgs false
set_option linter.unusedVariables false
namespace Go.Proofs.Ytgieeafdgdkkcaa
open Go Go.Abs Go.RowKit Go.Ban
variable {w0 : World}

def EO (p : List Int) : Prop := lgOf p.length ≠ 0 ∧ Perm p
instance (p : List Int) : Decidable (EO p) := by unfold EO; infer_instance
def qOf (p : List Int) (k : Nat) : Nat := (p.getD k 0).toNat
/-- a list with each number once, as a function -/
theorem EO.fn {p : List Int} (h : EO p) : ∃ lg : Nat, lgOf p.length = lg ∧ Ls p.length lg ∧ PermF p.length (qOf p) ∧ tabI p.length (qOf p) = p ∧ ∀ k, k < p.length → p.getD k 0 = (qOf p k : Int) := by
  obtain ⟨h1, h2, h3⟩ := h
  obtain ⟨L, e, hL⟩ := lgOf_ls h1
  have e : p.length = L := by omega
  have hg : ∀ k, k < p.length → p.getD k 0 = (qOf p k : Int) := fun k hk => by
    have := h2 (p.getD k 0) (by simp [List.getD, hk])
    unfold qOf; omega
  refine ⟨_, rfl, by rw [← e] at hL; exact hL, ⟨fun k hk => ?_, fun i j hi hj he => ?_⟩, tabI_of fun x hx => (h2 x hx).1, hg⟩
  · have := h2 (p.getD k 0) (by simp [List.getD, hk])
    have := hg k hk
    omega
  · have e1 := hg i hi
    have e2 := hg j hj
    rw [← he, ← e1] at e2
    have e3 : p[i] = p[j] := by simpa [List.getD, hi, hj] using e2.symm
    exact (List.getElem_inj h3).1 e3
theorem eo_of {L lg : Nat} (hL : Ls L lg) {q : Nat → Nat} (hq : PermF L q) : EO (tabI L q) ∧ (∀ k, k < L → qOf (tabI L q) k = q k) := by
  have hl := tabI_length L q
  refine ⟨⟨by rw [hl, lgOf_of hL]; have := hL.le; omega, fun x hx => ?_, ?_⟩, fun k hk => by unfold qOf; rw [tabI_getD hk]; simp⟩
  · simp only [tabI, List.mem_map, List.mem_range] at hx
    obtain ⟨i, hi, rfl⟩ := hx
    rw [hl]
    have := hq.1 i hi
    omega
  · rw [List.nodup_iff_pairwise_ne, List.pairwise_iff_getElem]
    intro i j hi hj hij he
    rw [hl] at hi hj
    simp only [tabI, List.getElem_map, List.getElem_range] at he
    exact absurd (hq.2 i j hi hj (by omega)) (by omega)

def seen8 (xs : List Int) : List Bool := tabB 8 fun i => decide ((i : Int) ∈ xs)
theorem seen8_set (xs : List Int) {x : Int} (h0 : 0 ≤ x) : (seen8 xs).set x.toNat true = seen8 (xs ++ [x]) := by
  unfold seen8
  rw [tabB_set]
  refine tabB_congr fun i hi => ?_
  by_cases e : i = x.toNat
  · have : (i : Int) = x := by omega
    rw [if_pos e]; simp [this]
  · have : (i : Int) ≠ x := by omega
    rw [if_neg e]; simp [this]

theorem eachOnce_at (σ : AHeap) (h o : Nat) (xs : List Int) (hv : IntsAt .i64 σ h o xs) (hl : xs.length ≤ 1048576) :
    ACall Try.prog w0 66 [.slice (some ⟨h, o, none⟩) xs.length 1] σ fun r σ' => r = .bool (decide (EO xs)) ∧ σ' = σ := by
  refine acall_go mixed Try.func66 rfl good66 fun pr => ?_
  simp -implicitDefEqProofs (disch := omega) only [List.any_cons, List.any_nil, Nat.reduceEqDiff, List.map_cons, List.map_nil, Option.map_some, Option.map_none, List.nil_append, ↓reduceIte, vcu0, vcu1, vcu2, vcu3, vcu4, vcu5, vcu6, vcu7, vcu8, vcu9, vcu10, vcu11, vcu12, vcu13, vcu14, vcu15, vcu16, vcu17, vcu18, vcu19, vcu20, vcu21, vcu22, ↓vcd0, ↓vcd1, ↓vcd2, ↓vcd3]
  refine (stepsFor_at σ _).mono ?_
  rintro r _ ⟨rfl, rfl⟩
  rename_i σ
  by_cases hlg : lgOf xs.length = 0
  · rw [hlg]
    simp -implicitDefEqProofs (disch := omega) only [List.any_cons, List.any_nil, Nat.reduceEqDiff, List.map_cons, List.map_nil, Option.map_some, Option.map_none, List.nil_append, ↓reduceIte, vcu0, vcu1, vcu2, vcu3, vcu4, vcu5, vcu6, vcu7, vcu8, vcu9, vcu10, vcu11, vcu12, vcu13, vcu14, vcu15, vcu16, vcu17, vcu18, vcu19, vcu20, vcu21, vcu22, ↓vcd0, ↓vcd1, ↓vcd2, ↓vcd3, opK_some, Int.natCast_zero]
    refine fin_one Try.results66 ⟨?_, rfl⟩
    simp -implicitDefEqProofs (disch := omega) only [List.any_cons, List.any_nil, Nat.reduceEqDiff, List.map_cons, List.map_nil, Option.map_some, Option.map_none, List.nil_append, ↓reduceIte, vcu0, vcu1, vcu2, vcu3, vcu4, vcu5, vcu6, vcu7, vcu8, vcu9, vcu10, vcu11, vcu12, vcu13, vcu14, vcu15, vcu16, vcu17, vcu18, vcu19, vcu20, vcu21, vcu22, ↓vcd0, ↓vcd1, ↓vcd2, ↓vcd3]
    have : ¬ EO xs := fun hE => hE.1 hlg
    simp [this]
  obtain ⟨L, eL, hL⟩ := lgOf_ls hlg
  have h8 : xs.length ≤ 8 := by have := hL.le; omega
  have hlg' : (lgOf xs.length : Int) ≠ 0 := by omega
  simp -implicitDefEqProofs (disch := omega) only [List.any_cons, List.any_nil, Nat.reduceEqDiff, List.map_cons, List.map_nil, Option.map_some, Option.map_none, List.nil_append, ↓reduceIte, vcu0, vcu1, vcu2, vcu3, vcu4, vcu5, vcu6, vcu7, vcu8, vcu9, vcu10, vcu11, vcu12, vcu13, vcu14, vcu15, vcu16, vcu17, vcu18, vcu19, vcu20, vcu21, vcu22, ↓vcd0, ↓vcd1, ↓vcd2, ↓vcd3, opK_some]
  refine r_new ze68 fun g τ ng s1 e1 => ?_
  replace e1 : τ g = some ⟨bools (seen8 []), false⟩ := e1
  simp -implicitDefEqProofs (disch := omega) only [List.any_cons, List.any_nil, Nat.reduceEqDiff, List.map_cons, List.map_nil, Option.map_some, Option.map_none, List.nil_append, ↓reduceIte, vcu0, vcu1, vcu2, vcu3, vcu4, vcu5, vcu6, vcu7, vcu8, vcu9, vcu10, vcu11, vcu12, vcu13, vcu14, vcu15, vcu16, vcu17, vcu18, vcu19, vcu20, vcu21, vcu22, ↓vcd0, ↓vcd1, ↓vcd2, ↓vcd3]
  refine vc_loop_c mixed (by kernel_rfl) [0, 3, 10, 11] (fun m a σ' => ∃ k : Nat, m + k = xs.length ∧ a 12 = .int .i64 k ∧ Kept g τ σ' ∧ σ' g = some ⟨bools (seen8 (xs.take k)), false⟩ ∧ ∀ j, j < k → (0 ≤ xs.getD j 0 ∧ xs.getD j 0 < xs.length) ∧ xs.getD j 0 ∉ xs.take j) xs.length ⟨0, by simp, rfl, Kept.refl _ _, by simpa using e1, by simp⟩ ?_
  rintro m a τ2 hc ⟨k, hk, h12, hkp, hgk, hp⟩
  simp -implicitDefEqProofs (disch := omega) only [List.any_cons, List.any_nil, Nat.reduceEqDiff, List.map_cons, List.map_nil, Option.map_some, Option.map_none, List.nil_append, ↓reduceIte, vcu0, vcu1, vcu2, vcu3, vcu4, vcu5, vcu6, vcu7, vcu8, vcu9, vcu10, vcu11, vcu12, vcu13, vcu14, vcu15, vcu16, vcu17, vcu18, vcu19, vcu20, vcu21, vcu22, ↓vcd0, ↓vcd1, ↓vcd2, ↓vcd3] at hc
  obtain ⟨h0, h3, h10, h11, -⟩ := hc
  have hsub := hkp.sub s1 ng
  by_cases hlt : k < xs.length
  · have hx := hv.sub hsub k hlt
    have hxm : xs.getD k 0 ∈ xs := by simp [List.getD, hlt]
    generalize hxx : xs.getD k 0 = x at hx hxm
    by_cases hneg : x < 0
    · simp -implicitDefEqProofs (disch := omega) only [List.any_cons, List.any_nil, Nat.reduceEqDiff, List.map_cons, List.map_nil, Option.map_some, Option.map_none, List.nil_append, ↓reduceIte, vcu0, vcu1, vcu2, vcu3, vcu4, vcu5, vcu6, vcu7, vcu8, vcu9, vcu10, vcu11, vcu12, vcu13, vcu14, vcu15, vcu16, vcu17, vcu18, vcu19, vcu20, vcu21, vcu22, ↓vcd0, ↓vcd1, ↓vcd2, ↓vcd3, h0, h3, h10, h11, h12, hx]
      refine fin_drop Try.results66 σ hsub ⟨?_, rfl⟩
      simp -implicitDefEqProofs (disch := omega) only [List.any_cons, List.any_nil, Nat.reduceEqDiff, List.map_cons, List.map_nil, Option.map_some, Option.map_none, List.nil_append, ↓reduceIte, vcu0, vcu1, vcu2, vcu3, vcu4, vcu5, vcu6, vcu7, vcu8, vcu9, vcu10, vcu11, vcu12, vcu13, vcu14, vcu15, vcu16, vcu17, vcu18, vcu19, vcu20, vcu21, vcu22, ↓vcd0, ↓vcd1, ↓vcd2, ↓vcd3]
      have : ¬ EO xs := fun hV => by have := hV.2.1 _ hxm; omega
      simp [this]
    by_cases hbig : (xs.length : Int) ≤ x
    · simp -implicitDefEqProofs (disch := omega) only [List.any_cons, List.any_nil, Nat.reduceEqDiff, List.map_cons, List.map_nil, Option.map_some, Option.map_none, List.nil_append, ↓reduceIte, vcu0, vcu1, vcu2, vcu3, vcu4, vcu5, vcu6, vcu7, vcu8, vcu9, vcu10, vcu11, vcu12, vcu13, vcu14, vcu15, vcu16, vcu17, vcu18, vcu19, vcu20, vcu21, vcu22, ↓vcd0, ↓vcd1, ↓vcd2, ↓vcd3, h0, h3, h10, h11, h12, hx]
      refine fin_drop Try.results66 σ hsub ⟨?_, rfl⟩
      simp -implicitDefEqProofs (disch := omega) only [List.any_cons, List.any_nil, Nat.reduceEqDiff, List.map_cons, List.map_nil, Option.map_some, Option.map_none, List.nil_append, ↓reduceIte, vcu0, vcu1, vcu2, vcu3, vcu4, vcu5, vcu6, vcu7, vcu8, vcu9, vcu10, vcu11, vcu12, vcu13, vcu14, vcu15, vcu16, vcu17, vcu18, vcu19, vcu20, vcu21, vcu22, ↓vcd0, ↓vcd1, ↓vcd2, ↓vcd3]
      have : ¬ EO xs := fun hV => by have := hV.2.1 _ hxm; omega
      simp [this]
    have hsl : (seen8 (xs.take k)).length = 8 := tabB_length _ _
    have hs := own_atB hgk (i := x.toNat) (by omega)
    rw [show (seen8 (xs.take k)).getD x.toNat false = decide (x ∈ xs.take k) by
      unfold seen8; rw [tabB_getD (by omega)]; have : ((x.toNat : Nat) : Int) = x := by omega
      rw [this]] at hs
    by_cases hm : x ∈ xs.take k
    · rw [decide_eq_true hm] at hs
      simp -implicitDefEqProofs (disch := omega) only [List.any_cons, List.any_nil, Nat.reduceEqDiff, List.map_cons, List.map_nil, Option.map_some, Option.map_none, List.nil_append, ↓reduceIte, vcu0, vcu1, vcu2, vcu3, vcu4, vcu5, vcu6, vcu7, vcu8, vcu9, vcu10, vcu11, vcu12, vcu13, vcu14, vcu15, vcu16, vcu17, vcu18, vcu19, vcu20, vcu21, vcu22, ↓vcd0, ↓vcd1, ↓vcd2, ↓vcd3, h0, h3, h10, h11, h12, hx, hs]
      refine fin_drop Try.results66 σ hsub ⟨?_, rfl⟩
      simp -implicitDefEqProofs (disch := omega) only [List.any_cons, List.any_nil, Nat.reduceEqDiff, List.map_cons, List.map_nil, Option.map_some, Option.map_none, List.nil_append, ↓reduceIte, vcu0, vcu1, vcu2, vcu3, vcu4, vcu5, vcu6, vcu7, vcu8, vcu9, vcu10, vcu11, vcu12, vcu13, vcu14, vcu15, vcu16, vcu17, vcu18, vcu19, vcu20, vcu21, vcu22, ↓vcd0, ↓vcd1, ↓vcd2, ↓vcd3]
      have : ¬ EO xs := fun hV => (nodup_take.1 hV.2.2) k hlt (by rw [hxx]; exact hm)
      simp [this]
    · rw [decide_eq_false hm] at hs
      simp -implicitDefEqProofs (disch := omega) only [List.any_cons, List.any_nil, Nat.reduceEqDiff, List.map_cons, List.map_nil, Option.map_some, Option.map_none, List.nil_append, ↓reduceIte, vcu0, vcu1, vcu2, vcu3, vcu4, vcu5, vcu6, vcu7, vcu8, vcu9, vcu10, vcu11, vcu12, vcu13, vcu14, vcu15, vcu16, vcu17, vcu18, vcu19, vcu20, vcu21, vcu22, ↓vcd0, ↓vcd1, ↓vcd2, ↓vcd3, h0, h3, h10, h11, h12, hx, hs]
      refine r_setB (g := g) (i := 0 + x.toNat) (v := true) (by simp -implicitDefEqProofs (disch := omega) only [List.any_cons, List.any_nil, Nat.reduceEqDiff, List.map_cons, List.map_nil, Option.map_some, Option.map_none, List.nil_append, ↓reduceIte, vcu0, vcu1, vcu2, vcu3, vcu4, vcu5, vcu6, vcu7, vcu8, vcu9, vcu10, vcu11, vcu12, vcu13, vcu14, vcu15, vcu16, vcu17, vcu18, vcu19, vcu20, vcu21, vcu22, ↓vcd0, ↓vcd1, ↓vcd2, ↓vcd3, h3]) (by simp -implicitDefEqProofs (disch := omega) only [List.any_cons, List.any_nil, Nat.reduceEqDiff, List.map_cons, List.map_nil, Option.map_some, Option.map_none, List.nil_append, ↓reduceIte, vcu0, vcu1, vcu2, vcu3, vcu4, vcu5, vcu6, vcu7, vcu8, vcu9, vcu10, vcu11, vcu12, vcu13, vcu14, vcu15, vcu16, vcu17, vcu18, vcu19, vcu20, vcu21, vcu22, ↓vcd0, ↓vcd1, ↓vcd2, ↓vcd3]) co4 hgk (by omega) fun τ3 k3 e3 => ?_
      have htk : xs.take k ++ [x] = xs.take (k + 1) := by
        rw [List.take_succ_eq_append_getElem hlt]
        simp [List.getD, hlt] at hxx
        rw [hxx]
      rw [Nat.zero_add, seen8_set _ (by omega), htk] at e3
      simp -implicitDefEqProofs (disch := omega) only [List.any_cons, List.any_nil, Nat.reduceEqDiff, List.map_cons, List.map_nil, Option.map_some, Option.map_none, List.nil_append, ↓reduceIte, vcu0, vcu1, vcu2, vcu3, vcu4, vcu5, vcu6, vcu7, vcu8, vcu9, vcu10, vcu11, vcu12, vcu13, vcu14, vcu15, vcu16, vcu17, vcu18, vcu19, vcu20, vcu21, vcu22, ↓vcd0, ↓vcd1, ↓vcd2, ↓vcd3, h0, h3, h10, h11, h12]
      refine ⟨⟨trivial, trivial, trivial, trivial, trivial⟩, m - 1, by omega, k + 1, by omega, by simp, hkp.trans k3, e3, fun j hj => ?_⟩
      by_cases e : j = k
      · subst e; rw [hxx]; exact ⟨by omega, hm⟩
      · exact hp j (by omega)
  · simp -implicitDefEqProofs (disch := omega) only [List.any_cons, List.any_nil, Nat.reduceEqDiff, List.map_cons, List.map_nil, Option.map_some, Option.map_none, List.nil_append, ↓reduceIte, vcu0, vcu1, vcu2, vcu3, vcu4, vcu5, vcu6, vcu7, vcu8, vcu9, vcu10, vcu11, vcu12, vcu13, vcu14, vcu15, vcu16, vcu17, vcu18, vcu19, vcu20, vcu21, vcu22, ↓vcd0, ↓vcd1, ↓vcd2, ↓vcd3, h0, h3, h10, h11, h12]
    refine fin_drop Try.results66 σ hsub ⟨?_, rfl⟩
    simp -implicitDefEqProofs (disch := omega) only [List.any_cons, List.any_nil, Nat.reduceEqDiff, List.map_cons, List.map_nil, Option.map_some, Option.map_none, List.nil_append, ↓reduceIte, vcu0, vcu1, vcu2, vcu3, vcu4, vcu5, vcu6, vcu7, vcu8, vcu9, vcu10, vcu11, vcu12, vcu13, vcu14, vcu15, vcu16, vcu17, vcu18, vcu19, vcu20, vcu21, vcu22, ↓vcd0, ↓vcd1, ↓vcd2, ↓vcd3]
    have : EO xs := by
      refine ⟨hlg, fun x hx => ?_, nodup_take.2 fun j hj => (hp j (by omega)).2⟩
      obtain ⟨i, hi, rfl⟩ := List.getElem_of_mem hx
      have := (hp i (by omega)).1
      simpa [List.getD, hi] using this
    simp [this]

/-- whether two rows are the same somewhere -/
def mt (xs ys : List Int) (n : Nat) : Bool := (List.range n).any fun s => decide (xs.getD s 0 = ys.getD s 0)
theorem mt_succ (xs ys : List Int) (n : Nat) : mt xs ys (n + 1) = (mt xs ys n || decide (xs.getD n 0 = ys.getD n 0)) := by simp [mt, List.range_succ]
theorem mt_ways (L lg : Nat) (q : Nat → Nat) (a b : Nat) : mt (wayN L lg a (q a)) (wayN L lg b (q b)) lg = cl L lg q a b := by
  unfold mt cl
  rw [Bool.eq_iff_iff, List.any_eq_true, List.any_eq_true]
  refine exists_congr fun s => and_congr_right fun hs => ?_
  have := List.mem_range.1 hs
  rw [wayN_getD this, wayN_getD this, decide_eq_true_eq, beq_iff_eq]
  omega
theorem meet_at (σ : AHeap) (h o g p : Nat) (xs ys : List Int) (hv : IntsAt .i64 σ h o xs) (hu : IntsAt .i64 σ g p ys) (hl : xs.length ≤ 1048576) (hl2 : xs.length = ys.length) :
    ACall Try.prog w0 75 [.slice (some ⟨h, o, none⟩) xs.length 1, .slice (some ⟨g, p, none⟩) ys.length 1] σ fun r σ' => r = .bool (mt xs ys xs.length) ∧ σ' = σ := by
  refine acall_go mixed Try.func75 rfl good75 fun pr => ?_
  simp -implicitDefEqProofs (disch := omega) only [List.any_cons, List.any_nil, Nat.reduceEqDiff, List.map_cons, List.map_nil, Option.map_some, Option.map_none, List.nil_append, ↓reduceIte, vcu0, vcu1, vcu2, vcu3, vcu4, vcu5, vcu6, vcu7, vcu8, vcu9, vcu10, vcu11, vcu12, vcu13, vcu14, vcu15, vcu16, vcu17, vcu18, vcu19, vcu20, vcu21, vcu22, ↓vcd0, ↓vcd1, ↓vcd2, ↓vcd3]
  refine vc_loop_c mixed (by kernel_rfl) [1, 7, 8] (fun m a σ' => ∃ k : Nat, m + k = xs.length ∧ a 9 = .int .i64 k ∧ σ' = σ ∧ mt xs ys k = false) xs.length ⟨0, by simp, rfl, rfl, by simp [mt]⟩ ?_
  rintro m a _ hc ⟨k, hk, h9, rfl, hm⟩
  simp -implicitDefEqProofs (disch := omega) only [List.any_cons, List.any_nil, Nat.reduceEqDiff, List.map_cons, List.map_nil, Option.map_some, Option.map_none, List.nil_append, ↓reduceIte, vcu0, vcu1, vcu2, vcu3, vcu4, vcu5, vcu6, vcu7, vcu8, vcu9, vcu10, vcu11, vcu12, vcu13, vcu14, vcu15, vcu16, vcu17, vcu18, vcu19, vcu20, vcu21, vcu22, ↓vcd0, ↓vcd1, ↓vcd2, ↓vcd3] at hc
  obtain ⟨h1, h7, h8, -⟩ := hc
  rename_i σ
  by_cases hlt : k < xs.length
  · have hx := hv k hlt
    have hy := hu k (by omega)
    have hs := mt_succ xs ys k
    rw [hm, Bool.false_or] at hs
    by_cases hxy : xs.getD k 0 = ys.getD k 0
    · rw [decide_eq_true hxy] at hs
      simp -implicitDefEqProofs (disch := omega) only [List.any_cons, List.any_nil, Nat.reduceEqDiff, List.map_cons, List.map_nil, Option.map_some, Option.map_none, List.nil_append, ↓reduceIte, vcu0, vcu1, vcu2, vcu3, vcu4, vcu5, vcu6, vcu7, vcu8, vcu9, vcu10, vcu11, vcu12, vcu13, vcu14, vcu15, vcu16, vcu17, vcu18, vcu19, vcu20, vcu21, vcu22, ↓vcd0, ↓vcd1, ↓vcd2, ↓vcd3, h1, h7, h8, h9, hx, hy]
      refine fin_one Try.results75 ⟨?_, rfl⟩
      simp -implicitDefEqProofs (disch := omega) only [List.any_cons, List.any_nil, Nat.reduceEqDiff, List.map_cons, List.map_nil, Option.map_some, Option.map_none, List.nil_append, ↓reduceIte, vcu0, vcu1, vcu2, vcu3, vcu4, vcu5, vcu6, vcu7, vcu8, vcu9, vcu10, vcu11, vcu12, vcu13, vcu14, vcu15, vcu16, vcu17, vcu18, vcu19, vcu20, vcu21, vcu22, ↓vcd0, ↓vcd1, ↓vcd2, ↓vcd3]
      have : mt xs ys xs.length = true := by
        unfold mt
        exact List.any_eq_true.2 ⟨k, List.mem_range.2 hlt, decide_eq_true hxy⟩
      rw [this]
    · rw [decide_eq_false hxy] at hs
      simp -implicitDefEqProofs (disch := omega) only [List.any_cons, List.any_nil, Nat.reduceEqDiff, List.map_cons, List.map_nil, Option.map_some, Option.map_none, List.nil_append, ↓reduceIte, vcu0, vcu1, vcu2, vcu3, vcu4, vcu5, vcu6, vcu7, vcu8, vcu9, vcu10, vcu11, vcu12, vcu13, vcu14, vcu15, vcu16, vcu17, vcu18, vcu19, vcu20, vcu21, vcu22, ↓vcd0, ↓vcd1, ↓vcd2, ↓vcd3, h1, h7, h8, h9, hx, hy]
      exact ⟨⟨trivial, trivial, trivial, trivial⟩, m - 1, by omega, k + 1, by omega, by simp, trivial, hs⟩
  · have e : k = xs.length := by omega
    subst e
    simp -implicitDefEqProofs (disch := omega) only [List.any_cons, List.any_nil, Nat.reduceEqDiff, List.map_cons, List.map_nil, Option.map_some, Option.map_none, List.nil_append, ↓reduceIte, vcu0, vcu1, vcu2, vcu3, vcu4, vcu5, vcu6, vcu7, vcu8, vcu9, vcu10, vcu11, vcu12, vcu13, vcu14, vcu15, vcu16, vcu17, vcu18, vcu19, vcu20, vcu21, vcu22, ↓vcd0, ↓vcd1, ↓vcd2, ↓vcd3, h1, h7, h8, h9]
    refine fin_one Try.results75 ⟨?_, rfl⟩
    simp -implicitDefEqProofs (disch := omega) only [List.any_cons, List.any_nil, Nat.reduceEqDiff, List.map_cons, List.map_nil, Option.map_some, Option.map_none, List.nil_append, ↓reduceIte, vcu0, vcu1, vcu2, vcu3, vcu4, vcu5, vcu6, vcu7, vcu8, vcu9, vcu10, vcu11, vcu12, vcu13, vcu14, vcu15, vcu16, vcu17, vcu18, vcu19, vcu20, vcu21, vcu22, ↓vcd0, ↓vcd1, ↓vcd2, ↓vcd3]
    rw [hm]
end Go.Proofs.Ytgieeafdgdkkcaa
