/- What settings of the step network realise, by the reference. -/
import Derived.Test.YtgieeafdgdkkcaaXf
set_option linter.unusedSimpArgs false
set_option linter.unusedVariables false
namespace Go.Proofs.Ytgieeafdgdkkcaa
open Go Go.Abs Go.RowKit Go.Ban
variable {w0 : World}

def ROk (z : Int) (set : List Bool) : Prop := lgOf z ≠ 0 ∧ (set.length : Int) = stepV z
instance (z : Int) (set : List Bool) : Decidable (ROk z set) := by unfold ROk; infer_instance
def cOf (set : List Bool) (i : Nat) : Bool := set.getD i false
def runN (L lg : Nat) (set : List Bool) : List Int := tabI L fun k => pos L (cOf set) k lg
def runV (z : Int) (set : List Bool) : List Int := if ROk z set then runN z.toNat (lgOf z) set else []
theorem runV_ls {L lg : Nat} (h : Ls L lg) {set : List Bool} (hs : set.length = L / 2 * lg) : ROk L set ∧ runV L set = runN L lg set := by
  have h1 := lgOf_of h
  have h2 := h.le
  have hk : ROk (L : Int) set := ⟨by omega, by rw [stepV_ls h, hs]⟩
  refine ⟨hk, ?_⟩
  unfold runV; rw [if_pos hk, h1]; simp
theorem runV_no {z : Int} {set : List Bool} (h : ¬ ROk z set) : runV z set = [] := by unfold runV; rw [if_neg h]
theorem runN_length (L lg : Nat) (set : List Bool) : (runN L lg set).length = L := tabI_length _ _
theorem runV_length (z : Int) (set : List Bool) : (runV z set).length ≤ 8 := by
  by_cases h : ROk z set
  · obtain ⟨L, rfl, hL⟩ := lgOf_ls h.1
    have : runV (L : Int) set = runN L (lgOf L) set := by unfold runV; rw [if_pos h]; simp
    rw [this, runN_length]; exact hL.le.1
  · rw [runV_no h]; simp
theorem ROk.ls {z : Int} {set : List Bool} (h : ROk z set) : ∃ L lg : Nat, z = L ∧ lgOf z = lg ∧ Ls L lg ∧ set.length = L / 2 * lg ∧ runV z set = runN L lg set := by
  obtain ⟨L, rfl, hL⟩ := lgOf_ls h.1
  have h2 := h.2
  rw [stepV_ls hL] at h2
  have h3 : set.length = L / 2 * lgOf L := by omega
  exact ⟨L, _, rfl, rfl, hL, h3, (runV_ls hL h3).2⟩
theorem pos_idx {L lg : Nat} (h : Ls L lg) {s x : Nat} (hs : s < lg) (hx : x < L) : s * (L / 2) + x / 2 < L / 2 * lg ∧ s * L / 2 = s * (L / 2) := by
  rcases h with ⟨rfl, rfl⟩ | ⟨rfl, rfl⟩ | ⟨rfl, rfl⟩ <;> omega
theorem sw_true (x : Nat) : sw true x = fl x := rfl
theorem sw_false (x : Nat) : sw false x = x := rfl
theorem pos_succ (L : Nat) (c : Nat → Bool) (k s : Nat) : pos L c k (s + 1) = sw (c (s * (L / 2) + sh L (pos L c k s) / 2)) (sh L (pos L c k s)) := rfl

theorem specRun_at (σ : AHeap) (z : Int) (h o : Nat) (set : List Bool) (hv : BoolsAt σ h o set) (hl : set.length ≤ 1048576) :
    ACall Try.prog w0 43 [.int .i64 z, .slice (some ⟨h, o, none⟩) set.length 1] σ fun r σ' => Sub σ σ' ∧ OwnI σ σ' r (runV z set) := by
  refine acall_go mixed Try.func43 rfl good43 fun pr => ?_
  simp -implicitDefEqProofs (disch := omega) only [List.any_cons, List.any_nil, Nat.reduceEqDiff, List.map_cons, List.map_nil, Option.map_some, Option.map_none, List.nil_append, ↓reduceIte, vcu0, vcu1, vcu2, vcu3, vcu4, vcu5, vcu6, vcu7, vcu8, vcu9, vcu10, vcu11, vcu12, vcu13, vcu14, vcu15, vcu16, vcu17, vcu18, vcu19, vcu20, vcu21, vcu22, ↓vcd0, ↓vcd1, ↓vcd2, ↓vcd3]
  refine (l3Lines_at σ _).mono ?_
  rintro r _ ⟨rfl, rfl⟩
  rename_i σ
  by_cases hz : lgOf z = 0
  · have e : decide (lgOf z ≠ 0) = false := by simp [hz]
    rw [e, runV_no (fun hR : ROk z set => hR.1 hz)]
    simp -implicitDefEqProofs (disch := omega) only [List.any_cons, List.any_nil, Nat.reduceEqDiff, List.map_cons, List.map_nil, Option.map_some, Option.map_none, List.nil_append, ↓reduceIte, vcu0, vcu1, vcu2, vcu3, vcu4, vcu5, vcu6, vcu7, vcu8, vcu9, vcu10, vcu11, vcu12, vcu13, vcu14, vcu15, vcu16, vcu17, vcu18, vcu19, vcu20, vcu21, vcu22, ↓vcd0, ↓vcd1, ↓vcd2, ↓vcd3, opK_some, Bool.not_false]
    refine r_lit el30 (out := #[]) (by kernel_rfl) (by kernel_rfl) fun e0 τ n0 s0 v0 => ?_
    simp -implicitDefEqProofs (disch := omega) only [List.any_cons, List.any_nil, Nat.reduceEqDiff, List.map_cons, List.map_nil, Option.map_some, Option.map_none, List.nil_append, ↓reduceIte, vcu0, vcu1, vcu2, vcu3, vcu4, vcu5, vcu6, vcu7, vcu8, vcu9, vcu10, vcu11, vcu12, vcu13, vcu14, vcu15, vcu16, vcu17, vcu18, vcu19, vcu20, vcu21, vcu22, ↓vcd0, ↓vcd1, ↓vcd2, ↓vcd3]
    refine fin_one Try.results43 ⟨s0, .inr ⟨e0, ?_, v0, n0⟩⟩
    simp -implicitDefEqProofs (disch := omega) only [List.any_cons, List.any_nil, Nat.reduceEqDiff, List.map_cons, List.map_nil, Option.map_some, Option.map_none, List.nil_append, ↓reduceIte, vcu0, vcu1, vcu2, vcu3, vcu4, vcu5, vcu6, vcu7, vcu8, vcu9, vcu10, vcu11, vcu12, vcu13, vcu14, vcu15, vcu16, vcu17, vcu18, vcu19, vcu20, vcu21, vcu22, ↓vcd0, ↓vcd1, ↓vcd2, ↓vcd3]
    rfl
  have e : decide (lgOf z ≠ 0) = true := by simp [hz]
  rw [e]
  clear e
  simp -implicitDefEqProofs (disch := omega) only [List.any_cons, List.any_nil, Nat.reduceEqDiff, List.map_cons, List.map_nil, Option.map_some, Option.map_none, List.nil_append, ↓reduceIte, vcu0, vcu1, vcu2, vcu3, vcu4, vcu5, vcu6, vcu7, vcu8, vcu9, vcu10, vcu11, vcu12, vcu13, vcu14, vcu15, vcu16, vcu17, vcu18, vcu19, vcu20, vcu21, vcu22, ↓vcd0, ↓vcd1, ↓vcd2, ↓vcd3, opK_some, Bool.not_true]
  refine (specStepMany_at σ z).mono ?_
  rintro r _ ⟨rfl, rfl⟩
  rename_i σ
  by_cases hR : ROk z set
  case neg =>
    have hne : ¬ (set.length : Int) = stepV z := fun e => hR ⟨hz, e⟩
    rw [runV_no hR]
    simp -implicitDefEqProofs (disch := omega) only [List.any_cons, List.any_nil, Nat.reduceEqDiff, List.map_cons, List.map_nil, Option.map_some, Option.map_none, List.nil_append, ↓reduceIte, vcu0, vcu1, vcu2, vcu3, vcu4, vcu5, vcu6, vcu7, vcu8, vcu9, vcu10, vcu11, vcu12, vcu13, vcu14, vcu15, vcu16, vcu17, vcu18, vcu19, vcu20, vcu21, vcu22, ↓vcd0, ↓vcd1, ↓vcd2, ↓vcd3, opK_some]
    refine r_lit el30 (out := #[]) (by kernel_rfl) (by kernel_rfl) fun e0 τ n0 s0 v0 => ?_
    simp -implicitDefEqProofs (disch := omega) only [List.any_cons, List.any_nil, Nat.reduceEqDiff, List.map_cons, List.map_nil, Option.map_some, Option.map_none, List.nil_append, ↓reduceIte, vcu0, vcu1, vcu2, vcu3, vcu4, vcu5, vcu6, vcu7, vcu8, vcu9, vcu10, vcu11, vcu12, vcu13, vcu14, vcu15, vcu16, vcu17, vcu18, vcu19, vcu20, vcu21, vcu22, ↓vcd0, ↓vcd1, ↓vcd2, ↓vcd3]
    refine fin_one Try.results43 ⟨s0, .inr ⟨e0, ?_, v0, n0⟩⟩
    simp -implicitDefEqProofs (disch := omega) only [List.any_cons, List.any_nil, Nat.reduceEqDiff, List.map_cons, List.map_nil, Option.map_some, Option.map_none, List.nil_append, ↓reduceIte, vcu0, vcu1, vcu2, vcu3, vcu4, vcu5, vcu6, vcu7, vcu8, vcu9, vcu10, vcu11, vcu12, vcu13, vcu14, vcu15, vcu16, vcu17, vcu18, vcu19, vcu20, vcu21, vcu22, ↓vcd0, ↓vcd1, ↓vcd2, ↓vcd3]
    rfl
  have he := hR.2
  obtain ⟨L, lg, rfl, -, hL, hsl, hrv⟩ := hR.ls
  rw [hrv]
  have hle := hL.le
  simp -implicitDefEqProofs (disch := omega) only [List.any_cons, List.any_nil, Nat.reduceEqDiff, List.map_cons, List.map_nil, Option.map_some, Option.map_none, List.nil_append, ↓reduceIte, vcu0, vcu1, vcu2, vcu3, vcu4, vcu5, vcu6, vcu7, vcu8, vcu9, vcu10, vcu11, vcu12, vcu13, vcu14, vcu15, vcu16, vcu17, vcu18, vcu19, vcu20, vcu21, vcu22, ↓vcd0, ↓vcd1, ↓vcd2, ↓vcd3, opK_some, he, ne_eq, not_true_eq_false, decide_false]
  refine r_lit el30 (out := #[]) (by kernel_rfl) (by kernel_rfl) fun e0 τ n0 s0 v0 => ?_
  simp -implicitDefEqProofs (disch := omega) only [List.any_cons, List.any_nil, Nat.reduceEqDiff, List.map_cons, List.map_nil, Option.map_some, Option.map_none, List.nil_append, ↓reduceIte, vcu0, vcu1, vcu2, vcu3, vcu4, vcu5, vcu6, vcu7, vcu8, vcu9, vcu10, vcu11, vcu12, vcu13, vcu14, vcu15, vcu16, vcu17, vcu18, vcu19, vcu20, vcu21, vcu22, ↓vcd0, ↓vcd1, ↓vcd2, ↓vcd3]
  refine vc_loop_c mixed (by kernel_rfl) [0, 1] (fun m a τ => ∃ k : Nat, m + k = L ∧ a 6 = .int .i64 k ∧ OwnI σ τ (a 5) (tabI k fun k => pos L (cOf set) k lg) ∧ Sub σ τ ∧ (0 < k → True)) L ⟨0, by simp, rfl, .inr ⟨e0, by simp [fset, tabI], by simpa [tabI, Go.Abs.ints] using v0, n0⟩, s0, fun _ => trivial⟩ ?_
  rintro m a τ hc ⟨k, hk, h6, ho, hs, -⟩
  simp -implicitDefEqProofs (disch := omega) only [List.any_cons, List.any_nil, Nat.reduceEqDiff, List.map_cons, List.map_nil, Option.map_some, Option.map_none, List.nil_append, ↓reduceIte, vcu0, vcu1, vcu2, vcu3, vcu4, vcu5, vcu6, vcu7, vcu8, vcu9, vcu10, vcu11, vcu12, vcu13, vcu14, vcu15, vcu16, vcu17, vcu18, vcu19, vcu20, vcu21, vcu22, ↓vcd0, ↓vcd1, ↓vcd2, ↓vcd3, he] at hc
  obtain ⟨h0, h1, -⟩ := hc
  by_cases hlt : k < L
  · simp -implicitDefEqProofs (disch := omega) only [List.any_cons, List.any_nil, Nat.reduceEqDiff, List.map_cons, List.map_nil, Option.map_some, Option.map_none, List.nil_append, ↓reduceIte, vcu0, vcu1, vcu2, vcu3, vcu4, vcu5, vcu6, vcu7, vcu8, vcu9, vcu10, vcu11, vcu12, vcu13, vcu14, vcu15, vcu16, vcu17, vcu18, vcu19, vcu20, vcu21, vcu22, ↓vcd0, ↓vcd1, ↓vcd2, ↓vcd3, h0, h1, h6]
    refine vc_loop_c mixed (by kernel_rfl) [0, 1, 5, 6] (fun m a τ' => ∃ s : Nat, m + s = lg ∧ a 8 = .int .i64 s ∧ a 7 = .int .i64 (pos L (cOf set) k s : Nat) ∧ τ' = τ) lg ⟨0, by simp, rfl, rfl, rfl⟩ ?_
    rintro m2 a2 _ hc2 ⟨s, hs2, h8, h7, rfl⟩
    simp -implicitDefEqProofs (disch := omega) only [List.any_cons, List.any_nil, Nat.reduceEqDiff, List.map_cons, List.map_nil, Option.map_some, Option.map_none, List.nil_append, ↓reduceIte, vcu0, vcu1, vcu2, vcu3, vcu4, vcu5, vcu6, vcu7, vcu8, vcu9, vcu10, vcu11, vcu12, vcu13, vcu14, vcu15, vcu16, vcu17, vcu18, vcu19, vcu20, vcu21, vcu22, ↓vcd0, ↓vcd1, ↓vcd2, ↓vcd3, h0, h1, h6] at hc2
    obtain ⟨g0, g1, g5, g6, -⟩ := hc2
    rename_i τ
    have hlog := l3Log_at (w0 := w0) τ L lg hL
    by_cases hsl2 : s < lg
    · have hx := pos_lt hL (cOf set) hlt s
      have hX := sh_lt hL hx
      have hst := pos_succ L (cOf set) k s
      have e1 : 2 * (pos L (cOf set) k s : Int) % (L : Int) + 2 * (pos L (cOf set) k s : Int) / (L : Int) = ((sh L (pos L (cOf set) k s) : Nat) : Int) := by unfold sh; push_cast; rfl
      have e2 : 0 ≤ 2 * (pos L (cOf set) k s : Int) % (L : Int) ∧ 2 * (pos L (cOf set) k s : Int) % (L : Int) < L := ⟨Int.emod_nonneg _ (by omega), Int.emod_lt_of_pos _ (by omega)⟩
      have e3 : 0 ≤ 2 * (pos L (cOf set) k s : Int) / (L : Int) ∧ 2 * (pos L (cOf set) k s : Int) / (L : Int) ≤ 2 * (pos L (cOf set) k s : Int) := ⟨Int.ediv_nonneg (by omega) (by omega), Int.ediv_le_self _ (by omega)⟩
      generalize hxx : pos L (cOf set) k s = x at *
      generalize hXX : sh L x = X at *
      obtain ⟨i1, i2⟩ := pos_idx hL hsl2 hX
      have e4 : (s : Int) * (L : Int) / 2 = ((s * (L / 2) : Nat) : Int) := by rw [← i2]; push_cast; rfl
      have hsL : 0 ≤ (s : Int) * (L : Int) ∧ (s : Int) * (L : Int) ≤ 24 := by
        have h1 : s * L ≤ 3 * 8 := Nat.mul_le_mul (by omega) (by omega)
        have h2 : (s : Int) * (L : Int) = ((s * L : Nat) : Int) := by push_cast; rfl
        omega
      have e5 : ((s * (L / 2) : Nat) : Int) + (X : Int) / 2 = ((s * (L / 2) + X / 2 : Nat) : Int) := by omega
      have hld := hv.sub hs (s * (L / 2) + X / 2) (by omega)
      have hcc : set.getD (s * (L / 2) + X / 2) false = cOf set (s * (L / 2) + X / 2) := rfl
      rw [hcc] at hld
      generalize s * (L / 2) + X / 2 = I at *
      generalize hA : s * (L / 2) = A at *
      have hA2 : A ≤ 24 := by omega
      simp -implicitDefEqProofs (disch := omega) only [List.any_cons, List.any_nil, Nat.reduceEqDiff, List.map_cons, List.map_nil, Option.map_some, Option.map_none, List.nil_append, ↓reduceIte, vcu0, vcu1, vcu2, vcu3, vcu4, vcu5, vcu6, vcu7, vcu8, vcu9, vcu10, vcu11, vcu12, vcu13, vcu14, vcu15, vcu16, vcu17, vcu18, vcu19, vcu20, vcu21, vcu22, ↓vcd0, ↓vcd1, ↓vcd2, ↓vcd3, g0, g1, g5, g6, h7, h8]
      refine hlog.mono ?_
      rintro r _ ⟨rfl, rfl⟩
      rename_i τ
      cases hcb : cOf set I with
      | true =>
        rw [hcb, sw_true] at hst
        rw [hcb] at hld
        have e6 : (X : Int) / 2 * 2 + 1 - (X : Int) % 2 = ((fl X : Nat) : Int) := by unfold fl; omega
        simp -implicitDefEqProofs (disch := omega) only [List.any_cons, List.any_nil, Nat.reduceEqDiff, List.map_cons, List.map_nil, Option.map_some, Option.map_none, List.nil_append, ↓reduceIte, vcu0, vcu1, vcu2, vcu3, vcu4, vcu5, vcu6, vcu7, vcu8, vcu9, vcu10, vcu11, vcu12, vcu13, vcu14, vcu15, vcu16, vcu17, vcu18, vcu19, vcu20, vcu21, vcu22, ↓vcd0, ↓vcd1, ↓vcd2, ↓vcd3, opK_some, g0, g1, g5, g6, h7, h8, e1, e4, e5, hld, e6]
        exact ⟨⟨h0.symm, h1.symm, trivial, h6.symm, trivial⟩, m2 - 1, by omega, s + 1, by omega, by simp, by rw [hst], trivial⟩
      | false =>
        rw [hcb, sw_false] at hst
        rw [hcb] at hld
        simp -implicitDefEqProofs (disch := omega) only [List.any_cons, List.any_nil, Nat.reduceEqDiff, List.map_cons, List.map_nil, Option.map_some, Option.map_none, List.nil_append, ↓reduceIte, vcu0, vcu1, vcu2, vcu3, vcu4, vcu5, vcu6, vcu7, vcu8, vcu9, vcu10, vcu11, vcu12, vcu13, vcu14, vcu15, vcu16, vcu17, vcu18, vcu19, vcu20, vcu21, vcu22, ↓vcd0, ↓vcd1, ↓vcd2, ↓vcd3, opK_some, g0, g1, g5, g6, h7, h8, e1, e4, e5, hld]
        exact ⟨⟨h0.symm, h1.symm, trivial, h6.symm, trivial⟩, m2 - 1, by omega, s + 1, by omega, by simp, by rw [hst], trivial⟩
    · have es : s = lg := by omega
      subst es
      have hts := tabI_succ k (fun k => pos L (cOf set) k s)
      have hlen : (tabI k fun k => pos L (cOf set) k s).length = k := tabI_length _ _
      simp -implicitDefEqProofs (disch := omega) only [List.any_cons, List.any_nil, Nat.reduceEqDiff, List.map_cons, List.map_nil, Option.map_some, Option.map_none, List.nil_append, ↓reduceIte, vcu0, vcu1, vcu2, vcu3, vcu4, vcu5, vcu6, vcu7, vcu8, vcu9, vcu10, vcu11, vcu12, vcu13, vcu14, vcu15, vcu16, vcu17, vcu18, vcu19, vcu20, vcu21, vcu22, ↓vcd0, ↓vcd1, ↓vcd2, ↓vcd3, g0, g1, g5, g6, h7, h8]
      refine hlog.mono ?_
      rintro r _ ⟨rfl, rfl⟩
      rename_i τ
      simp -implicitDefEqProofs (disch := omega) only [List.any_cons, List.any_nil, Nat.reduceEqDiff, List.map_cons, List.map_nil, Option.map_some, Option.map_none, List.nil_append, ↓reduceIte, vcu0, vcu1, vcu2, vcu3, vcu4, vcu5, vcu6, vcu7, vcu8, vcu9, vcu10, vcu11, vcu12, vcu13, vcu14, vcu15, vcu16, vcu17, vcu18, vcu19, vcu20, vcu21, vcu22, ↓vcd0, ↓vcd1, ↓vcd2, ↓vcd3, opK_some, g0, g1, g5, g6, h7, h8]
      refine r_lit el30 (out := #[.int .i64 (pos L (cOf set) k s : Nat)]) (by simp -implicitDefEqProofs (disch := omega) only [List.any_cons, List.any_nil, Nat.reduceEqDiff, List.map_cons, List.map_nil, Option.map_some, Option.map_none, List.nil_append, ↓reduceIte, vcu0, vcu1, vcu2, vcu3, vcu4, vcu5, vcu6, vcu7, vcu8, vcu9, vcu10, vcu11, vcu12, vcu13, vcu14, vcu15, vcu16, vcu17, vcu18, vcu19, vcu20, vcu21, vcu22, ↓vcd0, ↓vcd1, ↓vcd2, ↓vcd3]; kernel_rfl) (by rfl) fun e τ1 n1 s1 v1 => ?_
      refine r_pushO (e := e) (o := 0) (m := 1) (ds := [(pos L (cOf set) k s : Int)]) el30 (by omega) sl30 (hs.trans s1) rfl (by simp -implicitDefEqProofs (disch := omega) only [List.any_cons, List.any_nil, Nat.reduceEqDiff, List.map_cons, List.map_nil, Option.map_some, Option.map_none, List.nil_append, ↓reduceIte, vcu0, vcu1, vcu2, vcu3, vcu4, vcu5, vcu6, vcu7, vcu8, vcu9, vcu10, vcu11, vcu12, vcu13, vcu14, vcu15, vcu16, vcu17, vcu18, vcu19, vcu20, vcu21, vcu22, ↓vcd0, ↓vcd1, ↓vcd2, ↓vcd3]; exact ho.sub s1) (by simp -implicitDefEqProofs (disch := omega) only [List.any_cons, List.any_nil, Nat.reduceEqDiff, List.map_cons, List.map_nil, Option.map_some, Option.map_none, List.nil_append, ↓reduceIte, vcu0, vcu1, vcu2, vcu3, vcu4, vcu5, vcu6, vcu7, vcu8, vcu9, vcu10, vcu11, vcu12, vcu13, vcu14, vcu15, vcu16, vcu17, vcu18, vcu19, vcu20, vcu21, vcu22, ↓vcd0, ↓vcd1, ↓vcd2, ↓vcd3]) (intsAt_own v1) rfl (by omega) fun g τ2 s2 n2 v2 => ?_
      rw [← hts] at v2
      simp -implicitDefEqProofs (disch := omega) only [List.any_cons, List.any_nil, Nat.reduceEqDiff, List.map_cons, List.map_nil, Option.map_some, Option.map_none, List.nil_append, ↓reduceIte, vcu0, vcu1, vcu2, vcu3, vcu4, vcu5, vcu6, vcu7, vcu8, vcu9, vcu10, vcu11, vcu12, vcu13, vcu14, vcu15, vcu16, vcu17, vcu18, vcu19, vcu20, vcu21, vcu22, ↓vcd0, ↓vcd1, ↓vcd2, ↓vcd3, g0, g1, g5, g6, h7, h8]
      refine ⟨⟨trivial, trivial, trivial⟩, m - 1, by omega, k + 1, by omega, by simp, .inr ⟨g, by rw [tabI_length, tabI_length], v2, n2⟩, s2, fun _ => trivial⟩
  · have e : k = L := by omega
    subst e
    simp -implicitDefEqProofs (disch := omega) only [List.any_cons, List.any_nil, Nat.reduceEqDiff, List.map_cons, List.map_nil, Option.map_some, Option.map_none, List.nil_append, ↓reduceIte, vcu0, vcu1, vcu2, vcu3, vcu4, vcu5, vcu6, vcu7, vcu8, vcu9, vcu10, vcu11, vcu12, vcu13, vcu14, vcu15, vcu16, vcu17, vcu18, vcu19, vcu20, vcu21, vcu22, ↓vcd0, ↓vcd1, ↓vcd2, ↓vcd3, h0, h1, h6]
    refine fin_one Try.results43 ⟨hs, ?_⟩
    simp -implicitDefEqProofs (disch := omega) only [List.any_cons, List.any_nil, Nat.reduceEqDiff, List.map_cons, List.map_nil, Option.map_some, Option.map_none, List.nil_append, ↓reduceIte, vcu0, vcu1, vcu2, vcu3, vcu4, vcu5, vcu6, vcu7, vcu8, vcu9, vcu10, vcu11, vcu12, vcu13, vcu14, vcu15, vcu16, vcu17, vcu18, vcu19, vcu20, vcu21, vcu22, ↓vcd0, ↓vcd1, ↓vcd2, ↓vcd3]
    exact ho

theorem shifted_at (σ : AHeap) (L lg x : Nat) (hL : Ls L lg) (hx : x < L) : ACall Try.prog w0 77 [.int .i64 L, .int .i64 x] σ fun r σ' => r = .int .i64 (sh L x : Nat) ∧ σ' = σ := by
  have hle := hL.le
  have h2 : L % 2 = 0 := by rcases hL with ⟨rfl, _⟩ | ⟨rfl, _⟩ | ⟨rfl, _⟩ <;> rfl
  refine acall_go mixed Try.func77 rfl good77 fun pr => ?_
  by_cases h : (x : Int) < (L : Int) / 2
  · have e : sh L x = 2 * x := by unfold sh; rw [Nat.mod_eq_of_lt (by omega), Nat.div_eq_of_lt (by omega)]; rfl
    simp -implicitDefEqProofs (disch := omega) only [List.any_cons, List.any_nil, Nat.reduceEqDiff, List.map_cons, List.map_nil, Option.map_some, Option.map_none, List.nil_append, ↓reduceIte, vcu0, vcu1, vcu2, vcu3, vcu4, vcu5, vcu6, vcu7, vcu8, vcu9, vcu10, vcu11, vcu12, vcu13, vcu14, vcu15, vcu16, vcu17, vcu18, vcu19, vcu20, vcu21, vcu22, ↓vcd0, ↓vcd1, ↓vcd2, ↓vcd3]
    refine fin_one Try.results77 ⟨?_, rfl⟩
    simp -implicitDefEqProofs (disch := omega) only [List.any_cons, List.any_nil, Nat.reduceEqDiff, List.map_cons, List.map_nil, Option.map_some, Option.map_none, List.nil_append, ↓reduceIte, vcu0, vcu1, vcu2, vcu3, vcu4, vcu5, vcu6, vcu7, vcu8, vcu9, vcu10, vcu11, vcu12, vcu13, vcu14, vcu15, vcu16, vcu17, vcu18, vcu19, vcu20, vcu21, vcu22, ↓vcd0, ↓vcd1, ↓vcd2, ↓vcd3]
    rw [e]; rfl
  · have e : sh L x = 2 * x - L + 1 := by unfold sh; rcases hL with ⟨rfl, _⟩ | ⟨rfl, _⟩ | ⟨rfl, _⟩ <;> omega
    simp -implicitDefEqProofs (disch := omega) only [List.any_cons, List.any_nil, Nat.reduceEqDiff, List.map_cons, List.map_nil, Option.map_some, Option.map_none, List.nil_append, ↓reduceIte, vcu0, vcu1, vcu2, vcu3, vcu4, vcu5, vcu6, vcu7, vcu8, vcu9, vcu10, vcu11, vcu12, vcu13, vcu14, vcu15, vcu16, vcu17, vcu18, vcu19, vcu20, vcu21, vcu22, ↓vcd0, ↓vcd1, ↓vcd2, ↓vcd3]
    refine fin_one Try.results77 ⟨?_, rfl⟩
    simp -implicitDefEqProofs (disch := omega) only [List.any_cons, List.any_nil, Nat.reduceEqDiff, List.map_cons, List.map_nil, Option.map_some, Option.map_none, List.nil_append, ↓reduceIte, vcu0, vcu1, vcu2, vcu3, vcu4, vcu5, vcu6, vcu7, vcu8, vcu9, vcu10, vcu11, vcu12, vcu13, vcu14, vcu15, vcu16, vcu17, vcu18, vcu19, vcu20, vcu21, vcu22, ↓vcd0, ↓vcd1, ↓vcd2, ↓vcd3]
    rw [e]; congr 1; omega
end Go.Proofs.Ytgieeafdgdkkcaa
