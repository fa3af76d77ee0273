/- FnNetRun answers true for every code. -/
import Derived.Test.YtnkpoflhdfchjaaNx
set_option linter.unusedSimpArgs false
set_option linter.unusedVariables false
namespace Go.Proofs.Ytnkpoflhdfchjaa
open Go Go.Abs Go.RowKit
variable {w0 : World}

def runV (lines : Int) (cs : List (Int × Int)) (xs : List Int) : List Int := if RunOk lines cs xs then runs cs xs else []
theorem runV_ok {lines : Int} {cs : List (Int × Int)} {xs : List Int} (h : RunOk lines cs xs) : runV lines cs xs = runs cs xs := by unfold runV; rw [if_pos h]
theorem runV_no {lines : Int} {cs : List (Int × Int)} {xs : List Int} (h : ¬ RunOk lines cs xs) : runV lines cs xs = [] := by unfold runV; rw [if_neg h]
theorem runV_length (lines : Int) (cs : List (Int × Int)) (xs : List Int) : (runV lines cs xs).length ≤ xs.length := by
  unfold runV; split
  · rw [runs_length]; exact Nat.le_refl _
  · simp
theorem implRun_calls (σ : AHeap) (lines : Int) (h o : Nat) (cs : List (Int × Int)) (u : Value) (xs : List Int) (hv : PairsAt σ h o cs) (hu : Ints .i64 σ u xs) (hl : cs.length ≤ 1048576) (hl2 : xs.length ≤ 1048576) (hf : Fits cs) (hr : InR lines) :
    ACall Try.prog w0 30 [.int .i64 lines, .slice (some ⟨h, o, none⟩) cs.length 2, u] σ fun r σ' => Sub σ σ' ∧ OwnI σ σ' r (runV lines cs xs) :=
  ACall.ints_arg (pre := [_, _]) (post := []) (by kernel_rfl) hu fun σ1 h2 o2 hs hg => (implRun_at σ1 lines h o cs h2 o2 xs (hv.sub hs) hg hl hl2 hf hr).mono fun r σ' ⟨a, b⟩ => ⟨hs.trans a, b.imp id fun ⟨g, c1, c2, c3⟩ => ⟨g, c1, c2, free_sub hs c3⟩⟩
theorem own_ints' {σ : AHeap} {g : Nat} {xs : List Int} (h : σ g = some ⟨ints .i64 xs, false⟩) : Ints .i64 σ (.slice (some ⟨g, 0, none⟩) xs.length 1) xs := .inr ⟨g, 0, rfl, intsAt_own h⟩
theorem ownI_len {β σ : AHeap} {v : Value} {xs : List Int} (h : OwnI β σ v xs) : alenV Try.prog 31 v = some (.int .i64 (xs.length : Int)) := by
  rcases h with ⟨rfl, rfl⟩ | ⟨g, rfl, -, -⟩
  · exact alenV_slice Try.underlying31
  · exact alenV_slice Try.underlying31

theorem law4 (σ : AHeap) (v : Value) (bs : List Int) (hv : Ints .u8 σ v bs) (hm : bs.length ≤ maxLen) (hw : ∀ z ∈ bs, (Lit.int .u8 z).wf = true) :
    ACall Try.prog w0 4 [v] σ fun r _ => r = .bool true := by
  unfold maxLen at hm
  refine ACall.ints_arg (pre := []) (by kernel_rfl) hv fun σ1 h o hs hg => ?_
  clear hv hs σ v
  have hb := bytes_of hw
  refine acall_go mixed Try.func4 rfl good4 fun pr => ?_
  by_cases hbig : 1048576 < bs.length
  · simp -implicitDefEqProofs (disch := omega) only [List.any_cons, List.any_nil, Nat.reduceEqDiff, List.map_cons, List.map_nil, Option.map_some, Option.map_none, List.nil_append, ↓reduceIte, vcu0, vcu1, vcu2, vcu3, vcu4, vcu5, vcu6, vcu7, vcu8, vcu9, vcu10, vcu11, vcu12, vcu13, vcu14, vcu15, vcu16, vcu17, vcu18, vcu19, vcu20, vcu21, vcu22, vcu23, vcu24, vcu25, vcu26, ↓vcd0, ↓vcd1, ↓vcd2, ↓vcd3]
    refine fin_one Try.results4 ?_
    simp -implicitDefEqProofs (disch := omega) only [List.any_cons, List.any_nil, Nat.reduceEqDiff, List.map_cons, List.map_nil, Option.map_some, Option.map_none, List.nil_append, ↓reduceIte, vcu0, vcu1, vcu2, vcu3, vcu4, vcu5, vcu6, vcu7, vcu8, vcu9, vcu10, vcu11, vcu12, vcu13, vcu14, vcu15, vcu16, vcu17, vcu18, vcu19, vcu20, vcu21, vcu22, vcu23, vcu24, vcu25, vcu26, ↓vcd0, ↓vcd1, ↓vcd2, ↓vcd3]
  have hl : bs.length ≤ 1048576 := by omega
  simp -implicitDefEqProofs (disch := omega) only [List.any_cons, List.any_nil, Nat.reduceEqDiff, List.map_cons, List.map_nil, Option.map_some, Option.map_none, List.nil_append, ↓reduceIte, vcu0, vcu1, vcu2, vcu3, vcu4, vcu5, vcu6, vcu7, vcu8, vcu9, vcu10, vcu11, vcu12, vcu13, vcu14, vcu15, vcu16, vcu17, vcu18, vcu19, vcu20, vcu21, vcu22, vcu23, vcu24, vcu25, vcu26, ↓vcd0, ↓vcd1, ↓vcd2, ↓vcd3]
  refine (drawNetRun_at σ1 h o bs hg hl hb).mono ?_
  rintro r τ ⟨lines, g2, net, q, list, rfl, hl1, hl2, hnl, hF, hg2, hs, hq, hll⟩
  have hR : InR lines := by unfold InR; omega
  simp -implicitDefEqProofs (disch := omega) only [List.any_cons, List.any_nil, Nat.reduceEqDiff, List.map_cons, List.map_nil, Option.map_some, Option.map_none, List.nil_append, ↓reduceIte, vcu0, vcu1, vcu2, vcu3, vcu4, vcu5, vcu6, vcu7, vcu8, vcu9, vcu10, vcu11, vcu12, vcu13, vcu14, vcu15, vcu16, vcu17, vcu18, vcu19, vcu20, vcu21, vcu22, vcu23, vcu24, vcu25, vcu26, ↓vcd0, ↓vcd1, ↓vcd2, ↓vcd3, opK_some, List.getElem?_toArray, List.getElem?_cons_zero, List.getElem?_cons_succ]
  refine (implRun_calls τ lines g2 0 net _ list (pairsAt_own hg2) (.inr ⟨q, 0, rfl, intsAt_own hq⟩) (by omega) (by omega) hF hR).mono ?_
  rintro x τ1 ⟨s1, hx⟩
  simp -implicitDefEqProofs (disch := omega) only [List.any_cons, List.any_nil, Nat.reduceEqDiff, List.map_cons, List.map_nil, Option.map_some, Option.map_none, List.nil_append, ↓reduceIte, vcu0, vcu1, vcu2, vcu3, vcu4, vcu5, vcu6, vcu7, vcu8, vcu9, vcu10, vcu11, vcu12, vcu13, vcu14, vcu15, vcu16, vcu17, vcu18, vcu19, vcu20, vcu21, vcu22, vcu23, vcu24, vcu25, vcu26, ↓vcd0, ↓vcd1, ↓vcd2, ↓vcd3, opK_some]
  refine (specRun_at τ1 lines g2 0 net q 0 list (pairsAt_own (s1 _ _ hg2)) (intsAt_own (s1 _ _ hq)) (by omega) (by omega) hF hR).mono ?_
  rintro r τ2 ⟨g3, zs, hzs, -, rfl, s2, v3⟩
  have hzs' : zs = runV lines net list := hzs
  subst hzs'
  clear hzs
  have hvl := runV_length lines net list
  have hx2 := hx.sub s2
  have hg22 := s2 _ _ (s1 _ _ hg2)
  have hq2 := s2 _ _ (s1 _ _ hq)
  clear hx hg2 hq s1 s2
  simp -implicitDefEqProofs (disch := omega) only [List.any_cons, List.any_nil, Nat.reduceEqDiff, List.map_cons, List.map_nil, Option.map_some, Option.map_none, List.nil_append, ↓reduceIte, vcu0, vcu1, vcu2, vcu3, vcu4, vcu5, vcu6, vcu7, vcu8, vcu9, vcu10, vcu11, vcu12, vcu13, vcu14, vcu15, vcu16, vcu17, vcu18, vcu19, vcu20, vcu21, vcu22, vcu23, vcu24, vcu25, vcu26, ↓vcd0, ↓vcd1, ↓vcd2, ↓vcd3, opK_some]
  refine (same_calls τ2 x _ _ _ hx2.ints (.inr ⟨g3, 0, rfl, intsAt_own v3⟩) (by omega) (by omega)).mono ?_
  rintro r _ ⟨rfl, rfl⟩
  rename_i B
  rw [decide_eq_true rfl]
  simp -implicitDefEqProofs (disch := omega) only [List.any_cons, List.any_nil, Nat.reduceEqDiff, List.map_cons, List.map_nil, Option.map_some, Option.map_none, List.nil_append, ↓reduceIte, vcu0, vcu1, vcu2, vcu3, vcu4, vcu5, vcu6, vcu7, vcu8, vcu9, vcu10, vcu11, vcu12, vcu13, vcu14, vcu15, vcu16, vcu17, vcu18, vcu19, vcu20, vcu21, vcu22, vcu23, vcu24, vcu25, vcu26, ↓vcd0, ↓vcd1, ↓vcd2, ↓vcd3, opK_some, Bool.not_true]
  refine (specNV_at B lines g2 0 net (pairsAt_own hg22) (by omega) hF hR).mono ?_
  rintro r _ ⟨rfl, rfl⟩
  rename_i B
  have hxl := ownI_len hx2
  by_cases hok : RunOk lines net list
  case neg =>
    rw [runV_no hok] at hx2 hxl
    by_cases hN : NV lines net
    · have hL : ¬ (list.length : Int) = lines := fun e => hok ⟨hN, e⟩
      rw [decide_eq_true hN]
      simp -implicitDefEqProofs (disch := omega) only [List.any_cons, List.any_nil, Nat.reduceEqDiff, List.map_cons, List.map_nil, Option.map_some, Option.map_none, List.nil_append, ↓reduceIte, vcu0, vcu1, vcu2, vcu3, vcu4, vcu5, vcu6, vcu7, vcu8, vcu9, vcu10, vcu11, vcu12, vcu13, vcu14, vcu15, vcu16, vcu17, vcu18, vcu19, vcu20, vcu21, vcu22, vcu23, vcu24, vcu25, vcu26, ↓vcd0, ↓vcd1, ↓vcd2, ↓vcd3, opK_some, Bool.not_true, hxl, List.length_nil, Int.natCast_zero, decide_true]
      refine (alive_at _).mono ?_
      rintro r _ ⟨rfl, rfl⟩
      simp -implicitDefEqProofs (disch := omega) only [List.any_cons, List.any_nil, Nat.reduceEqDiff, List.map_cons, List.map_nil, Option.map_some, Option.map_none, List.nil_append, ↓reduceIte, vcu0, vcu1, vcu2, vcu3, vcu4, vcu5, vcu6, vcu7, vcu8, vcu9, vcu10, vcu11, vcu12, vcu13, vcu14, vcu15, vcu16, vcu17, vcu18, vcu19, vcu20, vcu21, vcu22, vcu23, vcu24, vcu25, vcu26, ↓vcd0, ↓vcd1, ↓vcd2, ↓vcd3, opK_some]
      refine fin_one Try.results4 ?_
      simp -implicitDefEqProofs (disch := omega) only [List.any_cons, List.any_nil, Nat.reduceEqDiff, List.map_cons, List.map_nil, Option.map_some, Option.map_none, List.nil_append, ↓reduceIte, vcu0, vcu1, vcu2, vcu3, vcu4, vcu5, vcu6, vcu7, vcu8, vcu9, vcu10, vcu11, vcu12, vcu13, vcu14, vcu15, vcu16, vcu17, vcu18, vcu19, vcu20, vcu21, vcu22, vcu23, vcu24, vcu25, vcu26, ↓vcd0, ↓vcd1, ↓vcd2, ↓vcd3]
    · rw [decide_eq_false hN]
      simp -implicitDefEqProofs (disch := omega) only [List.any_cons, List.any_nil, Nat.reduceEqDiff, List.map_cons, List.map_nil, Option.map_some, Option.map_none, List.nil_append, ↓reduceIte, vcu0, vcu1, vcu2, vcu3, vcu4, vcu5, vcu6, vcu7, vcu8, vcu9, vcu10, vcu11, vcu12, vcu13, vcu14, vcu15, vcu16, vcu17, vcu18, vcu19, vcu20, vcu21, vcu22, vcu23, vcu24, vcu25, vcu26, ↓vcd0, ↓vcd1, ↓vcd2, ↓vcd3, opK_some, Bool.not_false, hxl, List.length_nil, Int.natCast_zero, decide_true]
      refine (alive_at _).mono ?_
      rintro r _ ⟨rfl, rfl⟩
      simp -implicitDefEqProofs (disch := omega) only [List.any_cons, List.any_nil, Nat.reduceEqDiff, List.map_cons, List.map_nil, Option.map_some, Option.map_none, List.nil_append, ↓reduceIte, vcu0, vcu1, vcu2, vcu3, vcu4, vcu5, vcu6, vcu7, vcu8, vcu9, vcu10, vcu11, vcu12, vcu13, vcu14, vcu15, vcu16, vcu17, vcu18, vcu19, vcu20, vcu21, vcu22, vcu23, vcu24, vcu25, vcu26, ↓vcd0, ↓vcd1, ↓vcd2, ↓vcd3, opK_some]
      refine fin_one Try.results4 ?_
      simp -implicitDefEqProofs (disch := omega) only [List.any_cons, List.any_nil, Nat.reduceEqDiff, List.map_cons, List.map_nil, Option.map_some, Option.map_none, List.nil_append, ↓reduceIte, vcu0, vcu1, vcu2, vcu3, vcu4, vcu5, vcu6, vcu7, vcu8, vcu9, vcu10, vcu11, vcu12, vcu13, vcu14, vcu15, vcu16, vcu17, vcu18, vcu19, vcu20, vcu21, vcu22, vcu23, vcu24, vcu25, vcu26, ↓vcd0, ↓vcd1, ↓vcd2, ↓vcd3]
  obtain ⟨hN, hL⟩ := hok
  have hok : RunOk lines net list := ⟨hN, hL⟩
  rw [runV_ok hok] at hx2 hxl
  rw [decide_eq_true hN]
  have hN1 := hN.1
  obtain ⟨n, hn⟩ : ∃ n : Nat, list.length = n := ⟨_, rfl⟩
  rw [hn] at hL
  subst hL
  simp -implicitDefEqProofs (disch := omega) only [List.any_cons, List.any_nil, Nat.reduceEqDiff, List.map_cons, List.map_nil, Option.map_some, Option.map_none, List.nil_append, ↓reduceIte, vcu0, vcu1, vcu2, vcu3, vcu4, vcu5, vcu6, vcu7, vcu8, vcu9, vcu10, vcu11, vcu12, vcu13, vcu14, vcu15, vcu16, vcu17, vcu18, vcu19, vcu20, vcu21, vcu22, vcu23, vcu24, vcu25, vcu26, ↓vcd0, ↓vcd1, ↓vcd2, ↓vcd3, opK_some, Bool.not_true, hn]
  refine vc_loop_c mixed (by kernel_rfl) [3, 4, 5, 6] (fun m a σ' => ∃ z : Int, m = (17 - z).toNat ∧ a 7 = .int .i64 z ∧ -6 ≤ z ∧ z ≤ 17 ∧ σ' = B) 23 ⟨-6, by simp, rfl, by omega, by omega, rfl⟩ ?_
  rintro m a _ hc ⟨z, rfl, h7, hz1, hz2, rfl⟩
  simp -implicitDefEqProofs (disch := omega) only [List.any_cons, List.any_nil, Nat.reduceEqDiff, List.map_cons, List.map_nil, Option.map_some, Option.map_none, List.nil_append, ↓reduceIte, vcu0, vcu1, vcu2, vcu3, vcu4, vcu5, vcu6, vcu7, vcu8, vcu9, vcu10, vcu11, vcu12, vcu13, vcu14, vcu15, vcu16, vcu17, vcu18, vcu19, vcu20, vcu21, vcu22, vcu23, vcu24, vcu25, vcu26, ↓vcd0, ↓vcd1, ↓vcd2, ↓vcd3, hn] at hc
  obtain ⟨h3, h4, h5, h6, -⟩ := hc
  rename_i B
  by_cases hlt : z ≤ 16
  · simp -implicitDefEqProofs (disch := omega) only [List.any_cons, List.any_nil, Nat.reduceEqDiff, List.map_cons, List.map_nil, Option.map_some, Option.map_none, List.nil_append, ↓reduceIte, vcu0, vcu1, vcu2, vcu3, vcu4, vcu5, vcu6, vcu7, vcu8, vcu9, vcu10, vcu11, vcu12, vcu13, vcu14, vcu15, vcu16, vcu17, vcu18, vcu19, vcu20, vcu21, vcu22, vcu23, vcu24, vcu25, vcu26, ↓vcd0, ↓vcd1, ↓vcd2, ↓vcd3, h3, h4, h5, h6, h7]
    refine (count_calls B x _ z hx2.ints (by rw [runs_length]; omega)).mono ?_
    rintro r _ ⟨rfl, rfl⟩
    rename_i B
    simp -implicitDefEqProofs (disch := omega) only [List.any_cons, List.any_nil, Nat.reduceEqDiff, List.map_cons, List.map_nil, Option.map_some, Option.map_none, List.nil_append, ↓reduceIte, vcu0, vcu1, vcu2, vcu3, vcu4, vcu5, vcu6, vcu7, vcu8, vcu9, vcu10, vcu11, vcu12, vcu13, vcu14, vcu15, vcu16, vcu17, vcu18, vcu19, vcu20, vcu21, vcu22, vcu23, vcu24, vcu25, vcu26, ↓vcd0, ↓vcd1, ↓vcd2, ↓vcd3, opK_some, h5, h7]
    have hc := count_at (w0 := w0) B q 0 list z (intsAt_own hq2) (by omega)
    rw [hn] at hc
    refine hc.mono ?_
    rintro r _ ⟨rfl, rfl⟩
    rw [runs_count net n list z hN.2 (by omega)]
    simp -implicitDefEqProofs (disch := omega) only [List.any_cons, List.any_nil, Nat.reduceEqDiff, List.map_cons, List.map_nil, Option.map_some, Option.map_none, List.nil_append, ↓reduceIte, vcu0, vcu1, vcu2, vcu3, vcu4, vcu5, vcu6, vcu7, vcu8, vcu9, vcu10, vcu11, vcu12, vcu13, vcu14, vcu15, vcu16, vcu17, vcu18, vcu19, vcu20, vcu21, vcu22, vcu23, vcu24, vcu25, vcu26, ↓vcd0, ↓vcd1, ↓vcd2, ↓vcd3, opK_some, h3, h4, h5, h6, h7, hn, ne_eq, not_true_eq_false, decide_false]
    exact ⟨⟨trivial, trivial, trivial, trivial, trivial⟩, (17 - (z + 1)).toNat, by omega, z + 1, rfl, rfl, by omega, by omega, trivial⟩
  · simp -implicitDefEqProofs (disch := omega) only [List.any_cons, List.any_nil, Nat.reduceEqDiff, List.map_cons, List.map_nil, Option.map_some, Option.map_none, List.nil_append, ↓reduceIte, vcu0, vcu1, vcu2, vcu3, vcu4, vcu5, vcu6, vcu7, vcu8, vcu9, vcu10, vcu11, vcu12, vcu13, vcu14, vcu15, vcu16, vcu17, vcu18, vcu19, vcu20, vcu21, vcu22, vcu23, vcu24, vcu25, vcu26, ↓vcd0, ↓vcd1, ↓vcd2, ↓vcd3, h3, h4, h5, h6, h7]
    refine r_lit el31 (out := #[]) (by kernel_rfl) (by kernel_rfl) fun e0 τ2 n0 s0 v0 => ?_
    simp -implicitDefEqProofs (disch := omega) only [List.any_cons, List.any_nil, Nat.reduceEqDiff, List.map_cons, List.map_nil, Option.map_some, Option.map_none, List.nil_append, ↓reduceIte, vcu0, vcu1, vcu2, vcu3, vcu4, vcu5, vcu6, vcu7, vcu8, vcu9, vcu10, vcu11, vcu12, vcu13, vcu14, vcu15, vcu16, vcu17, vcu18, vcu19, vcu20, vcu21, vcu22, vcu23, vcu24, vcu25, vcu26, ↓vcd0, ↓vcd1, ↓vcd2, ↓vcd3, h3, h4, h5, h6]
    refine vc_loop_c mixed (by kernel_rfl) [3, 4, 5, 6] (fun m a τ => ∃ (k q3 : Nat), m + k = n ∧ a 9 = .int .i64 k ∧ a 8 = .slice (some ⟨q3, 0, none⟩) k 1 ∧ Sub B τ ∧ τ q3 = some ⟨ints .i64 (upTo k), false⟩ ∧ B q3 = none) n ⟨0, e0, by omega, rfl, rfl, s0, v0, n0⟩ ?_
    rintro m a τ hc ⟨k, q3, hk, h9, h8, hsb, hq3, hn3⟩
    simp -implicitDefEqProofs (disch := omega) only [List.any_cons, List.any_nil, Nat.reduceEqDiff, List.map_cons, List.map_nil, Option.map_some, Option.map_none, List.nil_append, ↓reduceIte, vcu0, vcu1, vcu2, vcu3, vcu4, vcu5, vcu6, vcu7, vcu8, vcu9, vcu10, vcu11, vcu12, vcu13, vcu14, vcu15, vcu16, vcu17, vcu18, vcu19, vcu20, vcu21, vcu22, vcu23, vcu24, vcu25, vcu26, ↓vcd0, ↓vcd1, ↓vcd2, ↓vcd3, h3, h4, h5, h6] at hc
    obtain ⟨h3', h4', h5', h6', -⟩ := hc
    by_cases hkn : k < n
    · simp -implicitDefEqProofs (disch := omega) only [List.any_cons, List.any_nil, Nat.reduceEqDiff, List.map_cons, List.map_nil, Option.map_some, Option.map_none, List.nil_append, ↓reduceIte, vcu0, vcu1, vcu2, vcu3, vcu4, vcu5, vcu6, vcu7, vcu8, vcu9, vcu10, vcu11, vcu12, vcu13, vcu14, vcu15, vcu16, vcu17, vcu18, vcu19, vcu20, vcu21, vcu22, vcu23, vcu24, vcu25, vcu26, ↓vcd0, ↓vcd1, ↓vcd2, ↓vcd3, h3', h8, h9]
      refine r_lit el31 (out := #[.int .i64 k]) (by simp -implicitDefEqProofs (disch := omega) only [List.any_cons, List.any_nil, Nat.reduceEqDiff, List.map_cons, List.map_nil, Option.map_some, Option.map_none, List.nil_append, ↓reduceIte, vcu0, vcu1, vcu2, vcu3, vcu4, vcu5, vcu6, vcu7, vcu8, vcu9, vcu10, vcu11, vcu12, vcu13, vcu14, vcu15, vcu16, vcu17, vcu18, vcu19, vcu20, vcu21, vcu22, vcu23, vcu24, vcu25, vcu26, ↓vcd0, ↓vcd1, ↓vcd2, ↓vcd3, h9]; kernel_rfl) (by rfl) fun e τ4 n4 s4 v4 => ?_
      refine r_pushI (g := q3) (e := e) (o := 0) (k := .i64) (xs := upTo k) (ys := [(k : Int)]) (m := 1) (len := k) el31 (by omega) sl31 (by simp -implicitDefEqProofs (disch := omega) only [List.any_cons, List.any_nil, Nat.reduceEqDiff, List.map_cons, List.map_nil, Option.map_some, Option.map_none, List.nil_append, ↓reduceIte, vcu0, vcu1, vcu2, vcu3, vcu4, vcu5, vcu6, vcu7, vcu8, vcu9, vcu10, vcu11, vcu12, vcu13, vcu14, vcu15, vcu16, vcu17, vcu18, vcu19, vcu20, vcu21, vcu22, vcu23, vcu24, vcu25, vcu26, ↓vcd0, ↓vcd1, ↓vcd2, ↓vcd3, h8]) (s4 _ _ hq3) (upTo_length k) (by simp -implicitDefEqProofs (disch := omega) only [List.any_cons, List.any_nil, Nat.reduceEqDiff, List.map_cons, List.map_nil, Option.map_some, Option.map_none, List.nil_append, ↓reduceIte, vcu0, vcu1, vcu2, vcu3, vcu4, vcu5, vcu6, vcu7, vcu8, vcu9, vcu10, vcu11, vcu12, vcu13, vcu14, vcu15, vcu16, vcu17, vcu18, vcu19, vcu20, vcu21, vcu22, vcu23, vcu24, vcu25, vcu26, ↓vcd0, ↓vcd1, ↓vcd2, ↓vcd3]) (intsAt_own v4) rfl (by omega) fun q5 τ5 n5 k5 v5 => ?_
      rw [← upTo_succ] at v5
      have hs5 : Sub B τ5 := k5.sub (hsb.trans s4) hn3
      have hn5 : B q5 = none := free_sub (hsb.trans s4) n5
      simp -implicitDefEqProofs (disch := omega) only [List.any_cons, List.any_nil, Nat.reduceEqDiff, List.map_cons, List.map_nil, Option.map_some, Option.map_none, List.nil_append, ↓reduceIte, vcu0, vcu1, vcu2, vcu3, vcu4, vcu5, vcu6, vcu7, vcu8, vcu9, vcu10, vcu11, vcu12, vcu13, vcu14, vcu15, vcu16, vcu17, vcu18, vcu19, vcu20, vcu21, vcu22, vcu23, vcu24, vcu25, vcu26, ↓vcd0, ↓vcd1, ↓vcd2, ↓vcd3, h3', h4', h5', h6', h9]
      exact ⟨⟨by first | trivial | exact h3.symm, by first | trivial | exact h4.symm, by first | trivial | exact h5.symm, by first | trivial | exact h6.symm, trivial⟩, m - 1, by omega, k + 1, q5, by omega, by simp, rfl, hs5, v5, hn5⟩
    · have e : n = k := by omega
      subst e
      simp -implicitDefEqProofs (disch := omega) only [List.any_cons, List.any_nil, Nat.reduceEqDiff, List.map_cons, List.map_nil, Option.map_some, Option.map_none, List.nil_append, ↓reduceIte, vcu0, vcu1, vcu2, vcu3, vcu4, vcu5, vcu6, vcu7, vcu8, vcu9, vcu10, vcu11, vcu12, vcu13, vcu14, vcu15, vcu16, vcu17, vcu18, vcu19, vcu20, vcu21, vcu22, vcu23, vcu24, vcu25, vcu26, ↓vcd0, ↓vcd1, ↓vcd2, ↓vcd3, h3', h4', h8, h9]
      have eh : ((net.length : Int) / 2).toNat = net.length / 2 := by omega
      generalize hhf : net.length / 2 = hf at eh
      have hfl : hf ≤ net.length := by omega
      have hp1 := pairsAt_take (pairsAt_own (hsb _ _ hg22)) hf
      have hp2 := pairsAt_drop (pairsAt_own (hsb _ _ hg22)) hf
      refine region_tree mixed (quiets [0, 1, 2, 4] (.one 3 (.one 5 (.one 6 (quiets [7, 8, 9, 11, 12, 13, 15, 18, 10, 14] (.one 16 (.one 17 (.one 19 (.one 20 (.one 21 .stop)))))))))) [] (by kernel_rfl) (by kernel_rfl) (fun p hp => absurd hp (by simp)) ?_
      refine tree_quiets (fun _ => none) _ _ _ (fun _ _ _ _ => fun x ob e => by cases e) (by kernel_rfl) (by kernel_rfl) ?_
      simp -implicitDefEqProofs (disch := omega) only [List.any_cons, List.any_nil, Nat.reduceEqDiff, List.map_cons, List.map_nil, Option.map_some, Option.map_none, List.nil_append, ↓reduceIte, vcu0, vcu1, vcu2, vcu3, vcu4, vcu5, vcu6, vcu7, vcu8, vcu9, vcu10, vcu11, vcu12, vcu13, vcu14, vcu15, vcu16, vcu17, vcu18, vcu19, vcu20, vcu21, vcu22, vcu23, vcu24, vcu25, vcu26, ↓vcd0, ↓vcd1, ↓vcd2, ↓vcd3, pickOps_nil, pickOps_cons, pickO_some, List.getElem?_cons_succ, List.getElem?_cons_zero, h3', h4', h8]
      refine tree_one rfl ?_
      simp -implicitDefEqProofs (disch := omega) only [List.any_cons, List.any_nil, Nat.reduceEqDiff, List.map_cons, List.map_nil, Option.map_some, Option.map_none, List.nil_append, ↓reduceIte, vcu0, vcu1, vcu2, vcu3, vcu4, vcu5, vcu6, vcu7, vcu8, vcu9, vcu10, vcu11, vcu12, vcu13, vcu14, vcu15, vcu16, vcu17, vcu18, vcu19, vcu20, vcu21, vcu22, vcu23, vcu24, vcu25, vcu26, ↓vcd0, ↓vcd1, ↓vcd2, ↓vcd3]
      have hU : ∀ τ', Sub τ τ' → Ints .i64 τ' (.slice (some ⟨q3, 0, none⟩) n 1) (upTo n) := fun τ' ht => by
        have := own_ints' (ht _ _ hq3)
        rwa [upTo_length] at this
      refine (implRun_calls τ n g2 0 net _ (upTo n) (pairsAt_own (hsb _ _ hg22)) (hU τ (Sub.refl _)) (by omega) (by rw [upTo_length]; omega) hF hR).mono ?_
      rintro y τ6 ⟨s6, hy⟩
      rw [runV_ok (show RunOk n net (upTo n) from ⟨hN, by rw [upTo_length]⟩), runs_upTo net n hN.2] at hy
      simp -implicitDefEqProofs (disch := omega) only [List.any_cons, List.any_nil, Nat.reduceEqDiff, List.map_cons, List.map_nil, Option.map_some, Option.map_none, List.nil_append, ↓reduceIte, vcu0, vcu1, vcu2, vcu3, vcu4, vcu5, vcu6, vcu7, vcu8, vcu9, vcu10, vcu11, vcu12, vcu13, vcu14, vcu15, vcu16, vcu17, vcu18, vcu19, vcu20, vcu21, vcu22, vcu23, vcu24, vcu25, vcu26, ↓vcd0, ↓vcd1, ↓vcd2, ↓vcd3, opK_some]
      refine ⟨keep_of rfl (fun p hp => absurd hp (by simp)), tree_one rfl ?_⟩
      simp -implicitDefEqProofs (disch := omega) only [List.any_cons, List.any_nil, Nat.reduceEqDiff, List.map_cons, List.map_nil, Option.map_some, Option.map_none, List.nil_append, ↓reduceIte, vcu0, vcu1, vcu2, vcu3, vcu4, vcu5, vcu6, vcu7, vcu8, vcu9, vcu10, vcu11, vcu12, vcu13, vcu14, vcu15, vcu16, vcu17, vcu18, vcu19, vcu20, vcu21, vcu22, vcu23, vcu24, vcu25, vcu26, ↓vcd0, ↓vcd1, ↓vcd2, ↓vcd3]
      refine (same_calls τ6 y _ _ _ hy.ints (hU τ6 s6) (by rw [upTo_length]; omega) (by rw [upTo_length]; omega)).mono ?_
      rintro r _ ⟨rfl, rfl⟩
      rename_i τ6
      rw [decide_eq_true rfl]
      simp -implicitDefEqProofs (disch := omega) only [List.any_cons, List.any_nil, Nat.reduceEqDiff, List.map_cons, List.map_nil, Option.map_some, Option.map_none, List.nil_append, ↓reduceIte, vcu0, vcu1, vcu2, vcu3, vcu4, vcu5, vcu6, vcu7, vcu8, vcu9, vcu10, vcu11, vcu12, vcu13, vcu14, vcu15, vcu16, vcu17, vcu18, vcu19, vcu20, vcu21, vcu22, vcu23, vcu24, vcu25, vcu26, ↓vcd0, ↓vcd1, ↓vcd2, ↓vcd3, opK_some]
      refine ⟨.inl rfl, tree_one rfl ?_⟩
      simp -implicitDefEqProofs (disch := omega) only [List.any_cons, List.any_nil, Nat.reduceEqDiff, List.map_cons, List.map_nil, Option.map_some, Option.map_none, List.nil_append, ↓reduceIte, vcu0, vcu1, vcu2, vcu3, vcu4, vcu5, vcu6, vcu7, vcu8, vcu9, vcu10, vcu11, vcu12, vcu13, vcu14, vcu15, vcu16, vcu17, vcu18, vcu19, vcu20, vcu21, vcu22, vcu23, vcu24, vcu25, vcu26, ↓vcd0, ↓vcd1, ↓vcd2, ↓vcd3]
      refine ⟨.inl rfl, ?_⟩
      refine tree_quiets (fun _ => none) _ _ _ (fun _ _ _ _ => fun x ob e => by cases e) (by kernel_rfl) (by kernel_rfl) ?_
      simp -implicitDefEqProofs (disch := omega) only [List.any_cons, List.any_nil, Nat.reduceEqDiff, List.map_cons, List.map_nil, Option.map_some, Option.map_none, List.nil_append, ↓reduceIte, vcu0, vcu1, vcu2, vcu3, vcu4, vcu5, vcu6, vcu7, vcu8, vcu9, vcu10, vcu11, vcu12, vcu13, vcu14, vcu15, vcu16, vcu17, vcu18, vcu19, vcu20, vcu21, vcu22, vcu23, vcu24, vcu25, vcu26, ↓vcd0, ↓vcd1, ↓vcd2, ↓vcd3, pickOps_nil, pickOps_cons, pickO_some, List.getElem?_cons_succ, List.getElem?_cons_zero, h3', h4', h5', h6', h8, eh]
      refine tree_one rfl ?_
      simp -implicitDefEqProofs (disch := omega) only [List.any_cons, List.any_nil, Nat.reduceEqDiff, List.map_cons, List.map_nil, Option.map_some, Option.map_none, List.nil_append, ↓reduceIte, vcu0, vcu1, vcu2, vcu3, vcu4, vcu5, vcu6, vcu7, vcu8, vcu9, vcu10, vcu11, vcu12, vcu13, vcu14, vcu15, vcu16, vcu17, vcu18, vcu19, vcu20, vcu21, vcu22, vcu23, vcu24, vcu25, vcu26, ↓vcd0, ↓vcd1, ↓vcd2, ↓vcd3]
      have hc1 := implRun_calls (w0 := w0) τ6 n g2 0 (net.take hf) (.slice (some ⟨q, 0, none⟩) n 1) list (hp1.sub s6) (by have := own_ints' (s6 _ _ (hsb _ _ hq2)); rwa [hn] at this) (by simp; omega) (by omega) (fun c hc => hF c (List.mem_of_mem_take hc)) hR
      rw [List.length_take, Nat.min_eq_left hfl, runV_ok (show RunOk n (net.take hf) list from ⟨⟨⟨hN1.1, hN1.2.1, by have := hN1.2.2; simp; omega⟩, fun c hc => hN.2 c (List.mem_of_mem_take hc)⟩, by omega⟩)] at hc1
      refine hc1.mono ?_
      rintro y2 τ7 ⟨s7, hy2⟩
      simp -implicitDefEqProofs (disch := omega) only [List.any_cons, List.any_nil, Nat.reduceEqDiff, List.map_cons, List.map_nil, Option.map_some, Option.map_none, List.nil_append, ↓reduceIte, vcu0, vcu1, vcu2, vcu3, vcu4, vcu5, vcu6, vcu7, vcu8, vcu9, vcu10, vcu11, vcu12, vcu13, vcu14, vcu15, vcu16, vcu17, vcu18, vcu19, vcu20, vcu21, vcu22, vcu23, vcu24, vcu25, vcu26, ↓vcd0, ↓vcd1, ↓vcd2, ↓vcd3, opK_some]
      refine ⟨keep_of rfl (fun p hp => absurd hp (by simp)), tree_one rfl ?_⟩
      simp -implicitDefEqProofs (disch := omega) only [List.any_cons, List.any_nil, Nat.reduceEqDiff, List.map_cons, List.map_nil, Option.map_some, Option.map_none, List.nil_append, ↓reduceIte, vcu0, vcu1, vcu2, vcu3, vcu4, vcu5, vcu6, vcu7, vcu8, vcu9, vcu10, vcu11, vcu12, vcu13, vcu14, vcu15, vcu16, vcu17, vcu18, vcu19, vcu20, vcu21, vcu22, vcu23, vcu24, vcu25, vcu26, ↓vcd0, ↓vcd1, ↓vcd2, ↓vcd3]
      have hc2 := implRun_calls (w0 := w0) τ7 n g2 (0 + hf * 2) (net.drop hf) y2 (runs (net.take hf) list) ((hp2.sub s6).sub s7) hy2.ints (by simp; omega) (by rw [runs_length]; omega) (fun c hc => hF c (List.mem_of_mem_drop hc)) hR
      rw [List.length_drop, runV_ok (show RunOk n (net.drop hf) (runs (net.take hf) list) from ⟨⟨⟨hN1.1, hN1.2.1, by have := hN1.2.2; simp; omega⟩, fun c hc => hN.2 c (List.mem_of_mem_drop hc)⟩, by rw [runs_length]; omega⟩), runs_parts, List.take_append_drop] at hc2
      refine hc2.mono ?_
      rintro y3 τ8 ⟨s8, hy3⟩
      simp -implicitDefEqProofs (disch := omega) only [List.any_cons, List.any_nil, Nat.reduceEqDiff, List.map_cons, List.map_nil, Option.map_some, Option.map_none, List.nil_append, ↓reduceIte, vcu0, vcu1, vcu2, vcu3, vcu4, vcu5, vcu6, vcu7, vcu8, vcu9, vcu10, vcu11, vcu12, vcu13, vcu14, vcu15, vcu16, vcu17, vcu18, vcu19, vcu20, vcu21, vcu22, vcu23, vcu24, vcu25, vcu26, ↓vcd0, ↓vcd1, ↓vcd2, ↓vcd3, opK_some]
      refine ⟨keep_of rfl (fun p hp => absurd hp (by simp)), tree_one rfl ?_⟩
      simp -implicitDefEqProofs (disch := omega) only [List.any_cons, List.any_nil, Nat.reduceEqDiff, List.map_cons, List.map_nil, Option.map_some, Option.map_none, List.nil_append, ↓reduceIte, vcu0, vcu1, vcu2, vcu3, vcu4, vcu5, vcu6, vcu7, vcu8, vcu9, vcu10, vcu11, vcu12, vcu13, vcu14, vcu15, vcu16, vcu17, vcu18, vcu19, vcu20, vcu21, vcu22, vcu23, vcu24, vcu25, vcu26, ↓vcd0, ↓vcd1, ↓vcd2, ↓vcd3]
      refine (same_calls τ8 y3 x _ _ hy3.ints (hx2.ints.sub (((hsb.trans s6).trans s7).trans s8)) (by rw [runs_length]; omega) (by rw [runs_length]; omega)).mono ?_
      rintro r _ ⟨rfl, rfl⟩
      rw [decide_eq_true rfl]
      simp -implicitDefEqProofs (disch := omega) only [List.any_cons, List.any_nil, Nat.reduceEqDiff, List.map_cons, List.map_nil, Option.map_some, Option.map_none, List.nil_append, ↓reduceIte, vcu0, vcu1, vcu2, vcu3, vcu4, vcu5, vcu6, vcu7, vcu8, vcu9, vcu10, vcu11, vcu12, vcu13, vcu14, vcu15, vcu16, vcu17, vcu18, vcu19, vcu20, vcu21, vcu22, vcu23, vcu24, vcu25, vcu26, ↓vcd0, ↓vcd1, ↓vcd2, ↓vcd3, opK_some]
      refine ⟨.inl rfl, tree_one rfl ?_⟩
      simp -implicitDefEqProofs (disch := omega) only [List.any_cons, List.any_nil, Nat.reduceEqDiff, List.map_cons, List.map_nil, Option.map_some, Option.map_none, List.nil_append, ↓reduceIte, vcu0, vcu1, vcu2, vcu3, vcu4, vcu5, vcu6, vcu7, vcu8, vcu9, vcu10, vcu11, vcu12, vcu13, vcu14, vcu15, vcu16, vcu17, vcu18, vcu19, vcu20, vcu21, vcu22, vcu23, vcu24, vcu25, vcu26, ↓vcd0, ↓vcd1, ↓vcd2, ↓vcd3]
      refine ⟨.inl rfl, tree_one rfl ?_⟩
      simp -implicitDefEqProofs (disch := omega) only [List.any_cons, List.any_nil, Nat.reduceEqDiff, List.map_cons, List.map_nil, Option.map_some, Option.map_none, List.nil_append, ↓reduceIte, vcu0, vcu1, vcu2, vcu3, vcu4, vcu5, vcu6, vcu7, vcu8, vcu9, vcu10, vcu11, vcu12, vcu13, vcu14, vcu15, vcu16, vcu17, vcu18, vcu19, vcu20, vcu21, vcu22, vcu23, vcu24, vcu25, vcu26, ↓vcd0, ↓vcd1, ↓vcd2, ↓vcd3]
      refine ⟨.inl rfl, tree_stop ?_⟩
      simp -implicitDefEqProofs (disch := omega) only [List.any_cons, List.any_nil, Nat.reduceEqDiff, List.map_cons, List.map_nil, Option.map_some, Option.map_none, List.nil_append, ↓reduceIte, vcu0, vcu1, vcu2, vcu3, vcu4, vcu5, vcu6, vcu7, vcu8, vcu9, vcu10, vcu11, vcu12, vcu13, vcu14, vcu15, vcu16, vcu17, vcu18, vcu19, vcu20, vcu21, vcu22, vcu23, vcu24, vcu25, vcu26, ↓vcd0, ↓vcd1, ↓vcd2, ↓vcd3]
      refine fin_one Try.results4 ?_
      simp -implicitDefEqProofs (disch := omega) only [List.any_cons, List.any_nil, Nat.reduceEqDiff, List.map_cons, List.map_nil, Option.map_some, Option.map_none, List.nil_append, ↓reduceIte, vcu0, vcu1, vcu2, vcu3, vcu4, vcu5, vcu6, vcu7, vcu8, vcu9, vcu10, vcu11, vcu12, vcu13, vcu14, vcu15, vcu16, vcu17, vcu18, vcu19, vcu20, vcu21, vcu22, vcu23, vcu24, vcu25, vcu26, ↓vcd0, ↓vcd1, ↓vcd2, ↓vcd3]

open Go.ChangeShapes Go.WideShapes Go.ChangeAt Go.RowKit

set_option maxRecDepth 100000 in
theorem lifted4 (os : Os) (started : os.Started) (H : Type) (enc : TypeId × Value → H) :
    ReturnsInHanded {} Try.checked os 4 .any (Rows.fnNetRunSpec.pre6 enc Try.prog Try.f4 Rows.fnNetRunRow.domain false) (Rows.fnNetRunSpec.post enc Try.prog Try.f4 false true false false) := by
  refine returnsInHanded_of_change (C := Try.checked) own started (by kernel_rfl) Try.func4
    (ChangeSpec.witness6 (enc := enc) (C := Try.checked) false ⟨#[], #[.slice none 0 0], []⟩ 8 (by kernel_rfl) (by kernel_rfl) (by kernel_rfl) (by kernel_rfl)) ?_
  intro W base args ds gs before hval hW _ _
  have hW' := hW
  obtain ⟨p, q, hA, hV, -, -, -⟩ := hW'
  rw [Try.params4] at hA hval
  obtain ⟨v0, vs0, d0, ds0, p0, q0, hargs, rfl, rfl, h0, r0⟩ := trodAll_cons hA
  obtain ⟨rfl, rfl, rfl⟩ := trodAll_nil r0
  obtain ⟨rfl, rfl⟩ := trodVars_none hV
  obtain rfl : args = #[v0] := by cases args; simp_all
  obtain ⟨β0, σ0, a0, zs0, L0, U0, S0, R0, I0, w0, m0⟩ := start_ints Try.underlying22 Try.underlying5 co5 (Start.start W) (hval 0 22 v0 rfl rfl) h0
  refine ((law4 σ0 a0 zs0 (I0) m0 w0).2 (fun _ => none) β0 W [v0] S0.rel (.cons R0 (.nil _))).mono fun e W' h => ?_
  obtain ⟨β', r, r', σ', -, rfl, hr, hrel, rfl⟩ := h
  cases hr
  exact ⟨_, rfl, law_post laidOut hW rfl rfl (by rw [Try.params4]; intro t ht; simp only [List.mem_cons, List.not_mem_nil, or_false, or_self] at ht; rcases ht with rfl <;> exact ⟨by kernel_rfl, of_decide_eq_true (by kernel_rfl)⟩) rfl Try.underlying4 hrel.below⟩

theorem facts4 : joinedFacts Try.prog 4 Try.f4 Rows.fnNetRunSpec Rows.fnNetRunRow = true := by
  unfold joinedFacts
  rw [mayE, liftsE, makeE]
  kernel_rfl

theorem proved4 : Rows.FnNetRunSaid :=
  OpenClaim.holds_of_wide 4 Try.f4 rfl rfl rfl rfl rfl rfl rfl ⟨rfl, rfl, rfl, rfl, rfl⟩ rfl rfl rfl rfl rfl (by kernel_rfl) Try.func4 facts4 (of_decide_eq_true (by kernel_rfl))
    (by unfold Func.isWrapper; first | (rw [if_pos (by decide +kernel)]; kernel_rfl) | (rw [if_neg (by decide +kernel)]; exact ⟨rfl, rfl⟩))
    (fun os started H enc _ => lifted4 os started H enc)


end Go.Proofs.Ytnkpoflhdfchjaa
