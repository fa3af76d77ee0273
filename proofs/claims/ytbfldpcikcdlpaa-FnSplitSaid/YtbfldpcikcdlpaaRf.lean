/- Permutations load every line alike; the draw of permutations. -/
import Derived.Test.YtbfldpcikcdlpaaRe
set_option linter.unusedSimpArgs false
set_option linter.unusedVariables false
namespace Go.Proofs.Ytbfldpcikcdlpaa
open Go Go.Abs Go.RowKit
variable {w0 : World}

def AllV (n : Nat) (rows : List (List Int)) : Prop := ∀ i, i < rows.length → Valid (rows.getD i []) ∧ (rows.getD i []).length = n
theorem AllV.inN {n : Nat} {rows : List (List Int)} (h : AllV n rows) {k : Nat} (hk : k ≤ rows.length) : ∀ i, i < k → InN n (rows.getD i []) := fun i hi => (valid_in (h i (by omega)).1 (h i (by omega)).2).1
/-- of the first K lists those that take a below m -/
def cl (rows : List (List Int)) (a m : Nat) : Nat → Nat
  | 0 => 0
  | k + 1 => cl rows a m k + if ((rows.getD k []).getD a 0).toNat < m then 1 else 0
theorem cl_succ (rows : List (List Int)) (a m : Nat) : ∀ k, cl rows a (m + 1) k = cl rows a m k + cntL rows a m k
  | 0 => rfl
  | k + 1 => by
    rw [cl, cl, cntL, cl_succ rows a m k]
    by_cases h1 : ((rows.getD k []).getD a 0).toNat < m
    · rw [if_pos (by omega), if_pos h1, if_neg (by omega)]; omega
    · by_cases h2 : m = ((rows.getD k []).getD a 0).toNat
      · rw [if_pos (by omega), if_neg h1, if_pos h2]; omega
      · rw [if_neg (by omega), if_neg h1, if_neg h2]; omega
theorem cl_zero (rows : List (List Int)) (a : Nat) : ∀ k, cl rows a 0 k = 0
  | 0 => rfl
  | k + 1 => by rw [cl, cl_zero rows a k, if_neg (by omega)]
theorem psum_addL {n : Nat} {rows : List (List Int)} {a K : Nat} (ha : a < n) (hin : ∀ i, i < K → InN n (rows.getD i [])) : ∀ m, psum ((addL n rows K).getD a []) m = cl rows a m K
  | 0 => by simp [psum, cl_zero]
  | m + 1 => by
    have := en_addL (rows := rows) ha m K hin
    unfold en at this
    rw [psum, this, psum_addL ha hin m, cl_succ]; omega
theorem cl_all {n : Nat} {rows : List (List Int)} {a : Nat} (ha : a < n) : ∀ K, (∀ i, i < K → InN n (rows.getD i [])) → cl rows a n K = K
  | 0, _ => rfl
  | K + 1, h => by rw [cl, cl_all ha K (fun i hi => h i (by omega)), if_pos ((h K (by omega)).2 a ha)]
/-- how many of the first m places have b -/
def pc (xs : List Int) (b : Nat) : Nat → Nat
  | 0 => 0
  | m + 1 => pc xs b m + if b = (xs.getD m 0).toNat then 1 else 0
def pcOK (xs : List Int) : Bool := (List.range xs.length).all fun b => Nat.beq (pc xs b xs.length) 1
theorem pc_all : allV.all pcOK = true := by kernel_rfl
theorem pc_one {xs : List Int} (h : Valid xs) {b : Nat} (hb : b < xs.length) : pc xs b xs.length = 1 := by
  have := valid_all pc_all h
  unfold pcOK at this
  rw [List.all_eq_true] at this
  exact Nat.eq_of_beq_eq_true (this b (List.mem_range.2 hb))
def cc (rows : List (List Int)) (b m : Nat) : Nat → Nat
  | 0 => 0
  | k + 1 => cc rows b m k + pc (rows.getD k []) b m
theorem cc_succ (rows : List (List Int)) (b m : Nat) : ∀ k, cc rows b (m + 1) k = cc rows b m k + cntL rows m b k
  | 0 => rfl
  | k + 1 => by rw [cc, cc, cntL, cc_succ rows b m k, pc]; omega
theorem cc_zero (rows : List (List Int)) (b : Nat) : ∀ k, cc rows b 0 k = 0
  | 0 => rfl
  | k + 1 => by rw [cc, cc_zero rows b k, pc]
theorem csum_addL {n : Nat} {rows : List (List Int)} {b K : Nat} (hin : ∀ i, i < K → InN n (rows.getD i [])) : ∀ m, m ≤ n → csum (addL n rows K) b m = cc rows b m K
  | 0, _ => by simp [csum, cc_zero]
  | m + 1, hm => by
    have := en_addL (rows := rows) (a := m) (n := n) (by omega) b K hin
    unfold en at this
    rw [csum, this, csum_addL hin m (by omega), cc_succ]; omega
theorem cc_all {n : Nat} {rows : List (List Int)} {b : Nat} (hb : b < n) : ∀ K, (∀ i, i < K → Valid (rows.getD i []) ∧ (rows.getD i []).length = n) → cc rows b n K = K
  | 0, _ => rfl
  | K + 1, h => by
    obtain ⟨hv, hl⟩ := h K (by omega)
    have h1 := pc_one hv (b := b) (by omega)
    rw [hl] at h1
    rw [cc, cc_all hb K (fun i hi => h i (by omega)), h1]
theorem tv_addL {n : Nat} {rows : List (List Int)} (hL : LoadOk n rows) : TV (addL n rows rows.length) := by
  have hsq := addL_sq n rows rows.length
  have hn : n ≤ 6 := by have := hL.1; omega
  have hval : AllV n rows := fun i hi => by simpa using hL.2.1 i hi
  refine ⟨by rw [hsq.1]; exact hn, fun i hi => ⟨by rw [hsq.1]; exact hsq.2 i (by rw [← hsq.1]; exact hi), fun j hj => ?_⟩⟩
  rw [hsq.1] at hi
  have hj' : j < n := by rw [← hsq.2 i hi]; exact hj
  have h1 := en_addL (rows := rows) hi j rows.length (hval.inN (Nat.le_refl _))
  have h2 := hL.2.2 i (by simpa using hi) j (by simpa using hj')
  unfold en at h1
  omega
/-- what is made of permutations is even -/
theorem addL_even {n : Nat} {rows : List (List Int)} (hL : LoadOk n rows) : EvenT (addL n rows rows.length) ∧ (0 < n → most (addL n rows rows.length) n = rows.length) := by
  have hT := tv_addL hL
  have hsq := addL_sq n rows rows.length
  have hval : AllV n rows := fun i hi => by simpa using hL.2.1 i hi
  have hr : ∀ i, i < n → psum ((addL n rows rows.length).getD i []) n = rows.length := fun i hi => by rw [psum_addL hi (hval.inN (Nat.le_refl _)), cl_all hi _ (hval.inN (Nat.le_refl _))]
  have hc : ∀ i, i < n → csum (addL n rows rows.length) i n = rows.length := fun i hi => by rw [csum_addL (hval.inN (Nat.le_refl _)) _ (Nat.le_refl _), cc_all hi _ (fun j hj => hval j hj)]
  have hm : 0 < n → most (addL n rows rows.length) n = rows.length := fun h0 => by
    have hh := le_most (rows := addL n rows rows.length) (i := 0) (k := n) h0
    rw [hsq.1, hr 0 h0] at hh
    have h2 := most_le' (rows := addL n rows rows.length) (M := rows.length) (by omega) n (fun i hi => by rw [hsq.1, hr i hi, hc i hi]; exact ⟨Int.le_refl _, Int.le_refl _⟩)
    omega
  refine ⟨⟨hT, fun i hi => ?_⟩, hm⟩
  rw [hsq.1] at hi ⊢
  rw [hr i hi, hc i hi, hm (by omega)]
  exact ⟨rfl, rfl⟩

theorem drawLoad_at (σ : AHeap) (h o : Nat) (bs : List Int) (hv : IntsAt .u8 σ h o bs) (hl : bs.length ≤ 1048576) (hb : ∀ b ∈ bs, 0 ≤ b ∧ b ≤ 255) :
    ACall Try.prog w0 36 [.slice (some ⟨h, o, none⟩) bs.length 1] σ fun r σ' => ∃ (ports : Int) (g2 : Nat) (q : Nat → Nat) (rows : List (List Int)), r = .tuple #[.int .i64 ports, .slice (some ⟨g2, 0, none⟩) rows.length 1] ∧ OwnT σ σ' g2 q rows ∧ rows.length ≤ 8 ∧ (∀ i, i < rows.length → (rows.getD i []).length ≤ 7) ∧ Sub σ σ' := by
  refine acall_go mixed Try.func36 rfl good36 ?_
  simp -implicitDefEqProofs (disch := omega) only [List.any_cons, List.any_nil, Nat.reduceEqDiff, List.map_cons, List.map_nil, Option.map_some, Option.map_none, List.nil_append, ↓reduceIte, vcu0, vcu1, vcu2, vcu3, vcu4, vcu5, vcu6, vcu7, vcu8, vcu9, vcu10, vcu11, vcu12, vcu13, vcu14, vcu15, vcu16, ↓vcd0, ↓vcd1, ↓vcd2, ↓vcd3]
  refine (open_at σ h o bs hl).mono ?_
  rintro r τ ⟨g, m, hg, hm, hmb, rfl, hτ⟩
  have htl : (bs.take m).length = m := by simp; omega
  have hR : Rd σ τ g h o (bs.take m) 0 := ⟨by rw [hτ, htl]; exact AHeap.upd_same _ _ _, by rw [hτ]; exact sub_upd hg, hg, hv.take m, by rw [htl]; exact hm, fun b hb' => hb b (List.mem_of_mem_take hb')⟩
  clear hτ
  generalize bs.take m = cs at hR
  simp -implicitDefEqProofs (disch := omega) only [List.any_cons, List.any_nil, Nat.reduceEqDiff, List.map_cons, List.map_nil, Option.map_some, Option.map_none, List.nil_append, ↓reduceIte, vcu0, vcu1, vcu2, vcu3, vcu4, vcu5, vcu6, vcu7, vcu8, vcu9, vcu10, vcu11, vcu12, vcu13, vcu14, vcu15, vcu16, ↓vcd0, ↓vcd1, ↓vcd2, ↓vcd3, opK_some]
  refine (pick_at σ τ g h o cs 0 7 hR (by omega) (by omega)).mono ?_
  rintro r σ1 ⟨z, rfl, hz0, hz1, hR1, hK1⟩
  obtain ⟨n, rfl⟩ : ∃ n : Nat, z = n := ⟨z.toNat, by omega⟩
  simp -implicitDefEqProofs (disch := omega) only [List.any_cons, List.any_nil, Nat.reduceEqDiff, List.map_cons, List.map_nil, Option.map_some, Option.map_none, List.nil_append, ↓reduceIte, vcu0, vcu1, vcu2, vcu3, vcu4, vcu5, vcu6, vcu7, vcu8, vcu9, vcu10, vcu11, vcu12, vcu13, vcu14, vcu15, vcu16, ↓vcd0, ↓vcd1, ↓vcd2, ↓vcd3, opK_some]
  refine r_lit el23 (out := #[]) (by kernel_rfl) (by kernel_rfl) fun e1 τ1 n1 s1 v1 => ?_
  simp -implicitDefEqProofs (disch := omega) only [List.any_cons, List.any_nil, Nat.reduceEqDiff, List.map_cons, List.map_nil, Option.map_some, Option.map_none, List.nil_append, ↓reduceIte, vcu0, vcu1, vcu2, vcu3, vcu4, vcu5, vcu6, vcu7, vcu8, vcu9, vcu10, vcu11, vcu12, vcu13, vcu14, vcu15, vcu16, ↓vcd0, ↓vcd1, ↓vcd2, ↓vcd3]
  refine (pick_at σ τ1 g h o cs (0 + 1) 8 (hR1.sub' s1) (by omega) (by omega)).mono ?_
  rintro r σ2 ⟨c, rfl, hc0, hc1, hR2, hK2⟩
  have hd1 := kept_dom hK1 hR1.at_
  have hOn : OwnT τ τ1 e1 (fun _ => 0) [] := OwnT.nil _ v1 (hd1 _ n1)
  have hK02 : Kept g τ σ2 := (hK1.trans s1.kept).trans hK2
  have hO2 : OwnT τ σ2 e1 (fun _ => 0) [] := hOn.kept hR.at_ hK2
  simp -implicitDefEqProofs (disch := omega) only [List.any_cons, List.any_nil, Nat.reduceEqDiff, List.map_cons, List.map_nil, Option.map_some, Option.map_none, List.nil_append, ↓reduceIte, vcu0, vcu1, vcu2, vcu3, vcu4, vcu5, vcu6, vcu7, vcu8, vcu9, vcu10, vcu11, vcu12, vcu13, vcu14, vcu15, vcu16, ↓vcd0, ↓vcd1, ↓vcd2, ↓vcd3, opK_some]
  refine vc_loop_c mixed (by kernel_rfl) [4, 5] (fun m a σ' => ∃ (g1 : Nat) (q : Nat → Nat) (rows : List (List Int)) (p' : Int), (m : Int) + rows.length = c ∧ a 7 = .int .i64 m ∧ a 6 = .slice (some ⟨g1, 0, none⟩) rows.length 1 ∧ OwnT τ σ' g1 q rows ∧ (∀ i, i < rows.length → (rows.getD i []).length = n) ∧ Kept g τ σ' ∧ 0 ≤ p' ∧ p' ≤ 2 + 6 * rows.length ∧ Rd σ σ' g h o cs p') c.toNat
    ⟨e1, fun _ => 0, [], 0 + 1 + 1, by simp; omega, by simp [fset]; omega, rfl, hO2, by simp, hK02, by omega, by simp, hR2⟩ ?_
  clear hO2 hOn hK2 hR2 hK1 hR1 hd1 hK02
  rintro m a σ' hcc ⟨g1, q, rows, p', hm', h7, h6, hO, hrl, hK, hp1, hp2, hR'⟩
  simp -implicitDefEqProofs (disch := omega) only [List.any_cons, List.any_nil, Nat.reduceEqDiff, List.map_cons, List.map_nil, Option.map_some, Option.map_none, List.nil_append, ↓reduceIte, vcu0, vcu1, vcu2, vcu3, vcu4, vcu5, vcu6, vcu7, vcu8, vcu9, vcu10, vcu11, vcu12, vcu13, vcu14, vcu15, vcu16, ↓vcd0, ↓vcd1, ↓vcd2, ↓vcd3] at hcc
  obtain ⟨h4, h5, -⟩ := hcc
  by_cases hlt : 0 < m
  case pos =>
    simp -implicitDefEqProofs (disch := omega) only [List.any_cons, List.any_nil, Nat.reduceEqDiff, List.map_cons, List.map_nil, Option.map_some, Option.map_none, List.nil_append, ↓reduceIte, vcu0, vcu1, vcu2, vcu3, vcu4, vcu5, vcu6, vcu7, vcu8, vcu9, vcu10, vcu11, vcu12, vcu13, vcu14, vcu15, vcu16, ↓vcd0, ↓vcd1, ↓vcd2, ↓vcd3, h4, h5, h6, h7]
    refine (perm_k σ σ' g h o cs p' n hR' (by omega) (by omega)).mono ?_
    rintro r τ3 ⟨x, ps, p3, rfl, hpl, hx, hxn, hK3, a1, a2, hR3⟩
    have hO3 := hO.kept hR.at_ hK3
    have hd : ∀ k, τ3 k = none → τ k = none := kept_dom (hK.trans hK3) hR3.at_
    have hxs : τ x = none := kept_dom hK hR'.at_ _ hxn
    simp -implicitDefEqProofs (disch := omega) only [List.any_cons, List.any_nil, Nat.reduceEqDiff, List.map_cons, List.map_nil, Option.map_some, Option.map_none, List.nil_append, ↓reduceIte, vcu0, vcu1, vcu2, vcu3, vcu4, vcu5, vcu6, vcu7, vcu8, vcu9, vcu10, vcu11, vcu12, vcu13, vcu14, vcu15, vcu16, ↓vcd0, ↓vcd1, ↓vcd2, ↓vcd3, opK_some, h6]
    refine r_lit el23 (out := #[.slice (some ⟨x, 0, none⟩) n 1]) (by simp -implicitDefEqProofs (disch := omega) only [List.any_cons, List.any_nil, Nat.reduceEqDiff, List.map_cons, List.map_nil, Option.map_some, Option.map_none, List.nil_append, ↓reduceIte, vcu0, vcu1, vcu2, vcu3, vcu4, vcu5, vcu6, vcu7, vcu8, vcu9, vcu10, vcu11, vcu12, vcu13, vcu14, vcu15, vcu16, ↓vcd0, ↓vcd1, ↓vcd2, ↓vcd3]; kernel_rfl) (by kernel_rfl) fun e4 τ4 n4 s4 v4 => ?_
    refine r_pushK (β := τ) (len := rows.length) (g := g1) (e := e4) (r := x) (q := q) (rows := rows) (row := ps) el23 (by omega) sl23 (by simp -implicitDefEqProofs (disch := omega) only [List.any_cons, List.any_nil, Nat.reduceEqDiff, List.map_cons, List.map_nil, Option.map_some, Option.map_none, List.nil_append, ↓reduceIte, vcu0, vcu1, vcu2, vcu3, vcu4, vcu5, vcu6, vcu7, vcu8, vcu9, vcu10, vcu11, vcu12, vcu13, vcu14, vcu15, vcu16, ↓vcd0, ↓vcd1, ↓vcd2, ↓vcd3, h6]) rfl (hO3.sub s4) (by simp -implicitDefEqProofs (disch := omega) only [List.any_cons, List.any_nil, Nat.reduceEqDiff, List.map_cons, List.map_nil, Option.map_some, Option.map_none, List.nil_append, ↓reduceIte, vcu0, vcu1, vcu2, vcu3, vcu4, vcu5, vcu6, vcu7, vcu8, vcu9, vcu10, vcu11, vcu12, vcu13, vcu14, vcu15, vcu16, ↓vcd0, ↓vcd1, ↓vcd2, ↓vcd3]) (by rw [v4]; simp [rowV, hpl]) (s4 _ _ hx) hxs (ne_of hxn hO.at_) (fun i hi => ne_of' hxn (hO.row i hi)) (dom_sub s4 hd) (by omega) fun g5 q5 τ5 hO5 k5 n5 => ?_
    have hg1 : g1 ≠ g := ne_of hO.new hR.at_
    have hgb : σ g1 = none := free_sub hR.sub hO.new
    simp -implicitDefEqProofs (disch := omega) only [List.any_cons, List.any_nil, Nat.reduceEqDiff, List.map_cons, List.map_nil, Option.map_some, Option.map_none, List.nil_append, ↓reduceIte, vcu0, vcu1, vcu2, vcu3, vcu4, vcu5, vcu6, vcu7, vcu8, vcu9, vcu10, vcu11, vcu12, vcu13, vcu14, vcu15, vcu16, ↓vcd0, ↓vcd1, ↓vcd2, ↓vcd3, h4, h5, h7]
    refine ⟨⟨trivial, trivial, trivial⟩, m - 1, by omega, g5, q5, rows ++ [ps], p3, by simp; omega, by congr 1; omega, by simp, hO5, fun i hi => ?_, kept_put2 (hK.trans (hK3.trans s4.kept)) k5 hO.new, by omega, by simp; omega, (hR3.sub' s4).put k5 hg1 hgb⟩
    rw [getD_appL]
    split
    · exact hpl
    · exact hrl i (by simp at hi; omega)
  simp -implicitDefEqProofs (disch := omega) only [List.any_cons, List.any_nil, Nat.reduceEqDiff, List.map_cons, List.map_nil, Option.map_some, Option.map_none, List.nil_append, ↓reduceIte, vcu0, vcu1, vcu2, vcu3, vcu4, vcu5, vcu6, vcu7, vcu8, vcu9, vcu10, vcu11, vcu12, vcu13, vcu14, vcu15, vcu16, ↓vcd0, ↓vcd1, ↓vcd2, ↓vcd3, h4, h5, h6, h7]
  have hd : ∀ k, σ' k = none → τ k = none := kept_dom hK hR'.at_
  refine (odd_at σ σ' g h o cs p' 12 hR' (by omega) (by omega)).mono ?_
  rintro r σ3 ⟨b, rfl, hR3, hK3⟩
  have hO3 := hO.kept hR.at_ hK3
  cases b with
  | false =>
    simp -implicitDefEqProofs (disch := omega) only [List.any_cons, List.any_nil, Nat.reduceEqDiff, List.map_cons, List.map_nil, Option.map_some, Option.map_none, List.nil_append, ↓reduceIte, vcu0, vcu1, vcu2, vcu3, vcu4, vcu5, vcu6, vcu7, vcu8, vcu9, vcu10, vcu11, vcu12, vcu13, vcu14, vcu15, vcu16, ↓vcd0, ↓vcd1, ↓vcd2, ↓vcd3, opK_some, h4, h5, h6]
    refine (pick_at σ σ3 g h o cs (p' + 1) 30 hR3 (by omega) (by omega)).mono ?_
    rintro r σ4 ⟨y, rfl, hy0, hy1, hR4, hK4⟩
    simp -implicitDefEqProofs (disch := omega) only [List.any_cons, List.any_nil, Nat.reduceEqDiff, List.map_cons, List.map_nil, Option.map_some, Option.map_none, List.nil_append, ↓reduceIte, vcu0, vcu1, vcu2, vcu3, vcu4, vcu5, vcu6, vcu7, vcu8, vcu9, vcu10, vcu11, vcu12, vcu13, vcu14, vcu15, vcu16, ↓vcd0, ↓vcd1, ↓vcd2, ↓vcd3, opK_some]
    refine fin_two Try.results36 ⟨(n : Int) - y / 29 * 9, g1, q, rows, ?_, (hO3.kept hR.at_ hK4).base hR.sub, by omega, fun i hi => by rw [hrl i hi]; omega, hR4.sub⟩
    simp -implicitDefEqProofs (disch := omega) only [List.any_cons, List.any_nil, Nat.reduceEqDiff, List.map_cons, List.map_nil, Option.map_some, Option.map_none, List.nil_append, ↓reduceIte, vcu0, vcu1, vcu2, vcu3, vcu4, vcu5, vcu6, vcu7, vcu8, vcu9, vcu10, vcu11, vcu12, vcu13, vcu14, vcu15, vcu16, ↓vcd0, ↓vcd1, ↓vcd2, ↓vcd3, h6]
  | true =>
    simp -implicitDefEqProofs (disch := omega) only [List.any_cons, List.any_nil, Nat.reduceEqDiff, List.map_cons, List.map_nil, Option.map_some, Option.map_none, List.nil_append, ↓reduceIte, vcu0, vcu1, vcu2, vcu3, vcu4, vcu5, vcu6, vcu7, vcu8, vcu9, vcu10, vcu11, vcu12, vcu13, vcu14, vcu15, vcu16, ↓vcd0, ↓vcd1, ↓vcd2, ↓vcd3, opK_some, h4, h5, h6]
    refine (list_k σ σ3 g h o cs (p' + 1) 3 hR3 (by omega) (by omega)).mono ?_
    rintro r σ4 ⟨x, ps, p4, rfl, hpl, hx, hxn, hK4, a1, a2, hR4⟩
    have hO4 := hO3.kept hR.at_ hK4
    have hK04 := (hK.trans hK3).trans hK4
    have hd4 : ∀ k, σ4 k = none → τ k = none := kept_dom hK04 hR4.at_
    have hxs : τ x = none := kept_dom (hK.trans hK3) hR3.at_ _ hxn
    simp -implicitDefEqProofs (disch := omega) only [List.any_cons, List.any_nil, Nat.reduceEqDiff, List.map_cons, List.map_nil, Option.map_some, Option.map_none, List.nil_append, ↓reduceIte, vcu0, vcu1, vcu2, vcu3, vcu4, vcu5, vcu6, vcu7, vcu8, vcu9, vcu10, vcu11, vcu12, vcu13, vcu14, vcu15, vcu16, ↓vcd0, ↓vcd1, ↓vcd2, ↓vcd3, opK_some]
    refine r_lit el23 (out := #[.slice (some ⟨x, 0, none⟩) ps.length 1]) (by simp -implicitDefEqProofs (disch := omega) only [List.any_cons, List.any_nil, Nat.reduceEqDiff, List.map_cons, List.map_nil, Option.map_some, Option.map_none, List.nil_append, ↓reduceIte, vcu0, vcu1, vcu2, vcu3, vcu4, vcu5, vcu6, vcu7, vcu8, vcu9, vcu10, vcu11, vcu12, vcu13, vcu14, vcu15, vcu16, ↓vcd0, ↓vcd1, ↓vcd2, ↓vcd3]; kernel_rfl) (by kernel_rfl) fun e5 τ5 n5 s5 v5 => ?_
    refine r_pushK (β := τ) (len := rows.length) (g := g1) (e := e5) (r := x) (q := q) (rows := rows) (row := ps) el23 (by omega) sl23 (by simp -implicitDefEqProofs (disch := omega) only [List.any_cons, List.any_nil, Nat.reduceEqDiff, List.map_cons, List.map_nil, Option.map_some, Option.map_none, List.nil_append, ↓reduceIte, vcu0, vcu1, vcu2, vcu3, vcu4, vcu5, vcu6, vcu7, vcu8, vcu9, vcu10, vcu11, vcu12, vcu13, vcu14, vcu15, vcu16, ↓vcd0, ↓vcd1, ↓vcd2, ↓vcd3, h6]) rfl (hO4.sub s5) (by simp -implicitDefEqProofs (disch := omega) only [List.any_cons, List.any_nil, Nat.reduceEqDiff, List.map_cons, List.map_nil, Option.map_some, Option.map_none, List.nil_append, ↓reduceIte, vcu0, vcu1, vcu2, vcu3, vcu4, vcu5, vcu6, vcu7, vcu8, vcu9, vcu10, vcu11, vcu12, vcu13, vcu14, vcu15, vcu16, ↓vcd0, ↓vcd1, ↓vcd2, ↓vcd3]) (by rw [v5]; simp [rowV]) (s5 _ _ hx) hxs (ne_of hxn hO3.at_) (fun i hi => ne_of' hxn (hO3.row i hi)) (dom_sub s5 hd4) (by omega) fun g6 q6 τ6 hO6 k6 n6 => ?_
    have hg1 : g1 ≠ g := ne_of hO.new hR.at_
    have hgb : σ g1 = none := free_sub hR.sub hO.new
    have hR6 := (hR4.sub' s5).put k6 hg1 hgb
    simp -implicitDefEqProofs (disch := omega) only [List.any_cons, List.any_nil, Nat.reduceEqDiff, List.map_cons, List.map_nil, Option.map_some, Option.map_none, List.nil_append, ↓reduceIte, vcu0, vcu1, vcu2, vcu3, vcu4, vcu5, vcu6, vcu7, vcu8, vcu9, vcu10, vcu11, vcu12, vcu13, vcu14, vcu15, vcu16, ↓vcd0, ↓vcd1, ↓vcd2, ↓vcd3, h4, h5]
    refine (pick_at σ τ6 g h o cs p4 30 hR6 (by omega) (by omega)).mono ?_
    rintro r σ7 ⟨y, rfl, hy0, hy1, hR7, hK7⟩
    simp -implicitDefEqProofs (disch := omega) only [List.any_cons, List.any_nil, Nat.reduceEqDiff, List.map_cons, List.map_nil, Option.map_some, Option.map_none, List.nil_append, ↓reduceIte, vcu0, vcu1, vcu2, vcu3, vcu4, vcu5, vcu6, vcu7, vcu8, vcu9, vcu10, vcu11, vcu12, vcu13, vcu14, vcu15, vcu16, ↓vcd0, ↓vcd1, ↓vcd2, ↓vcd3, opK_some]
    refine fin_two Try.results36 ⟨(n : Int) - y / 29 * 9, g6, q6, rows ++ [ps], ?_, (hO6.kept hR.at_ hK7).base hR.sub, by simp; omega, fun i hi => ?_, hR7.sub⟩
    · simp -implicitDefEqProofs (disch := omega) only [List.any_cons, List.any_nil, Nat.reduceEqDiff, List.map_cons, List.map_nil, Option.map_some, Option.map_none, List.nil_append, ↓reduceIte, vcu0, vcu1, vcu2, vcu3, vcu4, vcu5, vcu6, vcu7, vcu8, vcu9, vcu10, vcu11, vcu12, vcu13, vcu14, vcu15, vcu16, ↓vcd0, ↓vcd1, ↓vcd2, ↓vcd3, List.length_append, List.length_singleton]
    · rw [getD_appL]
      split
      · exact hpl
      · rw [hrl i (by simp at hi; omega)]; omega
end Go.Proofs.Ytbfldpcikcdlpaa
