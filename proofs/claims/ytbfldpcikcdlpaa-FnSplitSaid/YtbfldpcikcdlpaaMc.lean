/- canMatch: whether the given ones can be continued. -/
import Derived.Test.YtbfldpcikcdlpaaMb
set_option linter.unusedSimpArgs false
set_option linter.unusedVariables false
namespace Go.Proofs.Ytbfldpcikcdlpaa
open Go Go.Abs Go.RowKit
variable {w0 : World}

theorem set_fill (k n : Nat) (hk : k < n) : (List.replicate k (-1 : Int) ++ List.replicate (n - k) 0).set k (-1) = List.replicate (k + 1) (-1) ++ List.replicate (n - (k + 1)) 0 := by
  obtain ⟨m, hm⟩ : ∃ m, n - k = m + 1 := ⟨n - k - 1, by omega⟩
  have e : n - (k + 1) = m := by omega
  rw [hm, e, List.set_append_right _ _ (by simp), List.length_replicate, Nat.sub_self, List.replicate_succ, List.set_cons_zero, List.replicate_succ', List.append_assoc]; rfl
theorem azeros_false (l : Nat) : azeros (.bool false) (l * 1) = bools (List.replicate l false) := by
  rw [Nat.mul_one, azeros_one _ rfl]; simp [bools]
theorem Marks.start (n : Nat) : Marks n [] (List.replicate n false) := ⟨by simp, fun o ho => by simp [List.getD, ho]⟩
theorem Marks.step {n : Nat} {given : List Int} {T : List Bool} {x : Int} (h : Marks n given T) (h0 : 0 ≤ x) (hx : x < n) : Marks n (given ++ [x]) (T.set x.toNat true) := by
  refine ⟨by simp [h.1], fun o ho => ?_⟩
  rw [getD_setB _ (by rw [h.1]; omega)]
  by_cases e : o = x.toNat
  · subst e
    rw [if_pos rfl]
    simp only [List.mem_append, List.mem_singleton, true_iff]
    right; omega
  · rw [if_neg e, h.2 o ho, List.mem_append, List.mem_singleton]
    constructor
    · exact fun hh => .inl hh
    · rintro (hh | hh)
      · exact hh
      · exact absurd (by omega) e

theorem canMatch_at (σ : AHeap) (th to : Nat) (rows : List (List Int)) (n : Nat) (gh go : Nat) (given : List Int) (hv : RowsAt σ th to rows) (hsq : Sq n rows) (hn6 : n ≤ 6) (hg : IntsAt .i64 σ gh go given) (hgl : given.length ≤ n) (hgi : ∀ j, j < given.length → 0 ≤ given.getD j 0 ∧ given.getD j 0 < n) :
    ACall Try.prog w0 66 [.slice (some ⟨th, to, none⟩) n 1, .slice (some ⟨gh, go, none⟩) given.length 1] σ fun r σ' => ∃ b : Bool, r = .bool b ∧ (b = true ↔ CanM rows given) ∧ Sub σ σ' := by
  refine acall_go mixed Try.func66 rfl good66 ?_
  simp -implicitDefEqProofs (disch := omega) only [List.any_cons, List.any_nil, Nat.reduceEqDiff, List.map_cons, List.map_nil, Option.map_some, Option.map_none, List.nil_append, ↓reduceIte, vcu0, vcu1, vcu2, vcu3, vcu4, vcu5, vcu6, vcu7, vcu8, vcu9, vcu10, vcu11, vcu12, vcu13, vcu14, vcu15, vcu16, ↓vcd0, ↓vcd1, ↓vcd2, ↓vcd3]
  refine r_boxed fun bt σ1 nbt s1 ebt => ?_
  replace ebt : σ1 bt = some ⟨[.slice (some ⟨th, to, none⟩) n 1], false⟩ := by
    rw [ebt]; simp -implicitDefEqProofs (disch := omega) only [List.any_cons, List.any_nil, Nat.reduceEqDiff, List.map_cons, List.map_nil, Option.map_some, Option.map_none, List.nil_append, ↓reduceIte, vcu0, vcu1, vcu2, vcu3, vcu4, vcu5, vcu6, vcu7, vcu8, vcu9, vcu10, vcu11, vcu12, vcu13, vcu14, vcu15, vcu16, ↓vcd0, ↓vcd1, ↓vcd2, ↓vcd3]; rfl
  simp -implicitDefEqProofs (disch := omega) only [List.any_cons, List.any_nil, Nat.reduceEqDiff, List.map_cons, List.map_nil, Option.map_some, Option.map_none, List.nil_append, ↓reduceIte, vcu0, vcu1, vcu2, vcu3, vcu4, vcu5, vcu6, vcu7, vcu8, vcu9, vcu10, vcu11, vcu12, vcu13, vcu14, vcu15, vcu16, ↓vcd0, ↓vcd1, ↓vcd2, ↓vcd3]
  have lbt := ld_of ebt
  simp -implicitDefEqProofs (disch := omega) only [List.any_cons, List.any_nil, Nat.reduceEqDiff, List.map_cons, List.map_nil, Option.map_some, Option.map_none, List.nil_append, ↓reduceIte, vcu0, vcu1, vcu2, vcu3, vcu4, vcu5, vcu6, vcu7, vcu8, vcu9, vcu10, vcu11, vcu12, vcu13, vcu14, vcu15, vcu16, ↓vcd0, ↓vcd1, ↓vcd2, ↓vcd3, lbt]
  refine r_makeI (kx := .i64) (ky := .i64) (l := n) (c := n) el27 (by omega) (by simp -implicitDefEqProofs (disch := omega) only [List.any_cons, List.any_nil, Nat.reduceEqDiff, List.map_cons, List.map_nil, Option.map_some, Option.map_none, List.nil_append, ↓reduceIte, vcu0, vcu1, vcu2, vcu3, vcu4, vcu5, vcu6, vcu7, vcu8, vcu9, vcu10, vcu11, vcu12, vcu13, vcu14, vcu15, vcu16, ↓vcd0, ↓vcd1, ↓vcd2, ↓vcd3]) (by simp -implicitDefEqProofs (disch := omega) only [List.any_cons, List.any_nil, Nat.reduceEqDiff, List.map_cons, List.map_nil, Option.map_some, Option.map_none, List.nil_append, ↓reduceIte, vcu0, vcu1, vcu2, vcu3, vcu4, vcu5, vcu6, vcu7, vcu8, vcu9, vcu10, vcu11, vcu12, vcu13, vcu14, vcu15, vcu16, ↓vcd0, ↓vcd1, ↓vcd2, ↓vcd3]) (by omega) fun ir σ2 nir s2 eir => ?_
  refine r_new ze27 fun bi σ3 nbi s3 ebi => ?_
  refine r_set (g := bi) (i := 0) (by simp -implicitDefEqProofs (disch := omega) only [List.any_cons, List.any_nil, Nat.reduceEqDiff, List.map_cons, List.map_nil, Option.map_some, Option.map_none, List.nil_append, ↓reduceIte, vcu0, vcu1, vcu2, vcu3, vcu4, vcu5, vcu6, vcu7, vcu8, vcu9, vcu10, vcu11, vcu12, vcu13, vcu14, vcu15, vcu16, ↓vcd0, ↓vcd1, ↓vcd2, ↓vcd3]) (by simp -implicitDefEqProofs (disch := omega) only [List.any_cons, List.any_nil, Nat.reduceEqDiff, List.map_cons, List.map_nil, Option.map_some, Option.map_none, List.nil_append, ↓reduceIte, vcu0, vcu1, vcu2, vcu3, vcu4, vcu5, vcu6, vcu7, vcu8, vcu9, vcu10, vcu11, vcu12, vcu13, vcu14, vcu15, vcu16, ↓vcd0, ↓vcd1, ↓vcd2, ↓vcd3]; rfl) co27 (by simp -implicitDefEqProofs (disch := omega) only [List.any_cons, List.any_nil, Nat.reduceEqDiff, List.map_cons, List.map_nil, Option.map_some, Option.map_none, List.nil_append, ↓reduceIte, vcu0, vcu1, vcu2, vcu3, vcu4, vcu5, vcu6, vcu7, vcu8, vcu9, vcu10, vcu11, vcu12, vcu13, vcu14, vcu15, vcu16, ↓vcd0, ↓vcd1, ↓vcd2, ↓vcd3]; rfl) ebi (by decide) fun σ4 k4 ebi4 => ?_
  replace ebi4 : σ4 bi = some ⟨[.slice (some ⟨ir, 0, none⟩) n 1], false⟩ := by
    rw [ebi4]; simp -implicitDefEqProofs (disch := omega) only [List.any_cons, List.any_nil, Nat.reduceEqDiff, List.map_cons, List.map_nil, Option.map_some, Option.map_none, List.nil_append, ↓reduceIte, vcu0, vcu1, vcu2, vcu3, vcu4, vcu5, vcu6, vcu7, vcu8, vcu9, vcu10, vcu11, vcu12, vcu13, vcu14, vcu15, vcu16, ↓vcd0, ↓vcd1, ↓vcd2, ↓vcd3]; rfl
  have lbi4 := ld_of ebi4
  have h31 : bt ≠ bi := ne_of' nbi (s2 _ _ ebt)
  have h32 : ir ≠ bi := ne_of' nbi eir
  have h21 : bt ≠ ir := ne_of' nir ebt
  have ebt4 := k4.at (s3 _ _ (s2 _ _ ebt)) h31
  have eir4 := k4.at (s3 _ _ eir) h32
  have hs4 : Sub σ σ4 := k4.sub (s1.trans (s2.trans s3)) (free_sub (s1.trans s2) nbi)
  have fbt := nbt
  have fir := free_sub s1 nir
  have fbi := free_sub (s1.trans s2) nbi
  clear ebi k4 s3 eir s2 s1 ebt lbt nbt nir nbi
  simp -implicitDefEqProofs (disch := omega) only [List.any_cons, List.any_nil, Nat.reduceEqDiff, List.map_cons, List.map_nil, Option.map_some, Option.map_none, List.nil_append, ↓reduceIte, vcu0, vcu1, vcu2, vcu3, vcu4, vcu5, vcu6, vcu7, vcu8, vcu9, vcu10, vcu11, vcu12, vcu13, vcu14, vcu15, vcu16, ↓vcd0, ↓vcd1, ↓vcd2, ↓vcd3, lbi4]
  refine vc_loop_c mixed (by kernel_rfl) [1, 2, 5, 15, 16] (fun m a σ' => ∃ k : Nat, m + k = n ∧ a 17 = .int .i64 k ∧ Sub σ σ' ∧ σ' bt = some ⟨[.slice (some ⟨th, to, none⟩) n 1], false⟩ ∧ σ' bi = some ⟨[.slice (some ⟨ir, 0, none⟩) n 1], false⟩ ∧ σ' ir = some ⟨ints .i64 (List.replicate k (-1) ++ List.replicate (n - k) 0), false⟩) n
    ⟨0, by simp, rfl, hs4, ebt4, ebi4, by simpa using eir4⟩ ?_
  clear hs4 ebt4 ebi4 eir4 lbi4
  rintro m a σ' hc ⟨k, hk, h17, hs, ebt, ebi, eir⟩
  simp -implicitDefEqProofs (disch := omega) only [List.any_cons, List.any_nil, Nat.reduceEqDiff, List.map_cons, List.map_nil, Option.map_some, Option.map_none, List.nil_append, ↓reduceIte, vcu0, vcu1, vcu2, vcu3, vcu4, vcu5, vcu6, vcu7, vcu8, vcu9, vcu10, vcu11, vcu12, vcu13, vcu14, vcu15, vcu16, ↓vcd0, ↓vcd1, ↓vcd2, ↓vcd3] at hc
  obtain ⟨h1, h2, h5, h15, h16, -⟩ := hc
  by_cases hlt : k < n
  · have lbi := ld_of ebi
    simp -implicitDefEqProofs (disch := omega) only [List.any_cons, List.any_nil, Nat.reduceEqDiff, List.map_cons, List.map_nil, Option.map_some, Option.map_none, List.nil_append, ↓reduceIte, vcu0, vcu1, vcu2, vcu3, vcu4, vcu5, vcu6, vcu7, vcu8, vcu9, vcu10, vcu11, vcu12, vcu13, vcu14, vcu15, vcu16, ↓vcd0, ↓vcd1, ↓vcd2, ↓vcd3, h1, h2, h5, h15, h16, h17, lbi]
    refine r_setI (g := ir) (i := 0 + k) (v := -1) (by simp -implicitDefEqProofs (disch := omega) only [List.any_cons, List.any_nil, Nat.reduceEqDiff, List.map_cons, List.map_nil, Option.map_some, Option.map_none, List.nil_append, ↓reduceIte, vcu0, vcu1, vcu2, vcu3, vcu4, vcu5, vcu6, vcu7, vcu8, vcu9, vcu10, vcu11, vcu12, vcu13, vcu14, vcu15, vcu16, ↓vcd0, ↓vcd1, ↓vcd2, ↓vcd3]) (by simp -implicitDefEqProofs (disch := omega) only [List.any_cons, List.any_nil, Nat.reduceEqDiff, List.map_cons, List.map_nil, Option.map_some, Option.map_none, List.nil_append, ↓reduceIte, vcu0, vcu1, vcu2, vcu3, vcu4, vcu5, vcu6, vcu7, vcu8, vcu9, vcu10, vcu11, vcu12, vcu13, vcu14, vcu15, vcu16, ↓vcd0, ↓vcd1, ↓vcd2, ↓vcd3]) co3 eir (by simp; omega) fun τ5 k5 e5 => ?_
    rw [Nat.zero_add, set_fill k n hlt] at e5
    simp -implicitDefEqProofs (disch := omega) only [List.any_cons, List.any_nil, Nat.reduceEqDiff, List.map_cons, List.map_nil, Option.map_some, Option.map_none, List.nil_append, ↓reduceIte, vcu0, vcu1, vcu2, vcu3, vcu4, vcu5, vcu6, vcu7, vcu8, vcu9, vcu10, vcu11, vcu12, vcu13, vcu14, vcu15, vcu16, ↓vcd0, ↓vcd1, ↓vcd2, ↓vcd3, h17]
    refine ⟨?_, m - 1, by omega, k + 1, by omega, by simp, k5.sub hs fir, k5.at ebt h21, k5.at ebi h32.symm, e5⟩
    first | trivial | simp [h1, h2, h5, h15, h16]
  have e2 : n = k := by omega
  subst e2
  rw [Nat.sub_self, List.replicate_zero, List.append_nil] at eir
  simp -implicitDefEqProofs (disch := omega) only [List.any_cons, List.any_nil, Nat.reduceEqDiff, List.map_cons, List.map_nil, Option.map_some, Option.map_none, List.nil_append, ↓reduceIte, vcu0, vcu1, vcu2, vcu3, vcu4, vcu5, vcu6, vcu7, vcu8, vcu9, vcu10, vcu11, vcu12, vcu13, vcu14, vcu15, vcu16, ↓vcd0, ↓vcd1, ↓vcd2, ↓vcd3, h1, h2, h5, h15, h16, h17]
  refine r_new ze61 fun br σ1 nbr s1 ebr => ?_
  simp -implicitDefEqProofs (disch := omega) only [List.any_cons, List.any_nil, Nat.reduceEqDiff, List.map_cons, List.map_nil, Option.map_some, Option.map_none, List.nil_append, ↓reduceIte, vcu0, vcu1, vcu2, vcu3, vcu4, vcu5, vcu6, vcu7, vcu8, vcu9, vcu10, vcu11, vcu12, vcu13, vcu14, vcu15, vcu16, ↓vcd0, ↓vcd1, ↓vcd2, ↓vcd3]
  refine r_new (show azero Try.prog 56 = some .nilFunc from by kernel_rfl) fun bc σ2 nbc s2 ebc => ?_
  simp -implicitDefEqProofs (disch := omega) only [List.any_cons, List.any_nil, Nat.reduceEqDiff, List.map_cons, List.map_nil, Option.map_some, Option.map_none, List.nil_append, ↓reduceIte, vcu0, vcu1, vcu2, vcu3, vcu4, vcu5, vcu6, vcu7, vcu8, vcu9, vcu10, vcu11, vcu12, vcu13, vcu14, vcu15, vcu16, ↓vcd0, ↓vcd1, ↓vcd2, ↓vcd3, h2, h5]
  refine r_set (g := bc) (i := 0) (by simp -implicitDefEqProofs (disch := omega) only [List.any_cons, List.any_nil, Nat.reduceEqDiff, List.map_cons, List.map_nil, Option.map_some, Option.map_none, List.nil_append, ↓reduceIte, vcu0, vcu1, vcu2, vcu3, vcu4, vcu5, vcu6, vcu7, vcu8, vcu9, vcu10, vcu11, vcu12, vcu13, vcu14, vcu15, vcu16, ↓vcd0, ↓vcd1, ↓vcd2, ↓vcd3]) (by simp -implicitDefEqProofs (disch := omega) only [List.any_cons, List.any_nil, Nat.reduceEqDiff, List.map_cons, List.map_nil, Option.map_some, Option.map_none, List.nil_append, ↓reduceIte, vcu0, vcu1, vcu2, vcu3, vcu4, vcu5, vcu6, vcu7, vcu8, vcu9, vcu10, vcu11, vcu12, vcu13, vcu14, vcu15, vcu16, ↓vcd0, ↓vcd1, ↓vcd2, ↓vcd3]; rfl) co56 (by simp -implicitDefEqProofs (disch := omega) only [List.any_cons, List.any_nil, Nat.reduceEqDiff, List.map_cons, List.map_nil, Option.map_some, Option.map_none, List.nil_append, ↓reduceIte, vcu0, vcu1, vcu2, vcu3, vcu4, vcu5, vcu6, vcu7, vcu8, vcu9, vcu10, vcu11, vcu12, vcu13, vcu14, vcu15, vcu16, ↓vcd0, ↓vcd1, ↓vcd2, ↓vcd3]; rfl) ebc (by decide) fun σ3 k3 ebc3 => ?_
  replace ebc3 : σ3 bc = some ⟨[.func (.func 69) #[] #[.pointer (some ⟨bt, 0, none⟩), .pointer (some ⟨br, 0, none⟩), .pointer (some ⟨bi, 0, none⟩), .pointer (some ⟨bc, 0, none⟩)]], false⟩ := by
    rw [ebc3]; simp -implicitDefEqProofs (disch := omega) only [List.any_cons, List.any_nil, Nat.reduceEqDiff, List.map_cons, List.map_nil, Option.map_some, Option.map_none, List.nil_append, ↓reduceIte, vcu0, vcu1, vcu2, vcu3, vcu4, vcu5, vcu6, vcu7, vcu8, vcu9, vcu10, vcu11, vcu12, vcu13, vcu14, vcu15, vcu16, ↓vcd0, ↓vcd1, ↓vcd2, ↓vcd3, h2, h5]; rfl
  have g1 : bt ≠ br := ne_of' nbr ebt
  have g2 : bi ≠ br := ne_of' nbr ebi
  have g3 : ir ≠ br := ne_of' nbr eir
  have g4 : bt ≠ bc := ne_of' nbc (s1 _ _ ebt)
  have g5 : bi ≠ bc := ne_of' nbc (s1 _ _ ebi)
  have g6 : ir ≠ bc := ne_of' nbc (s1 _ _ eir)
  have g7 : br ≠ bc := ne_of' nbc ebr
  have fbr := free_sub hs nbr
  have fbc := free_sub (hs.trans s1) nbc
  have hs3 : Sub σ σ3 := k3.sub (hs.trans (s1.trans s2)) fbc
  have ebt3 := k3.at (s2 _ _ (s1 _ _ ebt)) g4
  have ebi3 := k3.at (s2 _ _ (s1 _ _ ebi)) g5
  have eir3 := k3.at (s2 _ _ (s1 _ _ eir)) g6
  have ebr3 : ∃ v0, σ3 br = some ⟨[v0], false⟩ := ⟨_, k3.at (s2 _ _ ebr) g7⟩
  have htop := Top.start rows given
  rw [hsq.1] at htop
  clear k3 ebc s2 s1 ebr nbr nbc ebt ebi eir hs
  simp -implicitDefEqProofs (disch := omega) only [List.any_cons, List.any_nil, Nat.reduceEqDiff, List.map_cons, List.map_nil, Option.map_some, Option.map_none, List.nil_append, ↓reduceIte, vcu0, vcu1, vcu2, vcu3, vcu4, vcu5, vcu6, vcu7, vcu8, vcu9, vcu10, vcu11, vcu12, vcu13, vcu14, vcu15, vcu16, ↓vcd0, ↓vcd1, ↓vcd2, ↓vcd3, h1, h2, h5]
  refine vc_loop_c mixed (by kernel_rfl) [1, 2, 5, 7, 8] (fun m a σ' => ∃ (i : Nat) (M : List Int), m + i = n ∧ given.length ≤ i ∧ a 9 = .int .i64 i ∧ Sub σ σ' ∧ σ' bt = some ⟨[.slice (some ⟨th, to, none⟩) n 1], false⟩ ∧ σ' bi = some ⟨[.slice (some ⟨ir, 0, none⟩) n 1], false⟩ ∧
      σ' bc = some ⟨[.func (.func 69) #[] #[.pointer (some ⟨bt, 0, none⟩), .pointer (some ⟨br, 0, none⟩), .pointer (some ⟨bi, 0, none⟩), .pointer (some ⟨bc, 0, none⟩)]], false⟩ ∧ (∃ v0, σ' br = some ⟨[v0], false⟩) ∧ σ' ir = some ⟨ints .i64 M, false⟩ ∧ Top rows given M i) (n - given.length)
    ⟨given.length, _, by omega, Nat.le_refl _, rfl, hs3, ebt3, ebi3, ebc3, ebr3, eir3, htop⟩ ?_
  clear hs3 ebt3 ebi3 ebc3 ebr3 eir3 htop
  rintro m2 a2 σ4 hc ⟨i, M, hi, hgi2, h9, hs, ebt, ebi, ebc, ⟨v0, ebr⟩, eir, htop⟩
  simp -implicitDefEqProofs (disch := omega) only [List.any_cons, List.any_nil, Nat.reduceEqDiff, List.map_cons, List.map_nil, Option.map_some, Option.map_none, List.nil_append, ↓reduceIte, vcu0, vcu1, vcu2, vcu3, vcu4, vcu5, vcu6, vcu7, vcu8, vcu9, vcu10, vcu11, vcu12, vcu13, vcu14, vcu15, vcu16, ↓vcd0, ↓vcd1, ↓vcd2, ↓vcd3, h1, h2, h5] at hc
  obtain ⟨c1, c2, c5, c7, c8, -⟩ := hc
  have lbt := ld_of ebt
  have hMl := htop.mat.len
  rw [hsq.1] at hMl
  by_cases hlt2 : i < n
  · simp -implicitDefEqProofs (disch := omega) only [List.any_cons, List.any_nil, Nat.reduceEqDiff, List.map_cons, List.map_nil, Option.map_some, Option.map_none, List.nil_append, ↓reduceIte, vcu0, vcu1, vcu2, vcu3, vcu4, vcu5, vcu6, vcu7, vcu8, vcu9, vcu10, vcu11, vcu12, vcu13, vcu14, vcu15, vcu16, ↓vcd0, ↓vcd1, ↓vcd2, ↓vcd3, c1, c2, c5, c7, c8, h9, lbt]
    refine r_make (kx := .i64) (ky := .i64) (l := n) (c := n) el61 (by simp -implicitDefEqProofs (disch := omega) only [List.any_cons, List.any_nil, Nat.reduceEqDiff, List.map_cons, List.map_nil, Option.map_some, Option.map_none, List.nil_append, ↓reduceIte, vcu0, vcu1, vcu2, vcu3, vcu4, vcu5, vcu6, vcu7, vcu8, vcu9, vcu10, vcu11, vcu12, vcu13, vcu14, vcu15, vcu16, ↓vcd0, ↓vcd1, ↓vcd2, ↓vcd3]) (by simp -implicitDefEqProofs (disch := omega) only [List.any_cons, List.any_nil, Nat.reduceEqDiff, List.map_cons, List.map_nil, Option.map_some, Option.map_none, List.nil_append, ↓reduceIte, vcu0, vcu1, vcu2, vcu3, vcu4, vcu5, vcu6, vcu7, vcu8, vcu9, vcu10, vcu11, vcu12, vcu13, vcu14, vcu15, vcu16, ↓vcd0, ↓vcd1, ↓vcd2, ↓vcd3]) (by omega) fun tr σ5 ntr s5 etr => ?_
    rw [azeros_false] at etr
    have d1 : bt ≠ tr := ne_of' ntr ebt
    have d2 : bi ≠ tr := ne_of' ntr ebi
    have d3 : bc ≠ tr := ne_of' ntr ebc
    have d4 : br ≠ tr := ne_of' ntr ebr
    have d5 : ir ≠ tr := ne_of' ntr eir
    have ftr := free_sub hs ntr
    refine r_set (g := br) (i := 0) (by simp -implicitDefEqProofs (disch := omega) only [List.any_cons, List.any_nil, Nat.reduceEqDiff, List.map_cons, List.map_nil, Option.map_some, Option.map_none, List.nil_append, ↓reduceIte, vcu0, vcu1, vcu2, vcu3, vcu4, vcu5, vcu6, vcu7, vcu8, vcu9, vcu10, vcu11, vcu12, vcu13, vcu14, vcu15, vcu16, ↓vcd0, ↓vcd1, ↓vcd2, ↓vcd3, c7]) (by simp -implicitDefEqProofs (disch := omega) only [List.any_cons, List.any_nil, Nat.reduceEqDiff, List.map_cons, List.map_nil, Option.map_some, Option.map_none, List.nil_append, ↓reduceIte, vcu0, vcu1, vcu2, vcu3, vcu4, vcu5, vcu6, vcu7, vcu8, vcu9, vcu10, vcu11, vcu12, vcu13, vcu14, vcu15, vcu16, ↓vcd0, ↓vcd1, ↓vcd2, ↓vcd3]; rfl) co61 (by simp -implicitDefEqProofs (disch := omega) only [List.any_cons, List.any_nil, Nat.reduceEqDiff, List.map_cons, List.map_nil, Option.map_some, Option.map_none, List.nil_append, ↓reduceIte, vcu0, vcu1, vcu2, vcu3, vcu4, vcu5, vcu6, vcu7, vcu8, vcu9, vcu10, vcu11, vcu12, vcu13, vcu14, vcu15, vcu16, ↓vcd0, ↓vcd1, ↓vcd2, ↓vcd3]; rfl) (s5 _ _ ebr) (by simp) fun σ6 k6 ebr6 => ?_
    replace ebr6 : σ6 br = some ⟨[.slice (some ⟨tr, 0, none⟩) n 1], false⟩ := by
      rw [ebr6]; simp -implicitDefEqProofs (disch := omega) only [List.any_cons, List.any_nil, Nat.reduceEqDiff, List.map_cons, List.map_nil, Option.map_some, Option.map_none, List.nil_append, ↓reduceIte, vcu0, vcu1, vcu2, vcu3, vcu4, vcu5, vcu6, vcu7, vcu8, vcu9, vcu10, vcu11, vcu12, vcu13, vcu14, vcu15, vcu16, ↓vcd0, ↓vcd1, ↓vcd2, ↓vcd3]; rfl
    have hs6 : Sub σ σ6 := k6.sub (hs.trans s5) fbr
    have ebt6 := k6.at (s5 _ _ ebt) g1
    have ebi6 := k6.at (s5 _ _ ebi) g2
    have ebc6 := k6.at (s5 _ _ ebc) g7.symm
    have eir6 := k6.at (s5 _ _ eir) g3
    have etr6 := k6.at etr d4.symm
    clear k6 s5 ebt ebi ebc eir etr ebr lbt ntr hs
    simp -implicitDefEqProofs (disch := omega) only [List.any_cons, List.any_nil, Nat.reduceEqDiff, List.map_cons, List.map_nil, Option.map_some, Option.map_none, List.nil_append, ↓reduceIte, vcu0, vcu1, vcu2, vcu3, vcu4, vcu5, vcu6, vcu7, vcu8, vcu9, vcu10, vcu11, vcu12, vcu13, vcu14, vcu15, vcu16, ↓vcd0, ↓vcd1, ↓vcd2, ↓vcd3, c1]
    refine vc_loop_c mixed (by kernel_rfl) [1, 2, 5, 7, 8, 9, 36, 37] (fun m a σ' => ∃ (k : Nat) (T : List Bool), m + k = given.length ∧ a 38 = .int .i64 k ∧ Sub σ σ' ∧ σ' bt = some ⟨[.slice (some ⟨th, to, none⟩) n 1], false⟩ ∧ σ' bi = some ⟨[.slice (some ⟨ir, 0, none⟩) n 1], false⟩ ∧
      σ' bc = some ⟨[.func (.func 69) #[] #[.pointer (some ⟨bt, 0, none⟩), .pointer (some ⟨br, 0, none⟩), .pointer (some ⟨bi, 0, none⟩), .pointer (some ⟨bc, 0, none⟩)]], false⟩ ∧ σ' br = some ⟨[.slice (some ⟨tr, 0, none⟩) n 1], false⟩ ∧ σ' ir = some ⟨ints .i64 M, false⟩ ∧ σ' tr = some ⟨bools T, false⟩ ∧ Marks n (given.take k) T) given.length
      ⟨0, _, by simp, rfl, hs6, ebt6, ebi6, ebc6, ebr6, eir6, etr6, by simpa using Marks.start n⟩ ?_
    clear hs6 ebt6 ebi6 ebc6 ebr6 eir6 etr6
    rintro m3 a3 σ7 hc3 ⟨k, T, hk3, h38, hs, ebt, ebi, ebc, ebr, eir, etr, hMk⟩
    simp -implicitDefEqProofs (disch := omega) only [List.any_cons, List.any_nil, Nat.reduceEqDiff, List.map_cons, List.map_nil, Option.map_some, Option.map_none, List.nil_append, ↓reduceIte, vcu0, vcu1, vcu2, vcu3, vcu4, vcu5, vcu6, vcu7, vcu8, vcu9, vcu10, vcu11, vcu12, vcu13, vcu14, vcu15, vcu16, ↓vcd0, ↓vcd1, ↓vcd2, ↓vcd3, c1, c2, c5, c7, c8, h9] at hc3
    obtain ⟨e1, e2, e5, e7, e8, e9, e36, e37, -⟩ := hc3
    have lbr := ld_of ebr
    by_cases hk3l : k < given.length
    · have hx := (hg.sub hs) k hk3l
      have hxb := hgi k hk3l
      have htk : given.take (k + 1) = given.take k ++ [given.getD k 0] := take_succ' hk3l
      generalize given.getD k 0 = x at hx hxb htk
      simp -implicitDefEqProofs (disch := omega) only [List.any_cons, List.any_nil, Nat.reduceEqDiff, List.map_cons, List.map_nil, Option.map_some, Option.map_none, List.nil_append, ↓reduceIte, vcu0, vcu1, vcu2, vcu3, vcu4, vcu5, vcu6, vcu7, vcu8, vcu9, vcu10, vcu11, vcu12, vcu13, vcu14, vcu15, vcu16, ↓vcd0, ↓vcd1, ↓vcd2, ↓vcd3, e1, e2, e5, e7, e8, e9, e36, e37, h38, hx, lbr]
      refine r_set (g := tr) (i := 0 + x.toNat) (by simp -implicitDefEqProofs (disch := omega) only [List.any_cons, List.any_nil, Nat.reduceEqDiff, List.map_cons, List.map_nil, Option.map_some, Option.map_none, List.nil_append, ↓reduceIte, vcu0, vcu1, vcu2, vcu3, vcu4, vcu5, vcu6, vcu7, vcu8, vcu9, vcu10, vcu11, vcu12, vcu13, vcu14, vcu15, vcu16, ↓vcd0, ↓vcd1, ↓vcd2, ↓vcd3]) (by simp -implicitDefEqProofs (disch := omega) only [List.any_cons, List.any_nil, Nat.reduceEqDiff, List.map_cons, List.map_nil, Option.map_some, Option.map_none, List.nil_append, ↓reduceIte, vcu0, vcu1, vcu2, vcu3, vcu4, vcu5, vcu6, vcu7, vcu8, vcu9, vcu10, vcu11, vcu12, vcu13, vcu14, vcu15, vcu16, ↓vcd0, ↓vcd1, ↓vcd2, ↓vcd3]; rfl) co4 (by simp -implicitDefEqProofs (disch := omega) only [List.any_cons, List.any_nil, Nat.reduceEqDiff, List.map_cons, List.map_nil, Option.map_some, Option.map_none, List.nil_append, ↓reduceIte, vcu0, vcu1, vcu2, vcu3, vcu4, vcu5, vcu6, vcu7, vcu8, vcu9, vcu10, vcu11, vcu12, vcu13, vcu14, vcu15, vcu16, ↓vcd0, ↓vcd1, ↓vcd2, ↓vcd3]; rfl) etr (by rw [bools_length, hMk.1]; omega) fun σ8 k8 etr8 => ?_
      simp -implicitDefEqProofs (disch := omega) only [List.any_cons, List.any_nil, Nat.reduceEqDiff, List.map_cons, List.map_nil, Option.map_some, Option.map_none, List.nil_append, ↓reduceIte, vcu0, vcu1, vcu2, vcu3, vcu4, vcu5, vcu6, vcu7, vcu8, vcu9, vcu10, vcu11, vcu12, vcu13, vcu14, vcu15, vcu16, ↓vcd0, ↓vcd1, ↓vcd2, ↓vcd3, Nat.zero_add] at etr8
      rw [bools_set] at etr8
      simp -implicitDefEqProofs (disch := omega) only [List.any_cons, List.any_nil, Nat.reduceEqDiff, List.map_cons, List.map_nil, Option.map_some, Option.map_none, List.nil_append, ↓reduceIte, vcu0, vcu1, vcu2, vcu3, vcu4, vcu5, vcu6, vcu7, vcu8, vcu9, vcu10, vcu11, vcu12, vcu13, vcu14, vcu15, vcu16, ↓vcd0, ↓vcd1, ↓vcd2, ↓vcd3, h38]
      refine ⟨?_, m3 - 1, by omega, k + 1, _, by omega, by simp, k8.sub hs ftr, k8.at ebt d1, k8.at ebi d2, k8.at ebc d3, k8.at ebr d4, k8.at eir d5, etr8, by rw [htk]; exact hMk.step hxb.1 hxb.2⟩
      first | trivial | simp [e1, e2, e5, e7, e8, e9, e36, e37, c1, c2, c5, c7, c8, h9]
    · have ek : k = given.length := by omega
      rw [ek, List.take_length] at hMk
      have lbc := ld_of ebc
      simp -implicitDefEqProofs (disch := omega) only [List.any_cons, List.any_nil, Nat.reduceEqDiff, List.map_cons, List.map_nil, Option.map_some, Option.map_none, List.nil_append, ↓reduceIte, vcu0, vcu1, vcu2, vcu3, vcu4, vcu5, vcu6, vcu7, vcu8, vcu9, vcu10, vcu11, vcu12, vcu13, vcu14, vcu15, vcu16, ↓vcd0, ↓vcd1, ↓vcd2, ↓vcd3, e1, e2, e5, e7, e8, e9, e36, e37, h38, lbc]
      have hβ : ∀ x ob, x ≠ ir → x ≠ tr → σ7 x = some ob → ((σ7.upd ir none).upd tr none) x = some ob := fun x ob a b e => by rw [AHeap.upd_ne _ _ b, AHeap.upd_ne _ _ a]; exact e
      have hsβ : Sub ((σ7.upd ir none).upd tr none) σ7 := (sub_erase _ _).trans (sub_erase _ _)
      have hσβ : Sub σ ((σ7.upd ir none).upd tr none) := fun x ob e => hβ x ob (ne_of' fir e) (ne_of' ftr e) (hs x ob e)
      have hF : KF ((σ7.upd ir none).upd tr none) n bt br bi bc tr ir th to rows :=
        ⟨hβ _ _ h21 d1 ebt, hβ _ _ g3.symm d4 ebr, hβ _ _ h32.symm d2 ebi, hβ _ _ g6.symm d3 ebc, hv.sub hσβ, hsq, hn6⟩
      have hKS : KS ((σ7.upd ir none).upd tr none) σ7 tr ir M T := ⟨hsβ, AHeap.upd_same _ _ _, by rw [AHeap.upd_ne _ _ d5]; exact AHeap.upd_same _ _ _, d5.symm, etr, eir⟩
      rw [r_callv]
      refine ⟨(69, #[.pointer (some ⟨bt, 0, none⟩), .pointer (some ⟨br, 0, none⟩), .pointer (some ⟨bi, 0, none⟩), .pointer (some ⟨bc, 0, none⟩)]), by simp -implicitDefEqProofs (disch := omega) only [List.any_cons, List.any_nil, Nat.reduceEqDiff, List.map_cons, List.map_nil, Option.map_some, Option.map_none, List.nil_append, ↓reduceIte, vcu0, vcu1, vcu2, vcu3, vcu4, vcu5, vcu6, vcu7, vcu8, vcu9, vcu10, vcu11, vcu12, vcu13, vcu14, vcu15, vcu16, ↓vcd0, ↓vcd1, ↓vcd2, ↓vcd3], ?_⟩
      simp -implicitDefEqProofs (disch := omega) only [List.any_cons, List.any_nil, Nat.reduceEqDiff, List.map_cons, List.map_nil, Option.map_some, Option.map_none, List.nil_append, ↓reduceIte, vcu0, vcu1, vcu2, vcu3, vcu4, vcu5, vcu6, vcu7, vcu8, vcu9, vcu10, vcu11, vcu12, vcu13, vcu14, vcu15, vcu16, ↓vcd0, ↓vcd1, ↓vcd2, ↓vcd3, List.cons_append, e9]
      refine (connect_at _ n bt br bi bc tr ir th to rows hF (un T + 1) σ7 M T i (by omega) hlt2 hKS htop.mat hMk.1).mono ?_
      rintro r σ8 ⟨b, M', T', rfl, hS8, hT8, -, hw, hl⟩
      have hs8 : Sub σ σ8 := hσβ.trans hS8.sub
      have hMk' : Marks rows.length given T := by rw [hsq.1]; exact hMk
      cases b with
      | true =>
        simp -implicitDefEqProofs (disch := omega) only [List.any_cons, List.any_nil, Nat.reduceEqDiff, List.map_cons, List.map_nil, Option.map_some, Option.map_none, List.nil_append, ↓reduceIte, vcu0, vcu1, vcu2, vcu3, vcu4, vcu5, vcu6, vcu7, vcu8, vcu9, vcu10, vcu11, vcu12, vcu13, vcu14, vcu15, vcu16, ↓vcd0, ↓vcd1, ↓vcd2, ↓vcd3, opK_some, e9]
        refine ⟨?_, m2 - 1, by omega, i + 1, M', by omega, by omega, by simp, hs8, hS8.sub _ _ (hβ _ _ h21 d1 ebt), hS8.sub _ _ (hβ _ _ h32.symm d2 ebi), hS8.sub _ _ (hβ _ _ g6.symm d3 ebc), ⟨_, hS8.sub _ _ (hβ _ _ g3.symm d4 ebr)⟩, hS8.ir_, htop.won hMk' hgi2 (hw rfl)⟩
        simp [e1, e2, e5, e7, e8, c1, c2, c5, c7, c8, h1, h2, h5]
      | false =>
        simp -implicitDefEqProofs (disch := omega) only [List.any_cons, List.any_nil, Nat.reduceEqDiff, List.map_cons, List.map_nil, Option.map_some, Option.map_none, List.nil_append, ↓reduceIte, vcu0, vcu1, vcu2, vcu3, vcu4, vcu5, vcu6, vcu7, vcu8, vcu9, vcu10, vcu11, vcu12, vcu13, vcu14, vcu15, vcu16, ↓vcd0, ↓vcd1, ↓vcd2, ↓vcd3, opK_some]
        obtain ⟨rfl, hL⟩ := hl rfl
        rw [← hsq.1] at hL
        refine fin_one Try.results66 ⟨false, ?_, ⟨fun h => (by cases h), fun h => absurd h (htop.none hMk' hgi2 (by rw [hsq.1]; exact hlt2) hL)⟩, hs8⟩
        simp -implicitDefEqProofs (disch := omega) only [List.any_cons, List.any_nil, Nat.reduceEqDiff, List.map_cons, List.map_nil, Option.map_some, Option.map_none, List.nil_append, ↓reduceIte, vcu0, vcu1, vcu2, vcu3, vcu4, vcu5, vcu6, vcu7, vcu8, vcu9, vcu10, vcu11, vcu12, vcu13, vcu14, vcu15, vcu16, ↓vcd0, ↓vcd1, ↓vcd2, ↓vcd3]
  · have e : i = n := by omega
    subst e
    simp -implicitDefEqProofs (disch := omega) only [List.any_cons, List.any_nil, Nat.reduceEqDiff, List.map_cons, List.map_nil, Option.map_some, Option.map_none, List.nil_append, ↓reduceIte, vcu0, vcu1, vcu2, vcu3, vcu4, vcu5, vcu6, vcu7, vcu8, vcu9, vcu10, vcu11, vcu12, vcu13, vcu14, vcu15, vcu16, ↓vcd0, ↓vcd1, ↓vcd2, ↓vcd3, c1, c2, c5, c7, c8, h9, lbt]
    rw [← hsq.1] at htop
    refine fin_one Try.results66 ⟨true, ?_, ⟨fun _ => htop.all, fun _ => rfl⟩, hs⟩
    simp -implicitDefEqProofs (disch := omega) only [List.any_cons, List.any_nil, Nat.reduceEqDiff, List.map_cons, List.map_nil, Option.map_some, Option.map_none, List.nil_append, ↓reduceIte, vcu0, vcu1, vcu2, vcu3, vcu4, vcu5, vcu6, vcu7, vcu8, vcu9, vcu10, vcu11, vcu12, vcu13, vcu14, vcu15, vcu16, ↓vcd0, ↓vcd1, ↓vcd2, ↓vcd3]
end Go.Proofs.Ytbfldpcikcdlpaa
