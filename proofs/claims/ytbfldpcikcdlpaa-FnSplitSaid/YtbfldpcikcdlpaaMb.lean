/- The closure that looks for an alternating way. -/
import Derived.Test.YtbfldpcikcdlpaaMa
set_option linter.unusedSimpArgs false
set_option linter.unusedVariables false
namespace Go.Proofs.Ytbfldpcikcdlpaa
open Go Go.Abs Go.RowKit
variable {w0 : World}

def bools (T : List Bool) : List Value := T.map Value.bool
theorem bools_length (T : List Bool) : (bools T).length = T.length := by simp [bools]
theorem bools_set (T : List Bool) (i : Nat) (v : Bool) : (bools T).set i (.bool v) = bools (T.set i v) := by simp [bools, List.map_set]
theorem own_bool {σ : AHeap} {g : Nat} {T : List Bool} (h : σ g = some ⟨bools T, false⟩) {i : Nat} (hi : i < T.length) : ld σ g (0 + i) = some (.bool (T.getD i false)) := by
  unfold ld; rw [h]; simp [bools, hi]
def un (T : List Bool) : Nat := T.count false
theorem un_set {T : List Bool} {k : Nat} (hk : k < T.length) (h : T.getD k false = false) : un (T.set k true) + 1 = un T := by
  unfold un
  induction T generalizing k with
  | nil => simp at hk
  | cons x T ih =>
    cases k with
    | zero => simp at h; subst h; simp [List.count_cons]
    | succ k =>
      have := ih (k := k) (by simpa using hk) (by simpa using h)
      simp only [List.set_cons_succ, List.count_cons]
      omega

/-- what the closure's calls turn: what was tried, and the matching -/
structure KS (β σ : AHeap) (tr ir : Nat) (M : List Int) (T : List Bool) : Prop where
  sub : Sub β σ
  ftr : β tr = none
  fir : β ir = none
  ne : tr ≠ ir
  tr_ : σ tr = some ⟨bools T, false⟩
  ir_ : σ ir = some ⟨ints .i64 M, false⟩
/-- what they leave alone -/
structure KF (β : AHeap) (n bt br bi bc tr ir th to : Nat) (rows : List (List Int)) : Prop where
  bt_ : β bt = some ⟨[.slice (some ⟨th, to, none⟩) n 1], false⟩
  br_ : β br = some ⟨[.slice (some ⟨tr, 0, none⟩) n 1], false⟩
  bi_ : β bi = some ⟨[.slice (some ⟨ir, 0, none⟩) n 1], false⟩
  bc_ : β bc = some ⟨[.func (.func 69) #[] #[.pointer (some ⟨bt, 0, none⟩), .pointer (some ⟨br, 0, none⟩), .pointer (some ⟨bi, 0, none⟩), .pointer (some ⟨bc, 0, none⟩)]], false⟩
  rows_ : RowsAt β th to rows
  sq : Sq n rows
  small : n ≤ 6
theorem ld_of {σ : AHeap} {h : Nat} {v : Value} {ro : Bool} (e : σ h = some ⟨[v], ro⟩) : ld σ h 0 = some v := by unfold ld; rw [e]; rfl
theorem KS.putT {β σ τ : AHeap} {tr ir : Nat} {M : List Int} {T T2 : List Bool} (h : KS β σ tr ir M T) (hk : Kept tr σ τ) (he : τ tr = some ⟨bools T2, false⟩) : KS β τ tr ir M T2 :=
  ⟨hk.sub h.sub h.ftr, h.ftr, h.fir, h.ne, he, hk.at h.ir_ h.ne.symm⟩
theorem KS.putM {β σ τ : AHeap} {tr ir : Nat} {M M2 : List Int} {T : List Bool} (h : KS β σ tr ir M T) (hk : Kept ir σ τ) (he : τ ir = some ⟨ints .i64 M2, false⟩) : KS β τ tr ir M2 T :=
  ⟨hk.sub h.sub h.fir, h.ftr, h.fir, h.ne, hk.at h.tr_ h.ne, he⟩

theorem connect_at (β : AHeap) (n bt br bi bc tr ir th to : Nat) (rows : List (List Int)) (hF : KF β n bt br bi bc tr ir th to rows) : ∀ (u : Nat) (σ : AHeap) (M : List Int) (T : List Bool) (i : Nat), un T < u → i < n → KS β σ tr ir M T → Mat rows M → T.length = n →
    ACall Try.prog w0 69 [.int .i64 i, .pointer (some ⟨bt, 0, none⟩), .pointer (some ⟨br, 0, none⟩), .pointer (some ⟨bi, 0, none⟩), .pointer (some ⟨bc, 0, none⟩)] σ fun r σ' => ∃ (b : Bool) (M' : List Int) (T' : List Bool), r = .bool b ∧ KS β σ' tr ir M' T' ∧ T'.length = n ∧ un T' ≤ un T ∧ (b = true → Won rows M T i M' T') ∧ (b = false → M' = M ∧ Lost rows M T i n T') := by
  intro u
  induction u with
  | zero => intro σ M T i h; omega
  | succ u ih =>
    intro σ M T i hu hi hS hM hT
    have hn6 := hF.small
    have hrn := hF.sq.1
    have hMl := hM.len
    refine acall_go mixed Try.func69 rfl good69 ?_
    have lbt := ld_of (hS.sub _ _ hF.bt_)
    obtain ⟨v, hx, hv⟩ := hF.rows_ i (by omega)
    have hrl := hF.sq.2 i hi
    have hen : ∀ o, en rows i o = (rows.getD i []).getD o 0 := fun _ => rfl
    generalize rows.getD i [] = row at hv hrl hen
    rcases hv with ⟨rfl, rfl⟩ | ⟨rg, ro, rfl, hrow⟩
    · simp at hrl; omega
    rw [hrl] at hx
    replace hx := ld_sub hS.sub hx
    simp -implicitDefEqProofs (disch := omega) only [List.any_cons, List.any_nil, Nat.reduceEqDiff, List.map_cons, List.map_nil, Option.map_some, Option.map_none, List.nil_append, ↓reduceIte, vcu0, vcu1, vcu2, vcu3, vcu4, vcu5, vcu6, vcu7, vcu8, vcu9, vcu10, vcu11, vcu12, vcu13, vcu14, vcu15, vcu16, ↓vcd0, ↓vcd1, ↓vcd2, ↓vcd3, lbt, hx]
    refine vc_loop_c mixed (by kernel_rfl) [0, 1, 2, 3, 4, 12, 13] (fun m a σ' => ∃ (k : Nat) (T1 : List Bool), m + k = n ∧ a 14 = .int .i64 k ∧ KS β σ' tr ir M T1 ∧ un T1 ≤ un T ∧ Lost rows M T i k T1) n ⟨0, T, by simp, rfl, hS, Nat.le_refl _, Lost.start i (by omega)⟩ ?_
    rintro m a σ' hc ⟨k, T1, hk, h14, hS1, hu1, hL⟩
    simp -implicitDefEqProofs (disch := omega) only [List.any_cons, List.any_nil, Nat.reduceEqDiff, List.map_cons, List.map_nil, Option.map_some, Option.map_none, List.nil_append, ↓reduceIte, vcu0, vcu1, vcu2, vcu3, vcu4, vcu5, vcu6, vcu7, vcu8, vcu9, vcu10, vcu11, vcu12, vcu13, vcu14, vcu15, vcu16, ↓vcd0, ↓vcd1, ↓vcd2, ↓vcd3] at hc
    obtain ⟨h0, h1, h2, h3, h4, h12, h13, -⟩ := hc
    have hrow1 : IntsAt .i64 σ' rg ro row := hrow.sub hS1.sub
    have lbr := ld_of (hS1.sub _ _ hF.br_)
    have lbi := ld_of (hS1.sub _ _ hF.bi_)
    have lbc := ld_of (hS1.sub _ _ hF.bc_)
    have hT1l := hL.len
    by_cases hlt : k < n
    · have hy := hrow1 k (by omega)
      have ltk := own_bool hS1.tr_ (i := k) (by omega)
      have lmk := own_at hS1.ir_ (i := k) (by omega)
      by_cases he : row.getD k 0 ≤ 0
      · simp -implicitDefEqProofs (disch := omega) only [List.any_cons, List.any_nil, Nat.reduceEqDiff, List.map_cons, List.map_nil, Option.map_some, Option.map_none, List.nil_append, ↓reduceIte, vcu0, vcu1, vcu2, vcu3, vcu4, vcu5, vcu6, vcu7, vcu8, vcu9, vcu10, vcu11, vcu12, vcu13, vcu14, vcu15, vcu16, ↓vcd0, ↓vcd1, ↓vcd2, ↓vcd3, h0, h1, h2, h3, h4, h12, h13, h14, hy, lbr, ltk]
        refine ⟨?_, m - 1, by omega, k + 1, T1, by omega, by simp, hS1, hu1, hL.skip (fun hE => ?_)⟩
        · first | trivial | simp [h0, h1, h2, h3, h4, h12, h13]
        · unfold Edge at hE; rw [hen] at hE; omega
      · have hE : Edge rows i k := by unfold Edge; rw [hen]; omega
        cases htk : T1.getD k false with
        | true =>
          rw [htk] at ltk
          simp -implicitDefEqProofs (disch := omega) only [List.any_cons, List.any_nil, Nat.reduceEqDiff, List.map_cons, List.map_nil, Option.map_some, Option.map_none, List.nil_append, ↓reduceIte, vcu0, vcu1, vcu2, vcu3, vcu4, vcu5, vcu6, vcu7, vcu8, vcu9, vcu10, vcu11, vcu12, vcu13, vcu14, vcu15, vcu16, ↓vcd0, ↓vcd1, ↓vcd2, ↓vcd3, h0, h1, h2, h3, h4, h12, h13, h14, hy, lbr, ltk]
          refine ⟨?_, m - 1, by omega, k + 1, T1, by omega, by simp, hS1, hu1, hL.skip (fun _ => htk)⟩
          first | trivial | simp [h0, h1, h2, h3, h4, h12, h13]
        | false =>
          rw [htk] at ltk
          have hus := un_set (T := T1) (k := k) (by omega) htk
          simp -implicitDefEqProofs (disch := omega) only [List.any_cons, List.any_nil, Nat.reduceEqDiff, List.map_cons, List.map_nil, Option.map_some, Option.map_none, List.nil_append, ↓reduceIte, vcu0, vcu1, vcu2, vcu3, vcu4, vcu5, vcu6, vcu7, vcu8, vcu9, vcu10, vcu11, vcu12, vcu13, vcu14, vcu15, vcu16, ↓vcd0, ↓vcd1, ↓vcd2, ↓vcd3, h0, h1, h2, h3, h4, h12, h13, h14, hy, lbr, ltk]
          refine r_set (g := tr) (i := 0 + k) (by simp -implicitDefEqProofs (disch := omega) only [List.any_cons, List.any_nil, Nat.reduceEqDiff, List.map_cons, List.map_nil, Option.map_some, Option.map_none, List.nil_append, ↓reduceIte, vcu0, vcu1, vcu2, vcu3, vcu4, vcu5, vcu6, vcu7, vcu8, vcu9, vcu10, vcu11, vcu12, vcu13, vcu14, vcu15, vcu16, ↓vcd0, ↓vcd1, ↓vcd2, ↓vcd3]) (by simp -implicitDefEqProofs (disch := omega) only [List.any_cons, List.any_nil, Nat.reduceEqDiff, List.map_cons, List.map_nil, Option.map_some, Option.map_none, List.nil_append, ↓reduceIte, vcu0, vcu1, vcu2, vcu3, vcu4, vcu5, vcu6, vcu7, vcu8, vcu9, vcu10, vcu11, vcu12, vcu13, vcu14, vcu15, vcu16, ↓vcd0, ↓vcd1, ↓vcd2, ↓vcd3]; rfl) co4 (by simp -implicitDefEqProofs (disch := omega) only [List.any_cons, List.any_nil, Nat.reduceEqDiff, List.map_cons, List.map_nil, Option.map_some, Option.map_none, List.nil_append, ↓reduceIte, vcu0, vcu1, vcu2, vcu3, vcu4, vcu5, vcu6, vcu7, vcu8, vcu9, vcu10, vcu11, vcu12, vcu13, vcu14, vcu15, vcu16, ↓vcd0, ↓vcd1, ↓vcd2, ↓vcd3]; rfl) hS1.tr_ (by rw [bools_length]; omega) fun τ2 k2 e2 => ?_
          simp -implicitDefEqProofs (disch := omega) only [List.any_cons, List.any_nil, Nat.reduceEqDiff, List.map_cons, List.map_nil, Option.map_some, Option.map_none, List.nil_append, ↓reduceIte, vcu0, vcu1, vcu2, vcu3, vcu4, vcu5, vcu6, vcu7, vcu8, vcu9, vcu10, vcu11, vcu12, vcu13, vcu14, vcu15, vcu16, ↓vcd0, ↓vcd1, ↓vcd2, ↓vcd3, Nat.zero_add] at e2
          rw [bools_set] at e2
          have hS2 := hS1.putT k2 e2
          have lbi2 := ld_of (hS2.sub _ _ hF.bi_)
          have lbc2 := ld_of (hS2.sub _ _ hF.bc_)
          have lmk2 := own_at hS2.ir_ (i := k) (by omega)
          simp -implicitDefEqProofs (disch := omega) only [List.any_cons, List.any_nil, Nat.reduceEqDiff, List.map_cons, List.map_nil, Option.map_some, Option.map_none, List.nil_append, ↓reduceIte, vcu0, vcu1, vcu2, vcu3, vcu4, vcu5, vcu6, vcu7, vcu8, vcu9, vcu10, vcu11, vcu12, vcu13, vcu14, vcu15, vcu16, ↓vcd0, ↓vcd1, ↓vcd2, ↓vcd3, h0, h1, h2, h3, h4, h12, h13, h14]
          have bbi := ld_of hF.bi_
          have bbc := ld_of hF.bc_
          refine region_tree mixed (quiets [0, 1] (.one 2 (.one 3 (.one 4 (.one 5 (quiets [6, 7, 8] (.one 9 (.one 10 (.one 11 (.one 12 .stop)))))))))) [([0, 1, 6, 7, 8], Sub β)] (by kernel_rfl) (by kernel_rfl) (fun p hp => by
            simp only [List.mem_cons, List.not_mem_nil, or_false] at hp
            subst hp; exact hS2.sub) ?_
          refine tree_quiets β _ _ _ (fun i hi => sf1 i (by simp at hi ⊢; omega)) (by kernel_rfl) (by kernel_rfl) ?_
          simp -implicitDefEqProofs (disch := omega) only [List.any_cons, List.any_nil, Nat.reduceEqDiff, List.map_cons, List.map_nil, Option.map_some, Option.map_none, List.nil_append, ↓reduceIte, vcu0, vcu1, vcu2, vcu3, vcu4, vcu5, vcu6, vcu7, vcu8, vcu9, vcu10, vcu11, vcu12, vcu13, vcu14, vcu15, vcu16, ↓vcd0, ↓vcd1, ↓vcd2, ↓vcd3, pickOps_nil, pickOps_cons, pickO_some, List.getElem?_cons_succ, List.getElem?_cons_zero, h0, h1, h2, h3, h4, h12, h13, h14, bbi]
          refine tree_one rfl ?_
          simp -implicitDefEqProofs (disch := omega) only [List.any_cons, List.any_nil, Nat.reduceEqDiff, List.map_cons, List.map_nil, Option.map_some, Option.map_none, List.nil_append, ↓reduceIte, vcu0, vcu1, vcu2, vcu3, vcu4, vcu5, vcu6, vcu7, vcu8, vcu9, vcu10, vcu11, vcu12, vcu13, vcu14, vcu15, vcu16, ↓vcd0, ↓vcd1, ↓vcd2, ↓vcd3]
          refine ⟨.inl rfl, tree_one rfl ?_⟩
          simp -implicitDefEqProofs (disch := omega) only [List.any_cons, List.any_nil, Nat.reduceEqDiff, List.map_cons, List.map_nil, Option.map_some, Option.map_none, List.nil_append, ↓reduceIte, vcu0, vcu1, vcu2, vcu3, vcu4, vcu5, vcu6, vcu7, vcu8, vcu9, vcu10, vcu11, vcu12, vcu13, vcu14, vcu15, vcu16, ↓vcd0, ↓vcd1, ↓vcd2, ↓vcd3, lmk2]
          refine ⟨.inl rfl, tree_one rfl ?_⟩
          simp -implicitDefEqProofs (disch := omega) only [List.any_cons, List.any_nil, Nat.reduceEqDiff, List.map_cons, List.map_nil, Option.map_some, Option.map_none, List.nil_append, ↓reduceIte, vcu0, vcu1, vcu2, vcu3, vcu4, vcu5, vcu6, vcu7, vcu8, vcu9, vcu10, vcu11, vcu12, vcu13, vcu14, vcu15, vcu16, ↓vcd0, ↓vcd1, ↓vcd2, ↓vcd3]
          refine ⟨.inl rfl, tree_one rfl ?_⟩
          simp -implicitDefEqProofs (disch := omega) only [List.any_cons, List.any_nil, Nat.reduceEqDiff, List.map_cons, List.map_nil, Option.map_some, Option.map_none, List.nil_append, ↓reduceIte, vcu0, vcu1, vcu2, vcu3, vcu4, vcu5, vcu6, vcu7, vcu8, vcu9, vcu10, vcu11, vcu12, vcu13, vcu14, vcu15, vcu16, ↓vcd0, ↓vcd1, ↓vcd2, ↓vcd3]
          refine ⟨.inl rfl, ?_⟩
          refine tree_quiets β _ _ _ (fun i hi => sf1 i (by simp at hi ⊢; omega)) (by kernel_rfl) (by kernel_rfl) ?_
          by_cases hneg : M.getD k 0 < 0
          · simp -implicitDefEqProofs (disch := omega) only [List.any_cons, List.any_nil, Nat.reduceEqDiff, List.map_cons, List.map_nil, Option.map_some, Option.map_none, List.nil_append, ↓reduceIte, vcu0, vcu1, vcu2, vcu3, vcu4, vcu5, vcu6, vcu7, vcu8, vcu9, vcu10, vcu11, vcu12, vcu13, vcu14, vcu15, vcu16, ↓vcd0, ↓vcd1, ↓vcd2, ↓vcd3, pickOps_nil, pickOps_cons, pickO_some, List.getElem?_cons_succ, List.getElem?_cons_zero, h0, h1, h2, h3, h4, h12, h13, h14]
            refine tree_one rfl ?_
            simp -implicitDefEqProofs (disch := omega) only [List.any_cons, List.any_nil, Nat.reduceEqDiff, List.map_cons, List.map_nil, Option.map_some, Option.map_none, List.nil_append, ↓reduceIte, vcu0, vcu1, vcu2, vcu3, vcu4, vcu5, vcu6, vcu7, vcu8, vcu9, vcu10, vcu11, vcu12, vcu13, vcu14, vcu15, vcu16, ↓vcd0, ↓vcd1, ↓vcd2, ↓vcd3]
            refine ⟨.inl rfl, tree_one rfl ?_⟩
            simp -implicitDefEqProofs (disch := omega) only [List.any_cons, List.any_nil, Nat.reduceEqDiff, List.map_cons, List.map_nil, Option.map_some, Option.map_none, List.nil_append, ↓reduceIte, vcu0, vcu1, vcu2, vcu3, vcu4, vcu5, vcu6, vcu7, vcu8, vcu9, vcu10, vcu11, vcu12, vcu13, vcu14, vcu15, vcu16, ↓vcd0, ↓vcd1, ↓vcd2, ↓vcd3]
            refine ⟨.inl rfl, tree_one rfl ?_⟩
            simp -implicitDefEqProofs (disch := omega) only [List.any_cons, List.any_nil, Nat.reduceEqDiff, List.map_cons, List.map_nil, Option.map_some, Option.map_none, List.nil_append, ↓reduceIte, vcu0, vcu1, vcu2, vcu3, vcu4, vcu5, vcu6, vcu7, vcu8, vcu9, vcu10, vcu11, vcu12, vcu13, vcu14, vcu15, vcu16, ↓vcd0, ↓vcd1, ↓vcd2, ↓vcd3]
            refine ⟨.inl rfl, tree_one rfl ?_⟩
            simp -implicitDefEqProofs (disch := omega) only [List.any_cons, List.any_nil, Nat.reduceEqDiff, List.map_cons, List.map_nil, Option.map_some, Option.map_none, List.nil_append, ↓reduceIte, vcu0, vcu1, vcu2, vcu3, vcu4, vcu5, vcu6, vcu7, vcu8, vcu9, vcu10, vcu11, vcu12, vcu13, vcu14, vcu15, vcu16, ↓vcd0, ↓vcd1, ↓vcd2, ↓vcd3]
            refine ⟨.inl rfl, tree_stop ?_⟩
            simp -implicitDefEqProofs (disch := omega) only [List.any_cons, List.any_nil, Nat.reduceEqDiff, List.map_cons, List.map_nil, Option.map_some, Option.map_none, List.nil_append, ↓reduceIte, vcu0, vcu1, vcu2, vcu3, vcu4, vcu5, vcu6, vcu7, vcu8, vcu9, vcu10, vcu11, vcu12, vcu13, vcu14, vcu15, vcu16, ↓vcd0, ↓vcd1, ↓vcd2, ↓vcd3, h0, h1, h2, h3, h4, h12, h13, h14, lbi2]
            refine r_setI (g := ir) (i := 0 + k) (v := i) (by simp -implicitDefEqProofs (disch := omega) only [List.any_cons, List.any_nil, Nat.reduceEqDiff, List.map_cons, List.map_nil, Option.map_some, Option.map_none, List.nil_append, ↓reduceIte, vcu0, vcu1, vcu2, vcu3, vcu4, vcu5, vcu6, vcu7, vcu8, vcu9, vcu10, vcu11, vcu12, vcu13, vcu14, vcu15, vcu16, ↓vcd0, ↓vcd1, ↓vcd2, ↓vcd3]) (by simp -implicitDefEqProofs (disch := omega) only [List.any_cons, List.any_nil, Nat.reduceEqDiff, List.map_cons, List.map_nil, Option.map_some, Option.map_none, List.nil_append, ↓reduceIte, vcu0, vcu1, vcu2, vcu3, vcu4, vcu5, vcu6, vcu7, vcu8, vcu9, vcu10, vcu11, vcu12, vcu13, vcu14, vcu15, vcu16, ↓vcd0, ↓vcd1, ↓vcd2, ↓vcd3]) co3 hS2.ir_ (by omega) fun τ3 k3 e3 => ?_
            rw [Nat.zero_add] at e3
            simp -implicitDefEqProofs (disch := omega) only [List.any_cons, List.any_nil, Nat.reduceEqDiff, List.map_cons, List.map_nil, Option.map_some, Option.map_none, List.nil_append, ↓reduceIte, vcu0, vcu1, vcu2, vcu3, vcu4, vcu5, vcu6, vcu7, vcu8, vcu9, vcu10, vcu11, vcu12, vcu13, vcu14, vcu15, vcu16, ↓vcd0, ↓vcd1, ↓vcd2, ↓vcd3]
            have hW := Won.take (i := i) (k := k) (T2 := T1.set k true) (M2 := M) (T3 := T1.set k true) (by omega) (by omega) hE hL (by rw [htk]; simp) rfl (.inl ⟨hneg, rfl, rfl, hM⟩)
            refine fin_one Try.results69 ⟨true, _, T1.set k true, ?_, hS2.putM k3 e3, by simp; omega, by omega, fun _ => hW, fun h => (by cases h)⟩
            simp -implicitDefEqProofs (disch := omega) only [List.any_cons, List.any_nil, Nat.reduceEqDiff, List.map_cons, List.map_nil, Option.map_some, Option.map_none, List.nil_append, ↓reduceIte, vcu0, vcu1, vcu2, vcu3, vcu4, vcu5, vcu6, vcu7, vcu8, vcu9, vcu10, vcu11, vcu12, vcu13, vcu14, vcu15, vcu16, ↓vcd0, ↓vcd1, ↓vcd2, ↓vcd3]
          · simp -implicitDefEqProofs (disch := omega) only [List.any_cons, List.any_nil, Nat.reduceEqDiff, List.map_cons, List.map_nil, Option.map_some, Option.map_none, List.nil_append, ↓reduceIte, vcu0, vcu1, vcu2, vcu3, vcu4, vcu5, vcu6, vcu7, vcu8, vcu9, vcu10, vcu11, vcu12, vcu13, vcu14, vcu15, vcu16, ↓vcd0, ↓vcd1, ↓vcd2, ↓vcd3, pickOps_nil, pickOps_cons, pickO_some, List.getElem?_cons_succ, List.getElem?_cons_zero, h0, h1, h2, h3, h4, h12, h13, h14, bbi, bbc]
            refine tree_one rfl ?_
            simp -implicitDefEqProofs (disch := omega) only [List.any_cons, List.any_nil, Nat.reduceEqDiff, List.map_cons, List.map_nil, Option.map_some, Option.map_none, List.nil_append, ↓reduceIte, vcu0, vcu1, vcu2, vcu3, vcu4, vcu5, vcu6, vcu7, vcu8, vcu9, vcu10, vcu11, vcu12, vcu13, vcu14, vcu15, vcu16, ↓vcd0, ↓vcd1, ↓vcd2, ↓vcd3]
            refine ⟨.inl rfl, tree_one rfl ?_⟩
            simp -implicitDefEqProofs (disch := omega) only [List.any_cons, List.any_nil, Nat.reduceEqDiff, List.map_cons, List.map_nil, Option.map_some, Option.map_none, List.nil_append, ↓reduceIte, vcu0, vcu1, vcu2, vcu3, vcu4, vcu5, vcu6, vcu7, vcu8, vcu9, vcu10, vcu11, vcu12, vcu13, vcu14, vcu15, vcu16, ↓vcd0, ↓vcd1, ↓vcd2, ↓vcd3, lmk2]
            refine ⟨.inl rfl, tree_one rfl ?_⟩
            obtain ⟨j, hj⟩ : ∃ j : Nat, M.getD k 0 = j := ⟨(M.getD k 0).toNat, by omega⟩
            have hmk := hM.ok k (by omega) (by omega)
            rw [hj] at hneg hmk ⊢
            have hjn : j < n := by omega
            simp -implicitDefEqProofs (disch := omega) only [List.any_cons, List.any_nil, Nat.reduceEqDiff, List.map_cons, List.map_nil, Option.map_some, Option.map_none, List.nil_append, ↓reduceIte, vcu0, vcu1, vcu2, vcu3, vcu4, vcu5, vcu6, vcu7, vcu8, vcu9, vcu10, vcu11, vcu12, vcu13, vcu14, vcu15, vcu16, ↓vcd0, ↓vcd1, ↓vcd2, ↓vcd3]
            rw [r_callv]
            refine ⟨(69, #[.pointer (some ⟨bt, 0, none⟩), .pointer (some ⟨br, 0, none⟩), .pointer (some ⟨bi, 0, none⟩), .pointer (some ⟨bc, 0, none⟩)]), by simp -implicitDefEqProofs (disch := omega) only [List.any_cons, List.any_nil, Nat.reduceEqDiff, List.map_cons, List.map_nil, Option.map_some, Option.map_none, List.nil_append, ↓reduceIte, vcu0, vcu1, vcu2, vcu3, vcu4, vcu5, vcu6, vcu7, vcu8, vcu9, vcu10, vcu11, vcu12, vcu13, vcu14, vcu15, vcu16, ↓vcd0, ↓vcd1, ↓vcd2, ↓vcd3], ?_⟩
            simp -implicitDefEqProofs (disch := omega) only [List.any_cons, List.any_nil, Nat.reduceEqDiff, List.map_cons, List.map_nil, Option.map_some, Option.map_none, List.nil_append, ↓reduceIte, vcu0, vcu1, vcu2, vcu3, vcu4, vcu5, vcu6, vcu7, vcu8, vcu9, vcu10, vcu11, vcu12, vcu13, vcu14, vcu15, vcu16, ↓vcd0, ↓vcd1, ↓vcd2, ↓vcd3, List.cons_append]
            refine (ih τ2 M (T1.set k true) j (by omega) hjn hS2 hM (by simp; omega)).mono ?_
            rintro r σ4 ⟨b, M4, T4, rfl, hS4, hT4, hu4, hw4, hl4⟩
            have hjt : (M.getD k 0).toNat = j := by omega
            cases b with
            | true =>
              simp -implicitDefEqProofs (disch := omega) only [List.any_cons, List.any_nil, Nat.reduceEqDiff, List.map_cons, List.map_nil, Option.map_some, Option.map_none, List.nil_append, ↓reduceIte, vcu0, vcu1, vcu2, vcu3, vcu4, vcu5, vcu6, vcu7, vcu8, vcu9, vcu10, vcu11, vcu12, vcu13, vcu14, vcu15, vcu16, ↓vcd0, ↓vcd1, ↓vcd2, ↓vcd3, opK_some]
              refine ⟨keep_of rfl (fun p hp => by
                simp only [List.mem_cons, List.not_mem_nil, or_false] at hp
                subst hp; exact .inr hS4.sub), tree_one rfl ?_⟩
              simp -implicitDefEqProofs (disch := omega) only [List.any_cons, List.any_nil, Nat.reduceEqDiff, List.map_cons, List.map_nil, Option.map_some, Option.map_none, List.nil_append, ↓reduceIte, vcu0, vcu1, vcu2, vcu3, vcu4, vcu5, vcu6, vcu7, vcu8, vcu9, vcu10, vcu11, vcu12, vcu13, vcu14, vcu15, vcu16, ↓vcd0, ↓vcd1, ↓vcd2, ↓vcd3]
              refine ⟨.inl rfl, tree_stop ?_⟩
              have lbi4 := ld_of (hS4.sub _ _ hF.bi_)
              have hW4 := hw4 rfl
              have hM4l := hW4.mat.len
              simp -implicitDefEqProofs (disch := omega) only [List.any_cons, List.any_nil, Nat.reduceEqDiff, List.map_cons, List.map_nil, Option.map_some, Option.map_none, List.nil_append, ↓reduceIte, vcu0, vcu1, vcu2, vcu3, vcu4, vcu5, vcu6, vcu7, vcu8, vcu9, vcu10, vcu11, vcu12, vcu13, vcu14, vcu15, vcu16, ↓vcd0, ↓vcd1, ↓vcd2, ↓vcd3, h0, h1, h2, h3, h4, h12, h13, h14, lbi4]
              refine r_setI (g := ir) (i := 0 + k) (v := i) (by simp -implicitDefEqProofs (disch := omega) only [List.any_cons, List.any_nil, Nat.reduceEqDiff, List.map_cons, List.map_nil, Option.map_some, Option.map_none, List.nil_append, ↓reduceIte, vcu0, vcu1, vcu2, vcu3, vcu4, vcu5, vcu6, vcu7, vcu8, vcu9, vcu10, vcu11, vcu12, vcu13, vcu14, vcu15, vcu16, ↓vcd0, ↓vcd1, ↓vcd2, ↓vcd3]) (by simp -implicitDefEqProofs (disch := omega) only [List.any_cons, List.any_nil, Nat.reduceEqDiff, List.map_cons, List.map_nil, Option.map_some, Option.map_none, List.nil_append, ↓reduceIte, vcu0, vcu1, vcu2, vcu3, vcu4, vcu5, vcu6, vcu7, vcu8, vcu9, vcu10, vcu11, vcu12, vcu13, vcu14, vcu15, vcu16, ↓vcd0, ↓vcd1, ↓vcd2, ↓vcd3]) co3 hS4.ir_ (by omega) fun τ5 k5 e5 => ?_
              rw [Nat.zero_add] at e5
              simp -implicitDefEqProofs (disch := omega) only [List.any_cons, List.any_nil, Nat.reduceEqDiff, List.map_cons, List.map_nil, Option.map_some, Option.map_none, List.nil_append, ↓reduceIte, vcu0, vcu1, vcu2, vcu3, vcu4, vcu5, vcu6, vcu7, vcu8, vcu9, vcu10, vcu11, vcu12, vcu13, vcu14, vcu15, vcu16, ↓vcd0, ↓vcd1, ↓vcd2, ↓vcd3]
              have hW := Won.take (i := i) (k := k) (T2 := T1.set k true) (M2 := M4) (T3 := T4) (by omega) (by omega) hE hL (by rw [htk]; simp) rfl (.inr ⟨by omega, by rw [hjt]; exact hW4⟩)
              refine fin_one Try.results69 ⟨true, _, T4, ?_, hS4.putM k5 e5, hT4, by omega, fun _ => hW, fun h => (by cases h)⟩
              simp -implicitDefEqProofs (disch := omega) only [List.any_cons, List.any_nil, Nat.reduceEqDiff, List.map_cons, List.map_nil, Option.map_some, Option.map_none, List.nil_append, ↓reduceIte, vcu0, vcu1, vcu2, vcu3, vcu4, vcu5, vcu6, vcu7, vcu8, vcu9, vcu10, vcu11, vcu12, vcu13, vcu14, vcu15, vcu16, ↓vcd0, ↓vcd1, ↓vcd2, ↓vcd3]
            | false =>
              obtain ⟨rfl, hL4⟩ := hl4 rfl
              simp -implicitDefEqProofs (disch := omega) only [List.any_cons, List.any_nil, Nat.reduceEqDiff, List.map_cons, List.map_nil, Option.map_some, Option.map_none, List.nil_append, ↓reduceIte, vcu0, vcu1, vcu2, vcu3, vcu4, vcu5, vcu6, vcu7, vcu8, vcu9, vcu10, vcu11, vcu12, vcu13, vcu14, vcu15, vcu16, ↓vcd0, ↓vcd1, ↓vcd2, ↓vcd3, opK_some]
              refine ⟨keep_of rfl (fun p hp => by
                simp only [List.mem_cons, List.not_mem_nil, or_false] at hp
                subst hp; exact .inr hS4.sub), tree_one rfl ?_⟩
              simp -implicitDefEqProofs (disch := omega) only [List.any_cons, List.any_nil, Nat.reduceEqDiff, List.map_cons, List.map_nil, Option.map_some, Option.map_none, List.nil_append, ↓reduceIte, vcu0, vcu1, vcu2, vcu3, vcu4, vcu5, vcu6, vcu7, vcu8, vcu9, vcu10, vcu11, vcu12, vcu13, vcu14, vcu15, vcu16, ↓vcd0, ↓vcd1, ↓vcd2, ↓vcd3]
              refine ⟨.inl rfl, tree_stop ?_⟩
              simp -implicitDefEqProofs (disch := omega) only [List.any_cons, List.any_nil, Nat.reduceEqDiff, List.map_cons, List.map_nil, Option.map_some, Option.map_none, List.nil_append, ↓reduceIte, vcu0, vcu1, vcu2, vcu3, vcu4, vcu5, vcu6, vcu7, vcu8, vcu9, vcu10, vcu11, vcu12, vcu13, vcu14, vcu15, vcu16, ↓vcd0, ↓vcd1, ↓vcd2, ↓vcd3, h0, h1, h2, h3, h4, h12, h13, h14]
              refine ⟨?_, m - 1, by omega, k + 1, T4, by omega, by simp, hS4, by omega, hL.fail (by omega) rfl (by omega) (by rw [hjt, hrn]; exact hL4)⟩
              first | trivial | simp [h0, h1, h2, h3, h4, h12, h13]
    · simp -implicitDefEqProofs (disch := omega) only [List.any_cons, List.any_nil, Nat.reduceEqDiff, List.map_cons, List.map_nil, Option.map_some, Option.map_none, List.nil_append, ↓reduceIte, vcu0, vcu1, vcu2, vcu3, vcu4, vcu5, vcu6, vcu7, vcu8, vcu9, vcu10, vcu11, vcu12, vcu13, vcu14, vcu15, vcu16, ↓vcd0, ↓vcd1, ↓vcd2, ↓vcd3, h0, h1, h2, h3, h4, h12, h13, h14]
      have e : k = n := by omega
      subst e
      refine fin_one Try.results69 ⟨false, M, T1, ?_, hS1, by omega, hu1, fun h => (by cases h), fun _ => ⟨rfl, hL⟩⟩
      simp -implicitDefEqProofs (disch := omega) only [List.any_cons, List.any_nil, Nat.reduceEqDiff, List.map_cons, List.map_nil, Option.map_some, Option.map_none, List.nil_append, ↓reduceIte, vcu0, vcu1, vcu2, vcu3, vcu4, vcu5, vcu6, vcu7, vcu8, vcu9, vcu10, vcu11, vcu12, vcu13, vcu14, vcu15, vcu16, ↓vcd0, ↓vcd1, ↓vcd2, ↓vcd3]
end Go.Proofs.Ytbfldpcikcdlpaa
