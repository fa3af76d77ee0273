/- PermOf of the program, in this seat. -/
import Derived.Test.YtnkpoflhdfchjaaOh
set_option linter.unusedSimpArgs false
set_option linter.unusedVariables false
namespace Go.Proofs.Ytnkpoflhdfchjaa
open Go Go.Abs Go.RowKit
variable {w0 : World}

def idl (n : Nat) : List Int := (List.range n).map fun (i : Nat) => (i : Int)
def fac : Nat → Nat
  | 0 => 1
  | n + 1 => fac n * (n + 1)
theorem fac_le : ∀ {n : Nat}, n ≤ 6 → 1 ≤ fac n ∧ fac n ≤ 720 := by
  intro n h
  have : n = 0 ∨ n = 1 ∨ n = 2 ∨ n = 3 ∨ n = 4 ∨ n = 5 ∨ n = 6 := by omega
  rcases this with rfl | rfl | rfl | rfl | rfl | rfl | rfl <;> decide

theorem implFac_calls (σ : AHeap) (z : Int) (hz : 0 ≤ z ∧ z ≤ 6) :
    ACall Try.prog w0 83 [.int .i64 z] σ fun r σ' => r = .int .i64 (fac z.toNat) ∧ σ' = σ := by
  obtain ⟨n, rfl⟩ : ∃ n : Nat, z = n := ⟨z.toNat, by omega⟩
  rw [Int.toNat_natCast]
  have hn : n ≤ 6 := by omega
  refine acall_go mixed Try.func83 rfl good83 fun pr => ?_
  simp -implicitDefEqProofs (disch := omega) only [List.any_cons, List.any_nil, Nat.reduceEqDiff, List.map_cons, List.map_nil, Option.map_some, Option.map_none, List.nil_append, ↓reduceIte, vcu0, vcu1, vcu2, vcu3, vcu4, vcu5, vcu6, vcu7, vcu8, vcu9, vcu10, vcu11, vcu12, vcu13, vcu14, vcu15, vcu16, vcu17, vcu18, vcu19, vcu20, vcu21, vcu22, vcu23, vcu24, vcu25, vcu26, ↓vcd0, ↓vcd1, ↓vcd2, ↓vcd3]
  refine vc_loop mixed (by kernel_rfl) (fun m a σ' => ∃ i : Nat, m + i = 7 ∧ 1 ≤ i ∧ (i ≤ n ∨ i = 1) ∧ a 0 = .int .i64 n ∧ a 3 = .int .i64 (fac i) ∧ a 4 = .int .i64 (i + 1 : Nat) ∧ σ' = σ) 6 ⟨1, by omega, by omega, by omega, rfl, rfl, rfl, rfl⟩ ?_
  rintro m a σ' ⟨i, hi, h1, h2, h0, h3, h4, rfl⟩
  by_cases hlt : i + 1 ≤ n
  · have hb := fac_le (n := i) (by omega)
    have hb2 := fac_le (n := i + 1) (by omega)
    have hm : (fac i : Int) * ((i + 1 : Nat) : Int) = (fac (i + 1) : Nat) := by rw [fac]; simp
    simp -implicitDefEqProofs (disch := omega) only [List.any_cons, List.any_nil, Nat.reduceEqDiff, List.map_cons, List.map_nil, Option.map_some, Option.map_none, List.nil_append, ↓reduceIte, vcu0, vcu1, vcu2, vcu3, vcu4, vcu5, vcu6, vcu7, vcu8, vcu9, vcu10, vcu11, vcu12, vcu13, vcu14, vcu15, vcu16, vcu17, vcu18, vcu19, vcu20, vcu21, vcu22, vcu23, vcu24, vcu25, vcu26, ↓vcd0, ↓vcd1, ↓vcd2, ↓vcd3, h0, h3, h4]
    exact ⟨m - 1, by omega, i + 1, by omega, by omega, by omega, trivial, by rw [hm], by simp, trivial⟩
  · simp -implicitDefEqProofs (disch := omega) only [List.any_cons, List.any_nil, Nat.reduceEqDiff, List.map_cons, List.map_nil, Option.map_some, Option.map_none, List.nil_append, ↓reduceIte, vcu0, vcu1, vcu2, vcu3, vcu4, vcu5, vcu6, vcu7, vcu8, vcu9, vcu10, vcu11, vcu12, vcu13, vcu14, vcu15, vcu16, vcu17, vcu18, vcu19, vcu20, vcu21, vcu22, vcu23, vcu24, vcu25, vcu26, ↓vcd0, ↓vcd1, ↓vcd2, ↓vcd3, h0, h3, h4]
    refine fin_one Try.results83 ⟨?_, rfl⟩
    simp -implicitDefEqProofs (disch := omega) only [List.any_cons, List.any_nil, Nat.reduceEqDiff, List.map_cons, List.map_nil, Option.map_some, Option.map_none, List.nil_append, ↓reduceIte, vcu0, vcu1, vcu2, vcu3, vcu4, vcu5, vcu6, vcu7, vcu8, vcu9, vcu10, vcu11, vcu12, vcu13, vcu14, vcu15, vcu16, vcu17, vcu18, vcu19, vcu20, vcu21, vcu22, vcu23, vcu24, vcu25, vcu26, ↓vcd0, ↓vcd1, ↓vcd2, ↓vcd3, h3]
    rcases h2 with h2 | h2
    · have : i = n := by omega
      rw [this]
    · subst h2
      have : n = 0 ∨ n = 1 := by omega
      rcases this with rfl | rfl <;> rfl

theorem set_zeros {A : List Int} {k m : Nat} (v : Int) (h : A.length = k) (hm : 0 < m) : (A ++ List.replicate m 0).set k v = A ++ [v] ++ List.replicate (m - 1) 0 := by
  obtain ⟨m, rfl⟩ : ∃ m', m = m' + 1 := ⟨m - 1, by omega⟩
  rw [List.set_append_right _ _ (by omega), h, Nat.sub_self, List.append_assoc]
  rfl



theorem appd_gen (A B : List Int) (n : Nat) : appd (ints .i64 A) n (ints .i64 B) = ints .i64 (if n + B.length ≤ A.length then A.take n ++ B ++ A.drop (n + B.length) else A.take n ++ B) := by
  unfold appd
  rw [ints_length, ints_length]
  split
  · unfold lwrite; rw [ints_length]; simp [ints]
  · simp [ints]
theorem r_appendI {b0 : Base} {P : Program} {a : AFrame} {σ : AHeap} {K : AK} {all os : List Oper} {d : Nat} {ty : TypeId} {pos : String} {af : Array Edge} {t u : TypeId} {zv : Value} {b : Nat} {x y : Operand} {g e o len m : Nat} {zs ys : List Int} (hE : Elems P t 1 zv b) (hb : b ≤ 64) (hu : ∃ e2, P.underlying u = some (.slice e2))
    (hx : ev a x = .slice (some ⟨g, 0, none⟩) len 1) (hg : σ g = some ⟨ints .i64 zs, false⟩) (hn : len ≤ zs.length) (hy : ev a y = .slice (some ⟨e, o, none⟩) m 1) (he : IntsAt .i64 σ e o ys) (hm : ys.length = m) (hl : len + m ≤ 4294967296)
    (hk : ∀ g' τ, σ g' = none → Go.Abs.Kept g σ τ → τ g' = some ⟨ints .i64 (if len + m ≤ zs.length then zs.take len ++ ys ++ zs.drop (len + m) else zs.take len ++ ys), false⟩ → vcR P b0 false all os (fset a d (.slice (some ⟨g', 0, none⟩) (len + m) 1)) τ K) :
    vcR P b0 false all (⟨some d, .call ⟨.builtin .append, #[x, y], #[t, u]⟩, ty, pos, af, none⟩ :: os) a σ K := by
  obtain ⟨e1, i, a1, a2, a3, a4, a5⟩ := hE.ex
  obtain ⟨e2, hu⟩ := hu
  subst hm
  subst a5
  have hy' : acells i.size σ (ev a y) = some (ints .i64 ys) := by rw [hy, a4]; exact acells_ints he
  refine r_append_at a1 hu a2 a3 hy' (by rw [a4]; exact hx) hg rfl ?_ (ints_one _ ys) ?_ fun g' hg' => ?_
  · rw [a4]; show 0 + len * 1 ≤ (ints .i64 zs).length; rw [ints_length]; omega
  · rw [a4, ints_length]
    have : (len * 1 + ys.length) * i.bytes ≤ 4294967296 * 64 := Nat.mul_le_mul (by omega) hb
    omega
  · have hkk := hk g' ((σ.upd g none).upd g' (some ⟨appd (List.drop 0 (ints .i64 zs)) (len * i.size) (ints .i64 ys), false⟩)) hg' (fun k ob hk e => by
      rw [AHeap.upd_ne _ _ (by rintro rfl; rw [hg'] at e; cases e), AHeap.upd_ne _ _ hk]; exact e) (by rw [AHeap.upd_same, List.drop_zero, a4, Nat.mul_one, appd_gen])
    rw [ints_length, a4, Nat.div_one]
    rw [a4] at hkk
    exact hkk

theorem delete_at (σ : AHeap) (g k : Nat) (xs sp : List Int) (hg : σ g = some ⟨ints .i64 (xs ++ sp), false⟩) (hk : k < xs.length) (hl : xs.length ≤ 1000) :
    ACall Try.prog w0 84 [.slice (some ⟨g, 0, none⟩) xs.length 1, .int .i64 (k : Nat), .int .i64 (k + 1 : Nat)] σ fun r σ' =>
      ∃ g' sp', σ g' = none ∧ r = .slice (some ⟨g', 0, none⟩) (xs.length - 1) 1 ∧ Go.Abs.Kept g σ σ' ∧ σ' g' = some ⟨ints .i64 (xs.take k ++ xs.drop (k + 1) ++ sp'), false⟩ := by
  refine acall_go mixed Try.func84 rfl good84 fun pr => ?_
  simp -implicitDefEqProofs (disch := omega) only [List.any_cons, List.any_nil, Nat.reduceEqDiff, List.map_cons, List.map_nil, Option.map_some, Option.map_none, List.nil_append, ↓reduceIte, vcu0, vcu1, vcu2, vcu3, vcu4, vcu5, vcu6, vcu7, vcu8, vcu9, vcu10, vcu11, vcu12, vcu13, vcu14, vcu15, vcu16, vcu17, vcu18, vcu19, vcu20, vcu21, vcu22, vcu23, vcu24, vcu25, vcu26, ↓vcd0, ↓vcd1, ↓vcd2, ↓vcd3]
  rw [r_slice3]
  refine ⟨3, .i64, .i64, .i64, k, k + 1, xs.length, Try.underlying31, .inl (by simp -implicitDefEqProofs (disch := omega) only [List.any_cons, List.any_nil, Nat.reduceEqDiff, List.map_cons, List.map_nil, Option.map_some, Option.map_none, List.nil_append, ↓reduceIte, vcu0, vcu1, vcu2, vcu3, vcu4, vcu5, vcu6, vcu7, vcu8, vcu9, vcu10, vcu11, vcu12, vcu13, vcu14, vcu15, vcu16, vcu17, vcu18, vcu19, vcu20, vcu21, vcu22, vcu23, vcu24, vcu25, vcu26, ↓vcd0, ↓vcd1, ↓vcd2, ↓vcd3]), by simp -implicitDefEqProofs (disch := omega) only [List.any_cons, List.any_nil, Nat.reduceEqDiff, List.map_cons, List.map_nil, Option.map_some, Option.map_none, List.nil_append, ↓reduceIte, vcu0, vcu1, vcu2, vcu3, vcu4, vcu5, vcu6, vcu7, vcu8, vcu9, vcu10, vcu11, vcu12, vcu13, vcu14, vcu15, vcu16, vcu17, vcu18, vcu19, vcu20, vcu21, vcu22, vcu23, vcu24, vcu25, vcu26, ↓vcd0, ↓vcd1, ↓vcd2, ↓vcd3], by simp -implicitDefEqProofs (disch := omega) only [List.any_cons, List.any_nil, Nat.reduceEqDiff, List.map_cons, List.map_nil, Option.map_some, Option.map_none, List.nil_append, ↓reduceIte, vcu0, vcu1, vcu2, vcu3, vcu4, vcu5, vcu6, vcu7, vcu8, vcu9, vcu10, vcu11, vcu12, vcu13, vcu14, vcu15, vcu16, vcu17, vcu18, vcu19, vcu20, vcu21, vcu22, vcu23, vcu24, vcu25, vcu26, ↓vcd0, ↓vcd1, ↓vcd2, ↓vcd3], by omega, by omega, .inr ⟨g, 0, xs.length, 1, by simp -implicitDefEqProofs (disch := omega) only [List.any_cons, List.any_nil, Nat.reduceEqDiff, List.map_cons, List.map_nil, Option.map_some, Option.map_none, List.nil_append, ↓reduceIte, vcu0, vcu1, vcu2, vcu3, vcu4, vcu5, vcu6, vcu7, vcu8, vcu9, vcu10, vcu11, vcu12, vcu13, vcu14, vcu15, vcu16, vcu17, vcu18, vcu19, vcu20, vcu21, vcu22, vcu23, vcu24, vcu25, vcu26, ↓vcd0, ↓vcd1, ↓vcd2, ↓vcd3], co3.symm, Nat.le_refl _, fun g0 hg0 => ?_⟩⟩
  show vcRH Try.prog _ false _ _ _ _ _
  rw [vcRH_eq, if_neg (by omega)]
  simp -implicitDefEqProofs (disch := omega) only [List.any_cons, List.any_nil, Nat.reduceEqDiff, List.map_cons, List.map_nil, Option.map_some, Option.map_none, List.nil_append, ↓reduceIte, vcu0, vcu1, vcu2, vcu3, vcu4, vcu5, vcu6, vcu7, vcu8, vcu9, vcu10, vcu11, vcu12, vcu13, vcu14, vcu15, vcu16, vcu17, vcu18, vcu19, vcu20, vcu21, vcu22, vcu23, vcu24, vcu25, vcu26, ↓vcd0, ↓vcd1, ↓vcd2, ↓vcd3]
  refine region_tree mixed (quiets [0, 1, 2, 3, 4, 5] (.one 6 (quiets [7] .stop))) [] (by kernel_rfl) (by kernel_rfl) (fun p hp => by cases hp) ?_
  refine tree_quiets _ _ _ _ sf0 (by kernel_rfl) (by kernel_rfl) ?_
  simp -implicitDefEqProofs (disch := omega) only [List.any_cons, List.any_nil, Nat.reduceEqDiff, List.map_cons, List.map_nil, Option.map_some, Option.map_none, List.nil_append, ↓reduceIte, vcu0, vcu1, vcu2, vcu3, vcu4, vcu5, vcu6, vcu7, vcu8, vcu9, vcu10, vcu11, vcu12, vcu13, vcu14, vcu15, vcu16, vcu17, vcu18, vcu19, vcu20, vcu21, vcu22, vcu23, vcu24, vcu25, vcu26, ↓vcd0, ↓vcd1, ↓vcd2, ↓vcd3, pickOps_nil, pickOps_cons, pickO_some, List.getElem?_cons_succ, List.getElem?_cons_zero]
  refine tree_one rfl ?_
  have hall : IntsAt .i64 σ g 0 (xs ++ sp) := intsAt_own hg
  have htk : (xs ++ sp).take xs.length = xs := by simp
  have hxs : IntsAt .i64 σ g 0 xs := by have := hall.take xs.length; rwa [htk] at this
  have hdr := hxs.drop (k + 1)
  refine r_appendI (g := g) (e := g) (o := 0 + (k + 1) * 1) (zs := xs ++ sp) (ys := xs.drop (k + 1)) (len := k) (m := xs.length - (k + 1)) el31 (by omega) sl31 (by simp -implicitDefEqProofs (disch := omega) only [List.any_cons, List.any_nil, Nat.reduceEqDiff, List.map_cons, List.map_nil, Option.map_some, Option.map_none, List.nil_append, ↓reduceIte, vcu0, vcu1, vcu2, vcu3, vcu4, vcu5, vcu6, vcu7, vcu8, vcu9, vcu10, vcu11, vcu12, vcu13, vcu14, vcu15, vcu16, vcu17, vcu18, vcu19, vcu20, vcu21, vcu22, vcu23, vcu24, vcu25, vcu26, ↓vcd0, ↓vcd1, ↓vcd2, ↓vcd3, Int.toNat_natCast]) hg (by simp; omega) (by simp -implicitDefEqProofs (disch := omega) only [List.any_cons, List.any_nil, Nat.reduceEqDiff, List.map_cons, List.map_nil, Option.map_some, Option.map_none, List.nil_append, ↓reduceIte, vcu0, vcu1, vcu2, vcu3, vcu4, vcu5, vcu6, vcu7, vcu8, vcu9, vcu10, vcu11, vcu12, vcu13, vcu14, vcu15, vcu16, vcu17, vcu18, vcu19, vcu20, vcu21, vcu22, vcu23, vcu24, vcu25, vcu26, ↓vcd0, ↓vcd1, ↓vcd2, ↓vcd3, Int.toNat_natCast]) (by rw [Nat.mul_one]; exact hdr) (by simp) (by omega) fun g' τ hg' hk' hv' => ?_
  rw [if_pos (by simp; omega), List.take_append_of_le_length (by omega)] at hv'
  have hrest : 0 < ((xs ++ sp).drop (k + (xs.length - (k + 1)))).length := by simp; omega
  generalize (xs ++ sp).drop (k + (xs.length - (k + 1))) = rest at hv' hrest
  have hn1 : k + (xs.length - (k + 1)) = xs.length - 1 := by omega
  rw [hn1]
  simp -implicitDefEqProofs (disch := omega) only [List.any_cons, List.any_nil, Nat.reduceEqDiff, List.map_cons, List.map_nil, Option.map_some, Option.map_none, List.nil_append, ↓reduceIte, vcu0, vcu1, vcu2, vcu3, vcu4, vcu5, vcu6, vcu7, vcu8, vcu9, vcu10, vcu11, vcu12, vcu13, vcu14, vcu15, vcu16, vcu17, vcu18, vcu19, vcu20, vcu21, vcu22, vcu23, vcu24, vcu25, vcu26, ↓vcd0, ↓vcd1, ↓vcd2, ↓vcd3]
  refine ⟨keep_of rfl (fun p hp => by cases hp), ?_⟩
  refine tree_quiets _ _ _ _ sf0 (by kernel_rfl) (by kernel_rfl) ?_
  simp -implicitDefEqProofs (disch := omega) only [List.any_cons, List.any_nil, Nat.reduceEqDiff, List.map_cons, List.map_nil, Option.map_some, Option.map_none, List.nil_append, ↓reduceIte, vcu0, vcu1, vcu2, vcu3, vcu4, vcu5, vcu6, vcu7, vcu8, vcu9, vcu10, vcu11, vcu12, vcu13, vcu14, vcu15, vcu16, vcu17, vcu18, vcu19, vcu20, vcu21, vcu22, vcu23, vcu24, vcu25, vcu26, ↓vcd0, ↓vcd1, ↓vcd2, ↓vcd3, pickOps_nil, pickOps_cons, pickO_some, List.getElem?_cons_succ, List.getElem?_cons_zero]
  refine tree_stop ?_
  simp -implicitDefEqProofs (disch := omega) only [List.any_cons, List.any_nil, Nat.reduceEqDiff, List.map_cons, List.map_nil, Option.map_some, Option.map_none, List.nil_append, ↓reduceIte, vcu0, vcu1, vcu2, vcu3, vcu4, vcu5, vcu6, vcu7, vcu8, vcu9, vcu10, vcu11, vcu12, vcu13, vcu14, vcu15, vcu16, vcu17, vcu18, vcu19, vcu20, vcu21, vcu22, vcu23, vcu24, vcu25, vcu26, ↓vcd0, ↓vcd1, ↓vcd2, ↓vcd3]
  have hyl : (xs.take k ++ xs.drop (k + 1)).length = xs.length - 1 := by simp; omega
  rw [bindS_bey ⟨3, g', 0, xs.length - 1, 1, _, .i64, xs.length, Try.underlying31, rfl, co3.symm, hv', by rw [ints_length, List.length_append, hyl]; omega, rfl, .inr ⟨.i64, xs.length - 1, rfl, by omega⟩⟩]
  have hst := sts_one (σ := τ) (h := g') (cs := ints .i64 (xs.take k ++ xs.drop (k + 1) ++ rest)) (i := 0 + (xs.length - 1) * 1) (v := .int .i64 0) hv' (by rw [ints_length, List.length_append, hyl]; omega)
  refine r_clear_at (e := 3) (i := Try.t3) (z := .int .i64 0) (h := g') (b := 0 + (xs.length - 1) * 1) (len := xs.length - (xs.length - 1)) Try.underlying31 rfl rfl (by simp -implicitDefEqProofs (disch := omega) only [List.any_cons, List.any_nil, Nat.reduceEqDiff, List.map_cons, List.map_nil, Option.map_some, Option.map_none, List.nil_append, ↓reduceIte, vcu0, vcu1, vcu2, vcu3, vcu4, vcu5, vcu6, vcu7, vcu8, vcu9, vcu10, vcu11, vcu12, vcu13, vcu14, vcu15, vcu16, vcu17, vcu18, vcu19, vcu20, vcu21, vcu22, vcu23, vcu24, vcu25, vcu26, ↓vcd0, ↓vcd1, ↓vcd2, ↓vcd3]; rfl) (.inr ⟨?_, ?_⟩) ?_ (σ' := τ.upd g' (some ⟨(ints .i64 (xs.take k ++ xs.drop (k + 1) ++ rest)).set (0 + (xs.length - 1) * 1) (.int .i64 0), false⟩))
  · rw [show xs.length - (xs.length - 1) = 1 by omega, show 1 * Try.t3.size = 1 from rfl, azeros_ints]; rfl
  · rw [show xs.length - (xs.length - 1) = 1 by omega, show 1 * Try.t3.size = 1 from rfl, azeros_ints]; exact hst
  simp -implicitDefEqProofs (disch := omega) only [List.any_cons, List.any_nil, Nat.reduceEqDiff, List.map_cons, List.map_nil, Option.map_some, Option.map_none, List.nil_append, ↓reduceIte, vcu0, vcu1, vcu2, vcu3, vcu4, vcu5, vcu6, vcu7, vcu8, vcu9, vcu10, vcu11, vcu12, vcu13, vcu14, vcu15, vcu16, vcu17, vcu18, vcu19, vcu20, vcu21, vcu22, vcu23, vcu24, vcu25, vcu26, ↓vcd0, ↓vcd1, ↓vcd2, ↓vcd3]
  refine fin_one Try.results84 ⟨g', rest.set 0 0, hg', ?_, ?_, ?_⟩
  · simp -implicitDefEqProofs (disch := omega) only [List.any_cons, List.any_nil, Nat.reduceEqDiff, List.map_cons, List.map_nil, Option.map_some, Option.map_none, List.nil_append, ↓reduceIte, vcu0, vcu1, vcu2, vcu3, vcu4, vcu5, vcu6, vcu7, vcu8, vcu9, vcu10, vcu11, vcu12, vcu13, vcu14, vcu15, vcu16, vcu17, vcu18, vcu19, vcu20, vcu21, vcu22, vcu23, vcu24, vcu25, vcu26, ↓vcd0, ↓vcd1, ↓vcd2, ↓vcd3]
  · intro q ob hq e
    rw [AHeap.upd_ne _ _ (ne_of' hg' e)]; exact hk' q ob hq e
  · rw [AHeap.upd_same, ints_set, List.set_append_right _ _ (by rw [hyl]; omega), hyl]
    have : 0 + (xs.length - 1) - (xs.length - 1) = 0 := by omega
    rw [this]


theorem r_pushO {b0 : Base} {P : Program} {a : AFrame} {σ β : AHeap} {K : AK} {all os : List Oper} {d : Nat} {ty : TypeId} {pos : String} {af : Array Edge} {t u : TypeId} {zv : Value} {b : Nat} {x y : Operand} {v : Value} {e o m : Nat} {cs ds : List Int}
    (hE : Elems P t 1 zv b) (hb : b ≤ 64) (hu : ∃ e2, P.underlying u = some (.slice e2)) (hs : Sub β σ) (hx : ev a x = v) (hv : OwnI β σ v cs) (hy : ev a y = .slice (some ⟨e, o, none⟩) m 1) (he : IntsAt .i64 σ e o ds) (hm : ds.length = m) (hl : cs.length + m ≤ 1048576)
    (hk : ∀ g' τ, Sub β τ → β g' = none → τ g' = some ⟨ints .i64 (cs ++ ds), false⟩ → vcR P b0 false all os (fset a d (.slice (some ⟨g', 0, none⟩) (cs.length + m) 1)) τ K) :
    vcR P b0 false all (⟨some d, .call ⟨.builtin .append, #[x, y], #[t, u]⟩, ty, pos, af, none⟩ :: os) a σ K := by
  rcases hv with ⟨rfl, rfl⟩ | ⟨g, rfl, hg, hn⟩
  · refine r_pushI_nil hE hb hu hx hy he hm (by simp at hl; omega) fun g' τ h1 h2 h3 => ?_
    have := hk g' τ (hs.trans h2) (free_sub hs h1) (by simpa using h3)
    simpa using this
  · refine r_pushI hE hb hu hx hg rfl hy he hm (by omega) fun g' τ h1 h2 h3 => ?_
    exact hk g' τ (h2.sub hs hn) (free_sub hs h1) h3
theorem idl_succ (k : Nat) : idl (k + 1) = idl k ++ [(k : Int)] := by simp [idl, List.range_succ]
theorem idl_length (k : Nat) : (idl k).length = k := by simp [idl]

/-- what is left, the rank, what is there already, behind so many places -/
def ofS (n r : Nat) : Nat → List Int × Nat × List Int
  | 0 => (idl n, r, [])
  | k + 1 => ((ofS n r k).1.take ((ofS n r k).2.1 / fac (n - 1 - k)) ++ (ofS n r k).1.drop ((ofS n r k).2.1 / fac (n - 1 - k) + 1), (ofS n r k).2.1 % fac (n - 1 - k), (ofS n r k).2.2 ++ [(ofS n r k).1.getD ((ofS n r k).2.1 / fac (n - 1 - k)) 0])
theorem fac_pos (n : Nat) : 0 < fac n := by
  induction n with
  | zero => decide
  | succ n ih => exact Nat.mul_pos ih (by omega)
theorem ofS_at {n r k : Nat} (hk : k < n) (h : (ofS n r k).2.1 < fac (n - k)) : (ofS n r k).2.1 / fac (n - 1 - k) < n - k := by
  have e : n - k = (n - 1 - k) + 1 := by omega
  rw [e] at h ⊢
  have h2 : fac (n - 1 - k + 1) = fac (n - 1 - k) * (n - 1 - k + 1) := rfl
  rw [h2] at h
  exact Nat.div_lt_of_lt_mul h
theorem ofS_inv {n r : Nat} (hr : r < fac n) : ∀ k, k ≤ n → (ofS n r k).1.length = n - k ∧ (ofS n r k).2.1 < fac (n - k) ∧ (ofS n r k).2.2.length = k
  | 0, _ => ⟨by simp [ofS, idl_length], by simpa [ofS] using hr, rfl⟩
  | k + 1, hk => by
    obtain ⟨h1, h2, h3⟩ := ofS_inv hr k (by omega)
    have hat := ofS_at (by omega) h2
    have e : n - (k + 1) = n - 1 - k := by omega
    refine ⟨?_, ?_, ?_⟩
    · simp only [ofS]
      rw [List.length_append, List.length_take, List.length_drop]; omega
    · rw [e]; exact Nat.mod_lt _ (fac_pos _)
    · simp [ofS, h3]
def OfOk (l r : Int) : Prop := 0 ≤ l ∧ l ≤ 6 ∧ 0 ≤ r ∧ r < fac l.toNat
instance (l r : Int) : Decidable (OfOk l r) := by unfold OfOk; infer_instance
def ofV (l r : Int) : List Int := if OfOk l r then (ofS l.toNat r.toNat l.toNat).2.2 else []

theorem implOf_at (σ : AHeap) (l r : Int) : ACall Try.prog w0 37 [.int .i64 l, .int .i64 r] σ fun res σ' => ∃ v, res = .tuple #[v, .bool (decide (OfOk l r))] ∧ Sub σ σ' ∧ OwnI σ σ' v (ofV l r) := by
  unfold ofV
  refine acall_go mixed Try.func37 rfl good37 fun pr => ?_
  have no : ¬ OfOk l r → ∀ (a : AFrame), a 4 = .slice none 0 0 → a 5 = .bool false → fin Try.f37 (fun res σ' => ∃ v, res = .tuple #[v, .bool (decide (OfOk l r))] ∧ Sub σ σ' ∧ OwnI σ σ' v (if OfOk l r then (ofS l.toNat r.toNat l.toNat).2.2 else [])) a σ := fun hn a h4 h5 =>
    fin_two Try.results37 ⟨.slice none 0 0, by rw [h4, h5, decide_eq_false hn], Sub.refl _, .inl ⟨rfl, by rw [if_neg hn]⟩⟩
  by_cases h0 : l < 0
  · simp -implicitDefEqProofs (disch := omega) only [List.any_cons, List.any_nil, Nat.reduceEqDiff, List.map_cons, List.map_nil, Option.map_some, Option.map_none, List.nil_append, ↓reduceIte, vcu0, vcu1, vcu2, vcu3, vcu4, vcu5, vcu6, vcu7, vcu8, vcu9, vcu10, vcu11, vcu12, vcu13, vcu14, vcu15, vcu16, vcu17, vcu18, vcu19, vcu20, vcu21, vcu22, vcu23, vcu24, vcu25, vcu26, ↓vcd0, ↓vcd1, ↓vcd2, ↓vcd3]
    exact no (by unfold OfOk; omega) _ (by simp -implicitDefEqProofs (disch := omega) only [List.any_cons, List.any_nil, Nat.reduceEqDiff, List.map_cons, List.map_nil, Option.map_some, Option.map_none, List.nil_append, ↓reduceIte, vcu0, vcu1, vcu2, vcu3, vcu4, vcu5, vcu6, vcu7, vcu8, vcu9, vcu10, vcu11, vcu12, vcu13, vcu14, vcu15, vcu16, vcu17, vcu18, vcu19, vcu20, vcu21, vcu22, vcu23, vcu24, vcu25, vcu26, ↓vcd0, ↓vcd1, ↓vcd2, ↓vcd3]) (by simp -implicitDefEqProofs (disch := omega) only [List.any_cons, List.any_nil, Nat.reduceEqDiff, List.map_cons, List.map_nil, Option.map_some, Option.map_none, List.nil_append, ↓reduceIte, vcu0, vcu1, vcu2, vcu3, vcu4, vcu5, vcu6, vcu7, vcu8, vcu9, vcu10, vcu11, vcu12, vcu13, vcu14, vcu15, vcu16, vcu17, vcu18, vcu19, vcu20, vcu21, vcu22, vcu23, vcu24, vcu25, vcu26, ↓vcd0, ↓vcd1, ↓vcd2, ↓vcd3])
  by_cases h1 : 6 < l
  · simp -implicitDefEqProofs (disch := omega) only [List.any_cons, List.any_nil, Nat.reduceEqDiff, List.map_cons, List.map_nil, Option.map_some, Option.map_none, List.nil_append, ↓reduceIte, vcu0, vcu1, vcu2, vcu3, vcu4, vcu5, vcu6, vcu7, vcu8, vcu9, vcu10, vcu11, vcu12, vcu13, vcu14, vcu15, vcu16, vcu17, vcu18, vcu19, vcu20, vcu21, vcu22, vcu23, vcu24, vcu25, vcu26, ↓vcd0, ↓vcd1, ↓vcd2, ↓vcd3]
    exact no (by unfold OfOk; omega) _ (by simp -implicitDefEqProofs (disch := omega) only [List.any_cons, List.any_nil, Nat.reduceEqDiff, List.map_cons, List.map_nil, Option.map_some, Option.map_none, List.nil_append, ↓reduceIte, vcu0, vcu1, vcu2, vcu3, vcu4, vcu5, vcu6, vcu7, vcu8, vcu9, vcu10, vcu11, vcu12, vcu13, vcu14, vcu15, vcu16, vcu17, vcu18, vcu19, vcu20, vcu21, vcu22, vcu23, vcu24, vcu25, vcu26, ↓vcd0, ↓vcd1, ↓vcd2, ↓vcd3]) (by simp -implicitDefEqProofs (disch := omega) only [List.any_cons, List.any_nil, Nat.reduceEqDiff, List.map_cons, List.map_nil, Option.map_some, Option.map_none, List.nil_append, ↓reduceIte, vcu0, vcu1, vcu2, vcu3, vcu4, vcu5, vcu6, vcu7, vcu8, vcu9, vcu10, vcu11, vcu12, vcu13, vcu14, vcu15, vcu16, vcu17, vcu18, vcu19, vcu20, vcu21, vcu22, vcu23, vcu24, vcu25, vcu26, ↓vcd0, ↓vcd1, ↓vcd2, ↓vcd3])
  by_cases h2 : r < 0
  · simp -implicitDefEqProofs (disch := omega) only [List.any_cons, List.any_nil, Nat.reduceEqDiff, List.map_cons, List.map_nil, Option.map_some, Option.map_none, List.nil_append, ↓reduceIte, vcu0, vcu1, vcu2, vcu3, vcu4, vcu5, vcu6, vcu7, vcu8, vcu9, vcu10, vcu11, vcu12, vcu13, vcu14, vcu15, vcu16, vcu17, vcu18, vcu19, vcu20, vcu21, vcu22, vcu23, vcu24, vcu25, vcu26, ↓vcd0, ↓vcd1, ↓vcd2, ↓vcd3]
    exact no (by unfold OfOk; omega) _ (by simp -implicitDefEqProofs (disch := omega) only [List.any_cons, List.any_nil, Nat.reduceEqDiff, List.map_cons, List.map_nil, Option.map_some, Option.map_none, List.nil_append, ↓reduceIte, vcu0, vcu1, vcu2, vcu3, vcu4, vcu5, vcu6, vcu7, vcu8, vcu9, vcu10, vcu11, vcu12, vcu13, vcu14, vcu15, vcu16, vcu17, vcu18, vcu19, vcu20, vcu21, vcu22, vcu23, vcu24, vcu25, vcu26, ↓vcd0, ↓vcd1, ↓vcd2, ↓vcd3]) (by simp -implicitDefEqProofs (disch := omega) only [List.any_cons, List.any_nil, Nat.reduceEqDiff, List.map_cons, List.map_nil, Option.map_some, Option.map_none, List.nil_append, ↓reduceIte, vcu0, vcu1, vcu2, vcu3, vcu4, vcu5, vcu6, vcu7, vcu8, vcu9, vcu10, vcu11, vcu12, vcu13, vcu14, vcu15, vcu16, vcu17, vcu18, vcu19, vcu20, vcu21, vcu22, vcu23, vcu24, vcu25, vcu26, ↓vcd0, ↓vcd1, ↓vcd2, ↓vcd3])
  have hfl := fac_le (n := l.toNat) (by omega)
  simp -implicitDefEqProofs (disch := omega) only [List.any_cons, List.any_nil, Nat.reduceEqDiff, List.map_cons, List.map_nil, Option.map_some, Option.map_none, List.nil_append, ↓reduceIte, vcu0, vcu1, vcu2, vcu3, vcu4, vcu5, vcu6, vcu7, vcu8, vcu9, vcu10, vcu11, vcu12, vcu13, vcu14, vcu15, vcu16, vcu17, vcu18, vcu19, vcu20, vcu21, vcu22, vcu23, vcu24, vcu25, vcu26, ↓vcd0, ↓vcd1, ↓vcd2, ↓vcd3]
  refine (implFac_calls σ l (by omega)).mono ?_
  rintro r1 _ ⟨rfl, rfl⟩
  by_cases h3 : (fac l.toNat : Int) ≤ r
  · simp -implicitDefEqProofs (disch := omega) only [List.any_cons, List.any_nil, Nat.reduceEqDiff, List.map_cons, List.map_nil, Option.map_some, Option.map_none, List.nil_append, ↓reduceIte, vcu0, vcu1, vcu2, vcu3, vcu4, vcu5, vcu6, vcu7, vcu8, vcu9, vcu10, vcu11, vcu12, vcu13, vcu14, vcu15, vcu16, vcu17, vcu18, vcu19, vcu20, vcu21, vcu22, vcu23, vcu24, vcu25, vcu26, ↓vcd0, ↓vcd1, ↓vcd2, ↓vcd3, opK_some]
    exact no (by unfold OfOk; omega) _ (by simp -implicitDefEqProofs (disch := omega) only [List.any_cons, List.any_nil, Nat.reduceEqDiff, List.map_cons, List.map_nil, Option.map_some, Option.map_none, List.nil_append, ↓reduceIte, vcu0, vcu1, vcu2, vcu3, vcu4, vcu5, vcu6, vcu7, vcu8, vcu9, vcu10, vcu11, vcu12, vcu13, vcu14, vcu15, vcu16, vcu17, vcu18, vcu19, vcu20, vcu21, vcu22, vcu23, vcu24, vcu25, vcu26, ↓vcd0, ↓vcd1, ↓vcd2, ↓vcd3]) (by simp -implicitDefEqProofs (disch := omega) only [List.any_cons, List.any_nil, Nat.reduceEqDiff, List.map_cons, List.map_nil, Option.map_some, Option.map_none, List.nil_append, ↓reduceIte, vcu0, vcu1, vcu2, vcu3, vcu4, vcu5, vcu6, vcu7, vcu8, vcu9, vcu10, vcu11, vcu12, vcu13, vcu14, vcu15, vcu16, vcu17, vcu18, vcu19, vcu20, vcu21, vcu22, vcu23, vcu24, vcu25, vcu26, ↓vcd0, ↓vcd1, ↓vcd2, ↓vcd3])
  have hOk : OfOk l r := ⟨by omega, by omega, by omega, by omega⟩
  obtain ⟨n, rfl⟩ : ∃ n : Nat, l = n := ⟨l.toNat, by omega⟩
  obtain ⟨rk, rfl⟩ : ∃ rk : Nat, r = rk := ⟨r.toNat, by omega⟩
  simp only [Int.toNat_natCast] at *
  have hinv := ofS_inv (n := n) (r := rk) (by omega)
  clear no
  rename_i σ
  simp -implicitDefEqProofs (disch := omega) only [List.any_cons, List.any_nil, Nat.reduceEqDiff, List.map_cons, List.map_nil, Option.map_some, Option.map_none, List.nil_append, ↓reduceIte, vcu0, vcu1, vcu2, vcu3, vcu4, vcu5, vcu6, vcu7, vcu8, vcu9, vcu10, vcu11, vcu12, vcu13, vcu14, vcu15, vcu16, vcu17, vcu18, vcu19, vcu20, vcu21, vcu22, vcu23, vcu24, vcu25, vcu26, ↓vcd0, ↓vcd1, ↓vcd2, ↓vcd3, opK_some]
  refine vc_loop_c mixed (by kernel_rfl) [0, 1, 28] (fun m a τ => ∃ k : Nat, m + k = n ∧ a 29 = .int .i64 k ∧ OwnI σ τ (a 6) (idl k) ∧ Sub σ τ ∧ (0 < k → ∃ g, a 6 = .slice (some ⟨g, 0, none⟩) k 1 ∧ τ g = some ⟨ints .i64 (idl k), false⟩ ∧ σ g = none)) n ⟨0, by simp, rfl, .inl ⟨rfl, rfl⟩, Sub.refl _, fun h => absurd h (by omega)⟩ ?_
  rintro m a τ hc ⟨k, hk, h29, ho, hs, hown⟩
  simp -implicitDefEqProofs (disch := omega) only [List.any_cons, List.any_nil, Nat.reduceEqDiff, List.map_cons, List.map_nil, Option.map_some, Option.map_none, List.nil_append, ↓reduceIte, vcu0, vcu1, vcu2, vcu3, vcu4, vcu5, vcu6, vcu7, vcu8, vcu9, vcu10, vcu11, vcu12, vcu13, vcu14, vcu15, vcu16, vcu17, vcu18, vcu19, vcu20, vcu21, vcu22, vcu23, vcu24, vcu25, vcu26, ↓vcd0, ↓vcd1, ↓vcd2, ↓vcd3] at hc
  obtain ⟨h0', h1', h28, -⟩ := hc
  by_cases hlt : k < n
  · simp -implicitDefEqProofs (disch := omega) only [List.any_cons, List.any_nil, Nat.reduceEqDiff, List.map_cons, List.map_nil, Option.map_some, Option.map_none, List.nil_append, ↓reduceIte, vcu0, vcu1, vcu2, vcu3, vcu4, vcu5, vcu6, vcu7, vcu8, vcu9, vcu10, vcu11, vcu12, vcu13, vcu14, vcu15, vcu16, vcu17, vcu18, vcu19, vcu20, vcu21, vcu22, vcu23, vcu24, vcu25, vcu26, ↓vcd0, ↓vcd1, ↓vcd2, ↓vcd3, h0', h1', h28, h29]
    refine r_lit el31 (out := #[.int .i64 k]) (by simp -implicitDefEqProofs (disch := omega) only [List.any_cons, List.any_nil, Nat.reduceEqDiff, List.map_cons, List.map_nil, Option.map_some, Option.map_none, List.nil_append, ↓reduceIte, vcu0, vcu1, vcu2, vcu3, vcu4, vcu5, vcu6, vcu7, vcu8, vcu9, vcu10, vcu11, vcu12, vcu13, vcu14, vcu15, vcu16, vcu17, vcu18, vcu19, vcu20, vcu21, vcu22, vcu23, vcu24, vcu25, vcu26, ↓vcd0, ↓vcd1, ↓vcd2, ↓vcd3]; kernel_rfl) (by kernel_rfl) fun e τ1 n1 s1 v1 => ?_
    refine r_pushO (e := e) (o := 0) (m := 1) (ds := [(k : Int)]) el31 (by omega) sl31 (hs.trans s1) rfl (by simp -implicitDefEqProofs (disch := omega) only [List.any_cons, List.any_nil, Nat.reduceEqDiff, List.map_cons, List.map_nil, Option.map_some, Option.map_none, List.nil_append, ↓reduceIte, vcu0, vcu1, vcu2, vcu3, vcu4, vcu5, vcu6, vcu7, vcu8, vcu9, vcu10, vcu11, vcu12, vcu13, vcu14, vcu15, vcu16, vcu17, vcu18, vcu19, vcu20, vcu21, vcu22, vcu23, vcu24, vcu25, vcu26, ↓vcd0, ↓vcd1, ↓vcd2, ↓vcd3]; exact ho.imp id fun ⟨g, e1, e2, e3⟩ => ⟨g, e1, s1 _ _ e2, e3⟩) (by simp -implicitDefEqProofs (disch := omega) only [List.any_cons, List.any_nil, Nat.reduceEqDiff, List.map_cons, List.map_nil, Option.map_some, Option.map_none, List.nil_append, ↓reduceIte, vcu0, vcu1, vcu2, vcu3, vcu4, vcu5, vcu6, vcu7, vcu8, vcu9, vcu10, vcu11, vcu12, vcu13, vcu14, vcu15, vcu16, vcu17, vcu18, vcu19, vcu20, vcu21, vcu22, vcu23, vcu24, vcu25, vcu26, ↓vcd0, ↓vcd1, ↓vcd2, ↓vcd3]) (intsAt_own v1) rfl (by rw [idl_length]; omega) fun g τ2 s2 n2 v2 => ?_
    rw [← idl_succ] at v2
    simp -implicitDefEqProofs (disch := omega) only [List.any_cons, List.any_nil, Nat.reduceEqDiff, List.map_cons, List.map_nil, Option.map_some, Option.map_none, List.nil_append, ↓reduceIte, vcu0, vcu1, vcu2, vcu3, vcu4, vcu5, vcu6, vcu7, vcu8, vcu9, vcu10, vcu11, vcu12, vcu13, vcu14, vcu15, vcu16, vcu17, vcu18, vcu19, vcu20, vcu21, vcu22, vcu23, vcu24, vcu25, vcu26, ↓vcd0, ↓vcd1, ↓vcd2, ↓vcd3, h0', h1', h28, h29]
    have hsl : Value.slice (some ⟨g, 0, none⟩) ((idl k).length + 1) 1 = .slice (some ⟨g, 0, none⟩) (k + 1) 1 := by rw [idl_length]
    refine ⟨⟨trivial, trivial, trivial, trivial⟩, m - 1, by omega, k + 1, by omega, by simp, .inr ⟨g, ?_, v2, n2⟩, s2, fun _ => ⟨g, hsl, v2, n2⟩⟩
    rw [hsl, idl_length]
  · have e : k = n := by omega
    subst e
    simp -implicitDefEqProofs (disch := omega) only [List.any_cons, List.any_nil, Nat.reduceEqDiff, List.map_cons, List.map_nil, Option.map_some, Option.map_none, List.nil_append, ↓reduceIte, vcu0, vcu1, vcu2, vcu3, vcu4, vcu5, vcu6, vcu7, vcu8, vcu9, vcu10, vcu11, vcu12, vcu13, vcu14, vcu15, vcu16, vcu17, vcu18, vcu19, vcu20, vcu21, vcu22, vcu23, vcu24, vcu25, vcu26, ↓vcd0, ↓vcd1, ↓vcd2, ↓vcd3, h0', h1', h28, h29]
    refine r_makeI (kx := .i64) (ky := .i64) (l := k) (c := k) el31 (by omega) (by simp -implicitDefEqProofs (disch := omega) only [List.any_cons, List.any_nil, Nat.reduceEqDiff, List.map_cons, List.map_nil, Option.map_some, Option.map_none, List.nil_append, ↓reduceIte, vcu0, vcu1, vcu2, vcu3, vcu4, vcu5, vcu6, vcu7, vcu8, vcu9, vcu10, vcu11, vcu12, vcu13, vcu14, vcu15, vcu16, vcu17, vcu18, vcu19, vcu20, vcu21, vcu22, vcu23, vcu24, vcu25, vcu26, ↓vcd0, ↓vcd1, ↓vcd2, ↓vcd3, h0']) (by simp -implicitDefEqProofs (disch := omega) only [List.any_cons, List.any_nil, Nat.reduceEqDiff, List.map_cons, List.map_nil, Option.map_some, Option.map_none, List.nil_append, ↓reduceIte, vcu0, vcu1, vcu2, vcu3, vcu4, vcu5, vcu6, vcu7, vcu8, vcu9, vcu10, vcu11, vcu12, vcu13, vcu14, vcu15, vcu16, vcu17, vcu18, vcu19, vcu20, vcu21, vcu22, vcu23, vcu24, vcu25, vcu26, ↓vcd0, ↓vcd1, ↓vcd2, ↓vcd3, h0']) (by omega) fun gp τ1 np s1 v1 => ?_
    have npσ := free_sub hs np
    simp -implicitDefEqProofs (disch := omega) only [List.any_cons, List.any_nil, Nat.reduceEqDiff, List.map_cons, List.map_nil, Option.map_some, Option.map_none, List.nil_append, ↓reduceIte, vcu0, vcu1, vcu2, vcu3, vcu4, vcu5, vcu6, vcu7, vcu8, vcu9, vcu10, vcu11, vcu12, vcu13, vcu14, vcu15, vcu16, vcu17, vcu18, vcu19, vcu20, vcu21, vcu22, vcu23, vcu24, vcu25, vcu26, ↓vcd0, ↓vcd1, ↓vcd2, ↓vcd3]
    refine vc_loop_c mixed (by kernel_rfl) [8, 40] (fun m a τ2 => ∃ j : Nat, m + j = k ∧ j ≤ k ∧ a 41 = .int .i64 j ∧ a 1 = .int .i64 (ofS k rk j).2.1 ∧ Sub σ τ2 ∧ τ2 gp = some ⟨ints .i64 ((ofS k rk j).2.2 ++ List.replicate (k - j) 0), false⟩ ∧
      (j < k → ∃ gl sp, a 6 = .slice (some ⟨gl, 0, none⟩) (k - j) 1 ∧ τ2 gl = some ⟨ints .i64 ((ofS k rk j).1 ++ sp), false⟩ ∧ σ gl = none ∧ gl ≠ gp)) k ⟨0, by simp, by omega, rfl, by simp -implicitDefEqProofs (disch := omega) only [List.any_cons, List.any_nil, Nat.reduceEqDiff, List.map_cons, List.map_nil, Option.map_some, Option.map_none, List.nil_append, ↓reduceIte, vcu0, vcu1, vcu2, vcu3, vcu4, vcu5, vcu6, vcu7, vcu8, vcu9, vcu10, vcu11, vcu12, vcu13, vcu14, vcu15, vcu16, vcu17, vcu18, vcu19, vcu20, vcu21, vcu22, vcu23, vcu24, vcu25, vcu26, ↓vcd0, ↓vcd1, ↓vcd2, ↓vcd3, h1']; rfl, hs.trans s1, by simpa [ofS] using v1, fun hj => ?_⟩ ?_
    · obtain ⟨g, e6, eg, ng⟩ := hown (by omega)
      refine ⟨g, [], by simpa [fset] using e6, by simpa [ofS] using s1 _ _ eg, ng, ne_of' np eg⟩
    clear hown ho v1
    rintro m2 a2 τ2 hc2 ⟨j, hj, hjk, h41, hrk, hs2, hgp, hleft⟩
    simp -implicitDefEqProofs (disch := omega) only [List.any_cons, List.any_nil, Nat.reduceEqDiff, List.map_cons, List.map_nil, Option.map_some, Option.map_none, List.nil_append, ↓reduceIte, vcu0, vcu1, vcu2, vcu3, vcu4, vcu5, vcu6, vcu7, vcu8, vcu9, vcu10, vcu11, vcu12, vcu13, vcu14, vcu15, vcu16, vcu17, vcu18, vcu19, vcu20, vcu21, vcu22, vcu23, vcu24, vcu25, vcu26, ↓vcd0, ↓vcd1, ↓vcd2, ↓vcd3] at hc2
    obtain ⟨h8, h40, -⟩ := hc2
    by_cases hjl : j < k
    · obtain ⟨gl, sp, h6, hgl, nl, hne⟩ := hleft hjl
      obtain ⟨i1, i2, i3⟩ := hinv j (by omega)
      have hat := ofS_at hjl i2
      have hfk := fac_le (n := k - 1 - j) (by omega)
      have hfk2 := fac_le (n := k - j) (by omega)
      have ek : ((k - j : Nat) : Int) - 1 = ((k - 1 - j : Nat) : Int) := by omega
      have hstep : ofS k rk (j + 1) = ((ofS k rk j).1.take ((ofS k rk j).2.1 / fac (k - 1 - j)) ++ (ofS k rk j).1.drop ((ofS k rk j).2.1 / fac (k - 1 - j) + 1), (ofS k rk j).2.1 % fac (k - 1 - j), (ofS k rk j).2.2 ++ [(ofS k rk j).1.getD ((ofS k rk j).2.1 / fac (k - 1 - j)) 0]) := rfl
      generalize ofS k rk j = st at *
      obtain ⟨lf, rr, out⟩ := st
      dsimp only at *
      generalize hF : fac (k - 1 - j) = F at *
      simp -implicitDefEqProofs (disch := omega) only [List.any_cons, List.any_nil, Nat.reduceEqDiff, List.map_cons, List.map_nil, Option.map_some, Option.map_none, List.nil_append, ↓reduceIte, vcu0, vcu1, vcu2, vcu3, vcu4, vcu5, vcu6, vcu7, vcu8, vcu9, vcu10, vcu11, vcu12, vcu13, vcu14, vcu15, vcu16, vcu17, vcu18, vcu19, vcu20, vcu21, vcu22, vcu23, vcu24, vcu25, vcu26, ↓vcd0, ↓vcd1, ↓vcd2, ↓vcd3, h8, h40, h41, h6, ek]
      refine (implFac_calls τ2 ((k - 1 - j : Nat) : Int) (by omega)).mono ?_
      rintro rf _ ⟨rfl, rfl⟩
      rename_i τ2
      simp only [Int.toNat_natCast, hF]
      have ediv : ((rr : Int) / (F : Int)) = ((rr / F : Nat) : Int) := by simp
      have emod : ((rr : Int) % (F : Int)) = ((rr % F : Nat) : Int) := by simp
      have hmod : rr % F < F := Nat.mod_lt _ (by omega)
      generalize rr / F = Qd at *
      generalize rr % F = Md at *
      have hallg : IntsAt .i64 τ2 gl 0 (lf ++ sp) := intsAt_own hgl
      have hx := hallg (Qd) (by simp; omega)
      have hgx : (lf ++ sp).getD (Qd) 0 = lf.getD (Qd) 0 := by
        simp only [List.getD]; rw [List.getElem?_append_left (by omega)]
      rw [hgx] at hx
      simp -implicitDefEqProofs (disch := omega) only [List.any_cons, List.any_nil, Nat.reduceEqDiff, List.map_cons, List.map_nil, Option.map_some, Option.map_none, List.nil_append, ↓reduceIte, vcu0, vcu1, vcu2, vcu3, vcu4, vcu5, vcu6, vcu7, vcu8, vcu9, vcu10, vcu11, vcu12, vcu13, vcu14, vcu15, vcu16, vcu17, vcu18, vcu19, vcu20, vcu21, vcu22, vcu23, vcu24, vcu25, vcu26, ↓vcd0, ↓vcd1, ↓vcd2, ↓vcd3, opK_some, h8, h40, h41, h6, hrk, ediv, emod, hx]
      refine r_setI (g := gp) (i := 0 + j) (v := lf.getD (Qd) 0) (by simp -implicitDefEqProofs (disch := omega) only [List.any_cons, List.any_nil, Nat.reduceEqDiff, List.map_cons, List.map_nil, Option.map_some, Option.map_none, List.nil_append, ↓reduceIte, vcu0, vcu1, vcu2, vcu3, vcu4, vcu5, vcu6, vcu7, vcu8, vcu9, vcu10, vcu11, vcu12, vcu13, vcu14, vcu15, vcu16, vcu17, vcu18, vcu19, vcu20, vcu21, vcu22, vcu23, vcu24, vcu25, vcu26, ↓vcd0, ↓vcd1, ↓vcd2, ↓vcd3, h8, h41]) (by simp -implicitDefEqProofs (disch := omega) only [List.any_cons, List.any_nil, Nat.reduceEqDiff, List.map_cons, List.map_nil, Option.map_some, Option.map_none, List.nil_append, ↓reduceIte, vcu0, vcu1, vcu2, vcu3, vcu4, vcu5, vcu6, vcu7, vcu8, vcu9, vcu10, vcu11, vcu12, vcu13, vcu14, vcu15, vcu16, vcu17, vcu18, vcu19, vcu20, vcu21, vcu22, vcu23, vcu24, vcu25, vcu26, ↓vcd0, ↓vcd1, ↓vcd2, ↓vcd3]) co3 hgp (by simp; omega) fun τ3 k3 v3 => ?_
      have hset : (out ++ List.replicate (k - j) 0).set (0 + j) (lf.getD (Qd) 0) = out ++ [lf.getD (Qd) 0] ++ List.replicate (k - (j + 1)) 0 := by
        rw [Nat.zero_add, set_zeros _ i3 (by omega)]; congr 2
      rw [hset] at v3
      have hgl3 := k3.at hgl hne
      have eat1 : (((Qd : Nat) : Int) + 1) = ((Qd + 1 : Nat) : Int) := by omega
      simp -implicitDefEqProofs (disch := omega) only [List.any_cons, List.any_nil, Nat.reduceEqDiff, List.map_cons, List.map_nil, Option.map_some, Option.map_none, List.nil_append, ↓reduceIte, vcu0, vcu1, vcu2, vcu3, vcu4, vcu5, vcu6, vcu7, vcu8, vcu9, vcu10, vcu11, vcu12, vcu13, vcu14, vcu15, vcu16, vcu17, vcu18, vcu19, vcu20, vcu21, vcu22, vcu23, vcu24, vcu25, vcu26, ↓vcd0, ↓vcd1, ↓vcd2, ↓vcd3, h6, eat1]
      have hdel := delete_at (w0 := w0) τ3 gl (Qd) lf sp hgl3 (by omega) (by omega)
      rw [i1] at hdel
      refine hdel.mono ?_
      rintro rd τ4 ⟨g4, sp4, n4, rfl, k4, v4⟩
      have hgp4 := k4.at v3 hne.symm
      simp -implicitDefEqProofs (disch := omega) only [List.any_cons, List.any_nil, Nat.reduceEqDiff, List.map_cons, List.map_nil, Option.map_some, Option.map_none, List.nil_append, ↓reduceIte, vcu0, vcu1, vcu2, vcu3, vcu4, vcu5, vcu6, vcu7, vcu8, vcu9, vcu10, vcu11, vcu12, vcu13, vcu14, vcu15, vcu16, vcu17, vcu18, vcu19, vcu20, vcu21, vcu22, vcu23, vcu24, vcu25, vcu26, ↓vcd0, ↓vcd1, ↓vcd2, ↓vcd3, opK_some, h8, h40, h41]
      have hs3 := k3.sub hs2 npσ
      refine ⟨⟨trivial, trivial, trivial⟩, m2 - 1, by omega, j + 1, by omega, by omega, by simp, by rw [hstep], k4.sub hs3 nl, by rw [hstep]; exact hgp4, fun _ => ⟨g4, sp4, ?_, by rw [hstep]; exact v4, free_sub hs3 n4, ne_of n4 v3⟩⟩
      congr 1
    · have e : j = k := by omega
      subst e
      simp -implicitDefEqProofs (disch := omega) only [List.any_cons, List.any_nil, Nat.reduceEqDiff, List.map_cons, List.map_nil, Option.map_some, Option.map_none, List.nil_append, ↓reduceIte, vcu0, vcu1, vcu2, vcu3, vcu4, vcu5, vcu6, vcu7, vcu8, vcu9, vcu10, vcu11, vcu12, vcu13, vcu14, vcu15, vcu16, vcu17, vcu18, vcu19, vcu20, vcu21, vcu22, vcu23, vcu24, vcu25, vcu26, ↓vcd0, ↓vcd1, ↓vcd2, ↓vcd3, h8, h40, h41]
      obtain ⟨i1, i2, i3⟩ := hinv j (by omega)
      refine fin_two Try.results37 ⟨.slice (some ⟨gp, 0, none⟩) j 1, ?_, hs2, .inr ⟨gp, ?_, ?_, npσ⟩⟩
      · simp -implicitDefEqProofs (disch := omega) only [List.any_cons, List.any_nil, Nat.reduceEqDiff, List.map_cons, List.map_nil, Option.map_some, Option.map_none, List.nil_append, ↓reduceIte, vcu0, vcu1, vcu2, vcu3, vcu4, vcu5, vcu6, vcu7, vcu8, vcu9, vcu10, vcu11, vcu12, vcu13, vcu14, vcu15, vcu16, vcu17, vcu18, vcu19, vcu20, vcu21, vcu22, vcu23, vcu24, vcu25, vcu26, ↓vcd0, ↓vcd1, ↓vcd2, ↓vcd3, h8]
        simp [hOk]
      · rw [if_pos hOk, i3]
      · rw [if_pos hOk]; simpa using hgp
end Go.Proofs.Ytnkpoflhdfchjaa
