/- slices.Delete; PermOf of the program. -/
import Derived.Test.YtdgbaglhhhbbhaaPr
import Derived.Test.YtdgbaglhhhbbhaaPf
set_option linter.unusedSimpArgs false
set_option linter.unusedVariables false
namespace Go.Proofs.Ytdgbaglhhhbbhaa
open Go Go.Abs Go.RowKit
variable {w0 : World}

theorem r_appendI {P : Program} {a : AFrame} {σ : AHeap} {K : AK} {all os : List Oper} {d : Nat} {ty : TypeId} {pos : String} {af : Array Edge} {t u : TypeId} {zv : Value} {b : Nat} {x y : Operand} {g e o len m : Nat} {zs ys : List Int} (hE : Elems P t 1 zv b) (hb : b ≤ 64) (hu : ∃ e2, P.underlying u = some (.slice e2))
    (hx : ev a x = .slice (some ⟨g, 0, none⟩) len 1) (hg : σ g = some ⟨ints .i64 zs, false⟩) (hn : len ≤ zs.length) (hy : ev a y = .slice (some ⟨e, o, none⟩) m 1) (he : IntsAt .i64 σ e o ys) (hm : ys.length = m) (hl : len + m ≤ 4294967296)
    (hk : ∀ g' τ, σ g' = none → Go.Abs.Kept g σ τ → τ g' = some ⟨ints .i64 (if len + m ≤ zs.length then zs.take len ++ ys ++ zs.drop (len + m) else zs.take len ++ ys), false⟩ → vcR P w0 false all os (fset a d (.slice (some ⟨g', 0, none⟩) (len + m) 1)) τ K) :
    vcR P w0 false all (⟨some d, .call ⟨.builtin .append, #[x, y], #[t, u]⟩, ty, pos, af, none⟩ :: os) a σ K := by
  obtain ⟨e1, i, a1, a2, a3, a4, a5⟩ := hE.ex
  obtain ⟨e2, hu⟩ := hu
  subst hm
  subst a5
  have hy' : acells i.size σ (ev a y) = some (ints .i64 ys) := by rw [hy, a4]; exact acells_ints he
  refine r_append_at a1 hu a2 a3 hy' (by rw [a4]; exact hx) hg rfl ?_ (ints_one ys) ?_ fun g' hg' => ?_
  · rw [a4]; show 0 + len * 1 ≤ (ints .i64 zs).length; rw [ints_length]; omega
  · rw [a4, ints_length]
    have : (len * 1 + ys.length) * i.bytes ≤ 4294967296 * 64 := Nat.mul_le_mul (by omega) hb
    omega
  · have hkk := hk g' ((σ.upd g none).upd g' (some ⟨appd (List.drop 0 (ints .i64 zs)) (len * i.size) (ints .i64 ys), false⟩)) hg' (fun k ob hk e => by
      rw [AHeap.upd_ne _ _ (by rintro rfl; rw [hg'] at e; cases e), AHeap.upd_ne _ _ hk]; exact e) (by rw [AHeap.upd_same, List.drop_zero, a4, Nat.mul_one, appd_gen])
    rw [ints_length, a4, Nat.div_one]
    rw [a4] at hkk
    exact hkk

theorem delete_at (σ : AHeap) (g k : Nat) (xs sp : List Int) (hg : σ g = some ⟨ints .i64 (xs ++ sp), false⟩) (hk : k < xs.length) (hl : xs.length ≤ 1000) :
    ACall Try.prog w0 59 [.slice (some ⟨g, 0, none⟩) xs.length 1, .int .i64 (k : Nat), .int .i64 (k + 1 : Nat)] σ fun r σ' =>
      ∃ g' sp', σ g' = none ∧ r = .slice (some ⟨g', 0, none⟩) (xs.length - 1) 1 ∧ Go.Abs.Kept g σ σ' ∧ σ' g' = some ⟨ints .i64 (xs.take k ++ xs.drop (k + 1) ++ sp'), false⟩ := by
  refine acall_go mixed Try.func59 rfl good59 ?_
  simp -implicitDefEqProofs (disch := omega) only [List.any_cons, List.any_nil, Nat.reduceEqDiff, List.map_cons, List.map_nil, Option.map_some, Option.map_none, List.nil_append, ↓reduceIte, vcu0, vcu1, vcu2, vcu3, vcu4, vcu5, vcu6, vcu7, vcu8, vcu9, vcu10, vcu11, vcu12, vcu13, vcu14, ↓vcd0, ↓vcd1, ↓vcd2]
  rw [r_slice3]
  refine ⟨3, .i64, .i64, .i64, k, k + 1, xs.length, Try.underlying23, .inl (by simp -implicitDefEqProofs (disch := omega) only [List.any_cons, List.any_nil, Nat.reduceEqDiff, List.map_cons, List.map_nil, Option.map_some, Option.map_none, List.nil_append, ↓reduceIte, vcu0, vcu1, vcu2, vcu3, vcu4, vcu5, vcu6, vcu7, vcu8, vcu9, vcu10, vcu11, vcu12, vcu13, vcu14, ↓vcd0, ↓vcd1, ↓vcd2]), by simp -implicitDefEqProofs (disch := omega) only [List.any_cons, List.any_nil, Nat.reduceEqDiff, List.map_cons, List.map_nil, Option.map_some, Option.map_none, List.nil_append, ↓reduceIte, vcu0, vcu1, vcu2, vcu3, vcu4, vcu5, vcu6, vcu7, vcu8, vcu9, vcu10, vcu11, vcu12, vcu13, vcu14, ↓vcd0, ↓vcd1, ↓vcd2], by simp -implicitDefEqProofs (disch := omega) only [List.any_cons, List.any_nil, Nat.reduceEqDiff, List.map_cons, List.map_nil, Option.map_some, Option.map_none, List.nil_append, ↓reduceIte, vcu0, vcu1, vcu2, vcu3, vcu4, vcu5, vcu6, vcu7, vcu8, vcu9, vcu10, vcu11, vcu12, vcu13, vcu14, ↓vcd0, ↓vcd1, ↓vcd2], by omega, by omega, .inr ⟨g, 0, xs.length, 1, by simp -implicitDefEqProofs (disch := omega) only [List.any_cons, List.any_nil, Nat.reduceEqDiff, List.map_cons, List.map_nil, Option.map_some, Option.map_none, List.nil_append, ↓reduceIte, vcu0, vcu1, vcu2, vcu3, vcu4, vcu5, vcu6, vcu7, vcu8, vcu9, vcu10, vcu11, vcu12, vcu13, vcu14, ↓vcd0, ↓vcd1, ↓vcd2], co3.symm, Nat.le_refl _, fun g0 hg0 => ?_⟩⟩
  show vcRH Try.prog w0 false _ _ _ _ _
  rw [vcRH_eq, if_neg (by omega)]
  simp -implicitDefEqProofs (disch := omega) only [List.any_cons, List.any_nil, Nat.reduceEqDiff, List.map_cons, List.map_nil, Option.map_some, Option.map_none, List.nil_append, ↓reduceIte, vcu0, vcu1, vcu2, vcu3, vcu4, vcu5, vcu6, vcu7, vcu8, vcu9, vcu10, vcu11, vcu12, vcu13, vcu14, ↓vcd0, ↓vcd1, ↓vcd2]
  refine region_tree mixed (quiets [0, 1, 2, 3, 4, 5] (.one 6 (quiets [7] .stop))) [] (by kernel_rfl) (by kernel_rfl) (fun p hp => by cases hp) ?_
  refine tree_quiets _ _ _ _ sf0 (by kernel_rfl) (by kernel_rfl) ?_
  simp -implicitDefEqProofs (disch := omega) only [List.any_cons, List.any_nil, Nat.reduceEqDiff, List.map_cons, List.map_nil, Option.map_some, Option.map_none, List.nil_append, ↓reduceIte, vcu0, vcu1, vcu2, vcu3, vcu4, vcu5, vcu6, vcu7, vcu8, vcu9, vcu10, vcu11, vcu12, vcu13, vcu14, ↓vcd0, ↓vcd1, ↓vcd2, pickOps_nil, pickOps_cons, pickO_some, List.getElem?_cons_succ, List.getElem?_cons_zero]
  refine tree_one rfl ?_
  have hall : IntsAt .i64 σ g 0 (xs ++ sp) := intsAt_own hg
  have htk : (xs ++ sp).take xs.length = xs := by simp
  have hxs : IntsAt .i64 σ g 0 xs := by have := hall.take xs.length; rwa [htk] at this
  have hdr := hxs.drop (k + 1)
  refine r_appendI (g := g) (e := g) (o := 0 + (k + 1) * 1) (zs := xs ++ sp) (ys := xs.drop (k + 1)) (len := k) (m := xs.length - (k + 1)) el23 (by omega) sl23 (by simp -implicitDefEqProofs (disch := omega) only [List.any_cons, List.any_nil, Nat.reduceEqDiff, List.map_cons, List.map_nil, Option.map_some, Option.map_none, List.nil_append, ↓reduceIte, vcu0, vcu1, vcu2, vcu3, vcu4, vcu5, vcu6, vcu7, vcu8, vcu9, vcu10, vcu11, vcu12, vcu13, vcu14, ↓vcd0, ↓vcd1, ↓vcd2, Int.toNat_natCast]) hg (by simp; omega) (by simp -implicitDefEqProofs (disch := omega) only [List.any_cons, List.any_nil, Nat.reduceEqDiff, List.map_cons, List.map_nil, Option.map_some, Option.map_none, List.nil_append, ↓reduceIte, vcu0, vcu1, vcu2, vcu3, vcu4, vcu5, vcu6, vcu7, vcu8, vcu9, vcu10, vcu11, vcu12, vcu13, vcu14, ↓vcd0, ↓vcd1, ↓vcd2, Int.toNat_natCast]) (by rw [Nat.mul_one]; exact hdr) (by simp) (by omega) fun g' τ hg' hk' hv' => ?_
  rw [if_pos (by simp; omega), List.take_append_of_le_length (by omega)] at hv'
  have hrest : 0 < ((xs ++ sp).drop (k + (xs.length - (k + 1)))).length := by simp; omega
  generalize (xs ++ sp).drop (k + (xs.length - (k + 1))) = rest at hv' hrest
  have hn1 : k + (xs.length - (k + 1)) = xs.length - 1 := by omega
  rw [hn1]
  simp -implicitDefEqProofs (disch := omega) only [List.any_cons, List.any_nil, Nat.reduceEqDiff, List.map_cons, List.map_nil, Option.map_some, Option.map_none, List.nil_append, ↓reduceIte, vcu0, vcu1, vcu2, vcu3, vcu4, vcu5, vcu6, vcu7, vcu8, vcu9, vcu10, vcu11, vcu12, vcu13, vcu14, ↓vcd0, ↓vcd1, ↓vcd2]
  refine ⟨keep_of rfl (fun p hp => by cases hp), ?_⟩
  refine tree_quiets _ _ _ _ sf0 (by kernel_rfl) (by kernel_rfl) ?_
  simp -implicitDefEqProofs (disch := omega) only [List.any_cons, List.any_nil, Nat.reduceEqDiff, List.map_cons, List.map_nil, Option.map_some, Option.map_none, List.nil_append, ↓reduceIte, vcu0, vcu1, vcu2, vcu3, vcu4, vcu5, vcu6, vcu7, vcu8, vcu9, vcu10, vcu11, vcu12, vcu13, vcu14, ↓vcd0, ↓vcd1, ↓vcd2, pickOps_nil, pickOps_cons, pickO_some, List.getElem?_cons_succ, List.getElem?_cons_zero]
  refine tree_stop ?_
  simp -implicitDefEqProofs (disch := omega) only [List.any_cons, List.any_nil, Nat.reduceEqDiff, List.map_cons, List.map_nil, Option.map_some, Option.map_none, List.nil_append, ↓reduceIte, vcu0, vcu1, vcu2, vcu3, vcu4, vcu5, vcu6, vcu7, vcu8, vcu9, vcu10, vcu11, vcu12, vcu13, vcu14, ↓vcd0, ↓vcd1, ↓vcd2]
  have hyl : (xs.take k ++ xs.drop (k + 1)).length = xs.length - 1 := by simp; omega
  rw [bindS_bey ⟨3, g', 0, xs.length - 1, 1, _, .i64, xs.length, Try.underlying23, rfl, co3.symm, hv', by rw [ints_length, List.length_append, hyl]; omega, rfl, .inr ⟨.i64, xs.length - 1, rfl, by omega⟩⟩]
  have hst := sts_one (σ := τ) (h := g') (cs := ints .i64 (xs.take k ++ xs.drop (k + 1) ++ rest)) (i := 0 + (xs.length - 1) * 1) (v := .int .i64 0) hv' (by rw [ints_length, List.length_append, hyl]; omega)
  refine r_clear_at (e := 3) (i := Try.t3) (z := .int .i64 0) (h := g') (b := 0 + (xs.length - 1) * 1) (len := xs.length - (xs.length - 1)) Try.underlying23 rfl rfl (by simp -implicitDefEqProofs (disch := omega) only [List.any_cons, List.any_nil, Nat.reduceEqDiff, List.map_cons, List.map_nil, Option.map_some, Option.map_none, List.nil_append, ↓reduceIte, vcu0, vcu1, vcu2, vcu3, vcu4, vcu5, vcu6, vcu7, vcu8, vcu9, vcu10, vcu11, vcu12, vcu13, vcu14, ↓vcd0, ↓vcd1, ↓vcd2]; rfl) (.inr ⟨?_, ?_⟩) ?_ (σ' := τ.upd g' (some ⟨(ints .i64 (xs.take k ++ xs.drop (k + 1) ++ rest)).set (0 + (xs.length - 1) * 1) (.int .i64 0), false⟩))
  · rw [show xs.length - (xs.length - 1) = 1 by omega, show 1 * Try.t3.size = 1 from rfl, azeros_ints]; rfl
  · rw [show xs.length - (xs.length - 1) = 1 by omega, show 1 * Try.t3.size = 1 from rfl, azeros_ints]; exact hst
  simp -implicitDefEqProofs (disch := omega) only [List.any_cons, List.any_nil, Nat.reduceEqDiff, List.map_cons, List.map_nil, Option.map_some, Option.map_none, List.nil_append, ↓reduceIte, vcu0, vcu1, vcu2, vcu3, vcu4, vcu5, vcu6, vcu7, vcu8, vcu9, vcu10, vcu11, vcu12, vcu13, vcu14, ↓vcd0, ↓vcd1, ↓vcd2]
  refine fin_one Try.results59 ⟨g', rest.set 0 0, hg', ?_, ?_, ?_⟩
  · simp -implicitDefEqProofs (disch := omega) only [List.any_cons, List.any_nil, Nat.reduceEqDiff, List.map_cons, List.map_nil, Option.map_some, Option.map_none, List.nil_append, ↓reduceIte, vcu0, vcu1, vcu2, vcu3, vcu4, vcu5, vcu6, vcu7, vcu8, vcu9, vcu10, vcu11, vcu12, vcu13, vcu14, ↓vcd0, ↓vcd1, ↓vcd2]
  · intro q ob hq e
    rw [AHeap.upd_ne _ _ (ne_of' hg' e)]; exact hk' q ob hq e
  · rw [AHeap.upd_same, ints_set, List.set_append_right _ _ (by rw [hyl]; omega), hyl]
    have : 0 + (xs.length - 1) - (xs.length - 1) = 0 := by omega
    rw [this]
end Go.Proofs.Ytdgbaglhhhbbhaa
