/- What settings of the step network realise, by the program, which reads them chunk by chunk. -/
import Derived.Test.YtgieeafdgdkkcaaXj
import Derived.Test.YtgieeafdgdkkcaaXe
set_option linter.unusedSimpArgs false
set_option linter.unusedVariables false
namespace Go.Proofs.Ytgieeafdgdkkcaa
open Go Go.Abs Go.RowKit Go.Ban
variable {w0 : World}

theorem finC_one {P : Program} {fn : Func} {R : Value → AHeap → Prop} {a : AFrame} {σ σ'' : AHeap} {t : Nat} {v : Value} (h : fn.results = #[.tmp t]) (hs : Sub σ'' σ) (hv : a t = v) (hr : R v σ'') : finC P fn R a σ :=
  ⟨[a t], σ'', by rw [h]; simp [rvals], hs, by rw [hv]; exact hr⟩

theorem chunk_at (σ : AHeap) (v : Value) (n : Int) (hn : 1 ≤ n) (hc : v.cells = #[v]) : ACall Try.prog w0 76 [v, .int .i64 n] σ fun r σ' => ∃ b1 b2, r = .func (.func 82) #[] #[.pointer (some ⟨b1, 0, none⟩), .pointer (some ⟨b2, 0, none⟩)] ∧ Sub σ σ' ∧ σ' b1 = some ⟨[v], false⟩ ∧ σ' b2 = some ⟨[.int .i64 n], false⟩ ∧ σ b1 = none ∧ σ b2 = none ∧ b1 ≠ b2 := by
  refine acall_go mixed Try.func76 rfl good76 fun pr => ?_
  simp -implicitDefEqProofs (disch := omega) only [List.any_cons, List.any_nil, Nat.reduceEqDiff, List.map_cons, List.map_nil, Option.map_some, Option.map_none, List.nil_append, ↓reduceIte, vcu0, vcu1, vcu2, vcu3, vcu4, vcu5, vcu6, vcu7, vcu8, vcu9, vcu10, vcu11, vcu12, vcu13, vcu14, vcu15, vcu16, vcu17, vcu18, vcu19, vcu20, vcu21, vcu22, ↓vcd0, ↓vcd1, ↓vcd2, ↓vcd3]
  refine r_boxed fun b1 τ1 n1 s1 e1 => ?_
  replace e1 : τ1 b1 = some ⟨[v], false⟩ := by rw [e1]; simp -implicitDefEqProofs (disch := omega) only [List.any_cons, List.any_nil, Nat.reduceEqDiff, List.map_cons, List.map_nil, Option.map_some, Option.map_none, List.nil_append, ↓reduceIte, vcu0, vcu1, vcu2, vcu3, vcu4, vcu5, vcu6, vcu7, vcu8, vcu9, vcu10, vcu11, vcu12, vcu13, vcu14, vcu15, vcu16, vcu17, vcu18, vcu19, vcu20, vcu21, vcu22, ↓vcd0, ↓vcd1, ↓vcd2, ↓vcd3, hc]
  refine r_boxed fun b2 τ2 n2 s2 e2 => ?_
  replace e2 : τ2 b2 = some ⟨[.int .i64 n], false⟩ := e2
  have l2 : ld τ2 b2 0 = some (.int .i64 n) := ld_of e2 rfl
  simp -implicitDefEqProofs (disch := omega) only [List.any_cons, List.any_nil, Nat.reduceEqDiff, List.map_cons, List.map_nil, Option.map_some, Option.map_none, List.nil_append, ↓reduceIte, vcu0, vcu1, vcu2, vcu3, vcu4, vcu5, vcu6, vcu7, vcu8, vcu9, vcu10, vcu11, vcu12, vcu13, vcu14, vcu15, vcu16, vcu17, vcu18, vcu19, vcu20, vcu21, vcu22, ↓vcd0, ↓vcd1, ↓vcd2, ↓vcd3, l2]
  refine fin_one Try.results76 ⟨b1, b2, ?_, s1.trans s2, s2 _ _ e1, e2, n1, free_sub s1 n2, ne_of' n2 e1⟩
  simp -implicitDefEqProofs (disch := omega) only [List.any_cons, List.any_nil, Nat.reduceEqDiff, List.map_cons, List.map_nil, Option.map_some, Option.map_none, List.nil_append, ↓reduceIte, vcu0, vcu1, vcu2, vcu3, vcu4, vcu5, vcu6, vcu7, vcu8, vcu9, vcu10, vcu11, vcu12, vcu13, vcu14, vcu15, vcu16, vcu17, vcu18, vcu19, vcu20, vcu21, vcu22, ↓vcd0, ↓vcd1, ↓vcd2, ↓vcd3]

theorem chunk_iter {pr1 : Prot} {l : Nat} {σ : AHeap} (b1 b2 h o : Nat) (xs : List Bool) (n lg : Nat) (cs : List Value) (hn : 1 ≤ n) (hlen : xs.length = n * lg) (hl2 : xs.length ≤ 1000) (I : Nat → AHeap → Prop) (X : AHeap → Prop) (hI0 : I 0 σ)
    (hIb : ∀ k τ, I k τ → τ b1 = some ⟨[.slice (some ⟨h, o, none⟩) xs.length 1], false⟩ ∧ τ b2 = some ⟨[.int .i64 n], false⟩ ∧ τ h = some ⟨cs, true⟩)
    (hcs : ∀ i, i < xs.length → cs[o + i]? = some (.bool (xs.getD i false)))
    (hY : ∀ k, k < lg → ∀ τ0 τ g, I k τ0 → τ0 g = none → Sub τ0 τ → BoolsAt τ g 0 ((xs.drop (k * n)).take n) →
      AYield Try.prog w0 pr1 l [.slice (some ⟨g, 0, none⟩) n 1] τ fun v τ' => (v = .bool true ∧ I (k + 1) τ') ∨ (v = .bool false ∧ X τ')) :
    ACallAt Try.prog w0 pr1 82 [.func (.yield l) #[] #[], .pointer (some ⟨b1, 0, none⟩), .pointer (some ⟨b2, 0, none⟩)] σ fun _ τ => I lg τ ∨ X τ := by
  refine acallAt_go mixed Try.func82 rfl good82 ?_
  simp -implicitDefEqProofs (disch := omega) only [List.any_cons, List.any_nil, Nat.reduceEqDiff, List.map_cons, List.map_nil, Option.map_some, Option.map_none, List.nil_append, ↓reduceIte, vcu0, vcu1, vcu2, vcu3, vcu4, vcu5, vcu6, vcu7, vcu8, vcu9, vcu10, vcu11, vcu12, vcu13, vcu14, vcu15, vcu16, vcu17, vcu18, vcu19, vcu20, vcu21, vcu22, ↓vcd0, ↓vcd1, ↓vcd2, ↓vcd3]
  refine vc_loop_c mixed (by kernel_rfl) [0, 1, 2] (fun m a τ => ∃ k : Nat, m + k = lg ∧ a 4 = .int .i64 ((k * n : Nat) : Int) ∧ I k τ) lg ⟨0, by simp, by simp [fset], hI0⟩ ?_
  rintro m a τ hc ⟨k, hk, h4, hI⟩
  simp -implicitDefEqProofs (disch := omega) only [List.any_cons, List.any_nil, Nat.reduceEqDiff, List.map_cons, List.map_nil, Option.map_some, Option.map_none, List.nil_append, ↓reduceIte, vcu0, vcu1, vcu2, vcu3, vcu4, vcu5, vcu6, vcu7, vcu8, vcu9, vcu10, vcu11, vcu12, vcu13, vcu14, vcu15, vcu16, vcu17, vcu18, vcu19, vcu20, vcu21, vcu22, ↓vcd0, ↓vcd1, ↓vcd2, ↓vcd3] at hc
  obtain ⟨h0, h1, h2, -⟩ := hc
  obtain ⟨f1, f2, f3⟩ := hIb k τ hI
  have l1 : ld τ b1 0 = some (.slice (some ⟨h, o, none⟩) xs.length 1) := ld_of f1 rfl
  have l2 : ld τ b2 0 = some (.int .i64 n) := ld_of f2 rfl
  have hkn : (k + 1) * n = k * n + n := by rw [Nat.add_mul, Nat.one_mul]
  have hlk : k < lg → k * n + n ≤ xs.length := fun hlt => by
    have : (k + 1) * n ≤ lg * n := Nat.mul_le_mul_right _ (by omega)
    rw [hlen, Nat.mul_comm n lg]; omega
  have hge : ¬ k < lg → k * n = xs.length := fun hlt => by
    have : k = lg := by omega
    rw [this, hlen, Nat.mul_comm]
  have hyk := hY k
  generalize k * n = K at *
  by_cases hlt : k < lg
  · have hKn := hlk hlt
    have hmin : min (n : Int) ((xs.length - K : Nat) : Int) = n := by omega
    simp -implicitDefEqProofs (disch := omega) only [List.any_cons, List.any_nil, Nat.reduceEqDiff, List.map_cons, List.map_nil, Option.map_some, Option.map_none, List.nil_append, ↓reduceIte, vcu0, vcu1, vcu2, vcu3, vcu4, vcu5, vcu6, vcu7, vcu8, vcu9, vcu10, vcu11, vcu12, vcu13, vcu14, vcu15, vcu16, vcu17, vcu18, vcu19, vcu20, vcu21, vcu22, ↓vcd0, ↓vcd1, ↓vcd2, ↓vcd3, h0, h1, h2, h4, l1, l2, hmin, Int.toNat_natCast]
    rw [r_slice3]
    refine ⟨4, .i64, .i64, .i64, K, K + n, K + n, Try.underlying27, .inl (by simp -implicitDefEqProofs (disch := omega) only [List.any_cons, List.any_nil, Nat.reduceEqDiff, List.map_cons, List.map_nil, Option.map_some, Option.map_none, List.nil_append, ↓reduceIte, vcu0, vcu1, vcu2, vcu3, vcu4, vcu5, vcu6, vcu7, vcu8, vcu9, vcu10, vcu11, vcu12, vcu13, vcu14, vcu15, vcu16, vcu17, vcu18, vcu19, vcu20, vcu21, vcu22, ↓vcd0, ↓vcd1, ↓vcd2, ↓vcd3, h4]), by simp -implicitDefEqProofs (disch := omega) only [List.any_cons, List.any_nil, Nat.reduceEqDiff, List.map_cons, List.map_nil, Option.map_some, Option.map_none, List.nil_append, ↓reduceIte, vcu0, vcu1, vcu2, vcu3, vcu4, vcu5, vcu6, vcu7, vcu8, vcu9, vcu10, vcu11, vcu12, vcu13, vcu14, vcu15, vcu16, vcu17, vcu18, vcu19, vcu20, vcu21, vcu22, ↓vcd0, ↓vcd1, ↓vcd2, ↓vcd3, h4]; rfl, by simp -implicitDefEqProofs (disch := omega) only [List.any_cons, List.any_nil, Nat.reduceEqDiff, List.map_cons, List.map_nil, Option.map_some, Option.map_none, List.nil_append, ↓reduceIte, vcu0, vcu1, vcu2, vcu3, vcu4, vcu5, vcu6, vcu7, vcu8, vcu9, vcu10, vcu11, vcu12, vcu13, vcu14, vcu15, vcu16, vcu17, vcu18, vcu19, vcu20, vcu21, vcu22, ↓vcd0, ↓vcd1, ↓vcd2, ↓vcd3, h4]; rfl, by omega, Nat.le_refl _, .inr (.inr ⟨h, o, xs.length, 1, cs, by simp -implicitDefEqProofs (disch := omega) only [List.any_cons, List.any_nil, Nat.reduceEqDiff, List.map_cons, List.map_nil, Option.map_some, Option.map_none, List.nil_append, ↓reduceIte, vcu0, vcu1, vcu2, vcu3, vcu4, vcu5, vcu6, vcu7, vcu8, vcu9, vcu10, vcu11, vcu12, vcu13, vcu14, vcu15, vcu16, vcu17, vcu18, vcu19, vcu20, vcu21, vcu22, ↓vcd0, ↓vcd1, ↓vcd2, ↓vcd3], co4.symm, hKn, by omega, f3, ?_, fun g ng => ?_⟩)⟩
    · rcases Nat.lt_or_ge (o + (xs.length - 1)) cs.length with hh | hh
      · omega
      · have := hcs (xs.length - 1) (by omega)
        rw [List.getElem?_eq_none hh] at this; cases this
    show vcRH Try.prog _ false _ _ _ _ _
    rw [vcRH_eq]
    have hen : K + n - K = n := by omega
    rw [hen]
    simp -implicitDefEqProofs (disch := omega) only [List.any_cons, List.any_nil, Nat.reduceEqDiff, List.map_cons, List.map_nil, Option.map_some, Option.map_none, List.nil_append, ↓reduceIte, vcu0, vcu1, vcu2, vcu3, vcu4, vcu5, vcu6, vcu7, vcu8, vcu9, vcu10, vcu11, vcu12, vcu13, vcu14, vcu15, vcu16, vcu17, vcu18, vcu19, vcu20, vcu21, vcu22, ↓vcd0, ↓vcd1, ↓vcd2, ↓vcd3]
    refine r_yield (l := l) (by simp -implicitDefEqProofs (disch := omega) only [List.any_cons, List.any_nil, Nat.reduceEqDiff, List.map_cons, List.map_nil, Option.map_some, Option.map_none, List.nil_append, ↓reduceIte, vcu0, vcu1, vcu2, vcu3, vcu4, vcu5, vcu6, vcu7, vcu8, vcu9, vcu10, vcu11, vcu12, vcu13, vcu14, vcu15, vcu16, vcu17, vcu18, vcu19, vcu20, vcu21, vcu22, ↓vcd0, ↓vcd1, ↓vcd2, ↓vcd3, h0]) ?_
    simp -implicitDefEqProofs (disch := omega) only [List.any_cons, List.any_nil, Nat.reduceEqDiff, List.map_cons, List.map_nil, Option.map_some, Option.map_none, List.nil_append, ↓reduceIte, vcu0, vcu1, vcu2, vcu3, vcu4, vcu5, vcu6, vcu7, vcu8, vcu9, vcu10, vcu11, vcu12, vcu13, vcu14, vcu15, vcu16, vcu17, vcu18, vcu19, vcu20, vcu21, vcu22, ↓vcd0, ↓vcd1, ↓vcd2, ↓vcd3]
    refine (hyk hlt τ _ g hI ng (sub_upd ng) (fun i hi => ?_)).mono ?_
    · simp only [List.length_take, List.length_drop] at hi
      rw [ld_upd_same, Nat.zero_add]
      dsimp only
      rw [List.getElem?_take, if_pos (by omega), List.getElem?_drop, Nat.add_assoc, hcs _ (by omega)]
      have hin : i < n := by omega
      simp [List.getD, List.getElem?_take, hin]
    · rintro r τ3 (⟨rfl, hI3⟩ | ⟨rfl, hX⟩)
      · obtain ⟨-, p2, -⟩ := hIb _ τ3 hI3
        have l3 : ld τ3 b2 0 = some (.int .i64 n) := ld_of p2 rfl
        simp -implicitDefEqProofs (disch := omega) only [List.any_cons, List.any_nil, Nat.reduceEqDiff, List.map_cons, List.map_nil, Option.map_some, Option.map_none, List.nil_append, ↓reduceIte, vcu0, vcu1, vcu2, vcu3, vcu4, vcu5, vcu6, vcu7, vcu8, vcu9, vcu10, vcu11, vcu12, vcu13, vcu14, vcu15, vcu16, vcu17, vcu18, vcu19, vcu20, vcu21, vcu22, ↓vcd0, ↓vcd1, ↓vcd2, ↓vcd3, opK_some, h0, h1, h2, h4, l3]
        refine ⟨⟨trivial, trivial, trivial, trivial⟩, m - 1, by omega, k + 1, by omega, ?_, hI3⟩
        rw [hkn]; simp
      · simp -implicitDefEqProofs (disch := omega) only [List.any_cons, List.any_nil, Nat.reduceEqDiff, List.map_cons, List.map_nil, Option.map_some, Option.map_none, List.nil_append, ↓reduceIte, vcu0, vcu1, vcu2, vcu3, vcu4, vcu5, vcu6, vcu7, vcu8, vcu9, vcu10, vcu11, vcu12, vcu13, vcu14, vcu15, vcu16, vcu17, vcu18, vcu19, vcu20, vcu21, vcu22, ↓vcd0, ↓vcd1, ↓vcd2, ↓vcd3, opK_some]
        exact fin_unit rfl (.inr hX)
  · have hKe := hge hlt
    simp -implicitDefEqProofs (disch := omega) only [List.any_cons, List.any_nil, Nat.reduceEqDiff, List.map_cons, List.map_nil, Option.map_some, Option.map_none, List.nil_append, ↓reduceIte, vcu0, vcu1, vcu2, vcu3, vcu4, vcu5, vcu6, vcu7, vcu8, vcu9, vcu10, vcu11, vcu12, vcu13, vcu14, vcu15, vcu16, vcu17, vcu18, vcu19, vcu20, vcu21, vcu22, ↓vcd0, ↓vcd1, ↓vcd2, ↓vcd3, h0, h1, h2, h4, l1, l2]
    have e : k = lg := by omega
    subst e
    exact fin_unit rfl (.inl hI)
end Go.Proofs.Ytgieeafdgdkkcaa
