/- The program's texts of digits, lengths, shares, how often, what it costs. -/
import Derived.Test.YtnenopebfobajaaGaR
import Derived.Test.YtnenopebfobajaaGbK
set_option linter.unusedSimpArgs false
set_option linter.unusedVariables false
namespace Go.Proofs.Ytnenopebfobajaa
open Go Go.Abs Go.RowKit Go.Dial
variable {w0 : World}

theorem prefix0_calls (σ : AHeap) (s t : List UInt8) : ACall Try.prog w0 87 [.string (tx s), .string (tx t)] σ fun r σ' => r = .bool (decide (Beg s t)) ∧ σ' = σ := by
  refine acall_go mixed Try.func87 rfl good87 fun pr => ?_
  by_cases h : t.length ≤ s.length
  · simp -implicitDefEqProofs (disch := omega) only [List.any_cons, List.any_nil, Nat.reduceEqDiff, List.map_cons, List.map_nil, Option.map_some, Option.map_none, List.nil_append, ↓reduceIte, vcu, ↓vcd]
    refine fin_one Try.results87 ⟨?_, rfl⟩
    simp -implicitDefEqProofs (disch := omega) only [List.any_cons, List.any_nil, Nat.reduceEqDiff, List.map_cons, List.map_nil, Option.map_some, Option.map_none, List.nil_append, ↓reduceIte, vcu, ↓vcd]
    simp [Beg, h]
  · simp -implicitDefEqProofs (disch := omega) only [List.any_cons, List.any_nil, Nat.reduceEqDiff, List.map_cons, List.map_nil, Option.map_some, Option.map_none, List.nil_append, ↓reduceIte, vcu, ↓vcd]
    refine fin_one Try.results87 ⟨?_, rfl⟩
    simp -implicitDefEqProofs (disch := omega) only [List.any_cons, List.any_nil, Nat.reduceEqDiff, List.map_cons, List.map_nil, Option.map_some, Option.map_none, List.nil_append, ↓reduceIte, vcu, ↓vcd]
    simp [Beg, h]
theorem prefix_calls (σ : AHeap) (s t : List UInt8) : ACall Try.prog w0 71 [.string (tx s), .string (tx t)] σ fun r σ' => r = .bool (decide (Beg s t)) ∧ σ' = σ := by
  refine acall_go mixed Try.func71 rfl good71 fun pr => ?_
  simp -implicitDefEqProofs (disch := omega) only [List.any_cons, List.any_nil, Nat.reduceEqDiff, List.map_cons, List.map_nil, Option.map_some, Option.map_none, List.nil_append, ↓reduceIte, vcu, ↓vcd]
  refine (prefix0_calls _ _ _).mono ?_
  rintro r τ ⟨rfl, rfl⟩
  simp -implicitDefEqProofs (disch := omega) only [List.any_cons, List.any_nil, Nat.reduceEqDiff, List.map_cons, List.map_nil, Option.map_some, Option.map_none, List.nil_append, ↓reduceIte, vcu, ↓vcd, opK_some]
  refine fin_one Try.results71 ⟨?_, rfl⟩
  simp -implicitDefEqProofs (disch := omega) only [List.any_cons, List.any_nil, Nat.reduceEqDiff, List.map_cons, List.map_nil, Option.map_some, Option.map_none, List.nil_append, ↓reduceIte, vcu, ↓vcd]

theorem abin_uge {t : TypeId} {a b : Int} : abin Try.prog t .geq (.int .u8 a) (.int .u8 b) = some (.bool (decide (a ≥ b))) := by simp [abin]
theorem implDg_calls (σ : AHeap) (xs : List UInt8) (hl : xs.length ≤ 1048576) : ACall Try.prog w0 18 [.string (tx xs)] σ fun r σ' => r = .bool (decide (DgT xs)) ∧ σ' = σ := by
  refine acall_go mixed Try.func18 rfl good18 fun pr => ?_
  simp -implicitDefEqProofs (disch := omega) only [List.any_cons, List.any_nil, Nat.reduceEqDiff, List.map_cons, List.map_nil, Option.map_some, Option.map_none, List.nil_append, ↓reduceIte, vcu, ↓vcd]
  refine vc_loop_c mixed (by kernel_rfl) [0, 5] (fun m a σ' => ∃ k : Nat, m + k = xs.length ∧ a 6 = .int .i64 k ∧ (∀ j, j < k → 48 ≤ (xs.getD j 0).toNat ∧ (xs.getD j 0).toNat ≤ 51) ∧ σ' = σ) xs.length ⟨0, by simp, rfl, fun j hj => absurd hj (by omega), rfl⟩ ?_
  rintro m a σ' hc ⟨k, hk, h6, hd, rfl⟩
  simp -implicitDefEqProofs (disch := omega) only [List.any_cons, List.any_nil, Nat.reduceEqDiff, List.map_cons, List.map_nil, Option.map_some, Option.map_none, List.nil_append, ↓reduceIte, vcu, ↓vcd] at hc
  obtain ⟨h0, h5, -⟩ := hc
  by_cases hlt : k < xs.length
  · have hb := u8_le (xs.getD k 0)
    by_cases hlo : ((xs.getD k 0).toNat : Int) < 48
    · have hn : ¬DgT xs := fun h => by have := h.at hlt; omega
      simp -implicitDefEqProofs (disch := omega) only [List.any_cons, List.any_nil, Nat.reduceEqDiff, List.map_cons, List.map_nil, Option.map_some, Option.map_none, List.nil_append, ↓reduceIte, vcu, ↓vcd, h0, h5, h6, abin_ulss, abin_uge]
      refine fin_one Try.results18 ⟨?_, rfl⟩
      simp -implicitDefEqProofs (disch := omega) only [List.any_cons, List.any_nil, Nat.reduceEqDiff, List.map_cons, List.map_nil, Option.map_some, Option.map_none, List.nil_append, ↓reduceIte, vcu, ↓vcd]
      simp [hn]
    · by_cases hhi : ((xs.getD k 0).toNat : Int) ≥ 52
      · have hn : ¬DgT xs := fun h => by have := h.at hlt; omega
        simp -implicitDefEqProofs (disch := omega) only [List.any_cons, List.any_nil, Nat.reduceEqDiff, List.map_cons, List.map_nil, Option.map_some, Option.map_none, List.nil_append, ↓reduceIte, vcu, ↓vcd, h0, h5, h6, abin_ulss, abin_uge]
        refine fin_one Try.results18 ⟨?_, rfl⟩
        simp -implicitDefEqProofs (disch := omega) only [List.any_cons, List.any_nil, Nat.reduceEqDiff, List.map_cons, List.map_nil, Option.map_some, Option.map_none, List.nil_append, ↓reduceIte, vcu, ↓vcd]
        simp [hn]
      · simp -implicitDefEqProofs (disch := omega) only [List.any_cons, List.any_nil, Nat.reduceEqDiff, List.map_cons, List.map_nil, Option.map_some, Option.map_none, List.nil_append, ↓reduceIte, vcu, ↓vcd, h0, h5, h6, abin_ulss, abin_uge]
        refine ⟨⟨trivial, trivial, trivial⟩, m - 1, by omega, k + 1, by omega, by simp, fun j hj => ?_, trivial⟩
        by_cases hjk : j = k
        · subst hjk; exact ⟨by omega, by omega⟩
        · exact hd j (by omega)
  · simp -implicitDefEqProofs (disch := omega) only [List.any_cons, List.any_nil, Nat.reduceEqDiff, List.map_cons, List.map_nil, Option.map_some, Option.map_none, List.nil_append, ↓reduceIte, vcu, ↓vcd, h0, h5, h6]
    have e : k = xs.length := by omega
    refine fin_one Try.results18 ⟨?_, rfl⟩
    simp -implicitDefEqProofs (disch := omega) only [List.any_cons, List.any_nil, Nat.reduceEqDiff, List.map_cons, List.map_nil, Option.map_some, Option.map_none, List.nil_append, ↓reduceIte, vcu, ↓vcd]
    subst e
    simp [dgT_of hd]

theorem implLn_at (σ : AHeap) (h o : Nat) (xs : List Int) (hv : IntsAt .i64 σ h o xs) (hl : xs.length ≤ 1048576) :
    ACall Try.prog w0 27 [.slice (some ⟨h, o, none⟩) xs.length 1] σ fun r σ' => r = .bool (decide (LnOk xs)) ∧ σ' = σ := by
  refine acall_go mixed Try.func27 rfl good27 fun pr => ?_
  by_cases hbig : 10 < xs.length
  · simp -implicitDefEqProofs (disch := omega) only [List.any_cons, List.any_nil, Nat.reduceEqDiff, List.map_cons, List.map_nil, Option.map_some, Option.map_none, List.nil_append, ↓reduceIte, vcu, ↓vcd]
    refine fin_one Try.results27 ⟨?_, rfl⟩
    simp -implicitDefEqProofs (disch := omega) only [List.any_cons, List.any_nil, Nat.reduceEqDiff, List.map_cons, List.map_nil, Option.map_some, Option.map_none, List.nil_append, ↓reduceIte, vcu, ↓vcd]
    have : ¬LnOk xs := fun h => by have := h.2; omega
    simp [this]
  simp -implicitDefEqProofs (disch := omega) only [List.any_cons, List.any_nil, Nat.reduceEqDiff, List.map_cons, List.map_nil, Option.map_some, Option.map_none, List.nil_append, ↓reduceIte, vcu, ↓vcd]
  refine vc_loop_c mixed (by kernel_rfl) [8, 9] (fun m a σ' => ∃ k : Nat, m + k = xs.length ∧ a 10 = .int .i64 k ∧ (∀ j, j < k → 1 ≤ xs.getD j 0 ∧ xs.getD j 0 ≤ 3) ∧ σ' = σ) xs.length ⟨0, by simp, rfl, fun j hj => absurd hj (by omega), rfl⟩ ?_
  rintro m a σ' hc ⟨k, hk, h10, hall, rfl⟩
  simp -implicitDefEqProofs (disch := omega) only [List.any_cons, List.any_nil, Nat.reduceEqDiff, List.map_cons, List.map_nil, Option.map_some, Option.map_none, List.nil_append, ↓reduceIte, vcu, ↓vcd] at hc
  obtain ⟨h8, h9, -⟩ := hc
  by_cases hlt : k < xs.length
  · have hx := hv k hlt
    by_cases hlo : xs.getD k 0 < 1
    · have hn : ¬LnOk xs := fun h => by have := h.1 k hlt; omega
      simp -implicitDefEqProofs (disch := omega) only [List.any_cons, List.any_nil, Nat.reduceEqDiff, List.map_cons, List.map_nil, Option.map_some, Option.map_none, List.nil_append, ↓reduceIte, vcu, ↓vcd, h8, h9, h10, hx]
      refine fin_one Try.results27 ⟨?_, rfl⟩
      simp -implicitDefEqProofs (disch := omega) only [List.any_cons, List.any_nil, Nat.reduceEqDiff, List.map_cons, List.map_nil, Option.map_some, Option.map_none, List.nil_append, ↓reduceIte, vcu, ↓vcd]
      simp [hn]
    · by_cases hhi : xs.getD k 0 > 3
      · have hn : ¬LnOk xs := fun h => by have := h.1 k hlt; omega
        simp -implicitDefEqProofs (disch := omega) only [List.any_cons, List.any_nil, Nat.reduceEqDiff, List.map_cons, List.map_nil, Option.map_some, Option.map_none, List.nil_append, ↓reduceIte, vcu, ↓vcd, h8, h9, h10, hx]
        refine fin_one Try.results27 ⟨?_, rfl⟩
        simp -implicitDefEqProofs (disch := omega) only [List.any_cons, List.any_nil, Nat.reduceEqDiff, List.map_cons, List.map_nil, Option.map_some, Option.map_none, List.nil_append, ↓reduceIte, vcu, ↓vcd]
        simp [hn]
      · simp -implicitDefEqProofs (disch := omega) only [List.any_cons, List.any_nil, Nat.reduceEqDiff, List.map_cons, List.map_nil, Option.map_some, Option.map_none, List.nil_append, ↓reduceIte, vcu, ↓vcd, h8, h9, h10, hx]
        refine ⟨⟨trivial, trivial, trivial⟩, m - 1, by omega, k + 1, by omega, by simp, fun j hj => ?_, trivial⟩
        by_cases e : j = k
        · subst e; exact ⟨by omega, by omega⟩
        · exact hall j (by omega)
  · simp -implicitDefEqProofs (disch := omega) only [List.any_cons, List.any_nil, Nat.reduceEqDiff, List.map_cons, List.map_nil, Option.map_some, Option.map_none, List.nil_append, ↓reduceIte, vcu, ↓vcd, h8, h9, h10]
    refine fin_one Try.results27 ⟨?_, rfl⟩
    simp -implicitDefEqProofs (disch := omega) only [List.any_cons, List.any_nil, Nat.reduceEqDiff, List.map_cons, List.map_nil, Option.map_some, Option.map_none, List.nil_append, ↓reduceIte, vcu, ↓vcd]
    have : LnOk xs := ⟨fun j hj => hall j (by omega), by omega⟩
    simp [this]

theorem implShare_calls (σ : AHeap) (L : Int) (hL : 0 ≤ L ∧ L ≤ 3) : ACall Try.prog w0 73 [.int .i64 L] σ fun r σ' => r = .int .i64 (pw (3 - L).toNat) ∧ σ' = σ := by
  refine acall_go mixed Try.func73 rfl good73 fun pr => ?_
  simp -implicitDefEqProofs (disch := omega) only [List.any_cons, List.any_nil, Nat.reduceEqDiff, List.map_cons, List.map_nil, Option.map_some, Option.map_none, List.nil_append, ↓reduceIte, vcu, ↓vcd]
  refine vc_loop_c mixed (by kernel_rfl) [5] (fun m a σ' => ∃ k : Nat, m + k = (3 - L).toNat ∧ a 6 = .int .i64 k ∧ a 3 = .int .i64 (pw k) ∧ σ' = σ) (3 - L).toNat ⟨0, by simp, rfl, rfl, rfl⟩ ?_
  rintro m a σ' hc ⟨k, hk, h6, h3, rfl⟩
  simp -implicitDefEqProofs (disch := omega) only [List.any_cons, List.any_nil, Nat.reduceEqDiff, List.map_cons, List.map_nil, Option.map_some, Option.map_none, List.nil_append, ↓reduceIte, vcu, ↓vcd] at hc
  obtain ⟨h5, -⟩ := hc
  have hb := pw_pos k
  have hb2 : pw k ≤ 64 := pw_mono (n := 3) (by omega)
  by_cases hlt : k < (3 - L).toNat
  · simp -implicitDefEqProofs (disch := omega) only [List.any_cons, List.any_nil, Nat.reduceEqDiff, List.map_cons, List.map_nil, Option.map_some, Option.map_none, List.nil_append, ↓reduceIte, vcu, ↓vcd, h3, h5, h6]
    exact ⟨⟨trivial, trivial⟩, m - 1, by omega, k + 1, by omega, by simp, by rw [pw_succ], trivial⟩
  · simp -implicitDefEqProofs (disch := omega) only [List.any_cons, List.any_nil, Nat.reduceEqDiff, List.map_cons, List.map_nil, Option.map_some, Option.map_none, List.nil_append, ↓reduceIte, vcu, ↓vcd, h3, h5, h6]
    have e : k = (3 - L).toNat := by omega
    refine fin_one Try.results73 ⟨?_, rfl⟩
    simp -implicitDefEqProofs (disch := omega) only [List.any_cons, List.any_nil, Nat.reduceEqDiff, List.map_cons, List.map_nil, Option.map_some, Option.map_none, List.nil_append, ↓reduceIte, vcu, ↓vcd, h3]
    rw [e]

theorem implSh_at (σ : AHeap) (h o : Nat) (xs : List Int) (hv : IntsAt .i64 σ h o xs) (hl : xs.length ≤ 1048576) :
    ACall Try.prog w0 24 [.slice (some ⟨h, o, none⟩) xs.length 1] σ fun r σ' => r = .int .i64 (shareV xs) ∧ σ' = σ := by
  refine acall_go mixed Try.func24 rfl good24 fun pr => ?_
  simp -implicitDefEqProofs (disch := omega) only [List.any_cons, List.any_nil, Nat.reduceEqDiff, List.map_cons, List.map_nil, Option.map_some, Option.map_none, List.nil_append, ↓reduceIte, vcu, ↓vcd]
  refine (implLn_at _ h o xs hv hl).mono ?_
  rintro r τ ⟨rfl, rfl⟩
  by_cases hok : LnOk xs
  · have h1 : decide (LnOk xs) = true := decide_eq_true hok
    simp -implicitDefEqProofs (disch := omega) only [List.any_cons, List.any_nil, Nat.reduceEqDiff, List.map_cons, List.map_nil, Option.map_some, Option.map_none, List.nil_append, ↓reduceIte, vcu, ↓vcd, opK_some, h1]
    refine vc_loop_c mixed (by kernel_rfl) [9, 10] (fun m a σ' => ∃ k : Nat, m + k = xs.length ∧ a 11 = .int .i64 k ∧ a 3 = .int .i64 (shS xs k) ∧ σ' = τ) xs.length ⟨0, by simp, rfl, rfl, rfl⟩ ?_
    rintro m a σ' hc ⟨k, hk, h11, h3, rfl⟩
    simp -implicitDefEqProofs (disch := omega) only [List.any_cons, List.any_nil, Nat.reduceEqDiff, List.map_cons, List.map_nil, Option.map_some, Option.map_none, List.nil_append, ↓reduceIte, vcu, ↓vcd] at hc
    obtain ⟨h9, h10, -⟩ := hc
    have hb := shS_le (fun j hj => by have := hok.1 j hj; omega) k (by omega)
    by_cases hlt : k < xs.length
    · have hx := hv k hlt
      have hin := hok.1 k hlt
      have hp := pw_le (n := (3 - xs.getD k 0).toNat) (by omega)
      simp -implicitDefEqProofs (disch := omega) only [List.any_cons, List.any_nil, Nat.reduceEqDiff, List.map_cons, List.map_nil, Option.map_some, Option.map_none, List.nil_append, ↓reduceIte, vcu, ↓vcd, h9, h10, h11, h3, hx]
      refine (implShare_calls _ _ (by omega)).mono ?_
      rintro r τ ⟨rfl, rfl⟩
      simp -implicitDefEqProofs (disch := omega) only [List.any_cons, List.any_nil, Nat.reduceEqDiff, List.map_cons, List.map_nil, Option.map_some, Option.map_none, List.nil_append, ↓reduceIte, vcu, ↓vcd, opK_some, h9, h10, h11, h3, hx]
      exact ⟨⟨trivial, trivial, trivial⟩, m - 1, by omega, k + 1, by omega, by simp, by simp only [shS], trivial⟩
    · simp -implicitDefEqProofs (disch := omega) only [List.any_cons, List.any_nil, Nat.reduceEqDiff, List.map_cons, List.map_nil, Option.map_some, Option.map_none, List.nil_append, ↓reduceIte, vcu, ↓vcd, h9, h10, h11, h3]
      have e : k = xs.length := by omega
      refine fin_one Try.results24 ⟨?_, rfl⟩
      simp -implicitDefEqProofs (disch := omega) only [List.any_cons, List.any_nil, Nat.reduceEqDiff, List.map_cons, List.map_nil, Option.map_some, Option.map_none, List.nil_append, ↓reduceIte, vcu, ↓vcd, h3]
      rw [shareV, if_pos hok, e]
  · have h1 : decide (LnOk xs) = false := decide_eq_false hok
    simp -implicitDefEqProofs (disch := omega) only [List.any_cons, List.any_nil, Nat.reduceEqDiff, List.map_cons, List.map_nil, Option.map_some, Option.map_none, List.nil_append, ↓reduceIte, vcu, ↓vcd, opK_some, h1]
    refine fin_one Try.results24 ⟨?_, rfl⟩
    simp -implicitDefEqProofs (disch := omega) only [List.any_cons, List.any_nil, Nat.reduceEqDiff, List.map_cons, List.map_nil, Option.map_some, Option.map_none, List.nil_append, ↓reduceIte, vcu, ↓vcd]
    rw [shareV, if_neg hok]

theorem implOf_at (σ : AHeap) (h o : Nat) (xs : List Int) (hv : IntsAt .i64 σ h o xs) (hl : xs.length ≤ 1048576) :
    ACall Try.prog w0 45 [.slice (some ⟨h, o, none⟩) xs.length 1] σ fun r σ' => r = .bool (decide (OfOk xs)) ∧ σ' = σ := by
  refine acall_go mixed Try.func45 rfl good45 fun pr => ?_
  by_cases hsm : xs.length < 2
  · simp -implicitDefEqProofs (disch := omega) only [List.any_cons, List.any_nil, Nat.reduceEqDiff, List.map_cons, List.map_nil, Option.map_some, Option.map_none, List.nil_append, ↓reduceIte, vcu, ↓vcd]
    refine fin_one Try.results45 ⟨?_, rfl⟩
    simp -implicitDefEqProofs (disch := omega) only [List.any_cons, List.any_nil, Nat.reduceEqDiff, List.map_cons, List.map_nil, Option.map_some, Option.map_none, List.nil_append, ↓reduceIte, vcu, ↓vcd]
    have : ¬OfOk xs := fun h => by have := h.2.1; omega
    simp [this]
  by_cases hbig : 10 < xs.length
  · simp -implicitDefEqProofs (disch := omega) only [List.any_cons, List.any_nil, Nat.reduceEqDiff, List.map_cons, List.map_nil, Option.map_some, Option.map_none, List.nil_append, ↓reduceIte, vcu, ↓vcd]
    refine fin_one Try.results45 ⟨?_, rfl⟩
    simp -implicitDefEqProofs (disch := omega) only [List.any_cons, List.any_nil, Nat.reduceEqDiff, List.map_cons, List.map_nil, Option.map_some, Option.map_none, List.nil_append, ↓reduceIte, vcu, ↓vcd]
    have : ¬OfOk xs := fun h => by have := h.2.2; omega
    simp [this]
  simp -implicitDefEqProofs (disch := omega) only [List.any_cons, List.any_nil, Nat.reduceEqDiff, List.map_cons, List.map_nil, Option.map_some, Option.map_none, List.nil_append, ↓reduceIte, vcu, ↓vcd]
  refine vc_loop_c mixed (by kernel_rfl) [13, 14] (fun m a σ' => ∃ k : Nat, m + k = xs.length ∧ a 15 = .int .i64 k ∧ (∀ j, j < k → 0 ≤ xs.getD j 0 ∧ xs.getD j 0 ≤ 99) ∧ σ' = σ) xs.length ⟨0, by simp, rfl, fun j hj => absurd hj (by omega), rfl⟩ ?_
  rintro m a σ' hc ⟨k, hk, h15, hall, rfl⟩
  simp -implicitDefEqProofs (disch := omega) only [List.any_cons, List.any_nil, Nat.reduceEqDiff, List.map_cons, List.map_nil, Option.map_some, Option.map_none, List.nil_append, ↓reduceIte, vcu, ↓vcd] at hc
  obtain ⟨h13, h14, -⟩ := hc
  by_cases hlt : k < xs.length
  · have hx := hv k hlt
    by_cases hlo : xs.getD k 0 < 0
    · have hn : ¬OfOk xs := fun h => by have := h.1 k hlt; omega
      simp -implicitDefEqProofs (disch := omega) only [List.any_cons, List.any_nil, Nat.reduceEqDiff, List.map_cons, List.map_nil, Option.map_some, Option.map_none, List.nil_append, ↓reduceIte, vcu, ↓vcd, h13, h14, h15, hx]
      refine fin_one Try.results45 ⟨?_, rfl⟩
      simp -implicitDefEqProofs (disch := omega) only [List.any_cons, List.any_nil, Nat.reduceEqDiff, List.map_cons, List.map_nil, Option.map_some, Option.map_none, List.nil_append, ↓reduceIte, vcu, ↓vcd]
      simp [hn]
    · by_cases hhi : xs.getD k 0 > 99
      · have hn : ¬OfOk xs := fun h => by have := h.1 k hlt; omega
        simp -implicitDefEqProofs (disch := omega) only [List.any_cons, List.any_nil, Nat.reduceEqDiff, List.map_cons, List.map_nil, Option.map_some, Option.map_none, List.nil_append, ↓reduceIte, vcu, ↓vcd, h13, h14, h15, hx]
        refine fin_one Try.results45 ⟨?_, rfl⟩
        simp -implicitDefEqProofs (disch := omega) only [List.any_cons, List.any_nil, Nat.reduceEqDiff, List.map_cons, List.map_nil, Option.map_some, Option.map_none, List.nil_append, ↓reduceIte, vcu, ↓vcd]
        simp [hn]
      · simp -implicitDefEqProofs (disch := omega) only [List.any_cons, List.any_nil, Nat.reduceEqDiff, List.map_cons, List.map_nil, Option.map_some, Option.map_none, List.nil_append, ↓reduceIte, vcu, ↓vcd, h13, h14, h15, hx]
        refine ⟨⟨trivial, trivial, trivial⟩, m - 1, by omega, k + 1, by omega, by simp, fun j hj => ?_, trivial⟩
        by_cases e : j = k
        · subst e; exact ⟨by omega, by omega⟩
        · exact hall j (by omega)
  · simp -implicitDefEqProofs (disch := omega) only [List.any_cons, List.any_nil, Nat.reduceEqDiff, List.map_cons, List.map_nil, Option.map_some, Option.map_none, List.nil_append, ↓reduceIte, vcu, ↓vcd, h13, h14, h15]
    refine fin_one Try.results45 ⟨?_, rfl⟩
    simp -implicitDefEqProofs (disch := omega) only [List.any_cons, List.any_nil, Nat.reduceEqDiff, List.map_cons, List.map_nil, Option.map_some, Option.map_none, List.nil_append, ↓reduceIte, vcu, ↓vcd]
    have : OfOk xs := ⟨fun j hj => hall j (by omega), by omega, by omega⟩
    simp [this]

theorem implCo_at (σ : AHeap) (h o g p : Nat) (fs ls : List Int) (hv : IntsAt .i64 σ h o fs) (hu : IntsAt .i64 σ g p ls) (hl : fs.length ≤ 1048576) (hl2 : ls.length ≤ 1048576) :
    ACall Try.prog w0 48 [.slice (some ⟨h, o, none⟩) fs.length 1, .slice (some ⟨g, p, none⟩) ls.length 1] σ fun r σ' => r = .int .i64 (costV fs ls) ∧ σ' = σ := by
  refine acall_go mixed Try.func48 rfl good48 fun pr => ?_
  simp -implicitDefEqProofs (disch := omega) only [List.any_cons, List.any_nil, Nat.reduceEqDiff, List.map_cons, List.map_nil, Option.map_some, Option.map_none, List.nil_append, ↓reduceIte, vcu, ↓vcd]
  refine (implOf_at _ h o fs hv hl).mono ?_
  rintro r τ ⟨rfl, rfl⟩
  by_cases ho : OfOk fs
  · have h1 : decide (OfOk fs) = true := decide_eq_true ho
    simp -implicitDefEqProofs (disch := omega) only [List.any_cons, List.any_nil, Nat.reduceEqDiff, List.map_cons, List.map_nil, Option.map_some, Option.map_none, List.nil_append, ↓reduceIte, vcu, ↓vcd, opK_some, h1]
    refine (implLn_at _ g p ls hu hl2).mono ?_
    rintro r τ ⟨rfl, rfl⟩
    by_cases hn : LnOk ls
    · have h2 : decide (LnOk ls) = true := decide_eq_true hn
      by_cases hlen : ls.length = fs.length
      · have hok : CoOk fs ls := ⟨ho, hn, hlen⟩
        have h3 : decide ((fs.length : Int) ≠ (ls.length : Int)) = false := decide_eq_false (by omega)
        simp -implicitDefEqProofs (disch := omega) only [List.any_cons, List.any_nil, Nat.reduceEqDiff, List.map_cons, List.map_nil, Option.map_some, Option.map_none, List.nil_append, ↓reduceIte, vcu, ↓vcd, opK_some, h1, h2, h3]
        refine vc_loop_c mixed (by kernel_rfl) [1, 23, 24] (fun m a σ' => ∃ k : Nat, m + k = fs.length ∧ a 25 = .int .i64 k ∧ a 5 = .int .i64 (coS fs ls k) ∧ σ' = τ) fs.length ⟨0, by simp, rfl, rfl, rfl⟩ ?_
        rintro m a σ' hc ⟨k, hk, h25, h5, rfl⟩
        simp -implicitDefEqProofs (disch := omega) only [List.any_cons, List.any_nil, Nat.reduceEqDiff, List.map_cons, List.map_nil, Option.map_some, Option.map_none, List.nil_append, ↓reduceIte, vcu, ↓vcd] at hc
        obtain ⟨g1, g23, g24, -⟩ := hc
        have hb := coS_le hok k (by omega)
        by_cases hlt : k < fs.length
        · have hx := hv k hlt
          have hy := hu k (by omega)
          have hm := mul3_le (ho.1 k hlt) (hn.1 k (by omega))
          simp -implicitDefEqProofs (disch := omega) only [List.any_cons, List.any_nil, Nat.reduceEqDiff, List.map_cons, List.map_nil, Option.map_some, Option.map_none, List.nil_append, ↓reduceIte, vcu, ↓vcd, g1, g23, g24, h5, h25, hx, hy]
          exact ⟨⟨trivial, trivial, trivial, trivial⟩, m - 1, by omega, k + 1, by omega, by simp, by simp only [coS], trivial⟩
        · simp -implicitDefEqProofs (disch := omega) only [List.any_cons, List.any_nil, Nat.reduceEqDiff, List.map_cons, List.map_nil, Option.map_some, Option.map_none, List.nil_append, ↓reduceIte, vcu, ↓vcd, g1, g23, g24, h5, h25]
          have e : k = fs.length := by omega
          refine fin_one Try.results48 ⟨?_, rfl⟩
          simp -implicitDefEqProofs (disch := omega) only [List.any_cons, List.any_nil, Nat.reduceEqDiff, List.map_cons, List.map_nil, Option.map_some, Option.map_none, List.nil_append, ↓reduceIte, vcu, ↓vcd, h5]
          rw [costV, if_pos hok, e]
      · have hok : ¬CoOk fs ls := fun h => hlen h.2.2
        have h3 : decide ((fs.length : Int) ≠ (ls.length : Int)) = true := decide_eq_true (by omega)
        simp -implicitDefEqProofs (disch := omega) only [List.any_cons, List.any_nil, Nat.reduceEqDiff, List.map_cons, List.map_nil, Option.map_some, Option.map_none, List.nil_append, ↓reduceIte, vcu, ↓vcd, opK_some, h1, h2, h3]
        refine fin_one Try.results48 ⟨?_, rfl⟩
        simp -implicitDefEqProofs (disch := omega) only [List.any_cons, List.any_nil, Nat.reduceEqDiff, List.map_cons, List.map_nil, Option.map_some, Option.map_none, List.nil_append, ↓reduceIte, vcu, ↓vcd]
        rw [costV, if_neg hok]
    · have hok : ¬CoOk fs ls := fun h => hn h.2.1
      have h2 : decide (LnOk ls) = false := decide_eq_false hn
      simp -implicitDefEqProofs (disch := omega) only [List.any_cons, List.any_nil, Nat.reduceEqDiff, List.map_cons, List.map_nil, Option.map_some, Option.map_none, List.nil_append, ↓reduceIte, vcu, ↓vcd, opK_some, h1, h2]
      refine fin_one Try.results48 ⟨?_, rfl⟩
      simp -implicitDefEqProofs (disch := omega) only [List.any_cons, List.any_nil, Nat.reduceEqDiff, List.map_cons, List.map_nil, Option.map_some, Option.map_none, List.nil_append, ↓reduceIte, vcu, ↓vcd]
      rw [costV, if_neg hok]
  · have hok : ¬CoOk fs ls := fun h => ho h.1
    have h1 : decide (OfOk fs) = false := decide_eq_false ho
    simp -implicitDefEqProofs (disch := omega) only [List.any_cons, List.any_nil, Nat.reduceEqDiff, List.map_cons, List.map_nil, Option.map_some, Option.map_none, List.nil_append, ↓reduceIte, vcu, ↓vcd, opK_some, h1]
    refine fin_one Try.results48 ⟨?_, rfl⟩
    simp -implicitDefEqProofs (disch := omega) only [List.any_cons, List.any_nil, Nat.reduceEqDiff, List.map_cons, List.map_nil, Option.map_some, Option.map_none, List.nil_append, ↓reduceIte, vcu, ↓vcd]
    rw [costV, if_neg hok]

theorem implLn_calls (σ : AHeap) (v : Value) (xs : List Int) (hv : Ints .i64 σ v xs) (hl : xs.length ≤ 1048576) : ACall Try.prog w0 27 [v] σ fun r σ' => r = .bool (decide (LnOk xs)) ∧ σ' = σ :=
  ACall.ints_quiet (pre := []) (post := []) (by kernel_rfl) hv fun σ1 h o _ hg => implLn_at σ1 h o xs hg hl
theorem implSh_calls (σ : AHeap) (v : Value) (xs : List Int) (hv : Ints .i64 σ v xs) (hl : xs.length ≤ 1048576) : ACall Try.prog w0 24 [v] σ fun r σ' => r = .int .i64 (shareV xs) ∧ σ' = σ :=
  ACall.ints_quiet (pre := []) (post := []) (by kernel_rfl) hv fun σ1 h o _ hg => implSh_at σ1 h o xs hg hl
theorem implOf_calls (σ : AHeap) (v : Value) (xs : List Int) (hv : Ints .i64 σ v xs) (hl : xs.length ≤ 1048576) : ACall Try.prog w0 45 [v] σ fun r σ' => r = .bool (decide (OfOk xs)) ∧ σ' = σ :=
  ACall.ints_quiet (pre := []) (post := []) (by kernel_rfl) hv fun σ1 h o _ hg => implOf_at σ1 h o xs hg hl
theorem implCo_calls (σ : AHeap) (v u : Value) (fs ls : List Int) (hv : Ints .i64 σ v fs) (hu : Ints .i64 σ u ls) (hl : fs.length ≤ 1048576) (hl2 : ls.length ≤ 1048576) : ACall Try.prog w0 48 [v, u] σ fun r σ' => r = .int .i64 (costV fs ls) ∧ σ' = σ :=
  ACall.ints_quiet (pre := []) (post := [u]) (by kernel_rfl) hv fun σ1 h o hs hg => ACall.ints_quiet (pre := [_]) (post := []) (by kernel_rfl) (hu.sub hs) fun σ2 g p hs2 hg2 => implCo_at σ2 h o g p fs ls (hg.sub hs2) hg2 hl hl2
end Go.Proofs.Ytnenopebfobajaa

namespace Go.Proofs.Ytnenopebfobajaa
open Go Go.Abs Go.RowKit Go.Dial
variable {w0 : World}

theorem implPV_at (σ : AHeap) (h o : Nat) (ps : List (List UInt8)) (hv : TextsAt σ h o ps) (hl : ps.length ≤ 1048576) (hp : ∀ x ∈ ps, x.length ≤ 1048576) :
    ACall Try.prog w0 22 [.slice (some ⟨h, o, none⟩) ps.length 1] σ fun r σ' => r = .bool (decide (PlanOk ps)) ∧ σ' = σ := by
  refine acall_go mixed Try.func22 rfl good22 fun pr => ?_
  by_cases hbig : 10 < ps.length
  · simp -implicitDefEqProofs (disch := omega) only [List.any_cons, List.any_nil, Nat.reduceEqDiff, List.map_cons, List.map_nil, Option.map_some, Option.map_none, List.nil_append, ↓reduceIte, vcu, ↓vcd]
    refine fin_one Try.results22 ⟨?_, rfl⟩
    simp -implicitDefEqProofs (disch := omega) only [List.any_cons, List.any_nil, Nat.reduceEqDiff, List.map_cons, List.map_nil, Option.map_some, Option.map_none, List.nil_append, ↓reduceIte, vcu, ↓vcd]
    have : ¬PlanOk ps := fun h => by have := h.2; omega
    simp [this]
  simp -implicitDefEqProofs (disch := omega) only [List.any_cons, List.any_nil, Nat.reduceEqDiff, List.map_cons, List.map_nil, Option.map_some, Option.map_none, List.nil_append, ↓reduceIte, vcu, ↓vcd]
  refine vc_loop_c mixed (by kernel_rfl) [10, 11] (fun m a σ' => ∃ k : Nat, m + k = ps.length ∧ a 12 = .int .i64 k ∧ a 0 = .slice (some ⟨h, o, none⟩) ps.length 1 ∧ (∀ j, j < k → PRow ps j) ∧ σ' = σ) ps.length ⟨0, by simp, rfl, rfl, fun j hj => absurd hj (by omega), rfl⟩ ?_
  rintro m a σ' hc ⟨k, hk, h12, h0, hall, rfl⟩
  simp -implicitDefEqProofs (disch := omega) only [List.any_cons, List.any_nil, Nat.reduceEqDiff, List.map_cons, List.map_nil, Option.map_some, Option.map_none, List.nil_append, ↓reduceIte, vcu, ↓vcd] at hc
  obtain ⟨h10, h11, -⟩ := hc
  by_cases hlt : k < ps.length
  case neg =>
    simp -implicitDefEqProofs (disch := omega) only [List.any_cons, List.any_nil, Nat.reduceEqDiff, List.map_cons, List.map_nil, Option.map_some, Option.map_none, List.nil_append, ↓reduceIte, vcu, ↓vcd, h10, h11, h12, h0]
    refine fin_one Try.results22 ⟨?_, rfl⟩
    simp -implicitDefEqProofs (disch := omega) only [List.any_cons, List.any_nil, Nat.reduceEqDiff, List.map_cons, List.map_nil, Option.map_some, Option.map_none, List.nil_append, ↓reduceIte, vcu, ↓vcd]
    have : PlanOk ps := ⟨fun j hj => hall j (by omega), by omega⟩
    simp [this]
  have hx := hv k hlt
  have hmem : ps.getD k [] ∈ ps := by simp [List.getD, hlt]
  have hb := hp _ hmem
  have stop : ∀ {P : Prop}, (PRow ps k → P) → ¬P → ¬PlanOk ps := fun h1 h2 h3 => h2 (h1 (h3.1 k hlt))
  by_cases hnil : ps.getD k [] = []
  · have dn : decide (ps.getD k [] = []) = true := decide_eq_true hnil
    simp -implicitDefEqProofs (disch := omega) only [List.any_cons, List.any_nil, Nat.reduceEqDiff, List.map_cons, List.map_nil, Option.map_some, Option.map_none, List.nil_append, ↓reduceIte, vcu, ↓vcd, h10, h11, h12, h0, hx, tx_nil, abin_seql, dn]
    refine fin_one Try.results22 ⟨?_, rfl⟩
    simp -implicitDefEqProofs (disch := omega) only [List.any_cons, List.any_nil, Nat.reduceEqDiff, List.map_cons, List.map_nil, Option.map_some, Option.map_none, List.nil_append, ↓reduceIte, vcu, ↓vcd]
    simp [stop (fun h => h.2.1.1) (by rw [hnil]; simp)]
  have dn : decide (ps.getD k [] = []) = false := decide_eq_false hnil
  have hpos : 1 ≤ (ps.getD k []).length := by
    rcases Nat.eq_zero_or_pos (ps.getD k []).length with h | h
    · exact absurd (List.eq_nil_of_length_eq_zero h) hnil
    · exact h
  by_cases hlg : 3 < (ps.getD k []).length
  · simp -implicitDefEqProofs (disch := omega) only [List.any_cons, List.any_nil, Nat.reduceEqDiff, List.map_cons, List.map_nil, Option.map_some, Option.map_none, List.nil_append, ↓reduceIte, vcu, ↓vcd, h10, h11, h12, h0, hx, tx_nil, abin_seql, dn]
    refine fin_one Try.results22 ⟨?_, rfl⟩
    simp -implicitDefEqProofs (disch := omega) only [List.any_cons, List.any_nil, Nat.reduceEqDiff, List.map_cons, List.map_nil, Option.map_some, Option.map_none, List.nil_append, ↓reduceIte, vcu, ↓vcd]
    simp [stop (fun h => h.2.1.2) (by omega)]
  by_cases hd : DgT (ps.getD k [])
  case neg =>
    have d1 : decide (DgT (ps.getD k [])) = false := decide_eq_false hd
    simp -implicitDefEqProofs (disch := omega) only [List.any_cons, List.any_nil, Nat.reduceEqDiff, List.map_cons, List.map_nil, Option.map_some, Option.map_none, List.nil_append, ↓reduceIte, vcu, ↓vcd, h10, h11, h12, h0, hx, tx_nil, abin_seql, dn]
    refine (implDg_calls _ _ hb).mono ?_
    rintro r τ ⟨rfl, rfl⟩
    simp -implicitDefEqProofs (disch := omega) only [List.any_cons, List.any_nil, Nat.reduceEqDiff, List.map_cons, List.map_nil, Option.map_some, Option.map_none, List.nil_append, ↓reduceIte, vcu, ↓vcd, opK_some, h10, h11, h12, h0, hx, d1]
    refine fin_one Try.results22 ⟨?_, rfl⟩
    simp -implicitDefEqProofs (disch := omega) only [List.any_cons, List.any_nil, Nat.reduceEqDiff, List.map_cons, List.map_nil, Option.map_some, Option.map_none, List.nil_append, ↓reduceIte, vcu, ↓vcd]
    simp [stop (fun h => h.1) hd]
  have d1 : decide (DgT (ps.getD k [])) = true := decide_eq_true hd
  simp -implicitDefEqProofs (disch := omega) only [List.any_cons, List.any_nil, Nat.reduceEqDiff, List.map_cons, List.map_nil, Option.map_some, Option.map_none, List.nil_append, ↓reduceIte, vcu, ↓vcd, h10, h11, h12, h0, hx, tx_nil, abin_seql, dn]
  refine (implDg_calls _ _ hb).mono ?_
  rintro r τ ⟨rfl, rfl⟩
  simp -implicitDefEqProofs (disch := omega) only [List.any_cons, List.any_nil, Nat.reduceEqDiff, List.map_cons, List.map_nil, Option.map_some, Option.map_none, List.nil_append, ↓reduceIte, vcu, ↓vcd, opK_some, h10, h11, h12, h0, hx, d1]
  refine vc_loop_c mixed (by kernel_rfl) [10, 11, 12, 0, 3, 4, 29, 30] (fun m a σ' => ∃ j : Nat, m + j = ps.length ∧ a 31 = .int .i64 j ∧ (∀ i, i < j → i ≠ k → ¬Beg (ps.getD k []) (ps.getD i [])) ∧ σ' = τ) ps.length ⟨0, by simp, rfl, fun j hj => absurd hj (by omega), rfl⟩ ?_
  rintro m2 a2 σ2 hc2 ⟨j, hj, h31, hin, rfl⟩
  simp -implicitDefEqProofs (disch := omega) only [List.any_cons, List.any_nil, Nat.reduceEqDiff, List.map_cons, List.map_nil, Option.map_some, Option.map_none, List.nil_append, ↓reduceIte, vcu, ↓vcd, h10, h11, h12, h0] at hc2
  obtain ⟨g10, g11, g12, g0, g3, g4, g29, g30, -⟩ := hc2
  by_cases hjl : j < ps.length
  case neg =>
    simp -implicitDefEqProofs (disch := omega) only [List.any_cons, List.any_nil, Nat.reduceEqDiff, List.map_cons, List.map_nil, Option.map_some, Option.map_none, List.nil_append, ↓reduceIte, vcu, ↓vcd, g10, g11, g12, g0, g3, g4, g29, g30, h31]
    refine ⟨⟨by first | trivial | exact h10.symm, by first | trivial | exact h11.symm, trivial⟩, m - 1, by omega, k + 1, by omega, by simp, by first | rfl | trivial | exact g0, fun i hi => ?_, trivial⟩
    by_cases e : i = k
    · subst e; exact ⟨hd, ⟨hpos, by omega⟩, fun i' h1 h2 => hin i' (by omega) h2⟩
    · exact hall i (by omega)
  have hy := hv j hjl
  by_cases hjk : j = k
  · subst hjk
    simp -implicitDefEqProofs (disch := omega) only [List.any_cons, List.any_nil, Nat.reduceEqDiff, List.map_cons, List.map_nil, Option.map_some, Option.map_none, List.nil_append, ↓reduceIte, vcu, ↓vcd, g10, g11, g12, g0, g3, g4, g29, g30, h31, hx, hy]
    refine ⟨⟨?_, ?_, ?_, ?_, ?_, ?_, ?_, ?_, trivial⟩, m2 - 1, by omega, j + 1, by omega, by simp, fun i hi hne => hin i (by omega) hne, trivial⟩ <;> first | trivial | exact h10.symm | exact h11.symm | exact h12.symm | exact h0.symm
  · have hne : decide ((j : Int) ≠ (k : Int)) = true := decide_eq_true (by omega)
    by_cases hbg : Beg (ps.getD k []) (ps.getD j [])
    · have hb1 : decide (Beg (ps.getD k []) (ps.getD j [])) = true := decide_eq_true hbg
      simp -implicitDefEqProofs (disch := omega) only [List.any_cons, List.any_nil, Nat.reduceEqDiff, List.map_cons, List.map_nil, Option.map_some, Option.map_none, List.nil_append, ↓reduceIte, vcu, ↓vcd, g10, g11, g12, g0, g3, g4, g29, g30, h31, hx, hy, hne]
      refine (prefix_calls _ _ _).mono ?_
      rintro r τ ⟨rfl, rfl⟩
      simp -implicitDefEqProofs (disch := omega) only [List.any_cons, List.any_nil, Nat.reduceEqDiff, List.map_cons, List.map_nil, Option.map_some, Option.map_none, List.nil_append, ↓reduceIte, vcu, ↓vcd, opK_some, g10, g11, g12, g0, g3, g4, g29, g30, h31, hb1]
      refine fin_one Try.results22 ⟨?_, rfl⟩
      simp -implicitDefEqProofs (disch := omega) only [List.any_cons, List.any_nil, Nat.reduceEqDiff, List.map_cons, List.map_nil, Option.map_some, Option.map_none, List.nil_append, ↓reduceIte, vcu, ↓vcd]
      simp [stop (fun h => h.2.2 j hjl hjk) (fun h => h hbg)]
    · have hb1 : decide (Beg (ps.getD k []) (ps.getD j [])) = false := decide_eq_false hbg
      simp -implicitDefEqProofs (disch := omega) only [List.any_cons, List.any_nil, Nat.reduceEqDiff, List.map_cons, List.map_nil, Option.map_some, Option.map_none, List.nil_append, ↓reduceIte, vcu, ↓vcd, g10, g11, g12, g0, g3, g4, g29, g30, h31, hx, hy, hne]
      refine (prefix_calls _ _ _).mono ?_
      rintro r τ ⟨rfl, rfl⟩
      simp -implicitDefEqProofs (disch := omega) only [List.any_cons, List.any_nil, Nat.reduceEqDiff, List.map_cons, List.map_nil, Option.map_some, Option.map_none, List.nil_append, ↓reduceIte, vcu, ↓vcd, opK_some, g10, g11, g12, g0, g3, g4, g29, g30, h31, hb1]
      refine ⟨⟨?_, ?_, ?_, ?_, ?_, ?_, ?_, ?_, trivial⟩, m2 - 1, by omega, j + 1, by omega, by simp, fun i hi hne' => ?_, trivial⟩
      all_goals first | trivial | exact h10.symm | exact h11.symm | exact h12.symm | exact h0.symm | skip
      by_cases e : i = j
      · subst e; exact hbg
      · exact hin i (by omega) hne'
theorem implPV_calls (σ : AHeap) (v : Value) (ps : List (List UInt8)) (hv : Texts σ v ps) (hl : ps.length ≤ 1048576) (hp : ∀ x ∈ ps, x.length ≤ 1048576) : ACall Try.prog w0 22 [v] σ fun r σ' => r = .bool (decide (PlanOk ps)) ∧ σ' = σ :=
  ACall.texts_quiet (pre := []) (post := []) (by kernel_rfl) hv fun σ1 h o _ hg => implPV_at σ1 h o ps hg hl hp
end Go.Proofs.Ytnenopebfobajaa

namespace Go.Proofs.Ytnenopebfobajaa
open Go Go.Abs Go.RowKit Go.Dial
variable {w0 : World}

theorem implPL_at (σ : AHeap) (h o : Nat) (ps : List (List UInt8)) (hv : TextsAt σ h o ps) (hl : ps.length ≤ 1048576) (hp : ∀ x ∈ ps, x.length ≤ 1048576) :
    ACall Try.prog w0 25 [.slice (some ⟨h, o, none⟩) ps.length 1] σ fun r σ' => Sub σ σ' ∧ OwnI σ σ' r (lensV ps) := by
  refine acall_go mixed Try.func25 rfl good25 fun pr => ?_
  simp -implicitDefEqProofs (disch := omega) only [List.any_cons, List.any_nil, Nat.reduceEqDiff, List.map_cons, List.map_nil, Option.map_some, Option.map_none, List.nil_append, ↓reduceIte, vcu, ↓vcd]
  refine (implPV_at _ h o ps hv hl hp).mono ?_
  rintro r _ ⟨rfl, rfl⟩
  rename_i σ
  by_cases hpo : PlanOk ps
  case neg =>
    have d1 : decide (PlanOk ps) = false := decide_eq_false hpo
    simp -implicitDefEqProofs (disch := omega) only [List.any_cons, List.any_nil, Nat.reduceEqDiff, List.map_cons, List.map_nil, Option.map_some, Option.map_none, List.nil_append, ↓reduceIte, vcu, ↓vcd, opK_some, d1]
    refine fin_one Try.results25 ⟨Sub.refl _, .inl ⟨?_, by simp [lensV, hpo]⟩⟩
    simp -implicitDefEqProofs (disch := omega) only [List.any_cons, List.any_nil, Nat.reduceEqDiff, List.map_cons, List.map_nil, Option.map_some, Option.map_none, List.nil_append, ↓reduceIte, vcu, ↓vcd]
  have d1 : decide (PlanOk ps) = true := decide_eq_true hpo
  simp -implicitDefEqProofs (disch := omega) only [List.any_cons, List.any_nil, Nat.reduceEqDiff, List.map_cons, List.map_nil, Option.map_some, Option.map_none, List.nil_append, ↓reduceIte, vcu, ↓vcd, opK_some, d1]
  refine r_makeI (kx := .i64) (ky := .i64) (l := ps.length) (c := ps.length) el31 (by omega) (by simp -implicitDefEqProofs (disch := omega) only [List.any_cons, List.any_nil, Nat.reduceEqDiff, List.map_cons, List.map_nil, Option.map_some, Option.map_none, List.nil_append, ↓reduceIte, vcu, ↓vcd]) (by simp -implicitDefEqProofs (disch := omega) only [List.any_cons, List.any_nil, Nat.reduceEqDiff, List.map_cons, List.map_nil, Option.map_some, Option.map_none, List.nil_append, ↓reduceIte, vcu, ↓vcd]) (by omega) fun g τ hg hs he => ?_
  have hL : (ps.map fun p => (p.length : Int)).length = ps.length := List.length_map _
  have hLk : ∀ k, k < ps.length → (ps.map fun p => (p.length : Int)).getD k 0 = ((ps.getD k []).length : Int) := fun k hk => by simp [List.getD, hk]
  have hV : lensV ps = ps.map fun p => (p.length : Int) := if_pos hpo
  generalize (ps.map fun p => (p.length : Int)) = L at hL hLk hV
  simp -implicitDefEqProofs (disch := omega) only [List.any_cons, List.any_nil, Nat.reduceEqDiff, List.map_cons, List.map_nil, Option.map_some, Option.map_none, List.nil_append, ↓reduceIte, vcu, ↓vcd]
  refine vc_loop_c mixed (by kernel_rfl) [3, 12, 13] (fun m a σ' => ∃ k : Nat, m + k = ps.length ∧ a 14 = .int .i64 k ∧ Kept g τ σ' ∧ σ' g = some ⟨ints .i64 (L.take k ++ List.replicate (L.length - k) 0), false⟩) ps.length ⟨0, by simp, rfl, Kept.refl _ _, by simpa [hL] using he⟩ ?_
  rintro m a σ' hc ⟨k, hk, h14, hkp, hgk⟩
  simp -implicitDefEqProofs (disch := omega) only [List.any_cons, List.any_nil, Nat.reduceEqDiff, List.map_cons, List.map_nil, Option.map_some, Option.map_none, List.nil_append, ↓reduceIte, vcu, ↓vcd] at hc
  obtain ⟨h3, h12, h13, -⟩ := hc
  have hsub := hkp.sub hs hg
  by_cases hlt : k < ps.length
  · have hx := hv.sub hsub k hlt
    have hmem : ps.getD k [] ∈ ps := by simp [List.getD, hlt]
    have hb := hp _ hmem
    simp -implicitDefEqProofs (disch := omega) only [List.any_cons, List.any_nil, Nat.reduceEqDiff, List.map_cons, List.map_nil, Option.map_some, Option.map_none, List.nil_append, ↓reduceIte, vcu, ↓vcd, h3, h12, h13, h14, hx]
    refine r_setI (g := g) (i := 0 + k) (v := L.getD k 0) (by simp -implicitDefEqProofs (disch := omega) only [List.any_cons, List.any_nil, Nat.reduceEqDiff, List.map_cons, List.map_nil, Option.map_some, Option.map_none, List.nil_append, ↓reduceIte, vcu, ↓vcd, h3]) (by simp -implicitDefEqProofs (disch := omega) only [List.any_cons, List.any_nil, Nat.reduceEqDiff, List.map_cons, List.map_nil, Option.map_some, Option.map_none, List.nil_append, ↓reduceIte, vcu, ↓vcd]; rw [hLk k hlt]) co3 hgk (by simp; omega) fun τ2 k2 e2 => ?_
    rw [Nat.zero_add, set_at L 0 (by omega) rfl] at e2
    simp -implicitDefEqProofs (disch := omega) only [List.any_cons, List.any_nil, Nat.reduceEqDiff, List.map_cons, List.map_nil, Option.map_some, Option.map_none, List.nil_append, ↓reduceIte, vcu, ↓vcd, h3, h12, h13, h14]
    exact ⟨⟨trivial, trivial, trivial, trivial⟩, m - 1, by omega, k + 1, by omega, by simp, hkp.trans k2, e2⟩
  · simp -implicitDefEqProofs (disch := omega) only [List.any_cons, List.any_nil, Nat.reduceEqDiff, List.map_cons, List.map_nil, Option.map_some, Option.map_none, List.nil_append, ↓reduceIte, vcu, ↓vcd, h3, h12, h13, h14]
    have e2 : k = L.length := by omega
    subst e2
    refine fin_one Try.results25 ⟨hsub, .inr ⟨g, ?_, by rw [hV]; simpa using hgk, hg⟩⟩
    simp -implicitDefEqProofs (disch := omega) only [List.any_cons, List.any_nil, Nat.reduceEqDiff, List.map_cons, List.map_nil, Option.map_some, Option.map_none, List.nil_append, ↓reduceIte, vcu, ↓vcd, h3]
    rw [hV, hL]
theorem implPL_calls (σ : AHeap) (v : Value) (ps : List (List UInt8)) (hv : Texts σ v ps) (hl : ps.length ≤ 1048576) (hp : ∀ x ∈ ps, x.length ≤ 1048576) :
    ACall Try.prog w0 25 [v] σ fun r σ' => Sub σ σ' ∧ OwnI σ σ' r (lensV ps) :=
  ACall.texts_arg (pre := []) (post := []) (by kernel_rfl) hv fun σ1 h o hs hg => (implPL_at σ1 h o ps hg hl hp).mono fun _ _ ⟨s, O⟩ => ⟨hs.trans s, O.older hs⟩

/-- the first, or -1 -/
def fstV (o : Option Nat) : Int := match o with | some k => k | none => -1
theorem idxX_at (σ : AHeap) (h o : Nat) (ps : List (List UInt8)) (gf : Nat) (caps : Array Value) (p : Nat → Bool) (hv : TextsAt σ h o ps) (hl : ps.length ≤ 1048576)
    (hcl : ∀ k, k < ps.length → ∀ pw, ACall Try.prog pw gf (.string (tx (ps.getD k [])) :: caps.toList) σ fun r σ' => r = .bool (p k) ∧ σ' = σ) :
    ACall Try.prog w0 88 [.slice (some ⟨h, o, none⟩) ps.length 1, .func (.func gf) #[] caps] σ fun r σ' => r = .int .i64 (fstV (fstN p 0 ps.length)) ∧ σ' = σ := by
  refine acall_go mixed Try.func88 rfl good88 fun pr => ?_
  simp -implicitDefEqProofs (disch := omega) only [List.any_cons, List.any_nil, Nat.reduceEqDiff, List.map_cons, List.map_nil, Option.map_some, Option.map_none, List.nil_append, ↓reduceIte, vcu, ↓vcd]
  refine vc_loop_c mixed (by kernel_rfl) [0, 1, 7] (fun m a τ => ∃ k : Nat, m + k = ps.length ∧ a 8 = .int .i64 k ∧ τ = σ ∧ fstN p 0 ps.length = fstN p k m) ps.length ⟨0, by simp, rfl, rfl, rfl⟩ ?_
  rintro m a τ hc ⟨k, hk, h8, rfl, hf⟩
  simp -implicitDefEqProofs (disch := omega) only [List.any_cons, List.any_nil, Nat.reduceEqDiff, List.map_cons, List.map_nil, Option.map_some, Option.map_none, List.nil_append, ↓reduceIte, vcu, ↓vcd] at hc
  obtain ⟨h0, h1, h7, -⟩ := hc
  by_cases hlt : k < ps.length
  · have hx := hv k hlt
    obtain ⟨m', rfl⟩ : ∃ m', m = m' + 1 := ⟨m - 1, by omega⟩
    rw [fstN] at hf
    simp -implicitDefEqProofs (disch := omega) only [List.any_cons, List.any_nil, Nat.reduceEqDiff, List.map_cons, List.map_nil, Option.map_some, Option.map_none, List.nil_append, ↓reduceIte, vcu, ↓vcd, h0, h1, h7, h8, hx]
    refine r_callv ⟨(gf, caps), by simp -implicitDefEqProofs (disch := omega) only [List.any_cons, List.any_nil, Nat.reduceEqDiff, List.map_cons, List.map_nil, Option.map_some, Option.map_none, List.nil_append, ↓reduceIte, vcu, ↓vcd, h1], ?_⟩
    simp -implicitDefEqProofs (disch := omega) only [List.any_cons, List.any_nil, Nat.reduceEqDiff, List.map_cons, List.map_nil, Option.map_some, Option.map_none, List.nil_append, ↓reduceIte, vcu, ↓vcd]
    refine (hcl k hlt _).mono ?_
    rintro r _ ⟨rfl, rfl⟩
    cases hB : p k with
    | true =>
      rw [hB, if_pos rfl] at hf
      simp -implicitDefEqProofs (disch := omega) only [List.any_cons, List.any_nil, Nat.reduceEqDiff, List.map_cons, List.map_nil, Option.map_some, Option.map_none, List.nil_append, ↓reduceIte, vcu, ↓vcd, opK_some, h0, h1, h7, h8]
      refine fin_one Try.results88 ⟨?_, rfl⟩
      simp -implicitDefEqProofs (disch := omega) only [List.any_cons, List.any_nil, Nat.reduceEqDiff, List.map_cons, List.map_nil, Option.map_some, Option.map_none, List.nil_append, ↓reduceIte, vcu, ↓vcd]
      rw [hf]; rfl
    | false =>
      rw [hB, if_neg (by simp)] at hf
      simp -implicitDefEqProofs (disch := omega) only [List.any_cons, List.any_nil, Nat.reduceEqDiff, List.map_cons, List.map_nil, Option.map_some, Option.map_none, List.nil_append, ↓reduceIte, vcu, ↓vcd, opK_some, h0, h1, h7, h8]
      exact ⟨⟨trivial, trivial, trivial, trivial⟩, m', by omega, k + 1, by omega, by simp, trivial, hf⟩
  · simp -implicitDefEqProofs (disch := omega) only [List.any_cons, List.any_nil, Nat.reduceEqDiff, List.map_cons, List.map_nil, Option.map_some, Option.map_none, List.nil_append, ↓reduceIte, vcu, ↓vcd, h0, h1, h7, h8]
    obtain rfl : m = 0 := by omega
    refine fin_one Try.results88 ⟨?_, rfl⟩
    simp -implicitDefEqProofs (disch := omega) only [List.any_cons, List.any_nil, Nat.reduceEqDiff, List.map_cons, List.map_nil, Option.map_some, Option.map_none, List.nil_append, ↓reduceIte, vcu, ↓vcd]
    rw [hf]; rfl
theorem begc_at (σ : AHeap) (b : Nat) (s x : List UInt8) (hb : σ b = some ⟨[.string (tx s)], false⟩) :
    ACall Try.prog w0 89 [.string (tx x), .pointer (some ⟨b, 0, none⟩)] σ fun r σ' => r = .bool (decide (Beg s x)) ∧ σ' = σ := by
  refine acall_go mixed Try.func89 rfl good89 fun pr => ?_
  have l1 : ld σ b 0 = some (.string (tx s)) := ld_of hb rfl
  simp -implicitDefEqProofs (disch := omega) only [List.any_cons, List.any_nil, Nat.reduceEqDiff, List.map_cons, List.map_nil, Option.map_some, Option.map_none, List.nil_append, ↓reduceIte, vcu, ↓vcd, l1]
  refine (prefix_calls _ _ _).mono ?_
  rintro r τ ⟨rfl, rfl⟩
  simp -implicitDefEqProofs (disch := omega) only [List.any_cons, List.any_nil, Nat.reduceEqDiff, List.map_cons, List.map_nil, Option.map_some, Option.map_none, List.nil_append, ↓reduceIte, vcu, ↓vcd, opK_some]
  refine fin_one Try.results89 ⟨?_, rfl⟩
  simp -implicitDefEqProofs (disch := omega) only [List.any_cons, List.any_nil, Nat.reduceEqDiff, List.map_cons, List.map_nil, Option.map_some, Option.map_none, List.nil_append, ↓reduceIte, vcu, ↓vcd]
theorem dialled_at (σ : AHeap) (h o : Nat) (ps : List (List UInt8)) (s : List UInt8) (hv : TextsAt σ h o ps) (hl : ps.length ≤ 1048576) :
    ACall Try.prog w0 78 [.slice (some ⟨h, o, none⟩) ps.length 1, .string (tx s)] σ fun r σ' => r = .int .i64 (fstV (fstN (begB ps s) 0 ps.length)) ∧ σ' = σ := by
  refine acall_go mixed Try.func78 rfl good78 fun pr => ?_
  simp -implicitDefEqProofs (disch := omega) only [List.any_cons, List.any_nil, Nat.reduceEqDiff, List.map_cons, List.map_nil, Option.map_some, Option.map_none, List.nil_append, ↓reduceIte, vcu, ↓vcd]
  refine r_boxed fun b τ nb s1 e1 => ?_
  replace e1 : τ b = some ⟨[.string (tx s)], false⟩ := e1
  simp -implicitDefEqProofs (disch := omega) only [List.any_cons, List.any_nil, Nat.reduceEqDiff, List.map_cons, List.map_nil, Option.map_some, Option.map_none, List.nil_append, ↓reduceIte, vcu, ↓vcd]
  refine (idxX_at τ h o ps 89 #[.pointer (some ⟨b, 0, none⟩)] (begB ps s) (hv.sub s1) hl fun k hk pw => begc_at τ b s (ps.getD k []) e1).mono ?_
  rintro r _ ⟨rfl, rfl⟩
  simp -implicitDefEqProofs (disch := omega) only [List.any_cons, List.any_nil, Nat.reduceEqDiff, List.map_cons, List.map_nil, Option.map_some, Option.map_none, List.nil_append, ↓reduceIte, vcu, ↓vcd, opK_some]
  refine fin_drop Try.results78 σ s1 ⟨?_, rfl⟩
  simp -implicitDefEqProofs (disch := omega) only [List.any_cons, List.any_nil, Nat.reduceEqDiff, List.map_cons, List.map_nil, Option.map_some, Option.map_none, List.nil_append, ↓reduceIte, vcu, ↓vcd]
theorem implD1_at (σ : AHeap) (h o : Nat) (ps : List (List UInt8)) (s : List UInt8) (hv : TextsAt σ h o ps) (hl : ps.length ≤ 1048576) (hp : ∀ x ∈ ps, x.length ≤ 1048576) (hs : s.length ≤ 1048576) :
    ACall Try.prog w0 39 [.slice (some ⟨h, o, none⟩) ps.length 1, .string (tx s)] σ fun r σ' => r = .tuple #[.int .i64 (dialK ps s), .int .i64 (dialL ps s : Int)] ∧ σ' = σ := by
  refine acall_go mixed Try.func39 rfl good39 fun pr => ?_
  simp -implicitDefEqProofs (disch := omega) only [List.any_cons, List.any_nil, Nat.reduceEqDiff, List.map_cons, List.map_nil, Option.map_some, Option.map_none, List.nil_append, ↓reduceIte, vcu, ↓vcd]
  refine (implPV_at _ h o ps hv hl hp).mono ?_
  rintro r _ ⟨rfl, rfl⟩
  by_cases hpo : PlanOk ps
  case neg =>
    have d1 : decide (PlanOk ps) = false := decide_eq_false hpo
    have hd : dialN ps s = none := if_neg fun h => hpo h.1
    simp -implicitDefEqProofs (disch := omega) only [List.any_cons, List.any_nil, Nat.reduceEqDiff, List.map_cons, List.map_nil, Option.map_some, Option.map_none, List.nil_append, ↓reduceIte, vcu, ↓vcd, opK_some, d1]
    refine fin_two Try.results39 ⟨?_, rfl⟩
    simp -implicitDefEqProofs (disch := omega) only [List.any_cons, List.any_nil, Nat.reduceEqDiff, List.map_cons, List.map_nil, Option.map_some, Option.map_none, List.nil_append, ↓reduceIte, vcu, ↓vcd]
    unfold dialK dialL
    rw [hd]; rfl
  have d1 : decide (PlanOk ps) = true := decide_eq_true hpo
  simp -implicitDefEqProofs (disch := omega) only [List.any_cons, List.any_nil, Nat.reduceEqDiff, List.map_cons, List.map_nil, Option.map_some, Option.map_none, List.nil_append, ↓reduceIte, vcu, ↓vcd, opK_some, d1]
  refine (implDg_calls _ s hs).mono ?_
  rintro r _ ⟨rfl, rfl⟩
  rename_i σ
  by_cases hsd : DgT s
  case neg =>
    have d2 : decide (DgT s) = false := decide_eq_false hsd
    have hd : dialN ps s = none := if_neg fun h => hsd h.2
    simp -implicitDefEqProofs (disch := omega) only [List.any_cons, List.any_nil, Nat.reduceEqDiff, List.map_cons, List.map_nil, Option.map_some, Option.map_none, List.nil_append, ↓reduceIte, vcu, ↓vcd, opK_some, d2]
    refine fin_two Try.results39 ⟨?_, rfl⟩
    simp -implicitDefEqProofs (disch := omega) only [List.any_cons, List.any_nil, Nat.reduceEqDiff, List.map_cons, List.map_nil, Option.map_some, Option.map_none, List.nil_append, ↓reduceIte, vcu, ↓vcd]
    unfold dialK dialL
    rw [hd]; rfl
  have d2 : decide (DgT s) = true := decide_eq_true hsd
  have hdn : dialN ps s = fstN (begB ps s) 0 ps.length := if_pos ⟨hpo, hsd⟩
  simp -implicitDefEqProofs (disch := omega) only [List.any_cons, List.any_nil, Nat.reduceEqDiff, List.map_cons, List.map_nil, Option.map_some, Option.map_none, List.nil_append, ↓reduceIte, vcu, ↓vcd, opK_some, d2]
  refine (dialled_at _ h o ps s hv hl).mono ?_
  rintro r _ ⟨rfl, rfl⟩
  rw [← hdn]
  cases hd : dialN ps s with
  | none =>
    have e : fstV none = -1 := rfl
    simp -implicitDefEqProofs (disch := omega) only [List.any_cons, List.any_nil, Nat.reduceEqDiff, List.map_cons, List.map_nil, Option.map_some, Option.map_none, List.nil_append, ↓reduceIte, vcu, ↓vcd, opK_some, e]
    refine fin_two Try.results39 ⟨?_, rfl⟩
    simp -implicitDefEqProofs (disch := omega) only [List.any_cons, List.any_nil, Nat.reduceEqDiff, List.map_cons, List.map_nil, Option.map_some, Option.map_none, List.nil_append, ↓reduceIte, vcu, ↓vcd]
    unfold dialK dialL
    rw [hd]; rfl
  | some k =>
    have e : fstV (some k) = (k : Int) := rfl
    obtain ⟨-, hk, hk1, hk2⟩ := dialN_ok hd
    have hx := hv k hk
    simp -implicitDefEqProofs (disch := omega) only [List.any_cons, List.any_nil, Nat.reduceEqDiff, List.map_cons, List.map_nil, Option.map_some, Option.map_none, List.nil_append, ↓reduceIte, vcu, ↓vcd, opK_some, e, hx]
    refine fin_two Try.results39 ⟨?_, rfl⟩
    simp -implicitDefEqProofs (disch := omega) only [List.any_cons, List.any_nil, Nat.reduceEqDiff, List.map_cons, List.map_nil, Option.map_some, Option.map_none, List.nil_append, ↓reduceIte, vcu, ↓vcd]
    unfold dialK dialL
    rw [hd]
theorem implD1_calls (σ : AHeap) (v : Value) (ps : List (List UInt8)) (s : List UInt8) (hv : Texts σ v ps) (hl : ps.length ≤ 1048576) (hp : ∀ x ∈ ps, x.length ≤ 1048576) (hs : s.length ≤ 1048576) : ACall Try.prog w0 39 [v, .string (tx s)] σ fun r σ' => r = .tuple #[.int .i64 (dialK ps s), .int .i64 (dialL ps s : Int)] ∧ σ' = σ :=
  ACall.texts_quiet (pre := []) (post := [_]) (by kernel_rfl) hv fun σ1 h o _ hg => implD1_at σ1 h o ps s hg hl hp hs

theorem implDA_at (σ : AHeap) (h o : Nat) (ps : List (List UInt8)) (s : List UInt8) (hv : TextsAt σ h o ps) (hl : ps.length ≤ 1048576) (hp : ∀ x ∈ ps, x.length ≤ 1048576) (hs : s.length ≤ 1048576) :
    ACall Try.prog w0 42 [.slice (some ⟨h, o, none⟩) ps.length 1, .string (tx s)] σ fun r σ' => ∃ v, r = .tuple #[v, .bool (allO ps s).isSome] ∧ Sub σ σ' ∧ OwnI σ σ' v (allV ps s) := by
  refine acall_go mixed Try.func42 rfl good42 fun pr => ?_
  simp -implicitDefEqProofs (disch := omega) only [List.any_cons, List.any_nil, Nat.reduceEqDiff, List.map_cons, List.map_nil, Option.map_some, Option.map_none, List.nil_append, ↓reduceIte, vcu, ↓vcd]
  refine (implPV_at _ h o ps hv hl hp).mono ?_
  rintro r _ ⟨rfl, rfl⟩
  by_cases hpo : PlanOk ps
  case neg =>
    have d1 : decide (PlanOk ps) = false := decide_eq_false hpo
    have hno : allO ps s = none := if_neg fun h => hpo h.1
    have hV : allV ps s = [] := by unfold allV; rw [hno]; rfl
    simp -implicitDefEqProofs (disch := omega) only [List.any_cons, List.any_nil, Nat.reduceEqDiff, List.map_cons, List.map_nil, Option.map_some, Option.map_none, List.nil_append, ↓reduceIte, vcu, ↓vcd, opK_some, d1]
    refine fin_two Try.results42 ⟨.slice none 0 0, ?_, Sub.refl _, .inl ⟨rfl, hV⟩⟩
    simp -implicitDefEqProofs (disch := omega) only [List.any_cons, List.any_nil, Nat.reduceEqDiff, List.map_cons, List.map_nil, Option.map_some, Option.map_none, List.nil_append, ↓reduceIte, vcu, ↓vcd]
    rw [hno]; rfl
  have d1 : decide (PlanOk ps) = true := decide_eq_true hpo
  simp -implicitDefEqProofs (disch := omega) only [List.any_cons, List.any_nil, Nat.reduceEqDiff, List.map_cons, List.map_nil, Option.map_some, Option.map_none, List.nil_append, ↓reduceIte, vcu, ↓vcd, opK_some, d1]
  refine (implDg_calls _ s hs).mono ?_
  rintro r _ ⟨rfl, rfl⟩
  rename_i σ
  by_cases hsd : DgT s
  case neg =>
    have d2 : decide (DgT s) = false := decide_eq_false hsd
    have hno : allO ps s = none := if_neg fun h => hsd h.2
    have hV : allV ps s = [] := by unfold allV; rw [hno]; rfl
    simp -implicitDefEqProofs (disch := omega) only [List.any_cons, List.any_nil, Nat.reduceEqDiff, List.map_cons, List.map_nil, Option.map_some, Option.map_none, List.nil_append, ↓reduceIte, vcu, ↓vcd, opK_some, d2]
    refine fin_two Try.results42 ⟨.slice none 0 0, ?_, Sub.refl _, .inl ⟨rfl, hV⟩⟩
    simp -implicitDefEqProofs (disch := omega) only [List.any_cons, List.any_nil, Nat.reduceEqDiff, List.map_cons, List.map_nil, Option.map_some, Option.map_none, List.nil_append, ↓reduceIte, vcu, ↓vcd]
    rw [hno]; rfl
  have d2 : decide (DgT s) = true := decide_eq_true hsd
  simp -implicitDefEqProofs (disch := omega) only [List.any_cons, List.any_nil, Nat.reduceEqDiff, List.map_cons, List.map_nil, Option.map_some, Option.map_none, List.nil_append, ↓reduceIte, vcu, ↓vcd, opK_some, d2]
  have hO : allO ps s = allN ps s.length s := if_pos ⟨hpo, hsd⟩
  refine vc_loop_c mixed (by kernel_rfl) [0] (fun m a τ' => ∃ (t : List UInt8) (xs : List Int), a 1 = .string (tx t) ∧ t.length ≤ m ∧ m + xs.length ≤ s.length ∧ DgT t ∧ allO ps s = (allN ps m t).map (xs ++ ·) ∧ Sub σ τ' ∧ OwnI σ τ' (a 6) xs) s.length
    ⟨s, [], rfl, Nat.le_refl _, by simp, hsd, by rw [hO]; simp, Sub.refl _, .inl ⟨rfl, rfl⟩⟩ ?_
  rintro m a τ2 hc ⟨t, xs, h1, htm, hxm, htd, hal, hs2, hO6⟩
  simp -implicitDefEqProofs (disch := omega) only [List.any_cons, List.any_nil, Nat.reduceEqDiff, List.map_cons, List.map_nil, Option.map_some, Option.map_none, List.nil_append, ↓reduceIte, vcu, ↓vcd] at hc
  obtain ⟨h0, -⟩ := hc
  by_cases htn : t = []
  · subst htn
    have hal2 : allO ps s = some xs := by
      rw [hal]
      cases m with
      | zero => simp [allN]
      | succ m => simp [allN]
    have hV : allV ps s = xs := by unfold allV; rw [hal2]; rfl
    have dz : decide (([] : List UInt8) = []) = true := decide_eq_true rfl
    simp -implicitDefEqProofs (disch := omega) only [List.any_cons, List.any_nil, Nat.reduceEqDiff, List.map_cons, List.map_nil, Option.map_some, Option.map_none, List.nil_append, ↓reduceIte, vcu, ↓vcd, h0, h1, tx_nil, abin_sneq, dz, Bool.not_true]
    refine fin_two Try.results42 ⟨a 6, ?_, hs2, by rw [hV]; exact hO6⟩
    simp -implicitDefEqProofs (disch := omega) only [List.any_cons, List.any_nil, Nat.reduceEqDiff, List.map_cons, List.map_nil, Option.map_some, Option.map_none, List.nil_append, ↓reduceIte, vcu, ↓vcd]
    rw [hal2]; rfl
  have dz : decide (t = []) = false := decide_eq_false htn
  have hlt : 0 < t.length := by
    rcases Nat.eq_zero_or_pos t.length with h | h
    · exact absurd (List.eq_nil_of_length_eq_zero h) htn
    · exact h
  obtain ⟨m', rfl⟩ : ∃ m', m = m' + 1 := ⟨m - 1, by omega⟩
  rw [allN, if_neg htn] at hal
  have hdn : dialN ps t = fstN (begB ps t) 0 ps.length := if_pos ⟨hpo, htd⟩
  simp -implicitDefEqProofs (disch := omega) only [List.any_cons, List.any_nil, Nat.reduceEqDiff, List.map_cons, List.map_nil, Option.map_some, Option.map_none, List.nil_append, ↓reduceIte, vcu, ↓vcd, h0, h1, tx_nil, abin_sneq, dz, Bool.not_false]
  refine (dialled_at _ h o ps t (hv.sub hs2) hl).mono ?_
  rintro r _ ⟨rfl, rfl⟩
  rename_i τ2
  rw [← hdn]
  cases hd : dialN ps t with
  | none =>
    have e1 : fstV none = -1 := rfl
    rw [hd] at hal
    have hno : allO ps s = none := by rw [hal]; rfl
    have hV : allV ps s = [] := by unfold allV; rw [hno]; rfl
    simp -implicitDefEqProofs (disch := omega) only [List.any_cons, List.any_nil, Nat.reduceEqDiff, List.map_cons, List.map_nil, Option.map_some, Option.map_none, List.nil_append, ↓reduceIte, vcu, ↓vcd, opK_some, e1]
    refine fin_two Try.results42 ⟨.slice none 0 0, ?_, hs2, .inl ⟨rfl, hV⟩⟩
    simp -implicitDefEqProofs (disch := omega) only [List.any_cons, List.any_nil, Nat.reduceEqDiff, List.map_cons, List.map_nil, Option.map_some, Option.map_none, List.nil_append, ↓reduceIte, vcu, ↓vcd]
    rw [hno]; rfl
  | some k =>
    have e1 : fstV (some k) = (k : Int) := rfl
    obtain ⟨-, hk, hk1, hk2⟩ := dialN_ok hd
    rw [hd] at hal
    have hmap : allO ps s = (allN ps m' (t.drop (ps.getD k []).length)).map ((xs ++ [(k : Int)]) ++ ·) := by
      rw [hal]
      simp only [Option.map_map]
      congr 1
      funext l
      simp
    have hsnoc : (xs ++ [(k : Int)]).length = xs.length + 1 := by rw [List.length_append, List.length_singleton]
    have hx2 : ∀ τ', Sub τ2 τ' → ld τ' h (o + k) = some (.string (tx (ps.getD k []))) := fun τ' q => (hv.sub (hs2.trans q)) k hk
    have hdl : (t.drop (ps.getD k []).length).length ≤ m' := by rw [List.length_drop]; omega
    simp -implicitDefEqProofs (disch := omega) only [List.any_cons, List.any_nil, Nat.reduceEqDiff, List.map_cons, List.map_nil, Option.map_some, Option.map_none, List.nil_append, ↓reduceIte, vcu, ↓vcd, opK_some, e1]
    refine r_lit el31 (out := #[.int .i64 (k : Int)]) (by first | kernel_rfl | (simp -implicitDefEqProofs (disch := omega) only [List.any_cons, List.any_nil, Nat.reduceEqDiff, List.map_cons, List.map_nil, Option.map_some, Option.map_none, List.nil_append, ↓reduceIte, vcu, ↓vcd]; kernel_rfl)) (by rfl) fun e3 τ3 n3 s3 v3 => ?_
    rcases hO6 with ⟨h6, hnil⟩ | ⟨g, h6, hg, hn⟩
    · simp -implicitDefEqProofs (disch := omega) only [List.any_cons, List.any_nil, Nat.reduceEqDiff, List.map_cons, List.map_nil, Option.map_some, Option.map_none, List.nil_append, ↓reduceIte, vcu, ↓vcd, h6]
      refine r_pushI_nil (e := e3) (o := 0) (k := .i64) (ys := [(k : Int)]) (m := 1) el31 (by omega) sl31 (by simp -implicitDefEqProofs (disch := omega) only [List.any_cons, List.any_nil, Nat.reduceEqDiff, List.map_cons, List.map_nil, Option.map_some, Option.map_none, List.nil_append, ↓reduceIte, vcu, ↓vcd, h6]) (by simp -implicitDefEqProofs (disch := omega) only [List.any_cons, List.any_nil, Nat.reduceEqDiff, List.map_cons, List.map_nil, Option.map_some, Option.map_none, List.nil_append, ↓reduceIte, vcu, ↓vcd]) (intsAt_own v3) rfl (by omega) fun g6 τ6 n6 k6 v6 => ?_
      have hl6 := hx2 τ6 (s3.trans k6)
      simp -implicitDefEqProofs (disch := omega) only [List.any_cons, List.any_nil, Nat.reduceEqDiff, List.map_cons, List.map_nil, Option.map_some, Option.map_none, List.nil_append, ↓reduceIte, vcu, ↓vcd, h0, h1, hl6]
      exact ⟨⟨trivial, trivial⟩, m', by omega, t.drop (ps.getD k []).length, xs ++ [(k : Int)], rfl, hdl, by omega, htd.drop _, hmap, (hs2.trans s3).trans k6, .inr ⟨g6, by rw [hsnoc, hnil]; rfl, by rw [hnil]; exact v6, free_sub (hs2.trans s3) n6⟩⟩
    · simp -implicitDefEqProofs (disch := omega) only [List.any_cons, List.any_nil, Nat.reduceEqDiff, List.map_cons, List.map_nil, Option.map_some, Option.map_none, List.nil_append, ↓reduceIte, vcu, ↓vcd, h6]
      refine r_pushI (g := g) (e := e3) (o := 0) (k := .i64) (xs := xs) (ys := [(k : Int)]) (m := 1) (len := xs.length) el31 (by omega) sl31 (by simp -implicitDefEqProofs (disch := omega) only [List.any_cons, List.any_nil, Nat.reduceEqDiff, List.map_cons, List.map_nil, Option.map_some, Option.map_none, List.nil_append, ↓reduceIte, vcu, ↓vcd, h6]) (s3 _ _ hg) rfl (by simp -implicitDefEqProofs (disch := omega) only [List.any_cons, List.any_nil, Nat.reduceEqDiff, List.map_cons, List.map_nil, Option.map_some, Option.map_none, List.nil_append, ↓reduceIte, vcu, ↓vcd]) (intsAt_own v3) rfl (by omega) fun g6 τ6 n6 k6 v6 => ?_
      have q6 := k6.sub (hs2.trans s3) hn
      have hl6 : ld τ6 h (o + k) = some (.string (tx (ps.getD k []))) := (hv.sub q6) k hk
      simp -implicitDefEqProofs (disch := omega) only [List.any_cons, List.any_nil, Nat.reduceEqDiff, List.map_cons, List.map_nil, Option.map_some, Option.map_none, List.nil_append, ↓reduceIte, vcu, ↓vcd, h0, h1, hl6]
      exact ⟨⟨trivial, trivial⟩, m', by omega, t.drop (ps.getD k []).length, xs ++ [(k : Int)], rfl, hdl, by omega, htd.drop _, hmap, q6, .inr ⟨g6, by rw [hsnoc], v6, free_sub (hs2.trans s3) n6⟩⟩
theorem implDA_calls (σ : AHeap) (v : Value) (ps : List (List UInt8)) (s : List UInt8) (hv : Texts σ v ps) (hl : ps.length ≤ 1048576) (hp : ∀ x ∈ ps, x.length ≤ 1048576) (hs : s.length ≤ 1048576) : ACall Try.prog w0 42 [v, .string (tx s)] σ fun r σ' => ∃ v, r = .tuple #[v, .bool (allO ps s).isSome] ∧ Sub σ σ' ∧ OwnI σ σ' v (allV ps s) :=
  ACall.texts_arg (pre := []) (post := [_]) (by kernel_rfl) hv fun σ1 h o hs1 hg => (implDA_at σ1 h o ps s hg hl hp hs).mono fun _ _ ⟨v, e, s, O⟩ => ⟨v, e, hs1.trans s, O.older hs1⟩
end Go.Proofs.Ytnenopebfobajaa

namespace Go.Proofs.Ytnenopebfobajaa
open Go Go.Abs Go.RowKit Go.Dial
variable {w0 : World}

theorem abin_uadd {t : TypeId} {a b : Int} : abin Try.prog t .add (.int .u8 a) (.int .u8 b) = some (.int .u8 ((a + b) % 256)) := by
  simp only [abin, if_true]; congr 2
theorem azeros_u8 (m : Nat) : azeros (.int .u8 0) m = ints .u8 (List.replicate m 0) := by rw [azeros_one _ rfl]; simp [ints]
/-- the digits of a number from the left -/
def dgB (v : Nat) (k : Nat) : Int := ((48 + v / 4 ^ (2 - k) % 4 : Nat) : Int)
theorem dgB_one (v k : Nat) : UInt8.ofNat (dgB v k).toNat = UInt8.ofNat (48 + v / 4 ^ (2 - k) % 4) := by unfold dgB; rw [Int.toNat_natCast]
theorem dgB_tx (v : Nat) : ∀ n, n ≤ 3 → ((List.range n).map (dgB v)).map (fun b => UInt8.ofNat b.toNat) = txV (v / 4 ^ (3 - n)) n
  | 0, _ => rfl
  | 1, _ => by
    show [UInt8.ofNat (dgB v 0).toNat] = [UInt8.ofNat (48 + v / 4 ^ 2 % 4)]
    rw [dgB_one]
  | 2, _ => by
    show [UInt8.ofNat (dgB v 0).toNat, UInt8.ofNat (dgB v 1).toNat] = [UInt8.ofNat (48 + v / 4 ^ 1 / 4 % 4), UInt8.ofNat (48 + v / 4 ^ 1 % 4)]
    rw [dgB_one, dgB_one, Nat.div_div_eq_div_mul]
  | 3, _ => by
    show [UInt8.ofNat (dgB v 0).toNat, UInt8.ofNat (dgB v 1).toNat, UInt8.ofNat (dgB v 2).toNat] = [UInt8.ofNat (48 + v / 4 ^ 0 / 4 / 4 % 4), UInt8.ofNat (48 + v / 4 ^ 0 / 4 % 4), UInt8.ofNat (48 + v / 4 ^ 0 % 4)]
    simp only [dgB_one, Nat.div_div_eq_div_mul] <;> rfl
  | n + 4, h => absurd h (by omega)
theorem firstD_calls (σ : AHeap) (v n : Nat) (hn : n ≤ 3) (hv : v ≤ 4096) : ACall Try.prog w0 76 [.int .i64 v, .int .i64 n] σ fun r σ' => r = .string (tx (txV (v / 4 ^ (3 - n)) n)) ∧ σ' = σ := by
  refine acall_go mixed Try.func76 rfl good76 fun pr => ?_
  simp -implicitDefEqProofs (disch := omega) only [List.any_cons, List.any_nil, Nat.reduceEqDiff, List.map_cons, List.map_nil, Option.map_some, Option.map_none, List.nil_append, ↓reduceIte, vcu, ↓vcd]
  refine r_make (kx := .i64) (ky := .i64) (l := n) (c := n) el22 (by simp -implicitDefEqProofs (disch := omega) only [List.any_cons, List.any_nil, Nat.reduceEqDiff, List.map_cons, List.map_nil, Option.map_some, Option.map_none, List.nil_append, ↓reduceIte, vcu, ↓vcd]) (by simp -implicitDefEqProofs (disch := omega) only [List.any_cons, List.any_nil, Nat.reduceEqDiff, List.map_cons, List.map_nil, Option.map_some, Option.map_none, List.nil_append, ↓reduceIte, vcu, ↓vcd]) (by omega) fun g τ hg hs he => ?_
  rw [Nat.mul_one, azeros_u8] at he
  have hB : ((List.range n).map (dgB v)).length = n := by simp
  have hBk : ∀ k, k < n → ((List.range n).map (dgB v)).getD k 0 = dgB v k := fun k hk => by simp [List.getD, hk]
  have htx := dgB_tx v n hn
  generalize (List.range n).map (dgB v) = B at hB hBk htx
  simp -implicitDefEqProofs (disch := omega) only [List.any_cons, List.any_nil, Nat.reduceEqDiff, List.map_cons, List.map_nil, Option.map_some, Option.map_none, List.nil_append, ↓reduceIte, vcu, ↓vcd]
  refine vc_loop_c mixed (by kernel_rfl) [0, 5, 9, 10] (fun m a σ' => ∃ k : Nat, m + k = n ∧ a 11 = .int .i64 k ∧ Kept g τ σ' ∧ σ' g = some ⟨ints .u8 (B.take k ++ List.replicate (B.length - k) 0), false⟩) n ⟨0, by simp, rfl, Kept.refl _ _, by simpa [hB] using he⟩ ?_
  rintro m a σ' hc ⟨k, hk, h11, hkp, hgk⟩
  simp -implicitDefEqProofs (disch := omega) only [List.any_cons, List.any_nil, Nat.reduceEqDiff, List.map_cons, List.map_nil, Option.map_some, Option.map_none, List.nil_append, ↓reduceIte, vcu, ↓vcd] at hc
  obtain ⟨h0, h5, h9, h10, -⟩ := hc
  have hsub := hkp.sub hs hg
  by_cases hlt : k < n
  · have hpw : pw (3 - ((k : Int) + 1)).toNat = ((4 ^ (2 - k) : Nat) : Int) := by rw [pw_nat]; congr 2; omega
    have hq := four_le (n := 2 - k) (by omega)
    have hd : dgB v k = ((48 + v / 4 ^ (2 - k) % 4 : Nat) : Int) := rfl
    generalize 4 ^ (2 - k) = q at hpw hq hd
    simp -implicitDefEqProofs (disch := omega) only [List.any_cons, List.any_nil, Nat.reduceEqDiff, List.map_cons, List.map_nil, Option.map_some, Option.map_none, List.nil_append, ↓reduceIte, vcu, ↓vcd, h0, h5, h9, h10, h11]
    refine (implShare_calls _ _ (by omega)).mono ?_
    rintro r _ ⟨rfl, rfl⟩
    have hvq : (v : Int) / (q : Int) = ((v / q : Nat) : Int) := (Int.natCast_ediv v q).symm
    have hwv : v / q ≤ v := Nat.div_le_self _ _
    generalize v / q = w at hvq hd hwv
    simp -implicitDefEqProofs (disch := omega) only [List.any_cons, List.any_nil, Nat.reduceEqDiff, List.map_cons, List.map_nil, Option.map_some, Option.map_none, List.nil_append, ↓reduceIte, vcu, ↓vcd, opK_some, h0, h5, h9, h10, h11, hpw, hvq, conv_to_u8, abin_uadd]
    refine r_setI (g := g) (i := 0 + k) (v := B.getD k 0) (by simp -implicitDefEqProofs (disch := omega) only [List.any_cons, List.any_nil, Nat.reduceEqDiff, List.map_cons, List.map_nil, Option.map_some, Option.map_none, List.nil_append, ↓reduceIte, vcu, ↓vcd, h5]) (by simp -implicitDefEqProofs (disch := omega) only [List.any_cons, List.any_nil, Nat.reduceEqDiff, List.map_cons, List.map_nil, Option.map_some, Option.map_none, List.nil_append, ↓reduceIte, vcu, ↓vcd]; rw [hBk k hlt, hd]; congr 1; omega) co5 hgk (by simp; omega) fun τ2 k2 e2 => ?_
    rw [Nat.zero_add, set_at B 0 (by omega) rfl] at e2
    simp -implicitDefEqProofs (disch := omega) only [List.any_cons, List.any_nil, Nat.reduceEqDiff, List.map_cons, List.map_nil, Option.map_some, Option.map_none, List.nil_append, ↓reduceIte, vcu, ↓vcd, h0, h5, h9, h10, h11]
    exact ⟨⟨trivial, trivial, trivial, trivial, trivial⟩, m - 1, by omega, k + 1, by omega, by simp, hkp.trans k2, e2⟩
  · have e2 : k = B.length := by omega
    subst e2
    rw [List.take_length, Nat.sub_self, List.replicate_zero, List.append_nil] at hgk
    have l1 : lds σ' g 0 n = some (B.map (.int .u8)) := by
      rw [lds_of hgk (by rw [ints_length]; omega)]
      rw [List.drop_zero, List.take_of_length_le (by rw [ints_length]; omega)]; rfl
    have hcv := aconvH_bytes (z := 1) Try.underlying22 Try.underlying5 Try.underlying9 l1
    simp -implicitDefEqProofs (disch := omega) only [List.any_cons, List.any_nil, Nat.reduceEqDiff, List.map_cons, List.map_nil, Option.map_some, Option.map_none, List.nil_append, ↓reduceIte, vcu, ↓vcd, h0, h5, h9, h10, h11, hcv, htx]
    refine fin_drop Try.results76 σ hsub ⟨?_, rfl⟩
    simp -implicitDefEqProofs (disch := omega) only [List.any_cons, List.any_nil, Nat.reduceEqDiff, List.map_cons, List.map_nil, Option.map_some, Option.map_none, List.nil_append, ↓reduceIte, vcu, ↓vcd]
theorem implPF_at (σ : AHeap) (h o : Nat) (xs : List Int) (hv : IntsAt .i64 σ h o xs) (hl : xs.length ≤ 1048576) :
    ACall Try.prog w0 32 [.slice (some ⟨h, o, none⟩) xs.length 1] σ fun r σ' => ∃ v, r = .tuple #[v, .bool (decide (pfOk xs))] ∧ Sub σ σ' ∧ OwnS σ σ' v (planV xs) := by
  refine acall_go mixed Try.func32 rfl good32 fun pr => ?_
  simp -implicitDefEqProofs (disch := omega) only [List.any_cons, List.any_nil, Nat.reduceEqDiff, List.map_cons, List.map_nil, Option.map_some, Option.map_none, List.nil_append, ↓reduceIte, vcu, ↓vcd]
  refine (implLn_at _ h o xs hv hl).mono ?_
  rintro r _ ⟨rfl, rfl⟩
  by_cases hln : LnOk xs
  case neg =>
    have d1 : decide (LnOk xs) = false := decide_eq_false hln
    have hno : ¬pfOk xs := fun h => hln h.1
    have hV : planV xs = [] := if_neg hno
    simp -implicitDefEqProofs (disch := omega) only [List.any_cons, List.any_nil, Nat.reduceEqDiff, List.map_cons, List.map_nil, Option.map_some, Option.map_none, List.nil_append, ↓reduceIte, vcu, ↓vcd, opK_some, d1]
    refine fin_two Try.results32 ⟨.slice none 0 0, ?_, Sub.refl _, .inl ⟨rfl, hV⟩⟩
    simp -implicitDefEqProofs (disch := omega) only [List.any_cons, List.any_nil, Nat.reduceEqDiff, List.map_cons, List.map_nil, Option.map_some, Option.map_none, List.nil_append, ↓reduceIte, vcu, ↓vcd]
    rw [decide_eq_false hno]
  have d1 : decide (LnOk xs) = true := decide_eq_true hln
  have hsv := shareV_le xs
  have hp3 : pw (3 - (0 : Int)).toNat = 64 := rfl
  simp -implicitDefEqProofs (disch := omega) only [List.any_cons, List.any_nil, Nat.reduceEqDiff, List.map_cons, List.map_nil, Option.map_some, Option.map_none, List.nil_append, ↓reduceIte, vcu, ↓vcd, opK_some, d1]
  refine (implSh_at _ h o xs hv hl).mono ?_
  rintro r _ ⟨rfl, rfl⟩
  simp -implicitDefEqProofs (disch := omega) only [List.any_cons, List.any_nil, Nat.reduceEqDiff, List.map_cons, List.map_nil, Option.map_some, Option.map_none, List.nil_append, ↓reduceIte, vcu, ↓vcd, opK_some]
  refine (implShare_calls _ 0 (by omega)).mono ?_
  rintro r _ ⟨rfl, rfl⟩
  rename_i σ
  by_cases hsh : shareV xs ≤ 64
  case neg =>
    have hno : ¬pfOk xs := fun h => hsh h.2
    have hV : planV xs = [] := if_neg hno
    have hgt : decide (shareV xs > 64) = true := decide_eq_true (by omega)
    rw [hp3]
    simp -implicitDefEqProofs (disch := omega) only [List.any_cons, List.any_nil, Nat.reduceEqDiff, List.map_cons, List.map_nil, Option.map_some, Option.map_none, List.nil_append, ↓reduceIte, vcu, ↓vcd, opK_some, hgt]
    refine fin_two Try.results32 ⟨.slice none 0 0, ?_, Sub.refl _, .inl ⟨rfl, hV⟩⟩
    simp -implicitDefEqProofs (disch := omega) only [List.any_cons, List.any_nil, Nat.reduceEqDiff, List.map_cons, List.map_nil, Option.map_some, Option.map_none, List.nil_append, ↓reduceIte, vcu, ↓vcd]
    rw [decide_eq_false hno]
  have hok : pfOk xs := ⟨hln, hsh⟩
  have hx10 := hln.2
  have hgt : decide (shareV xs > 64) = false := decide_eq_false (by omega)
  rw [hp3]
  simp -implicitDefEqProofs (disch := omega) only [List.any_cons, List.any_nil, Nat.reduceEqDiff, List.map_cons, List.map_nil, Option.map_some, Option.map_none, List.nil_append, ↓reduceIte, vcu, ↓vcd, opK_some, hgt]
  refine r_makeX (kx := .i64) (ky := .i64) (l := xs.length) (c := xs.length) el27 (by omega) (by simp -implicitDefEqProofs (disch := omega) only [List.any_cons, List.any_nil, Nat.reduceEqDiff, List.map_cons, List.map_nil, Option.map_some, Option.map_none, List.nil_append, ↓reduceIte, vcu, ↓vcd]) (by simp -implicitDefEqProofs (disch := omega) only [List.any_cons, List.any_nil, Nat.reduceEqDiff, List.map_cons, List.map_nil, Option.map_some, Option.map_none, List.nil_append, ↓reduceIte, vcu, ↓vcd]) (by omega) fun g τ1 hg hs he => ?_
  simp -implicitDefEqProofs (disch := omega) only [List.any_cons, List.any_nil, Nat.reduceEqDiff, List.map_cons, List.map_nil, Option.map_some, Option.map_none, List.nil_append, ↓reduceIte, vcu, ↓vcd]
  refine vc_loop_c mixed (by kernel_rfl) [0, 4] (fun m a σ' => ∃ L : Nat, m + L = 3 ∧ a 6 = .int .i64 ((L + 1 : Nat) : Int) ∧ a 5 = .int .i64 ((pfL xs L).2 : Int) ∧ Kept g τ1 σ' ∧ σ' g = some ⟨texts (pfL xs L).1, false⟩) 3 ⟨0, by simp, rfl, rfl, Kept.refl _ _, he⟩ ?_
  rintro m a σ1 hc ⟨L, hL, h6, h5, hkp, hgk⟩
  simp -implicitDefEqProofs (disch := omega) only [List.any_cons, List.any_nil, Nat.reduceEqDiff, List.map_cons, List.map_nil, Option.map_some, Option.map_none, List.nil_append, ↓reduceIte, vcu, ↓vcd] at hc
  obtain ⟨h0, h4, -⟩ := hc
  have hLf := pfL_facts xs hx10 L
  by_cases hlt : L < 3
  · have hq := four_le (n := 3 - (L + 1)) (by omega)
    simp -implicitDefEqProofs (disch := omega) only [List.any_cons, List.any_nil, Nat.reduceEqDiff, List.map_cons, List.map_nil, Option.map_some, Option.map_none, List.nil_append, ↓reduceIte, vcu, ↓vcd, h0, h4, h5, h6]
    refine vc_loop_c mixed (by kernel_rfl) [0, 4, 6, 24, 25] (fun m a σ' => ∃ k : Nat, m + k = xs.length ∧ a 26 = .int .i64 k ∧ a 5 = .int .i64 ((pfK xs (L + 1) (pfL xs L) k).2 : Int) ∧ Kept g τ1 σ' ∧ σ' g = some ⟨texts (pfK xs (L + 1) (pfL xs L) k).1, false⟩) xs.length ⟨0, by simp, rfl, h5, hkp, hgk⟩ ?_
    rintro m2 a2 σ2 hc2 ⟨k, hk, g26, g5, kp2, gk2⟩
    simp -implicitDefEqProofs (disch := omega) only [List.any_cons, List.any_nil, Nat.reduceEqDiff, List.map_cons, List.map_nil, Option.map_some, Option.map_none, List.nil_append, ↓reduceIte, vcu, ↓vcd, h0, h4, h6] at hc2
    obtain ⟨g0, g4, g6, g24, g25, -⟩ := hc2
    have hKf := pfK_facts xs (L + 1) (pfL xs L) k
    have hKs : pfK xs (L + 1) (pfL xs L) (k + 1) = if xs.getD k 0 = ((L + 1 : Nat) : Int) then ((pfK xs (L + 1) (pfL xs L) k).1.set k (txV ((pfK xs (L + 1) (pfL xs L) k).2 / 4 ^ (3 - (L + 1))) (L + 1)), (pfK xs (L + 1) (pfL xs L) k).2 + 4 ^ (3 - (L + 1))) else pfK xs (L + 1) (pfL xs L) k := rfl
    by_cases hkl : k < xs.length
    · have hx := (hv.sub (kp2.sub hs hg)) k hkl
      have hfd := firstD_calls (w0 := w0) σ2 (pfK xs (L + 1) (pfL xs L) k).2 (L + 1) (by omega) (by omega)
      have hpw : pw (3 - (((L + 1 : Nat) : Int))).toNat = ((4 ^ (3 - (L + 1)) : Nat) : Int) := by rw [pw_nat]; congr 2; omega
      generalize hst : pfK xs (L + 1) (pfL xs L) k = st at g5 gk2 hKf hKs hfd
      generalize hqd : 4 ^ (3 - (L + 1)) = q at hq hKs hfd hpw
      by_cases hxe : xs.getD k 0 = ((L + 1 : Nat) : Int)
      · rw [if_pos hxe] at hKs
        rw [hxe] at hx
        simp -implicitDefEqProofs (disch := omega) only [List.any_cons, List.any_nil, Nat.reduceEqDiff, List.map_cons, List.map_nil, Option.map_some, Option.map_none, List.nil_append, ↓reduceIte, vcu, ↓vcd, g0, g4, g5, g6, g24, g25, g26, hx]
        refine hfd.mono ?_
        rintro r _ ⟨rfl, rfl⟩
        simp -implicitDefEqProofs (disch := omega) only [List.any_cons, List.any_nil, Nat.reduceEqDiff, List.map_cons, List.map_nil, Option.map_some, Option.map_none, List.nil_append, ↓reduceIte, vcu, ↓vcd, opK_some, g0, g4, g5, g6, g24, g25, g26]
        refine r_setX (g := g) (i := 0 + k) (v := txV (st.2 / q) (L + 1)) (by simp -implicitDefEqProofs (disch := omega) only [List.any_cons, List.any_nil, Nat.reduceEqDiff, List.map_cons, List.map_nil, Option.map_some, Option.map_none, List.nil_append, ↓reduceIte, vcu, ↓vcd, g4]) (by simp -implicitDefEqProofs (disch := omega) only [List.any_cons, List.any_nil, Nat.reduceEqDiff, List.map_cons, List.map_nil, Option.map_some, Option.map_none, List.nil_append, ↓reduceIte, vcu, ↓vcd]) co9 gk2 (by rw [hKf.1, hLf.1]; omega) fun τ3 k3 e3 => ?_
        rw [Nat.zero_add] at e3
        simp -implicitDefEqProofs (disch := omega) only [List.any_cons, List.any_nil, Nat.reduceEqDiff, List.map_cons, List.map_nil, Option.map_some, Option.map_none, List.nil_append, ↓reduceIte, vcu, ↓vcd, g0, g4, g5, g6, g24, g25, g26]
        refine (implShare_calls _ ((L + 1 : Nat) : Int) (by omega)).mono ?_
        rintro r _ ⟨rfl, rfl⟩
        simp -implicitDefEqProofs (disch := omega) only [List.any_cons, List.any_nil, Nat.reduceEqDiff, List.map_cons, List.map_nil, Option.map_some, Option.map_none, List.nil_append, ↓reduceIte, vcu, ↓vcd, opK_some, g0, g4, g5, g6, g24, g25, g26, hpw]
        refine ⟨⟨?_, ?_, ?_, ?_, ?_, trivial⟩, m2 - 1, by omega, k + 1, by omega, by simp, by rw [hKs]; simp, kp2.trans k3, by rw [hKs]; exact e3⟩
        all_goals first | trivial | exact h0.symm | exact h4.symm | exact h6.symm
      · rw [if_neg hxe] at hKs
        simp -implicitDefEqProofs (disch := omega) only [List.any_cons, List.any_nil, Nat.reduceEqDiff, List.map_cons, List.map_nil, Option.map_some, Option.map_none, List.nil_append, ↓reduceIte, vcu, ↓vcd, g0, g4, g5, g6, g24, g25, g26, hx]
        refine ⟨⟨?_, ?_, ?_, ?_, ?_, trivial⟩, m2 - 1, by omega, k + 1, by omega, by simp, by rw [hKs], kp2, by rw [hKs]; exact gk2⟩
        all_goals first | trivial | exact h0.symm | exact h4.symm | exact h6.symm
    · obtain rfl : k = xs.length := by omega
      simp -implicitDefEqProofs (disch := omega) only [List.any_cons, List.any_nil, Nat.reduceEqDiff, List.map_cons, List.map_nil, Option.map_some, Option.map_none, List.nil_append, ↓reduceIte, vcu, ↓vcd, g0, g4, g5, g6, g24, g25, g26]
      exact ⟨⟨by first | trivial | exact h0.symm, by first | trivial | exact h4.symm, trivial⟩, m - 1, by omega, L + 1, by omega, by simp, rfl, kp2, gk2⟩
  · obtain rfl : L = 3 := by omega
    simp -implicitDefEqProofs (disch := omega) only [List.any_cons, List.any_nil, Nat.reduceEqDiff, List.map_cons, List.map_nil, Option.map_some, Option.map_none, List.nil_append, ↓reduceIte, vcu, ↓vcd, h0, h4, h5, h6]
    have hV : planV xs = (pfL xs 3).1 := if_pos hok
    refine fin_two Try.results32 ⟨.slice (some ⟨g, 0, none⟩) xs.length 1, ?_, hkp.sub hs hg, .inr ⟨g, by rw [hV, hLf.1], by rw [hV]; exact hgk, hg⟩⟩
    simp -implicitDefEqProofs (disch := omega) only [List.any_cons, List.any_nil, Nat.reduceEqDiff, List.map_cons, List.map_nil, Option.map_some, Option.map_none, List.nil_append, ↓reduceIte, vcu, ↓vcd, h4]
    rw [decide_eq_true hok]
theorem implPF_calls (σ : AHeap) (v : Value) (xs : List Int) (hv : Ints .i64 σ v xs) (hl : xs.length ≤ 1048576) : ACall Try.prog w0 32 [v] σ fun r σ' => ∃ v, r = .tuple #[v, .bool (decide (pfOk xs))] ∧ Sub σ σ' ∧ OwnS σ σ' v (planV xs) :=
  ACall.ints_arg (pre := []) (post := []) (by kernel_rfl) hv fun σ1 h o hs1 hg => (implPF_at σ1 h o xs hg hl).mono fun _ _ ⟨v, e, s, O⟩ => ⟨v, e, hs1.trans s, O.older hs1⟩
end Go.Proofs.Ytnenopebfobajaa

namespace Go.Proofs.Ytnenopebfobajaa
open Go Go.Abs Go.RowKit Go.Dial
variable {w0 : World}

theorem implRV_at (σ : AHeap) (h o : Nat) (cs : List Rt) (hv : RutsAt σ h o cs) (hl : cs.length ≤ 1048576) (hp : ∀ c ∈ cs, c.b.length ≤ 1048576) :
    ACall Try.prog w0 55 [.slice (some ⟨h, o, none⟩) cs.length 2] σ fun r σ' => r = .bool (decide (RtOk cs)) ∧ σ' = σ := by
  refine acall_go mixed Try.func55 rfl good55 fun pr => ?_
  by_cases hbig : 8 < cs.length
  · simp -implicitDefEqProofs (disch := omega) only [List.any_cons, List.any_nil, Nat.reduceEqDiff, List.map_cons, List.map_nil, Option.map_some, Option.map_none, List.nil_append, ↓reduceIte, vcu, ↓vcd]
    refine fin_one Try.results55 ⟨?_, rfl⟩
    simp -implicitDefEqProofs (disch := omega) only [List.any_cons, List.any_nil, Nat.reduceEqDiff, List.map_cons, List.map_nil, Option.map_some, Option.map_none, List.nil_append, ↓reduceIte, vcu, ↓vcd]
    have : ¬RtOk cs := fun h => by have := h.2; omega
    simp [this]
  simp -implicitDefEqProofs (disch := omega) only [List.any_cons, List.any_nil, Nat.reduceEqDiff, List.map_cons, List.map_nil, Option.map_some, Option.map_none, List.nil_append, ↓reduceIte, vcu, ↓vcd]
  refine vc_loop_c mixed (by kernel_rfl) [0, 10, 11] (fun m a σ' => ∃ k : Nat, m + k = cs.length ∧ a 12 = .int .i64 k ∧ (∀ j, j < k → RRow cs j) ∧ Sub σ σ') cs.length ⟨0, by simp, rfl, fun j hj => absurd hj (by omega), Sub.refl _⟩ ?_
  rintro m a σ1 hc ⟨k, hk, h12, hall, hs⟩
  simp -implicitDefEqProofs (disch := omega) only [List.any_cons, List.any_nil, Nat.reduceEqDiff, List.map_cons, List.map_nil, Option.map_some, Option.map_none, List.nil_append, ↓reduceIte, vcu, ↓vcd] at hc
  obtain ⟨h0, h10, h11, -⟩ := hc
  by_cases hlt : k < cs.length
  case neg =>
    simp -implicitDefEqProofs (disch := omega) only [List.any_cons, List.any_nil, Nat.reduceEqDiff, List.map_cons, List.map_nil, Option.map_some, Option.map_none, List.nil_append, ↓reduceIte, vcu, ↓vcd, h0, h10, h11, h12]
    refine fin_drop Try.results55 σ hs ⟨?_, rfl⟩
    simp -implicitDefEqProofs (disch := omega) only [List.any_cons, List.any_nil, Nat.reduceEqDiff, List.map_cons, List.map_nil, Option.map_some, Option.map_none, List.nil_append, ↓reduceIte, vcu, ↓vcd]
    have : RtOk cs := ⟨fun j hj => hall j (by omega), by omega⟩
    simp [this]
  have hx := (hv.sub hs).all hlt
  have hmem : cs.getD k rt0 ∈ cs := by simp [List.getD, hlt]
  have hb := hp _ hmem
  have stop : ∀ {P : Prop}, (RRow cs k → P) → ¬P → ¬RtOk cs := fun h1 h2 h3 => h2 (h1 (h3.1 k hlt))
  simp -implicitDefEqProofs (disch := omega) only [List.any_cons, List.any_nil, Nat.reduceEqDiff, List.map_cons, List.map_nil, Option.map_some, Option.map_none, List.nil_append, ↓reduceIte, vcu, ↓vcd, h0, h10, h11, h12, hx, co52]
  refine r_new ze52 fun q τ1 n1 s1 e1 => ?_
  replace e1 : τ1 q = some ⟨[.string (tx []), .int .i64 0], false⟩ := e1
  simp -implicitDefEqProofs (disch := omega) only [List.any_cons, List.any_nil, Nat.reduceEqDiff, List.map_cons, List.map_nil, Option.map_some, Option.map_none, List.nil_append, ↓reduceIte, vcu, ↓vcd]
  refine r_sets (g := q) (i := 0) (C := [.string (tx []), .int .i64 0]) (by simp -implicitDefEqProofs (disch := omega) only [List.any_cons, List.any_nil, Nat.reduceEqDiff, List.map_cons, List.map_nil, Option.map_some, Option.map_none, List.nil_append, ↓reduceIte, vcu, ↓vcd]) (by simp -implicitDefEqProofs (disch := omega) only [List.any_cons, List.any_nil, Nat.reduceEqDiff, List.map_cons, List.map_nil, Option.map_some, Option.map_none, List.nil_append, ↓reduceIte, vcu, ↓vcd, co52]; rfl) (by simp -implicitDefEqProofs (disch := omega) only [List.any_cons, List.any_nil, Nat.reduceEqDiff, List.map_cons, List.map_nil, Option.map_some, Option.map_none, List.nil_append, ↓reduceIte, vcu, ↓vcd]; rfl) (by simp -implicitDefEqProofs (disch := omega) only [List.any_cons, List.any_nil, Nat.reduceEqDiff, List.map_cons, List.map_nil, Option.map_some, Option.map_none, List.nil_append, ↓reduceIte, vcu, ↓vcd]; exact Nat.zero_lt_succ _) e1 (by simp -implicitDefEqProofs (disch := omega) only [List.any_cons, List.any_nil, Nat.reduceEqDiff, List.map_cons, List.map_nil, Option.map_some, Option.map_none, List.nil_append, ↓reduceIte, vcu, ↓vcd]; exact Nat.le_refl _) fun τ2 k2 e2 => ?_
  replace e2 : τ2 q = some ⟨[.string (tx (cs.getD k rt0).b), .int .i64 (cs.getD k rt0).n], false⟩ := e2
  have hs2 : Sub σ τ2 := k2.sub (hs.trans s1) (free_sub hs n1)
  have lb : ∀ τ', Sub τ2 τ' → ld τ' q (0 + 0) = some (.string (tx (cs.getD k rt0).b)) := fun τ' s => ld_of (s _ _ e2) rfl
  have ln : ∀ τ', Sub τ2 τ' → ld τ' q (0 + 1) = some (.int .i64 (cs.getD k rt0).n) := fun τ' s => ld_of (s _ _ e2) rfl
  have lb2 := lb τ2 (Sub.refl _)
  have ln2 := ln τ2 (Sub.refl _)
  by_cases hln : 3 < (cs.getD k rt0).b.length
  · simp -implicitDefEqProofs (disch := omega) only [List.any_cons, List.any_nil, Nat.reduceEqDiff, List.map_cons, List.map_nil, Option.map_some, Option.map_none, List.nil_append, ↓reduceIte, vcu, ↓vcd, lb2]
    refine fin_drop Try.results55 σ hs2 ⟨?_, rfl⟩
    simp -implicitDefEqProofs (disch := omega) only [List.any_cons, List.any_nil, Nat.reduceEqDiff, List.map_cons, List.map_nil, Option.map_some, Option.map_none, List.nil_append, ↓reduceIte, vcu, ↓vcd]
    simp [stop (fun h => h.2.1) (by omega)]
  simp -implicitDefEqProofs (disch := omega) only [List.any_cons, List.any_nil, Nat.reduceEqDiff, List.map_cons, List.map_nil, Option.map_some, Option.map_none, List.nil_append, ↓reduceIte, vcu, ↓vcd, lb2]
  refine (implDg_calls _ _ hb).mono ?_
  rintro r _ ⟨rfl, rfl⟩
  rename_i τ2
  by_cases hd : DgT (cs.getD k rt0).b
  case neg =>
    have d1 : decide (DgT (cs.getD k rt0).b) = false := decide_eq_false hd
    simp -implicitDefEqProofs (disch := omega) only [List.any_cons, List.any_nil, Nat.reduceEqDiff, List.map_cons, List.map_nil, Option.map_some, Option.map_none, List.nil_append, ↓reduceIte, vcu, ↓vcd, opK_some, d1, lb2]
    refine fin_drop Try.results55 σ hs2 ⟨?_, rfl⟩
    simp -implicitDefEqProofs (disch := omega) only [List.any_cons, List.any_nil, Nat.reduceEqDiff, List.map_cons, List.map_nil, Option.map_some, Option.map_none, List.nil_append, ↓reduceIte, vcu, ↓vcd]
    simp [stop (fun h => h.1) hd]
  have d1 : decide (DgT (cs.getD k rt0).b) = true := decide_eq_true hd
  by_cases hlo : (cs.getD k rt0).n < 0
  · simp -implicitDefEqProofs (disch := omega) only [List.any_cons, List.any_nil, Nat.reduceEqDiff, List.map_cons, List.map_nil, Option.map_some, Option.map_none, List.nil_append, ↓reduceIte, vcu, ↓vcd, opK_some, d1, lb2, ln2]
    refine fin_drop Try.results55 σ hs2 ⟨?_, rfl⟩
    simp -implicitDefEqProofs (disch := omega) only [List.any_cons, List.any_nil, Nat.reduceEqDiff, List.map_cons, List.map_nil, Option.map_some, Option.map_none, List.nil_append, ↓reduceIte, vcu, ↓vcd]
    simp [stop (fun h => h.2.2.1) (by omega)]
  by_cases hhi : (cs.getD k rt0).n > 99
  · simp -implicitDefEqProofs (disch := omega) only [List.any_cons, List.any_nil, Nat.reduceEqDiff, List.map_cons, List.map_nil, Option.map_some, Option.map_none, List.nil_append, ↓reduceIte, vcu, ↓vcd, opK_some, d1, lb2, ln2]
    refine fin_drop Try.results55 σ hs2 ⟨?_, rfl⟩
    simp -implicitDefEqProofs (disch := omega) only [List.any_cons, List.any_nil, Nat.reduceEqDiff, List.map_cons, List.map_nil, Option.map_some, Option.map_none, List.nil_append, ↓reduceIte, vcu, ↓vcd]
    simp [stop (fun h => h.2.2.1) (by omega)]
  simp -implicitDefEqProofs (disch := omega) only [List.any_cons, List.any_nil, Nat.reduceEqDiff, List.map_cons, List.map_nil, Option.map_some, Option.map_none, List.nil_append, ↓reduceIte, vcu, ↓vcd, opK_some, d1, lb2, ln2, h0, Int.toNat_natCast]
  refine vc_loop_c mixed (by kernel_rfl) [0, 4, 10, 11, 12, 39, 40] (fun m a σ' => ∃ j : Nat, m + j = k ∧ a 41 = .int .i64 j ∧ (∀ i, i < j → (cs.getD i rt0).b ≠ (cs.getD k rt0).b) ∧ Sub τ2 σ') k ⟨0, by simp, rfl, fun j hj => absurd hj (by omega), Sub.refl _⟩ ?_
  rintro m2 a2 τ3 hc2 ⟨j, hj, h41, hin, hs3⟩
  simp -implicitDefEqProofs (disch := omega) only [List.any_cons, List.any_nil, Nat.reduceEqDiff, List.map_cons, List.map_nil, Option.map_some, Option.map_none, List.nil_append, ↓reduceIte, vcu, ↓vcd, h0, h10, h11, h12] at hc2
  obtain ⟨g0, g4, g10, g11, g12, g39, g40, -⟩ := hc2
  have hs03 := hs2.trans hs3
  by_cases hjl : j < k
  case neg =>
    simp -implicitDefEqProofs (disch := omega) only [List.any_cons, List.any_nil, Nat.reduceEqDiff, List.map_cons, List.map_nil, Option.map_some, Option.map_none, List.nil_append, ↓reduceIte, vcu, ↓vcd, g0, g4, g10, g11, g12, g39, g40, h41]
    refine ⟨⟨?_, ?_, ?_, trivial⟩, m - 1, by omega, k + 1, by omega, by simp, fun i hi => ?_, hs03⟩
    all_goals first | trivial | exact h0.symm | exact h10.symm | exact h11.symm | skip
    by_cases e : i = k
    · subst e; exact ⟨hd, by omega, ⟨by omega, by omega⟩, fun i' h1 => hin i' (by omega)⟩
    · exact hall i (by omega)
  have hy := (hv.sub hs03).all (show j < cs.length by omega)
  simp -implicitDefEqProofs (disch := omega) only [List.any_cons, List.any_nil, Nat.reduceEqDiff, List.map_cons, List.map_nil, Option.map_some, Option.map_none, List.nil_append, ↓reduceIte, vcu, ↓vcd, g0, g4, g10, g11, g12, g39, g40, h41, hy, co52]
  refine r_local (cs := #[.string (tx (cs.getD j rt0).b), .int .i64 (cs.getD j rt0).n]) ze52 (by decide) (by simp -implicitDefEqProofs (disch := omega) only [List.any_cons, List.any_nil, Nat.reduceEqDiff, List.map_cons, List.map_nil, Option.map_some, Option.map_none, List.nil_append, ↓reduceIte, vcu, ↓vcd]) (by rw [co52]; rfl) rfl rfl (Nat.zero_lt_succ _) fun p τ4 np sp ep => ?_
  have lj : ld τ4 p (0 + 0) = some (.string (tx (cs.getD j rt0).b)) := ld_of ep rfl
  have lk := lb τ4 (hs3.trans sp)
  by_cases heq : (cs.getD j rt0).b = (cs.getD k rt0).b
  · have d3 : decide ((cs.getD j rt0).b = (cs.getD k rt0).b) = true := decide_eq_true heq
    simp -implicitDefEqProofs (disch := omega) only [List.any_cons, List.any_nil, Nat.reduceEqDiff, List.map_cons, List.map_nil, Option.map_some, Option.map_none, List.nil_append, ↓reduceIte, vcu, ↓vcd, g0, g4, g10, g11, g12, g39, g40, h41, lj, lk, abin_seql, d3]
    refine fin_drop Try.results55 σ (hs03.trans sp) ⟨?_, rfl⟩
    simp -implicitDefEqProofs (disch := omega) only [List.any_cons, List.any_nil, Nat.reduceEqDiff, List.map_cons, List.map_nil, Option.map_some, Option.map_none, List.nil_append, ↓reduceIte, vcu, ↓vcd]
    simp [stop (fun h => h.2.2.2 j hjl) (fun h => h heq)]
  · have d3 : decide ((cs.getD j rt0).b = (cs.getD k rt0).b) = false := decide_eq_false heq
    simp -implicitDefEqProofs (disch := omega) only [List.any_cons, List.any_nil, Nat.reduceEqDiff, List.map_cons, List.map_nil, Option.map_some, Option.map_none, List.nil_append, ↓reduceIte, vcu, ↓vcd, g0, g4, g10, g11, g12, g39, g40, h41, lj, lk, abin_seql, d3]
    refine ⟨⟨?_, ?_, ?_, ?_, ?_, ?_, ?_, trivial⟩, m2 - 1, by omega, j + 1, by omega, by simp, fun i hi => ?_, hs3.trans sp⟩
    all_goals first | trivial | exact h0.symm | exact h10.symm | exact h11.symm | exact h12.symm | skip
    by_cases e : i = j
    · subst e; exact heq
    · exact hin i (by omega)
theorem implRV_calls (σ : AHeap) (v : Value) (cs : List Rt) (hv : Ruts σ v cs) (hl : cs.length ≤ 1048576) (hp : ∀ c ∈ cs, c.b.length ≤ 1048576) : ACall Try.prog w0 55 [v] σ fun r σ' => r = .bool (decide (RtOk cs)) ∧ σ' = σ :=
  ACall.ruts_quiet (pre := []) (post := []) (by kernel_rfl) hv fun σ1 h o _ hg => implRV_at σ1 h o cs hg hl hp

theorem implRO_at (σ : AHeap) (h o : Nat) (cs : List Rt) (s : List UInt8) (hv : RutsAt σ h o cs) (hl : cs.length ≤ 1048576) (hp : ∀ c ∈ cs, c.b.length ≤ 1048576) (hs : s.length ≤ 1048576) :
    ACall Try.prog w0 58 [.slice (some ⟨h, o, none⟩) cs.length 2, .string (tx s)] σ fun r σ' => r = .int .i64 (routeV cs s) ∧ σ' = σ := by
  refine acall_go mixed Try.func58 rfl good58 fun pr => ?_
  simp -implicitDefEqProofs (disch := omega) only [List.any_cons, List.any_nil, Nat.reduceEqDiff, List.map_cons, List.map_nil, Option.map_some, Option.map_none, List.nil_append, ↓reduceIte, vcu, ↓vcd]
  refine (implRV_at _ h o cs hv hl hp).mono ?_
  rintro r _ ⟨rfl, rfl⟩
  by_cases hok : RtOk cs
  case neg =>
    have d1 : decide (RtOk cs) = false := decide_eq_false hok
    simp -implicitDefEqProofs (disch := omega) only [List.any_cons, List.any_nil, Nat.reduceEqDiff, List.map_cons, List.map_nil, Option.map_some, Option.map_none, List.nil_append, ↓reduceIte, vcu, ↓vcd, opK_some, d1]
    refine fin_one Try.results58 ⟨?_, rfl⟩
    simp -implicitDefEqProofs (disch := omega) only [List.any_cons, List.any_nil, Nat.reduceEqDiff, List.map_cons, List.map_nil, Option.map_some, Option.map_none, List.nil_append, ↓reduceIte, vcu, ↓vcd]
    rw [routeV, if_neg (fun h => hok h.1)]
  have d1 : decide (RtOk cs) = true := decide_eq_true hok
  simp -implicitDefEqProofs (disch := omega) only [List.any_cons, List.any_nil, Nat.reduceEqDiff, List.map_cons, List.map_nil, Option.map_some, Option.map_none, List.nil_append, ↓reduceIte, vcu, ↓vcd, opK_some, d1]
  refine (implDg_calls _ s hs).mono ?_
  rintro r _ ⟨rfl, rfl⟩
  rename_i σ
  by_cases hsd : DgT s
  case neg =>
    have d2 : decide (DgT s) = false := decide_eq_false hsd
    simp -implicitDefEqProofs (disch := omega) only [List.any_cons, List.any_nil, Nat.reduceEqDiff, List.map_cons, List.map_nil, Option.map_some, Option.map_none, List.nil_append, ↓reduceIte, vcu, ↓vcd, opK_some, d2]
    refine fin_one Try.results58 ⟨?_, rfl⟩
    simp -implicitDefEqProofs (disch := omega) only [List.any_cons, List.any_nil, Nat.reduceEqDiff, List.map_cons, List.map_nil, Option.map_some, Option.map_none, List.nil_append, ↓reduceIte, vcu, ↓vcd]
    rw [routeV, if_neg (fun h => hsd h.2)]
  have d2 : decide (DgT s) = true := decide_eq_true hsd
  simp -implicitDefEqProofs (disch := omega) only [List.any_cons, List.any_nil, Nat.reduceEqDiff, List.map_cons, List.map_nil, Option.map_some, Option.map_none, List.nil_append, ↓reduceIte, vcu, ↓vcd, opK_some, d2]
  refine vc_loop_c mixed (by kernel_rfl) [1, 17, 18] (fun m a σ' => ∃ k : Nat, m + k = cs.length ∧ a 19 = .int .i64 k ∧ a 5 = .int .i64 (rtF cs s k).1 ∧ a 6 = .int .i64 (rtF cs s k).2 ∧ Sub σ σ') cs.length ⟨0, by simp, rfl, rfl, rfl, Sub.refl _⟩ ?_
  rintro m a σ1 hc ⟨k, hk, h19, h5, h6, hs1⟩
  simp -implicitDefEqProofs (disch := omega) only [List.any_cons, List.any_nil, Nat.reduceEqDiff, List.map_cons, List.map_nil, Option.map_some, Option.map_none, List.nil_append, ↓reduceIte, vcu, ↓vcd] at hc
  obtain ⟨h1, h17, h18, -⟩ := hc
  have hlong := rtF_long cs s k
  by_cases hlt : k < cs.length
  case neg =>
    obtain rfl : k = cs.length := by omega
    simp -implicitDefEqProofs (disch := omega) only [List.any_cons, List.any_nil, Nat.reduceEqDiff, List.map_cons, List.map_nil, Option.map_some, Option.map_none, List.nil_append, ↓reduceIte, vcu, ↓vcd, h1, h17, h18, h19, h5, h6]
    refine fin_drop Try.results58 σ hs1 ⟨?_, rfl⟩
    simp -implicitDefEqProofs (disch := omega) only [List.any_cons, List.any_nil, Nat.reduceEqDiff, List.map_cons, List.map_nil, Option.map_some, Option.map_none, List.nil_append, ↓reduceIte, vcu, ↓vcd, h5]
    rw [routeV, if_pos ⟨hok, hsd⟩]
  have hx := (hv.sub hs1).all hlt
  have hmem : cs.getD k rt0 ∈ cs := by simp [List.getD, hlt]
  have hb := hp _ hmem
  have hstep : rtF cs s (k + 1) = if Beg s (cs.getD k rt0).b ∧ (rtF cs s k).2 < (cs.getD k rt0).b.length then ((cs.getD k rt0).n, ((cs.getD k rt0).b.length : Int)) else rtF cs s k := rfl
  simp -implicitDefEqProofs (disch := omega) only [List.any_cons, List.any_nil, Nat.reduceEqDiff, List.map_cons, List.map_nil, Option.map_some, Option.map_none, List.nil_append, ↓reduceIte, vcu, ↓vcd, h1, h17, h18, h19, h5, h6, hx, co52]
  refine r_local (cs := #[.string (tx (cs.getD k rt0).b), .int .i64 (cs.getD k rt0).n]) ze52 (by decide) (by simp -implicitDefEqProofs (disch := omega) only [List.any_cons, List.any_nil, Nat.reduceEqDiff, List.map_cons, List.map_nil, Option.map_some, Option.map_none, List.nil_append, ↓reduceIte, vcu, ↓vcd]) (by rw [co52]; rfl) rfl rfl (Nat.zero_lt_succ _) fun p τ4 np sp ep => ?_
  have lb : ld τ4 p (0 + 0) = some (.string (tx (cs.getD k rt0).b)) := ld_of ep rfl
  have ln : ld τ4 p (0 + 1) = some (.int .i64 (cs.getD k rt0).n) := ld_of ep rfl
  by_cases hlo : (rtF cs s k).2 < (cs.getD k rt0).b.length
  case neg =>
    rw [if_neg (fun h => hlo h.2)] at hstep
    simp -implicitDefEqProofs (disch := omega) only [List.any_cons, List.any_nil, Nat.reduceEqDiff, List.map_cons, List.map_nil, Option.map_some, Option.map_none, List.nil_append, ↓reduceIte, vcu, ↓vcd, h1, h17, h18, h19, h5, h6, lb]
    exact ⟨⟨trivial, trivial, trivial, trivial⟩, m - 1, by omega, k + 1, by omega, by simp, by rw [hstep], by rw [hstep], hs1.trans sp⟩
  simp -implicitDefEqProofs (disch := omega) only [List.any_cons, List.any_nil, Nat.reduceEqDiff, List.map_cons, List.map_nil, Option.map_some, Option.map_none, List.nil_append, ↓reduceIte, vcu, ↓vcd, h1, h17, h18, h19, h5, h6, lb]
  refine (prefix_calls _ _ _).mono ?_
  rintro r _ ⟨rfl, rfl⟩
  rename_i τ4
  by_cases hbg : Beg s (cs.getD k rt0).b
  · have d3 : decide (Beg s (cs.getD k rt0).b) = true := decide_eq_true hbg
    rw [if_pos ⟨hbg, hlo⟩] at hstep
    simp -implicitDefEqProofs (disch := omega) only [List.any_cons, List.any_nil, Nat.reduceEqDiff, List.map_cons, List.map_nil, Option.map_some, Option.map_none, List.nil_append, ↓reduceIte, vcu, ↓vcd, opK_some, h1, h17, h18, h19, h5, h6, d3, lb, ln]
    exact ⟨⟨trivial, trivial, trivial, trivial⟩, m - 1, by omega, k + 1, by omega, by simp, by rw [hstep], by rw [hstep], hs1.trans sp⟩
  · have d3 : decide (Beg s (cs.getD k rt0).b) = false := decide_eq_false hbg
    rw [if_neg (fun h => hbg h.1)] at hstep
    simp -implicitDefEqProofs (disch := omega) only [List.any_cons, List.any_nil, Nat.reduceEqDiff, List.map_cons, List.map_nil, Option.map_some, Option.map_none, List.nil_append, ↓reduceIte, vcu, ↓vcd, opK_some, h1, h17, h18, h19, h5, h6, d3, lb, ln]
    exact ⟨⟨trivial, trivial, trivial, trivial⟩, m - 1, by omega, k + 1, by omega, by simp, by rw [hstep], by rw [hstep], hs1.trans sp⟩
theorem implRO_calls (σ : AHeap) (v : Value) (cs : List Rt) (s : List UInt8) (hv : Ruts σ v cs) (hl : cs.length ≤ 1048576) (hp : ∀ c ∈ cs, c.b.length ≤ 1048576) (hs : s.length ≤ 1048576) : ACall Try.prog w0 58 [v, .string (tx s)] σ fun r σ' => r = .int .i64 (routeV cs s) ∧ σ' = σ :=
  ACall.ruts_quiet (pre := []) (post := [_]) (by kernel_rfl) hv fun σ1 h o _ hg => implRO_at σ1 h o cs s hg hl hp hs
end Go.Proofs.Ytnenopebfobajaa

namespace Go.Proofs.Ytnenopebfobajaa
open Go Go.Abs Go.RowKit Go.Dial
variable {w0 : World}

set_option maxRecDepth 8000 in
theorem cloneR_at (σ : AHeap) (h o : Nat) (xs : List Rt) (hv : RutsAt σ h o xs) (hl : xs.length ≤ 1048576) :
    ACall Try.prog w0 84 [.slice (some ⟨h, o, none⟩) xs.length 2] σ fun r σ' => Sub σ σ' ∧ OwnR σ σ' r xs := by
  refine acall_go mixed Try.func84 rfl good84 fun pr => ?_
  simp -implicitDefEqProofs (disch := omega) only [List.any_cons, List.any_nil, Nat.reduceEqDiff, List.map_cons, List.map_nil, Option.map_some, Option.map_none, List.nil_append, ↓reduceIte, vcu, ↓vcd]
  refine r_nilEq (b := some ⟨h, o, none⟩) (l := xs.length) (z := 2) Try.underlying48 (by simp -implicitDefEqProofs (disch := omega) only [List.any_cons, List.any_nil, Nat.reduceEqDiff, List.map_cons, List.map_nil, Option.map_some, Option.map_none, List.nil_append, ↓reduceIte, vcu, ↓vcd]) fun c _ h2 => ?_
  cases c with
  | true =>
    simp -implicitDefEqProofs (disch := omega) only [List.any_cons, List.any_nil, Nat.reduceEqDiff, List.map_cons, List.map_nil, Option.map_some, Option.map_none, List.nil_append, ↓reduceIte, vcu, ↓vcd]
    have : xs = [] := by
      cases xs with
      | nil => rfl
      | cons x xs => have := h2 (by simp); cases this
    subst this
    refine fin_one Try.results84 ⟨Sub.refl _, .inl ⟨?_, rfl⟩⟩
    simp -implicitDefEqProofs (disch := omega) only [List.any_cons, List.any_nil, Nat.reduceEqDiff, List.map_cons, List.map_nil, Option.map_some, Option.map_none, List.nil_append, ↓reduceIte, vcu, ↓vcd]
  | false =>
    simp -implicitDefEqProofs (disch := omega) only [List.any_cons, List.any_nil, Nat.reduceEqDiff, List.map_cons, List.map_nil, Option.map_some, Option.map_none, List.nil_append, ↓reduceIte, vcu, ↓vcd]
    refine r_lit el48 (out := #[]) (by kernel_rfl) (by kernel_rfl) fun e1 τ1 n1 s1 v1 => ?_
    simp -implicitDefEqProofs (disch := omega) only [List.any_cons, List.any_nil, Nat.reduceEqDiff, List.map_cons, List.map_nil, Option.map_some, Option.map_none, List.nil_append, ↓reduceIte, vcu, ↓vcd]
    refine r_pushR (g := e1) (e := h) (o := o) (cs := []) (ds := xs) (m := xs.length) (len := 0) el48 (by omega) sl48 (by simp -implicitDefEqProofs (disch := omega) only [List.any_cons, List.any_nil, Nat.reduceEqDiff, List.map_cons, List.map_nil, Option.map_some, Option.map_none, List.nil_append, ↓reduceIte, vcu, ↓vcd]) v1 rfl (by simp -implicitDefEqProofs (disch := omega) only [List.any_cons, List.any_nil, Nat.reduceEqDiff, List.map_cons, List.map_nil, Option.map_some, Option.map_none, List.nil_append, ↓reduceIte, vcu, ↓vcd]) (hv.sub s1) rfl (by omega) fun g τ2 n2 k2 v2 => ?_
    rw [List.nil_append] at v2
    simp -implicitDefEqProofs (disch := omega) only [List.any_cons, List.any_nil, Nat.reduceEqDiff, List.map_cons, List.map_nil, Option.map_some, Option.map_none, List.nil_append, ↓reduceIte, vcu, ↓vcd, Nat.zero_add]
    refine fin_one Try.results84 ⟨k2.sub s1 n1, .inr ⟨g, ?_, v2, free_sub s1 n2⟩⟩
    simp -implicitDefEqProofs (disch := omega) only [List.any_cons, List.any_nil, Nat.reduceEqDiff, List.map_cons, List.map_nil, Option.map_some, Option.map_none, List.nil_append, ↓reduceIte, vcu, ↓vcd]
theorem cloneR_calls (σ : AHeap) (v : Value) (cs : List Rt) (hv : Ruts σ v cs) (hl : cs.length ≤ 1048576) : ACall Try.prog w0 84 [v] σ fun r σ' => Sub σ σ' ∧ OwnR σ σ' r cs :=
  ACall.ruts_arg (pre := []) (post := []) (by kernel_rfl) hv fun σ1 h o hs hg => (cloneR_at σ1 h o cs hg hl).mono fun _ _ ⟨s, O⟩ => ⟨hs.trans s, O.older hs⟩

theorem mem_getR {cs : List Rt} {k : Nat} (h : k < cs.length) : cs.getD k rt0 ∈ cs := by simp [List.getD, h]
theorem takeR_succ {cs : List Rt} {k : Nat} (h : k < cs.length) : cs.take (k + 1) = cs.take k ++ [cs.getD k rt0] := by
  rw [List.take_succ_eq_append_getElem h]; simp [List.getD, h]
set_option maxRecDepth 8000 in
theorem indexR_at (σ : AHeap) (h o : Nat) (cs : List Rt) (gf : Nat) (caps : Array Value) (P : Rt → Prop) [DecidablePred P] (hv : RutsAt σ h o cs) (hl : cs.length ≤ 1048576)
    (hcl : ∀ c ∈ cs, ∀ pw, ACall Try.prog pw gf (.agg #[.string (tx c.b), .int .i64 c.n] :: caps.toList) σ fun r σ' => r = .bool (decide (P c)) ∧ σ' = σ) :
    ACall Try.prog w0 108 [.slice (some ⟨h, o, none⟩) cs.length 2, .func (.func gf) #[] caps] σ fun r σ' => σ' = σ ∧
      ((r = .int .i64 (-1) ∧ ∀ c ∈ cs, ¬ P c) ∨ ∃ k : Nat, r = .int .i64 k ∧ k < cs.length ∧ P (cs.getD k rt0) ∧ ∀ c ∈ cs.take k, ¬ P c) := by
  refine acall_go mixed Try.func108 rfl good108 fun pr => ?_
  simp -implicitDefEqProofs (disch := omega) only [List.any_cons, List.any_nil, Nat.reduceEqDiff, List.map_cons, List.map_nil, Option.map_some, Option.map_none, List.nil_append, ↓reduceIte, vcu, ↓vcd]
  refine vc_loop_c mixed (by kernel_rfl) [0, 1, 7] (fun m a τ => ∃ k : Nat, m + k = cs.length ∧ a 8 = .int .i64 k ∧ τ = σ ∧ ∀ c ∈ cs.take k, ¬ P c) cs.length ⟨0, by simp, rfl, rfl, by simp⟩ ?_
  rintro m a τ hc ⟨k, hk, h8, rfl, hup⟩
  simp -implicitDefEqProofs (disch := omega) only [List.any_cons, List.any_nil, Nat.reduceEqDiff, List.map_cons, List.map_nil, Option.map_some, Option.map_none, List.nil_append, ↓reduceIte, vcu, ↓vcd] at hc
  obtain ⟨h0, h1, h7, -⟩ := hc
  by_cases hlt : k < cs.length
  · have hx := hv.all hlt
    have ht := takeR_succ hlt
    have hm := mem_getR hlt
    simp -implicitDefEqProofs (disch := omega) only [List.any_cons, List.any_nil, Nat.reduceEqDiff, List.map_cons, List.map_nil, Option.map_some, Option.map_none, List.nil_append, ↓reduceIte, vcu, ↓vcd, h0, h1, h7, h8, hx, co52]
    refine r_callv ⟨(gf, caps), by simp -implicitDefEqProofs (disch := omega) only [List.any_cons, List.any_nil, Nat.reduceEqDiff, List.map_cons, List.map_nil, Option.map_some, Option.map_none, List.nil_append, ↓reduceIte, vcu, ↓vcd, h1], ?_⟩
    simp -implicitDefEqProofs (disch := omega) only [List.any_cons, List.any_nil, Nat.reduceEqDiff, List.map_cons, List.map_nil, Option.map_some, Option.map_none, List.nil_append, ↓reduceIte, vcu, ↓vcd]
    refine (hcl _ hm _).mono ?_
    rintro r _ ⟨rfl, rfl⟩
    by_cases hB : P (cs.getD k rt0)
    · rw [decide_eq_true hB]
      simp -implicitDefEqProofs (disch := omega) only [List.any_cons, List.any_nil, Nat.reduceEqDiff, List.map_cons, List.map_nil, Option.map_some, Option.map_none, List.nil_append, ↓reduceIte, vcu, ↓vcd, opK_some, h0, h1, h7, h8]
      refine fin_one Try.results108 ⟨rfl, .inr ⟨k, ?_, hlt, hB, hup⟩⟩
      simp -implicitDefEqProofs (disch := omega) only [List.any_cons, List.any_nil, Nat.reduceEqDiff, List.map_cons, List.map_nil, Option.map_some, Option.map_none, List.nil_append, ↓reduceIte, vcu, ↓vcd]
    · rw [decide_eq_false hB]
      simp -implicitDefEqProofs (disch := omega) only [List.any_cons, List.any_nil, Nat.reduceEqDiff, List.map_cons, List.map_nil, Option.map_some, Option.map_none, List.nil_append, ↓reduceIte, vcu, ↓vcd, opK_some, h0, h1, h7, h8]
      refine ⟨⟨trivial, trivial, trivial, trivial⟩, m - 1, by omega, k + 1, by omega, by simp, trivial, fun c hc => ?_⟩
      rw [ht] at hc
      rcases List.mem_append.1 hc with hc | hc
      · exact hup c hc
      · rw [List.mem_singleton] at hc; subst hc; exact hB
  · simp -implicitDefEqProofs (disch := omega) only [List.any_cons, List.any_nil, Nat.reduceEqDiff, List.map_cons, List.map_nil, Option.map_some, Option.map_none, List.nil_append, ↓reduceIte, vcu, ↓vcd, h0, h1, h7, h8]
    obtain rfl : k = cs.length := by omega
    rw [List.take_length] at hup
    refine fin_one Try.results108 ⟨rfl, .inl ⟨?_, hup⟩⟩
    simp -implicitDefEqProofs (disch := omega) only [List.any_cons, List.any_nil, Nat.reduceEqDiff, List.map_cons, List.map_nil, Option.map_some, Option.map_none, List.nil_append, ↓reduceIte, vcu, ↓vcd]
theorem wrc_at (σ : AHeap) (b : Nat) (s : List UInt8) (c : Rt) (hb : σ b = some ⟨[.string (tx s)], false⟩) :
    ACall Try.prog w0 95 [.agg #[.string (tx c.b), .int .i64 c.n], .pointer (some ⟨b, 0, none⟩)] σ fun r σ' => r = .bool (decide (c.b = s)) ∧ σ' = σ := by
  refine acall_go mixed Try.func95 rfl good95 fun pr => ?_
  simp -implicitDefEqProofs (disch := omega) only [List.any_cons, List.any_nil, Nat.reduceEqDiff, List.map_cons, List.map_nil, Option.map_some, Option.map_none, List.nil_append, ↓reduceIte, vcu, ↓vcd]
  refine r_boxed fun g τ n1 s1 e1 => ?_
  replace e1 : τ g = some ⟨[.string (tx c.b), .int .i64 c.n], false⟩ := e1
  have l1 : ld τ g (0 + 0) = some (.string (tx c.b)) := ld_of e1 rfl
  have l2 : ld τ b 0 = some (.string (tx s)) := ld_of (s1 _ _ hb) rfl
  simp -implicitDefEqProofs (disch := omega) only [List.any_cons, List.any_nil, Nat.reduceEqDiff, List.map_cons, List.map_nil, Option.map_some, Option.map_none, List.nil_append, ↓reduceIte, vcu, ↓vcd, l1, l2, abin_seql]
  refine fin_drop Try.results95 σ s1 ⟨?_, rfl⟩
  simp -implicitDefEqProofs (disch := omega) only [List.any_cons, List.any_nil, Nat.reduceEqDiff, List.map_cons, List.map_nil, Option.map_some, Option.map_none, List.nil_append, ↓reduceIte, vcu, ↓vcd]

theorem ruts_take (L : List Rt) (i : Nat) : (ruts L).take (i * 2) = ruts (L.take i) := by
  induction L generalizing i with
  | nil => simp [ruts]
  | cons c L ih =>
    cases i with
    | zero => simp [ruts]
    | succ i => rw [ruts_cons, List.take_succ_cons, ruts_cons, show (i + 1) * 2 = i * 2 + 1 + 1 by omega, List.take_succ_cons, List.take_succ_cons, ih]
theorem wo_all {cs : List Rt} {s : List UInt8} (h : ∀ c ∈ cs, ¬ c.b = s) : wo cs s = cs := by
  unfold wo
  rw [List.filter_eq_self]
  intro c hc
  simpa using h c hc
theorem wo_take (cs : List Rt) (s : List UInt8) {k : Nat} (h : k < cs.length) : wo (cs.take (k + 1)) s = wo (cs.take k) s ++ (if (cs.getD k rt0).b = s then [] else [cs.getD k rt0]) := by
  rw [takeR_succ h]
  unfold wo
  rw [List.filter_append]
  congr 1
  by_cases e : (cs.getD k rt0).b = s
  · rw [if_pos e]
    rw [List.filter_cons, if_neg (by simpa using e)]; rfl
  · rw [if_neg e]
    rw [List.filter_cons, if_pos (by simpa using e)]; rfl
set_option maxRecDepth 8000 in
theorem delR_at (σ : AHeap) (g b : Nat) (s : List UInt8) (cs : List Rt) (hg : σ g = some ⟨ruts cs, false⟩) (hb : σ b = some ⟨[.string (tx s)], false⟩) (hgb : b ≠ g) (hl : cs.length ≤ 1000) :
    ACall Try.prog w0 94 [.slice (some ⟨g, 0, none⟩) cs.length 2, .func (.func 95) #[] #[.pointer (some ⟨b, 0, none⟩)]] σ fun r σ' =>
      r = .slice (some ⟨g, 0, none⟩) (wo cs s).length 2 ∧ Kept g σ σ' ∧ ∃ C, σ' g = some ⟨ruts (wo cs s) ++ C, false⟩ := by
  refine acall_go mixed Try.func94 rfl good94 fun pr => ?_
  simp -implicitDefEqProofs (disch := omega) only [List.any_cons, List.any_nil, Nat.reduceEqDiff, List.map_cons, List.map_nil, Option.map_some, Option.map_none, List.nil_append, ↓reduceIte, vcu, ↓vcd]
  refine (indexR_at σ g 0 cs _ _ (fun c => c.b = s) (rutsAt_own hg) (by omega) fun c _ pw => wrc_at σ b s c hb).mono ?_
  rintro r _ ⟨rfl, ⟨rfl, hall⟩ | ⟨k, rfl, hk, hnk, hup⟩⟩
  · simp -implicitDefEqProofs (disch := omega) only [List.any_cons, List.any_nil, Nat.reduceEqDiff, List.map_cons, List.map_nil, Option.map_some, Option.map_none, List.nil_append, ↓reduceIte, vcu, ↓vcd, opK_some]
    refine fin_one Try.results94 ⟨?_, Kept.refl _ _, [], ?_⟩
    · simp -implicitDefEqProofs (disch := omega) only [List.any_cons, List.any_nil, Nat.reduceEqDiff, List.map_cons, List.map_nil, Option.map_some, Option.map_none, List.nil_append, ↓reduceIte, vcu, ↓vcd]
      rw [wo_all hall]
    · rw [wo_all hall, List.append_nil]; exact hg
  · rename_i σ
    have hk0 : (wo (cs.take (k + 1)) s) = cs.take k := by
      rw [wo_take _ _ hk, wo_all hup, if_pos hnk, List.append_nil]
    simp -implicitDefEqProofs (disch := omega) only [List.any_cons, List.any_nil, Nat.reduceEqDiff, List.map_cons, List.map_nil, Option.map_some, Option.map_none, List.nil_append, ↓reduceIte, vcu, ↓vcd, opK_some]
    refine vc_loop_c mixed (by kernel_rfl) [0, 1] (fun m a τ => ∃ (j i : Nat) (L : List Rt), m + j = cs.length ∧ a 6 = .int .i64 j ∧ a 5 = .int .i64 i ∧ i < j ∧ j ≤ cs.length ∧ L.length = cs.length ∧ L.take i = wo (cs.take j) s ∧ L.drop j = cs.drop j ∧ Kept g σ τ ∧ τ g = some ⟨ruts L, false⟩)
      (cs.length - (k + 1)) ⟨k + 1, k, cs, by omega, rfl, rfl, by omega, by omega, rfl, hk0.symm, rfl, Kept.refl _ _, hg⟩ ?_
    rintro m a τ hc ⟨j, i, L, hj, h6, h5, hij, hjl, hL, hLt, hLd, hkp, hgL⟩
    simp -implicitDefEqProofs (disch := omega) only [List.any_cons, List.any_nil, Nat.reduceEqDiff, List.map_cons, List.map_nil, Option.map_some, Option.map_none, List.nil_append, ↓reduceIte, vcu, ↓vcd] at hc
    obtain ⟨h0, h1, -⟩ := hc
    have hbτ := hkp.at hb hgb
    by_cases hlt : j < cs.length
    · have hLj : L.getD j rt0 = cs.getD j rt0 := by
        have e1 : (L.drop j)[0]? = (cs.drop j)[0]? := by rw [hLd]
        rw [List.getElem?_drop, List.getElem?_drop, Nat.add_zero] at e1
        simp only [List.getD, e1]
      have hx := (rutsAt_own hgL).all (show j < L.length by omega)
      rw [hLj, Nat.zero_add] at hx
      have hkj := wo_take cs s hlt
      generalize cs.getD j rt0 = c at hx hkj
      obtain ⟨A, B⟩ := c
      dsimp only at hx hkj
      simp -implicitDefEqProofs (disch := omega) only [List.any_cons, List.any_nil, Nat.reduceEqDiff, List.map_cons, List.map_nil, Option.map_some, Option.map_none, List.nil_append, ↓reduceIte, vcu, ↓vcd, h0, h1, h5, h6, hx, co52, Nat.zero_add]
      refine r_local (cs := #[.string (tx A), .int .i64 B]) ze52 (by decide) (by simp -implicitDefEqProofs (disch := omega) only [List.any_cons, List.any_nil, Nat.reduceEqDiff, List.map_cons, List.map_nil, Option.map_some, Option.map_none, List.nil_append, ↓reduceIte, vcu, ↓vcd]) (by rw [co52]; rfl) rfl rfl (Nat.zero_lt_succ _) fun q τ2 nq sq eq => ?_
      have hl3 : lds τ2 q 0 2 = some [.string (tx A), .int .i64 B] := lds_two (ld_of eq rfl) (ld_of eq rfl)
      have hqg : q ≠ g := ne_of nq hgL
      simp -implicitDefEqProofs (disch := omega) only [List.any_cons, List.any_nil, Nat.reduceEqDiff, List.map_cons, List.map_nil, Option.map_some, Option.map_none, List.nil_append, ↓reduceIte, vcu, ↓vcd, h0, h1, h5, h6, hl3, co52]
      refine r_callv ⟨(95, #[.pointer (some ⟨b, 0, none⟩)]), by simp -implicitDefEqProofs (disch := omega) only [List.any_cons, List.any_nil, Nat.reduceEqDiff, List.map_cons, List.map_nil, Option.map_some, Option.map_none, List.nil_append, ↓reduceIte, vcu, ↓vcd, h1], ?_⟩
      simp -implicitDefEqProofs (disch := omega) only [List.any_cons, List.any_nil, Nat.reduceEqDiff, List.map_cons, List.map_nil, Option.map_some, Option.map_none, List.nil_append, ↓reduceIte, vcu, ↓vcd]
      refine (wrc_at τ2 b s ⟨A, B⟩ (sq _ _ hbτ)).mono ?_
      rintro r _ ⟨rfl, rfl⟩
      rename_i τ2
      by_cases hB : A = s
      · rw [decide_eq_true hB]
        rw [if_pos hB, List.append_nil] at hkj
        simp -implicitDefEqProofs (disch := omega) only [List.any_cons, List.any_nil, Nat.reduceEqDiff, List.map_cons, List.map_nil, Option.map_some, Option.map_none, List.nil_append, ↓reduceIte, vcu, ↓vcd, opK_some, h0, h1, h5, h6]
        refine ⟨⟨trivial, trivial, trivial⟩, m - 1, by omega, j + 1, i, L, by omega, by simp, by simp, by omega, by omega, hL, by rw [hkj]; exact hLt, ?_, hkp.trans sq.kept, sq _ _ hgL⟩
        rw [← List.drop_drop, ← List.drop_drop, hLd]
      · rw [decide_eq_false hB]
        rw [if_neg hB] at hkj
        simp -implicitDefEqProofs (disch := omega) only [List.any_cons, List.any_nil, Nat.reduceEqDiff, List.map_cons, List.map_nil, Option.map_some, Option.map_none, List.nil_append, ↓reduceIte, vcu, ↓vcd, opK_some, h0, h1, h5, h6, hl3, co52]
        refine r_sets (g := g) (i := i * 2) (C := ruts L) (by simp -implicitDefEqProofs (disch := omega) only [List.any_cons, List.any_nil, Nat.reduceEqDiff, List.map_cons, List.map_nil, Option.map_some, Option.map_none, List.nil_append, ↓reduceIte, vcu, ↓vcd, Nat.zero_add]) (by simp -implicitDefEqProofs (disch := omega) only [List.any_cons, List.any_nil, Nat.reduceEqDiff, List.map_cons, List.map_nil, Option.map_some, Option.map_none, List.nil_append, ↓reduceIte, vcu, ↓vcd, co52]; rfl) (by simp -implicitDefEqProofs (disch := omega) only [List.any_cons, List.any_nil, Nat.reduceEqDiff, List.map_cons, List.map_nil, Option.map_some, Option.map_none, List.nil_append, ↓reduceIte, vcu, ↓vcd]; rfl) (by simp -implicitDefEqProofs (disch := omega) only [List.any_cons, List.any_nil, Nat.reduceEqDiff, List.map_cons, List.map_nil, Option.map_some, Option.map_none, List.nil_append, ↓reduceIte, vcu, ↓vcd]; exact Nat.zero_lt_succ _) (sq _ _ hgL) (by simp -implicitDefEqProofs (disch := omega) only [List.any_cons, List.any_nil, Nat.reduceEqDiff, List.map_cons, List.map_nil, Option.map_some, Option.map_none, List.nil_append, ↓reduceIte, vcu, ↓vcd]; rw [ruts_length]; show i * 2 + 2 ≤ _; omega) fun τ3 k3 e3 => ?_
        replace e3 : τ3 g = some ⟨lwrite (ruts L) (i * 2) [.string (tx A), .int .i64 B], false⟩ := by rw [e3]; simp -implicitDefEqProofs (disch := omega) only [List.any_cons, List.any_nil, Nat.reduceEqDiff, List.map_cons, List.map_nil, Option.map_some, Option.map_none, List.nil_append, ↓reduceIte, vcu, ↓vcd]; rfl
        have hwr := ruts_write L i (by omega) ⟨A, B⟩
        dsimp only at hwr
        rw [hwr] at e3
        simp -implicitDefEqProofs (disch := omega) only [List.any_cons, List.any_nil, Nat.reduceEqDiff, List.map_cons, List.map_nil, Option.map_some, Option.map_none, List.nil_append, ↓reduceIte, vcu, ↓vcd, h0, h1, h5, h6]
        refine ⟨⟨trivial, trivial, trivial⟩, m - 1, by omega, j + 1, i + 1, L.set i ⟨A, B⟩, by omega, by simp, by simp, by omega, by omega, by rw [List.length_set]; exact hL, ?_, ?_, (hkp.trans sq.kept).trans k3, e3⟩
        · rw [hkj, ← hLt, List.take_succ_eq_append_getElem (by rw [List.length_set]; omega), List.take_set_of_le (Nat.le_refl _)]
          simp
        · rw [List.drop_set_of_lt (by omega), ← List.drop_drop, ← List.drop_drop, hLd]
    · have e : j = cs.length := by omega
      subst e
      rw [List.take_length] at hLt
      have hil : (wo cs s).length = i := by rw [← hLt, List.length_take]; omega
      simp -implicitDefEqProofs (disch := omega) only [List.any_cons, List.any_nil, Nat.reduceEqDiff, List.map_cons, List.map_nil, Option.map_some, Option.map_none, List.nil_append, ↓reduceIte, vcu, ↓vcd, h0, h1, h5, h6]
      have hst : sts τ g (0 + i * 2) (azeros (.agg #[.string (tx []), .int .i64 0]) ((cs.length - i) * 2)) = some (τ.upd g (some ⟨lwrite (ruts L) (0 + i * 2) (ruts (List.replicate (cs.length - i) rt0)), false⟩)) := by
        rw [azeros_ruts]
        unfold sts
        rw [hgL]
        simp only [Option.bind_some]
        rw [if_pos ⟨trivial, by rw [ruts_length, ruts_length, List.length_replicate]; omega, by rw [ruts_length, List.length_replicate]; omega⟩]
      have hall : (azeros (.agg #[.string (tx []), .int .i64 0]) ((cs.length - i) * 2)).all Value.oneCell' = true := by rw [azeros_ruts]; exact ruts_one _
      refine r_clear_at (e := 52) (i := Try.t52) (z := .agg #[.string (tx []), .int .i64 0]) (h := g) (b := 0 + i * 2) (len := cs.length - i) Try.underlying48 rfl rfl (by simp -implicitDefEqProofs (disch := omega) only [List.any_cons, List.any_nil, Nat.reduceEqDiff, List.map_cons, List.map_nil, Option.map_some, Option.map_none, List.nil_append, ↓reduceIte, vcu, ↓vcd, Int.toNat_natCast]; rfl) (.inr ⟨hall, hst⟩) ?_
      simp -implicitDefEqProofs (disch := omega) only [List.any_cons, List.any_nil, Nat.reduceEqDiff, List.map_cons, List.map_nil, Option.map_some, Option.map_none, List.nil_append, ↓reduceIte, vcu, ↓vcd, h0, h5]
      refine fin_one Try.results94 ⟨?_, fun x ob hx e => ?_, ruts (List.replicate (cs.length - i) rt0) ++ (ruts L).drop (i * 2 + (ruts (List.replicate (cs.length - i) rt0)).length), ?_⟩
      · simp -implicitDefEqProofs (disch := omega) only [List.any_cons, List.any_nil, Nat.reduceEqDiff, List.map_cons, List.map_nil, Option.map_some, Option.map_none, List.nil_append, ↓reduceIte, vcu, ↓vcd, Int.toNat_natCast]
        rw [hil]
      · rw [AHeap.upd_ne _ _ hx]; exact hkp x ob hx e
      · rw [AHeap.upd_same, Nat.zero_add]
        unfold lwrite
        rw [ruts_take, hLt, List.append_assoc]
theorem delR_calls (β σ : AHeap) (v : Value) (b : Nat) (s : List UInt8) (cs : List Rt) (hs : Sub β σ) (hv : OwnR β σ v cs) (hb : β b = some ⟨[.string (tx s)], false⟩) (hl : cs.length ≤ 1000) :
    ACall Try.prog w0 94 [v, .func (.func 95) #[] #[.pointer (some ⟨b, 0, none⟩)]] σ fun r σ' => Sub β σ' ∧ OwnR β σ' r (wo cs s) := by
  have hbσ := hs _ _ hb
  rcases hv with ⟨rfl, rfl⟩ | ⟨g, rfl, hg, hn⟩
  · refine ACall.nil_arg (pre := []) (z := 2) (by kernel_rfl) fun g hg => ?_
    have hbg : b ≠ g := ne_of' hg hbσ
    refine (delR_at _ g b s [] (AHeap.upd_same _ _ _) (by rw [AHeap.upd_ne _ _ hbg]; exact hbσ) hbg (by simp)).shrink ?_
    rintro r σ' ⟨rfl, hk, C, hC⟩
    refine ⟨g, _, C, hC, fun x ob e => ?_, .inr ⟨g, rfl, AHeap.upd_same _ _ _, free_sub hs hg⟩⟩
    have hx : x ≠ g := by rintro rfl; rw [hs _ _ e] at hg; cases hg
    rw [AHeap.upd_ne _ _ hx]
    exact hk x ob hx (by rw [AHeap.upd_ne _ _ hx]; exact hs _ _ e)
  · have hbg : b ≠ g := ne_of' hn hb
    refine (delR_at σ g b s cs hg hbσ hbg hl).shrink ?_
    rintro r σ' ⟨rfl, hk, C, hC⟩
    refine ⟨g, _, C, hC, fun x ob e => ?_, .inr ⟨g, rfl, AHeap.upd_same _ _ _, hn⟩⟩
    have hx : x ≠ g := by rintro rfl; rw [e] at hn; cases hn
    rw [AHeap.upd_ne _ _ hx]
    exact hk x ob hx (hs _ _ e)
set_option maxRecDepth 8000 in
theorem without_calls (σ : AHeap) (v : Value) (s : List UInt8) (cs : List Rt) (hv : Ruts σ v cs) (hl : cs.length ≤ 1000) :
    ACall Try.prog w0 86 [v, .string (tx s)] σ fun r σ' => Sub σ σ' ∧ OwnR σ σ' r (wo cs s) := by
  refine ACall.ruts_arg (pre := []) (post := [_]) (by kernel_rfl) hv fun σ1 h o hs1 hg => ?_
  refine ACall.mono (R := fun r σ' => Sub σ1 σ' ∧ OwnR σ1 σ' r (wo cs s)) ?_ fun r σ' ⟨s2, O⟩ => ⟨hs1.trans s2, O.older hs1⟩
  refine acall_go mixed Try.func86 rfl good86 fun pr => ?_
  simp -implicitDefEqProofs (disch := omega) only [List.any_cons, List.any_nil, Nat.reduceEqDiff, List.map_cons, List.map_nil, Option.map_some, Option.map_none, List.nil_append, ↓reduceIte, vcu, ↓vcd]
  refine r_boxed fun b τ nb s1 e1 => ?_
  replace e1 : τ b = some ⟨[.string (tx s)], false⟩ := e1
  simp -implicitDefEqProofs (disch := omega) only [List.any_cons, List.any_nil, Nat.reduceEqDiff, List.map_cons, List.map_nil, Option.map_some, Option.map_none, List.nil_append, ↓reduceIte, vcu, ↓vcd]
  refine (cloneR_at τ h o cs (hg.sub s1) (by omega)).mono ?_
  rintro vc τ2 ⟨s2, oc⟩
  simp -implicitDefEqProofs (disch := omega) only [List.any_cons, List.any_nil, Nat.reduceEqDiff, List.map_cons, List.map_nil, Option.map_some, Option.map_none, List.nil_append, ↓reduceIte, vcu, ↓vcd, opK_some]
  refine (delR_calls τ τ2 vc b s cs s2 oc e1 hl).mono ?_
  rintro vd τ3 ⟨s3, od⟩
  simp -implicitDefEqProofs (disch := omega) only [List.any_cons, List.any_nil, Nat.reduceEqDiff, List.map_cons, List.map_nil, Option.map_some, Option.map_none, List.nil_append, ↓reduceIte, vcu, ↓vcd, opK_some]
  refine fin_one Try.results86 ⟨s1.trans s3, ?_⟩
  simp -implicitDefEqProofs (disch := omega) only [List.any_cons, List.any_nil, Nat.reduceEqDiff, List.map_cons, List.map_nil, Option.map_some, Option.map_none, List.nil_append, ↓reduceIte, vcu, ↓vcd]
  exact od.older s1
end Go.Proofs.Ytnenopebfobajaa

namespace Go.Proofs.Ytnenopebfobajaa
open Go Go.Abs Go.RowKit Go.Dial
variable {w0 : World}

theorem cmpR_at (σ : AHeap) (c d : Rt) (hc : c.b.length ≤ 1048576) (hd : d.b.length ≤ 1048576) :
    ACall Try.prog w0 93 [.agg #[.string (tx c.b), .int .i64 c.n], .agg #[.string (tx d.b), .int .i64 d.n]] σ fun r σ' => r = .int .i64 ((d.b.length : Int) - (c.b.length : Int)) ∧ σ' = σ := by
  refine acall_go mixed Try.func93 rfl good93 fun pr => ?_
  simp -implicitDefEqProofs (disch := omega) only [List.any_cons, List.any_nil, Nat.reduceEqDiff, List.map_cons, List.map_nil, Option.map_some, Option.map_none, List.nil_append, ↓reduceIte, vcu, ↓vcd]
  refine r_boxed fun g τ n1 s1 e1 => ?_
  replace e1 : τ g = some ⟨[.string (tx c.b), .int .i64 c.n], false⟩ := e1
  refine r_boxed fun g2 τ2 n2 s2 e2 => ?_
  replace e2 : τ2 g2 = some ⟨[.string (tx d.b), .int .i64 d.n], false⟩ := e2
  have l1 : ld τ2 g (0 + 0) = some (.string (tx c.b)) := ld_of (s2 _ _ e1) rfl
  have l2 : ld τ2 g2 (0 + 0) = some (.string (tx d.b)) := ld_of e2 rfl
  simp -implicitDefEqProofs (disch := omega) only [List.any_cons, List.any_nil, Nat.reduceEqDiff, List.map_cons, List.map_nil, Option.map_some, Option.map_none, List.nil_append, ↓reduceIte, vcu, ↓vcd, l1, l2]
  refine fin_drop Try.results93 σ (s1.trans s2) ⟨?_, rfl⟩
  simp -implicitDefEqProofs (disch := omega) only [List.any_cons, List.any_nil, Nat.reduceEqDiff, List.map_cons, List.map_nil, Option.map_some, Option.map_none, List.nil_append, ↓reduceIte, vcu, ↓vcd]

theorem srtL_len (cs : List Rt) (h3 : ∀ c ∈ cs, c.b.length ≤ 3) (k : Nat) (hk : k ≤ cs.length) : (srtL (cs.take k) 4).length = k := by
  induction k with
  | zero => rfl
  | succ k ih =>
    obtain ⟨A, B, e1, e2, -, -⟩ := srtL_snoc (cs.take k) (cs.getD k rt0) 4 (by have := h3 _ (mem_getR (show k < cs.length by omega)); omega)
    rw [takeR_succ (by omega), e2]
    have := ih (by omega)
    rw [e1] at this
    simp only [List.length_append, List.length_cons] at this ⊢; omega
theorem mem_srtL (cs : List Rt) : ∀ f c, c ∈ srtL cs f → c ∈ cs
  | 0, c, h => by cases h
  | f + 1, c, h => by
    rcases List.mem_append.1 h with h | h
    · exact (mem_ofL.1 h).1
    · exact mem_srtL cs f c h
theorem getR_mid (A B : List Rt) (x : Rt) : (A ++ x :: B).getD A.length rt0 = x := by simp [List.getD]
set_option maxRecDepth 8000 in
theorem insR_at (σ : AHeap) (g : Nat) (cs : List Rt) (hg : σ g = some ⟨ruts cs, false⟩) (hl : cs.length ≤ 8) (h3 : ∀ c ∈ cs, c.b.length ≤ 3) :
    ACall Try.prog w0 115 [.slice (some ⟨g, 0, none⟩) cs.length 2, .int .i64 0, .int .i64 cs.length, .func (.func 93) #[] #[]] σ fun r σ' => Kept g σ σ' ∧ σ' g = some ⟨ruts (srtL cs 4), false⟩ := by
  refine acall_go mixed Try.func115 rfl good115 fun pr => ?_
  simp -implicitDefEqProofs (disch := omega) only [List.any_cons, List.any_nil, Nat.reduceEqDiff, List.map_cons, List.map_nil, Option.map_some, Option.map_none, List.nil_append, ↓reduceIte, vcu, ↓vcd]
  have hinit : srtL (cs.take 1) 4 ++ cs.drop 1 = cs := by
    cases cs with
    | nil => rfl
    | cons c cs =>
      obtain ⟨A, B, e1, e2, -, -⟩ := srtL_snoc [] c 4 (by have := h3 c (by simp); omega)
      have e0 : A ++ B = [] := e1.symm
      obtain ⟨rfl, rfl⟩ := List.append_eq_nil_iff.1 e0
      show srtL ([] ++ [c]) 4 ++ cs = _
      rw [e2]; rfl
  refine vc_loop_c mixed (by kernel_rfl) [0, 1, 2, 3] (fun m a τ => ∃ i : Nat, m = cs.length - i ∧ 1 ≤ i ∧ a 8 = .int .i64 i ∧ Kept g σ τ ∧ τ g = some ⟨ruts (srtL (cs.take i) 4 ++ cs.drop i), false⟩)
    (cs.length - 1) ⟨1, rfl, Nat.le_refl _, rfl, Kept.refl _ _, by rw [hinit]; exact hg⟩ ?_
  rintro m a τ hc ⟨i, hm, hi1, h8, hkp, hgi⟩
  simp -implicitDefEqProofs (disch := omega) only [List.any_cons, List.any_nil, Nat.reduceEqDiff, List.map_cons, List.map_nil, Option.map_some, Option.map_none, List.nil_append, ↓reduceIte, vcu, ↓vcd] at hc
  obtain ⟨h0, h1, h2, h3', -⟩ := hc
  by_cases hlt : i < cs.length
  case neg =>
    rw [List.take_of_length_le (by omega), List.drop_of_length_le (by omega), List.append_nil] at hgi
    simp -implicitDefEqProofs (disch := omega) only [List.any_cons, List.any_nil, Nat.reduceEqDiff, List.map_cons, List.map_nil, Option.map_some, Option.map_none, List.nil_append, ↓reduceIte, vcu, ↓vcd, h0, h1, h2, h3', h8]
    exact fin_unit rfl ⟨hkp, hgi⟩
  have hx3 := h3 _ (mem_getR hlt)
  obtain ⟨A, B, e1, e2, hA, hB⟩ := srtL_snoc (cs.take i) (cs.getD i rt0) 4 (by omega)
  have hlen := srtL_len cs h3 i (by omega)
  have hAB3 : ∀ c ∈ A ++ B, c.b.length ≤ 3 := by
    intro c hc
    rw [← e1] at hc
    exact h3 c (List.mem_of_mem_take (mem_srtL _ _ _ hc))
  rw [e1] at hgi hlen
  rw [List.length_append] at hlen
  have hdr : cs.drop i = cs.getD i rt0 :: cs.drop (i + 1) := by rw [List.drop_eq_getElem_cons hlt]; simp [List.getD, hlt]
  have hnx : srtL (cs.take (i + 1)) 4 ++ cs.drop (i + 1) = A ++ cs.getD i rt0 :: (B ++ cs.drop (i + 1)) := by rw [takeR_succ hlt, e2]; simp
  have hRl : (cs.drop (i + 1)).length = cs.length - (i + 1) := List.length_drop
  rw [hdr] at hgi
  generalize hRe : cs.drop (i + 1) = R at hgi hnx hRl
  generalize cs.getD i rt0 = x at *
  simp -implicitDefEqProofs (disch := omega) only [List.any_cons, List.any_nil, Nat.reduceEqDiff, List.map_cons, List.map_nil, Option.map_some, Option.map_none, List.nil_append, ↓reduceIte, vcu, ↓vcd, h0, h1, h2, h3', h8]
  refine vc_loop_c mixed (by kernel_rfl) [0, 1, 2, 3, 8] (fun m a τ' => ∃ t : Nat, m = t ∧ t ≤ B.length ∧ a 9 = .int .i64 ((A.length + t : Nat) : Int) ∧ Kept g σ τ' ∧ τ' g = some ⟨ruts (A ++ (B.take t ++ x :: (B.drop t ++ R))), false⟩)
    B.length ⟨B.length, rfl, Nat.le_refl _, by rw [hlen]; rfl, hkp, by rw [List.take_length, List.drop_length, List.nil_append]; simpa using hgi⟩ ?_
  rintro m2 a2 τ2 hc2 ⟨t, hm2, htB, h9, hkp2, hgt⟩
  simp -implicitDefEqProofs (disch := omega) only [List.any_cons, List.any_nil, Nat.reduceEqDiff, List.map_cons, List.map_nil, Option.map_some, Option.map_none, List.nil_append, ↓reduceIte, vcu, ↓vcd, h0, h1, h2, h3', h8] at hc2
  obtain ⟨g0, g1, g2, g3, g8, -⟩ := hc2

  have hTl : (A ++ (B.take t ++ x :: (B.drop t ++ R))).length = cs.length := by
    simp only [List.length_append, List.length_cons, List.length_take, List.length_drop, Nat.min_eq_left htB]; omega
  -- P and p stand before x
  have hcase : (A = [] ∧ t = 0) ∨ ∃ (P : List Rt) (p : Rt), A ++ B.take t = P ++ [p] ∧ p.b.length ≤ 1048576 ∧ ((t = 0 ∧ x.b.length ≤ p.b.length) ∨ (∃ t', t = t' + 1 ∧ P = A ++ B.take t' ∧ B.drop t' = p :: B.drop t ∧ p.b.length < x.b.length)) := by
    cases t with
    | zero =>
      rcases List.eq_nil_or_concat A with hA0 | ⟨P, p, hA0⟩
      · exact .inl ⟨hA0, rfl⟩
      · have hpA : p ∈ A := by rw [hA0]; simp
        refine .inr ⟨P, p, by simpa using hA0, ?_, .inl ⟨rfl, hA p hpA⟩⟩
        have hpc : p.b.length ≤ 3 := hAB3 p (by simp [hpA])
        omega
    | succ t' =>
      have hlt' : t' < B.length := htB
      have hpB : B.getD t' rt0 ∈ B := mem_getR hlt'
      refine .inr ⟨A ++ B.take t', B.getD t' rt0, by rw [takeR_succ hlt', List.append_assoc], ?_, .inr ⟨t', rfl, rfl, by rw [List.drop_eq_getElem_cons hlt']; simp [List.getD, hlt'], hB _ hpB⟩⟩
      have := hB _ hpB
      omega
  rcases hcase with ⟨rfl, rfl⟩ | ⟨P, p, hP, hpl, hcmp⟩
  · replace h9 : a2 9 = .int .i64 0 := h9
    have dz : decide ((0 : Int) > 0) = false := rfl
    simp -implicitDefEqProofs (disch := omega) only [List.any_cons, List.any_nil, Nat.reduceEqDiff, List.map_cons, List.map_nil, Option.map_some, Option.map_none, List.nil_append, ↓reduceIte, vcu, ↓vcd, g0, g1, g2, g3, g8, h9]
    refine region_tree mixed (quiets [0, 1, 2, 3] (quiets [4, 5, 6, 7, 9, 10, 11, 12] (quiets [8, 13] (.one 14 (quiets [15, 16] .stop))))) [([8, 13], Sub τ2)] (by kernel_rfl) (by kernel_rfl) (fun p hp => by simp only [List.mem_singleton] at hp; subst hp; exact Sub.refl _) ?_
    refine tree_quiets _ _ _ _ sf0 (by kernel_rfl) (by kernel_rfl) ?_
    simp -implicitDefEqProofs (disch := omega) only [List.any_cons, List.any_nil, Nat.reduceEqDiff, List.map_cons, List.map_nil, Option.map_some, Option.map_none, List.nil_append, ↓reduceIte, vcu, ↓vcd, pickOps_nil, pickOps_cons, pickO_some, List.getElem?_cons_succ, List.getElem?_cons_zero, g0, g1, g2, g3, g8, h9, dz]
    refine tree_quiets _ _ _ _ sf0 (by kernel_rfl) (by kernel_rfl) ?_
    simp -implicitDefEqProofs (disch := omega) only [List.any_cons, List.any_nil, Nat.reduceEqDiff, List.map_cons, List.map_nil, Option.map_some, Option.map_none, List.nil_append, ↓reduceIte, vcu, ↓vcd, pickOps_nil, pickOps_cons, pickO_some, List.getElem?_cons_succ, List.getElem?_cons_zero, g0, g1, g2, g3, g8, h9, dz]
    refine tree_quiets τ2 _ _ _ sf1 (by kernel_rfl) (by kernel_rfl) ?_
    simp -implicitDefEqProofs (disch := omega) only [List.any_cons, List.any_nil, Nat.reduceEqDiff, List.map_cons, List.map_nil, Option.map_some, Option.map_none, List.nil_append, ↓reduceIte, vcu, ↓vcd, pickOps_nil, pickOps_cons, pickO_some, List.getElem?_cons_succ, List.getElem?_cons_zero, g0, g1, g2, g3, g8, h9, dz]
    refine tree_one rfl ?_
    simp -implicitDefEqProofs (disch := omega) only [List.any_cons, List.any_nil, Nat.reduceEqDiff, List.map_cons, List.map_nil, Option.map_some, Option.map_none, List.nil_append, ↓reduceIte, vcu, ↓vcd, pickOps_nil, pickOps_cons, pickO_some, List.getElem?_cons_succ, List.getElem?_cons_zero, g0, g1, g2, g3, g8, h9, dz]
    refine ⟨.inl rfl, ?_⟩
    refine tree_quiets _ _ _ _ sf0 (by kernel_rfl) (by kernel_rfl) ?_
    simp -implicitDefEqProofs (disch := omega) only [List.any_cons, List.any_nil, Nat.reduceEqDiff, List.map_cons, List.map_nil, Option.map_some, Option.map_none, List.nil_append, ↓reduceIte, vcu, ↓vcd, pickOps_nil, pickOps_cons, pickO_some, List.getElem?_cons_succ, List.getElem?_cons_zero, g0, g1, g2, g3, g8, h9, dz]
    refine tree_stop ?_
    simp -implicitDefEqProofs (disch := omega) only [List.any_cons, List.any_nil, Nat.reduceEqDiff, List.map_cons, List.map_nil, Option.map_some, Option.map_none, List.nil_append, ↓reduceIte, vcu, ↓vcd, pickOps_nil, pickOps_cons, pickO_some, List.getElem?_cons_succ, List.getElem?_cons_zero, g0, g1, g2, g3, g8, h9, dz]
    exact ⟨⟨trivial, trivial, trivial, trivial, trivial⟩, cs.length - (i + 1), by omega, i + 1, rfl, by omega, by simp, hkp2, by rw [hRe, hnx]; simpa using hgt⟩
  have hPl : A.length + t = P.length + 1 := by
    have := congrArg List.length hP
    simp only [List.length_append, List.length_take, Nat.min_eq_left htB, List.length_singleton] at this
    exact this
  have hTe : A ++ (B.take t ++ x :: (B.drop t ++ R)) = P ++ p :: x :: (B.drop t ++ R) := by rw [← List.append_assoc, hP, List.append_assoc]; rfl
  have hgt0 := hgt
  rw [hTe] at hgt hTl
  rw [hPl] at h9
  have lx := (rutsAt_own hgt).all (i := P.length + 1) (by simp)
  have lp := (rutsAt_own hgt).all (i := P.length) (by simp)
  have ex : (P ++ p :: x :: (B.drop t ++ R)).getD (P.length + 1) rt0 = x := by simp [List.getD]
  have ep : (P ++ p :: x :: (B.drop t ++ R)).getD P.length rt0 = p := by simp [List.getD]
  rw [ex, Nat.zero_add] at lx
  rw [ep, Nat.zero_add] at lp
  have hKl : P.length + 1 < cs.length := by rw [← hTl]; simp
  have hS : ∀ S : List Rt, (ruts (P ++ p :: x :: S)).length = (P.length + (S.length + 2)) * 2 := fun S => by rw [ruts_length]; simp
  generalize hSe : B.drop t ++ R = S at *
  have w1 := ruts_write (P ++ p :: x :: S) (P.length + 1) (by simp) p
  have w2 := ruts_write (P ++ p :: p :: S) P.length (by simp) x
  have u1 : (P ++ p :: x :: S).set (P.length + 1) p = P ++ p :: p :: S := by simp [List.set_append_right]
  have u2 : (P ++ p :: p :: S).set P.length x = P ++ x :: p :: S := by simp [List.set_append_right]
  rw [u1] at w1
  rw [u2] at w2
  have hS2 : ∀ S : List Rt, (ruts (P ++ p :: p :: S)).length = (P.length + (S.length + 2)) * 2 := fun S => by rw [ruts_length]; simp
  generalize hK : P.length = K at *
  have j1 : (((K + 1 : Nat) : Int) - 1) = (K : Int) := by omega
  have dz : decide (((K + 1 : Nat) : Int) > 0) = true := decide_eq_true (by omega)
  simp -implicitDefEqProofs (disch := omega) only [List.any_cons, List.any_nil, Nat.reduceEqDiff, List.map_cons, List.map_nil, Option.map_some, Option.map_none, List.nil_append, ↓reduceIte, vcu, ↓vcd, g0, g1, g2, g3, g8, h9]
  refine region_tree mixed (quiets [0, 1, 2, 3] (quiets [4, 5, 6, 7, 9, 10, 11, 12] (quiets [8, 13] (.one 14 (quiets [15, 16] .stop))))) [([8, 13], Sub τ2)] (by kernel_rfl) (by kernel_rfl) (fun p hp => by simp only [List.mem_singleton] at hp; subst hp; exact Sub.refl _) ?_
  refine tree_quiets _ _ _ _ sf0 (by kernel_rfl) (by kernel_rfl) ?_
  simp -implicitDefEqProofs (disch := omega) only [List.any_cons, List.any_nil, Nat.reduceEqDiff, List.map_cons, List.map_nil, Option.map_some, Option.map_none, List.nil_append, ↓reduceIte, vcu, ↓vcd, pickOps_nil, pickOps_cons, pickO_some, List.getElem?_cons_succ, List.getElem?_cons_zero, g0, g1, g2, g3, g8, h9, dz, j1]
  refine tree_quiets _ _ _ _ sf0 (by kernel_rfl) (by kernel_rfl) ?_
  simp -implicitDefEqProofs (disch := omega) only [List.any_cons, List.any_nil, Nat.reduceEqDiff, List.map_cons, List.map_nil, Option.map_some, Option.map_none, List.nil_append, ↓reduceIte, vcu, ↓vcd, pickOps_nil, pickOps_cons, pickO_some, List.getElem?_cons_succ, List.getElem?_cons_zero, g0, g1, g2, g3, g8, h9, dz, j1, Int.toNat_natCast, Nat.zero_add]
  refine tree_quiets τ2 _ _ _ sf1 (by kernel_rfl) (by kernel_rfl) ?_
  simp -implicitDefEqProofs (disch := omega) only [List.any_cons, List.any_nil, Nat.reduceEqDiff, List.map_cons, List.map_nil, Option.map_some, Option.map_none, List.nil_append, ↓reduceIte, vcu, ↓vcd, pickOps_nil, pickOps_cons, pickO_some, List.getElem?_cons_succ, List.getElem?_cons_zero, g0, g1, g2, g3, g8, h9, dz, j1, lx, lp, Int.toNat_natCast, Nat.zero_add, co52]
  refine tree_one rfl ?_
  simp -implicitDefEqProofs (disch := omega) only [List.any_cons, List.any_nil, Nat.reduceEqDiff, List.map_cons, List.map_nil, Option.map_some, Option.map_none, List.nil_append, ↓reduceIte, vcu, ↓vcd, pickOps_nil, pickOps_cons, pickO_some, List.getElem?_cons_succ, List.getElem?_cons_zero, g0, g1, g2, g3, g8, h9, dz]
  refine r_callv ⟨(93, #[]), by simp -implicitDefEqProofs (disch := omega) only [List.any_cons, List.any_nil, Nat.reduceEqDiff, List.map_cons, List.map_nil, Option.map_some, Option.map_none, List.nil_append, ↓reduceIte, vcu, ↓vcd, g3], ?_⟩
  simp -implicitDefEqProofs (disch := omega) only [List.any_cons, List.any_nil, Nat.reduceEqDiff, List.map_cons, List.map_nil, Option.map_some, Option.map_none, List.nil_append, ↓reduceIte, vcu, ↓vcd]
  refine (cmpR_at τ2 x p (by omega) hpl).mono ?_
  rintro r _ ⟨rfl, rfl⟩
  rename_i τ2
  rcases hcmp with ⟨rfl, hge⟩ | ⟨t', rfl, hP', hBt, hltp⟩
  · have dl : decide (((p.b.length : Int) - (x.b.length : Int)) < 0) = false := decide_eq_false (by omega)
    simp -implicitDefEqProofs (disch := omega) only [List.any_cons, List.any_nil, Nat.reduceEqDiff, List.map_cons, List.map_nil, Option.map_some, Option.map_none, List.nil_append, ↓reduceIte, vcu, ↓vcd, opK_some]
    refine ⟨.inl rfl, ?_⟩
    refine tree_quiets _ _ _ _ sf0 (by kernel_rfl) (by kernel_rfl) ?_
    simp -implicitDefEqProofs (disch := omega) only [List.any_cons, List.any_nil, Nat.reduceEqDiff, List.map_cons, List.map_nil, Option.map_some, Option.map_none, List.nil_append, ↓reduceIte, vcu, ↓vcd, pickOps_nil, pickOps_cons, pickO_some, List.getElem?_cons_succ, List.getElem?_cons_zero, g0, g1, g2, g3, g8, h9, dz, dl]
    refine tree_stop ?_
    simp -implicitDefEqProofs (disch := omega) only [List.any_cons, List.any_nil, Nat.reduceEqDiff, List.map_cons, List.map_nil, Option.map_some, Option.map_none, List.nil_append, ↓reduceIte, vcu, ↓vcd, pickOps_nil, pickOps_cons, pickO_some, List.getElem?_cons_succ, List.getElem?_cons_zero, g0, g1, g2, g3, g8, h9, dz]
    exact ⟨⟨trivial, trivial, trivial, trivial, trivial⟩, cs.length - (i + 1), by omega, i + 1, rfl, by omega, by simp, hkp2, by rw [hRe, hnx]; rw [← hSe] at hgt0; simpa using hgt0⟩
  have dl : decide (((p.b.length : Int) - (x.b.length : Int)) < 0) = true := decide_eq_true (by omega)
  simp -implicitDefEqProofs (disch := omega) only [List.any_cons, List.any_nil, Nat.reduceEqDiff, List.map_cons, List.map_nil, Option.map_some, Option.map_none, List.nil_append, ↓reduceIte, vcu, ↓vcd, opK_some]
  refine ⟨.inl rfl, ?_⟩
  refine tree_quiets _ _ _ _ sf0 (by kernel_rfl) (by kernel_rfl) ?_
  simp -implicitDefEqProofs (disch := omega) only [List.any_cons, List.any_nil, Nat.reduceEqDiff, List.map_cons, List.map_nil, Option.map_some, Option.map_none, List.nil_append, ↓reduceIte, vcu, ↓vcd, pickOps_nil, pickOps_cons, pickO_some, List.getElem?_cons_succ, List.getElem?_cons_zero, g0, g1, g2, g3, g8, h9, dz, dl]
  refine tree_stop ?_
  simp -implicitDefEqProofs (disch := omega) only [List.any_cons, List.any_nil, Nat.reduceEqDiff, List.map_cons, List.map_nil, Option.map_some, Option.map_none, List.nil_append, ↓reduceIte, vcu, ↓vcd, pickOps_nil, pickOps_cons, pickO_some, List.getElem?_cons_succ, List.getElem?_cons_zero, g0, g1, g2, g3, g8, h9, dz]
  refine region_tree mixed (quiets [0, 1, 2, 3, 4, 5, 6, 7, 8, 10, 11, 12] (quiets [9, 13] (quiets [14] (.one 15 (quiets [16] (.one 17 .stop)))))) [([9, 13], Sub τ2)] (by kernel_rfl) (by kernel_rfl) (fun p hp => by simp only [List.mem_singleton] at hp; subst hp; exact Sub.refl _) ?_
  refine tree_quiets _ _ _ _ sf0 (by kernel_rfl) (by kernel_rfl) ?_
  simp -implicitDefEqProofs (disch := omega) only [List.any_cons, List.any_nil, Nat.reduceEqDiff, List.map_cons, List.map_nil, Option.map_some, Option.map_none, List.nil_append, ↓reduceIte, vcu, ↓vcd, pickOps_nil, pickOps_cons, pickO_some, List.getElem?_cons_succ, List.getElem?_cons_zero, g0, g1, g2, g3, g8, h9, j1, Int.toNat_natCast, Nat.zero_add]
  refine tree_quiets τ2 _ _ _ sf1 (by kernel_rfl) (by kernel_rfl) ?_
  simp -implicitDefEqProofs (disch := omega) only [List.any_cons, List.any_nil, Nat.reduceEqDiff, List.map_cons, List.map_nil, Option.map_some, Option.map_none, List.nil_append, ↓reduceIte, vcu, ↓vcd, pickOps_nil, pickOps_cons, pickO_some, List.getElem?_cons_succ, List.getElem?_cons_zero, g0, g1, g2, g3, g8, h9, j1, lx, lp, Int.toNat_natCast, Nat.zero_add, co52]
  refine tree_quiets _ _ _ _ sf0 (by kernel_rfl) (by kernel_rfl) ?_
  simp -implicitDefEqProofs (disch := omega) only [List.any_cons, List.any_nil, Nat.reduceEqDiff, List.map_cons, List.map_nil, Option.map_some, Option.map_none, List.nil_append, ↓reduceIte, vcu, ↓vcd, pickOps_nil, pickOps_cons, pickO_some, List.getElem?_cons_succ, List.getElem?_cons_zero, g0, g1, g2, g3, g8, h9, j1, Int.toNat_natCast, Nat.zero_add]
  refine tree_one rfl ?_
  refine r_sets (g := g) (i := (K + 1) * 2) (C := ruts (P ++ p :: x :: S)) (by simp -implicitDefEqProofs (disch := omega) only [List.any_cons, List.any_nil, Nat.reduceEqDiff, List.map_cons, List.map_nil, Option.map_some, Option.map_none, List.nil_append, ↓reduceIte, vcu, ↓vcd, Nat.zero_add]) (by simp -implicitDefEqProofs (disch := omega) only [List.any_cons, List.any_nil, Nat.reduceEqDiff, List.map_cons, List.map_nil, Option.map_some, Option.map_none, List.nil_append, ↓reduceIte, vcu, ↓vcd, co52]; rfl) (by simp -implicitDefEqProofs (disch := omega) only [List.any_cons, List.any_nil, Nat.reduceEqDiff, List.map_cons, List.map_nil, Option.map_some, Option.map_none, List.nil_append, ↓reduceIte, vcu, ↓vcd]; rfl) (by simp -implicitDefEqProofs (disch := omega) only [List.any_cons, List.any_nil, Nat.reduceEqDiff, List.map_cons, List.map_nil, Option.map_some, Option.map_none, List.nil_append, ↓reduceIte, vcu, ↓vcd]; exact Nat.zero_lt_succ _) hgt (by simp -implicitDefEqProofs (disch := omega) only [List.any_cons, List.any_nil, Nat.reduceEqDiff, List.map_cons, List.map_nil, Option.map_some, Option.map_none, List.nil_append, ↓reduceIte, vcu, ↓vcd]; rw [hS]; show (K + 1) * 2 + 2 ≤ _; omega) fun τ3 k3 e3 => ?_
  replace e3 : τ3 g = some ⟨lwrite (ruts (P ++ p :: x :: S)) ((K + 1) * 2) [.string (tx p.b), .int .i64 p.n], false⟩ := by rw [e3]; simp -implicitDefEqProofs (disch := omega) only [List.any_cons, List.any_nil, Nat.reduceEqDiff, List.map_cons, List.map_nil, Option.map_some, Option.map_none, List.nil_append, ↓reduceIte, vcu, ↓vcd]; rfl
  rw [w1] at e3
  simp -implicitDefEqProofs (disch := omega) only [List.any_cons, List.any_nil, Nat.reduceEqDiff, List.map_cons, List.map_nil, Option.map_some, Option.map_none, List.nil_append, ↓reduceIte, vcu, ↓vcd]
  refine ⟨keep_of rfl (fun p hp => by simp only [List.mem_singleton] at hp; subst hp; exact .inl (by kernel_rfl)), ?_⟩
  refine tree_quiets _ _ _ _ sf0 (by kernel_rfl) (by kernel_rfl) ?_
  simp -implicitDefEqProofs (disch := omega) only [List.any_cons, List.any_nil, Nat.reduceEqDiff, List.map_cons, List.map_nil, Option.map_some, Option.map_none, List.nil_append, ↓reduceIte, vcu, ↓vcd, pickOps_nil, pickOps_cons, pickO_some, List.getElem?_cons_succ, List.getElem?_cons_zero, g0, g1, g2, g3, g8, h9, j1, Int.toNat_natCast, Nat.zero_add]
  refine tree_one rfl ?_
  refine r_sets (g := g) (i := K * 2) (C := ruts (P ++ p :: p :: S)) (by simp -implicitDefEqProofs (disch := omega) only [List.any_cons, List.any_nil, Nat.reduceEqDiff, List.map_cons, List.map_nil, Option.map_some, Option.map_none, List.nil_append, ↓reduceIte, vcu, ↓vcd, Nat.zero_add]) (by simp -implicitDefEqProofs (disch := omega) only [List.any_cons, List.any_nil, Nat.reduceEqDiff, List.map_cons, List.map_nil, Option.map_some, Option.map_none, List.nil_append, ↓reduceIte, vcu, ↓vcd, co52]; rfl) (by simp -implicitDefEqProofs (disch := omega) only [List.any_cons, List.any_nil, Nat.reduceEqDiff, List.map_cons, List.map_nil, Option.map_some, Option.map_none, List.nil_append, ↓reduceIte, vcu, ↓vcd]; rfl) (by simp -implicitDefEqProofs (disch := omega) only [List.any_cons, List.any_nil, Nat.reduceEqDiff, List.map_cons, List.map_nil, Option.map_some, Option.map_none, List.nil_append, ↓reduceIte, vcu, ↓vcd]; exact Nat.zero_lt_succ _) e3 (by simp -implicitDefEqProofs (disch := omega) only [List.any_cons, List.any_nil, Nat.reduceEqDiff, List.map_cons, List.map_nil, Option.map_some, Option.map_none, List.nil_append, ↓reduceIte, vcu, ↓vcd]; rw [hS2]; show K * 2 + 2 ≤ _; omega) fun τ4 k4 e4 => ?_
  replace e4 : τ4 g = some ⟨lwrite (ruts (P ++ p :: p :: S)) (K * 2) [.string (tx x.b), .int .i64 x.n], false⟩ := by rw [e4]; simp -implicitDefEqProofs (disch := omega) only [List.any_cons, List.any_nil, Nat.reduceEqDiff, List.map_cons, List.map_nil, Option.map_some, Option.map_none, List.nil_append, ↓reduceIte, vcu, ↓vcd]; rfl
  rw [w2] at e4
  simp -implicitDefEqProofs (disch := omega) only [List.any_cons, List.any_nil, Nat.reduceEqDiff, List.map_cons, List.map_nil, Option.map_some, Option.map_none, List.nil_append, ↓reduceIte, vcu, ↓vcd]
  refine ⟨keep_of rfl (fun p hp => by simp only [List.mem_singleton] at hp; subst hp; exact .inl (by kernel_rfl)), ?_⟩
  refine tree_stop ?_
  simp -implicitDefEqProofs (disch := omega) only [List.any_cons, List.any_nil, Nat.reduceEqDiff, List.map_cons, List.map_nil, Option.map_some, Option.map_none, List.nil_append, ↓reduceIte, vcu, ↓vcd, pickOps_nil, pickOps_cons, pickO_some, List.getElem?_cons_succ, List.getElem?_cons_zero, g0, g1, g2, g3, g8, h9, j1]
  have hKt : K = A.length + t' := by omega
  refine ⟨⟨?_, ?_, ?_, ?_, ?_, trivial⟩, t', by omega, t', rfl, by omega, by rw [hKt], (hkp2.trans k3).trans k4, ?_⟩
  all_goals first | trivial | exact h0.symm | exact h1.symm | exact h2.symm | exact h3'.symm | exact h8.symm | skip
  rw [e4, hBt, ← List.append_assoc A, ← hP', ← hSe, List.cons_append]
end Go.Proofs.Ytnenopebfobajaa

namespace Go.Proofs.Ytnenopebfobajaa
open Go Go.Abs Go.RowKit Go.Dial
variable {w0 : World}

theorem stableR_at (σ : AHeap) (g : Nat) (cs : List Rt) (hg : σ g = some ⟨ruts cs, false⟩) (hl : cs.length ≤ 8) (h3 : ∀ c ∈ cs, c.b.length ≤ 3) :
    ACall Try.prog w0 107 [.slice (some ⟨g, 0, none⟩) cs.length 2, .int .i64 cs.length, .func (.func 93) #[] #[]] σ fun r σ' => Kept g σ σ' ∧ σ' g = some ⟨ruts (srtL cs 4), false⟩ := by
  refine acall_go mixed Try.func107 rfl good107 fun pr => ?_
  simp -implicitDefEqProofs (disch := omega) only [List.any_cons, List.any_nil, Nat.reduceEqDiff, List.map_cons, List.map_nil, Option.map_some, Option.map_none, List.nil_append, ↓reduceIte, vcu, ↓vcd]
  refine vc_loop_c mixed (by kernel_rfl) [0, 1, 2, 6, 7, 8] (fun m a σ' => σ' = σ) 0 rfl ?_
  rintro m a _ hc rfl
  rename_i σ
  simp -implicitDefEqProofs (disch := omega) only [List.any_cons, List.any_nil, Nat.reduceEqDiff, List.map_cons, List.map_nil, Option.map_some, Option.map_none, List.nil_append, ↓reduceIte, vcu, ↓vcd] at hc
  obtain ⟨h0, h1, h2, h6, h7, h8, -⟩ := hc
  simp -implicitDefEqProofs (disch := omega) only [List.any_cons, List.any_nil, Nat.reduceEqDiff, List.map_cons, List.map_nil, Option.map_some, Option.map_none, List.nil_append, ↓reduceIte, vcu, ↓vcd, h0, h1, h2, h6, h7, h8]
  refine (insR_at σ g cs hg hl h3).mono ?_
  rintro r τ ⟨hk, hg2⟩
  simp -implicitDefEqProofs (disch := omega) only [List.any_cons, List.any_nil, Nat.reduceEqDiff, List.map_cons, List.map_nil, Option.map_some, Option.map_none, List.nil_append, ↓reduceIte, vcu, ↓vcd, opK_some, h0, h1, h2, h6, h7, h8]
  refine vc_loop_c mixed (by kernel_rfl) [1, 6] (fun m a σ' => σ' = τ) 0 rfl ?_
  rintro m2 a2 _ hc2 rfl
  simp -implicitDefEqProofs (disch := omega) only [List.any_cons, List.any_nil, Nat.reduceEqDiff, List.map_cons, List.map_nil, Option.map_some, Option.map_none, List.nil_append, ↓reduceIte, vcu, ↓vcd, h1, h6] at hc2
  obtain ⟨g1, g6, -⟩ := hc2
  simp -implicitDefEqProofs (disch := omega) only [List.any_cons, List.any_nil, Nat.reduceEqDiff, List.map_cons, List.map_nil, Option.map_some, Option.map_none, List.nil_append, ↓reduceIte, vcu, ↓vcd, g1, g6]
  exact fin_unit rfl ⟨hk, hg2⟩
theorem sortR_at (σ : AHeap) (g : Nat) (cs : List Rt) (hg : σ g = some ⟨ruts cs, false⟩) (hl : cs.length ≤ 8) (h3 : ∀ c ∈ cs, c.b.length ≤ 3) :
    ACall Try.prog w0 92 [.slice (some ⟨g, 0, none⟩) cs.length 2, .func (.func 93) #[] #[]] σ fun r σ' => Kept g σ σ' ∧ σ' g = some ⟨ruts (srtL cs 4), false⟩ := by
  refine acall_go mixed Try.func92 rfl good92 fun pr => ?_
  simp -implicitDefEqProofs (disch := omega) only [List.any_cons, List.any_nil, Nat.reduceEqDiff, List.map_cons, List.map_nil, Option.map_some, Option.map_none, List.nil_append, ↓reduceIte, vcu, ↓vcd]
  refine (stableR_at σ g cs hg hl h3).mono ?_
  rintro r τ ⟨hk, hg2⟩
  simp -implicitDefEqProofs (disch := omega) only [List.any_cons, List.any_nil, Nat.reduceEqDiff, List.map_cons, List.map_nil, Option.map_some, Option.map_none, List.nil_append, ↓reduceIte, vcu, ↓vcd, opK_some]
  exact fin_unit rfl ⟨hk, hg2⟩
theorem srtL_nil : ∀ f, srtL [] f = []
  | 0 => rfl
  | f + 1 => by show ofL [] f ++ srtL [] f = []; rw [srtL_nil f]; rfl
theorem sortR_calls (β σ : AHeap) (v : Value) (cs : List Rt) (hs : Sub β σ) (hv : OwnR β σ v cs) (hl : cs.length ≤ 8) (h3 : ∀ c ∈ cs, c.b.length ≤ 3) :
    ACall Try.prog w0 92 [v, .func (.func 93) #[] #[]] σ fun r σ' => Sub β σ' ∧ OwnR β σ' v (srtL cs 4) := by
  have hlen : (srtL cs 4).length = cs.length := by
    have := srtL_len cs h3 cs.length (Nat.le_refl _)
    rwa [List.take_length] at this
  rcases hv with ⟨rfl, rfl⟩ | ⟨g, rfl, hg, hn⟩
  · refine ACall.nil_arg (pre := []) (z := 2) (by kernel_rfl) fun g hg => ?_
    refine (sortR_at _ g [] (AHeap.upd_same _ _ _) (by simp) (by simp)).mono ?_
    rintro r σ' ⟨hk, -⟩
    refine ⟨fun x ob e => ?_, .inl ⟨rfl, srtL_nil 4⟩⟩
    have hx : x ≠ g := by rintro rfl; rw [hs _ _ e] at hg; cases hg
    exact hk x ob hx (by rw [AHeap.upd_ne _ _ hx]; exact hs _ _ e)
  · refine (sortR_at σ g cs hg hl h3).mono ?_
    rintro r σ' ⟨hk, hg2⟩
    refine ⟨fun x ob e => ?_, .inr ⟨g, by rw [hlen], hg2, hn⟩⟩
    have hx : x ≠ g := by rintro rfl; rw [e] at hn; cases hn
    exact hk x ob hx (hs _ _ e)
theorem longest_at (σ : AHeap) (h o : Nat) (cs : List Rt) (hv : RutsAt σ h o cs) (hl : cs.length ≤ 8) (h3 : ∀ c ∈ cs, c.b.length ≤ 3) :
    ACall Try.prog w0 85 [.slice (some ⟨h, o, none⟩) cs.length 2] σ fun r σ' => Sub σ σ' ∧ OwnR σ σ' r (srtL cs 4) := by
  refine acall_go mixed Try.func85 rfl good85 fun pr => ?_
  simp -implicitDefEqProofs (disch := omega) only [List.any_cons, List.any_nil, Nat.reduceEqDiff, List.map_cons, List.map_nil, Option.map_some, Option.map_none, List.nil_append, ↓reduceIte, vcu, ↓vcd]
  refine (cloneR_at σ h o cs hv (by omega)).mono ?_
  rintro va τ ⟨s1, oa⟩
  simp -implicitDefEqProofs (disch := omega) only [List.any_cons, List.any_nil, Nat.reduceEqDiff, List.map_cons, List.map_nil, Option.map_some, Option.map_none, List.nil_append, ↓reduceIte, vcu, ↓vcd, opK_some]
  refine (sortR_calls σ τ va cs s1 oa hl h3).mono ?_
  rintro r τ2 ⟨s2, ob⟩
  simp -implicitDefEqProofs (disch := omega) only [List.any_cons, List.any_nil, Nat.reduceEqDiff, List.map_cons, List.map_nil, Option.map_some, Option.map_none, List.nil_append, ↓reduceIte, vcu, ↓vcd, opK_some]
  refine fin_one Try.results85 ⟨s2, ?_⟩
  simp -implicitDefEqProofs (disch := omega) only [List.any_cons, List.any_nil, Nat.reduceEqDiff, List.map_cons, List.map_nil, Option.map_some, Option.map_none, List.nil_append, ↓reduceIte, vcu, ↓vcd]
  exact ob
theorem wo_len (cs : List Rt) (b : List UInt8) : (wo cs b).length ≤ cs.length := List.length_filter_le _ _
theorem mem_woc {cs : List Rt} {b : List UInt8} {c : Rt} (h : c ∈ wo cs b) : c ∈ cs := (mem_wo.1 h).1
theorem lstep_len (cs : List Rt) (r : Rt) : (lstep cs r).length ≤ cs.length := by
  unfold lstep; split
  · exact wo_len _ _
  · exact Nat.le_refl _
theorem mem_lstep {cs : List Rt} {r c : Rt} (h : c ∈ lstep cs r) : c ∈ cs := by
  unfold lstep at h; split at h
  · exact mem_woc h
  · exact h
theorem rutLenV {β σ : AHeap} {v : Value} {cs : List Rt} (h : OwnR β σ v cs) : alenV Try.prog 48 v = some (.int .i64 (cs.length : Int)) := by
  rcases h with ⟨rfl, rfl⟩ | ⟨g, rfl, -, -⟩
  · exact alenV_slice Try.underlying48
  · exact alenV_slice Try.underlying48
set_option maxRecDepth 8000 in
theorem implRL_at (σ : AHeap) (h o : Nat) (cs : List Rt) (hv : RutsAt σ h o cs) (hl : cs.length ≤ 1048576) (hp : ∀ c ∈ cs, c.b.length ≤ 1048576) :
    ACall Try.prog w0 61 [.slice (some ⟨h, o, none⟩) cs.length 2] σ fun r σ' => Sub σ σ' ∧ OwnR σ σ' r (lessV cs) := by
  refine acall_go mixed Try.func61 rfl good61 fun pr => ?_
  simp -implicitDefEqProofs (disch := omega) only [List.any_cons, List.any_nil, Nat.reduceEqDiff, List.map_cons, List.map_nil, Option.map_some, Option.map_none, List.nil_append, ↓reduceIte, vcu, ↓vcd]
  refine (implRV_at _ h o cs hv hl hp).mono ?_
  rintro r _ ⟨rfl, rfl⟩
  rename_i σ
  by_cases hok : RtOk cs
  case neg =>
    have d1 : decide (RtOk cs) = false := decide_eq_false hok
    have hV : lessV cs = [] := if_neg hok
    simp -implicitDefEqProofs (disch := omega) only [List.any_cons, List.any_nil, Nat.reduceEqDiff, List.map_cons, List.map_nil, Option.map_some, Option.map_none, List.nil_append, ↓reduceIte, vcu, ↓vcd, opK_some, d1]
    refine fin_one Try.results61 ⟨Sub.refl _, .inl ⟨?_, hV⟩⟩
    simp -implicitDefEqProofs (disch := omega) only [List.any_cons, List.any_nil, Nat.reduceEqDiff, List.map_cons, List.map_nil, Option.map_some, Option.map_none, List.nil_append, ↓reduceIte, vcu, ↓vcd]
  have d1 : decide (RtOk cs) = true := decide_eq_true hok
  have hV : lessV cs = (srtL cs 4).foldl lstep cs := less_fold hok
  have h8 := hok.2
  have h3 : ∀ c ∈ cs, c.b.length ≤ 3 := fun c hc => by
    obtain ⟨k, hk, rfl⟩ := List.mem_iff_getElem.1 hc
    have := (hok.1 k hk).2.1
    simpa [List.getD, hk] using this
  simp -implicitDefEqProofs (disch := omega) only [List.any_cons, List.any_nil, Nat.reduceEqDiff, List.map_cons, List.map_nil, Option.map_some, Option.map_none, List.nil_append, ↓reduceIte, vcu, ↓vcd, opK_some, d1]
  refine (cloneR_at σ h o cs hv hl).mono ?_
  rintro va τ1 ⟨s1, oa⟩
  simp -implicitDefEqProofs (disch := omega) only [List.any_cons, List.any_nil, Nat.reduceEqDiff, List.map_cons, List.map_nil, Option.map_some, Option.map_none, List.nil_append, ↓reduceIte, vcu, ↓vcd, opK_some]
  refine (longest_at τ1 h o cs (hv.sub s1) h8 h3).mono ?_
  rintro vb τ2 ⟨s2, ob⟩
  have hSm : ∀ c ∈ srtL cs 4, c ∈ cs := mem_srtL cs 4
  have hSl : (srtL cs 4).length = cs.length := by
    have := srtL_len cs h3 cs.length (Nat.le_refl _)
    rwa [List.take_length] at this
  generalize srtL cs 4 = S at ob hV hSm hSl
  have hlen := rutLenV ob
  simp -implicitDefEqProofs (disch := omega) only [List.any_cons, List.any_nil, Nat.reduceEqDiff, List.map_cons, List.map_nil, Option.map_some, Option.map_none, List.nil_append, ↓reduceIte, vcu, ↓vcd, opK_some, hlen]
  refine vc_loop_c mixed (by kernel_rfl) [13, 14] (fun m a σ' => ∃ k : Nat, m + k = S.length ∧ a 15 = .int .i64 k ∧ RtOk ((S.take k).foldl lstep cs) ∧ ((S.take k).foldl lstep cs).length ≤ 8 ∧ (∀ c ∈ (S.take k).foldl lstep cs, c ∈ cs) ∧ Sub τ2 σ' ∧ OwnR σ σ' (a 3) ((S.take k).foldl lstep cs)) S.length
    ⟨0, by simp, rfl, hok, h8, fun _ hc => hc, Sub.refl _, oa.sub s2⟩ ?_
  rintro m a τ3 hc ⟨k, hk, h15, nok, n8, nmem, hs3, on⟩
  simp -implicitDefEqProofs (disch := omega) only [List.any_cons, List.any_nil, Nat.reduceEqDiff, List.map_cons, List.map_nil, Option.map_some, Option.map_none, List.nil_append, ↓reduceIte, vcu, ↓vcd] at hc
  obtain ⟨h13, h14, -⟩ := hc
  by_cases hlt : k < S.length
  case neg =>
    obtain rfl : k = S.length := by omega
    rw [List.take_length, ← hV] at on
    simp -implicitDefEqProofs (disch := omega) only [List.any_cons, List.any_nil, Nat.reduceEqDiff, List.map_cons, List.map_nil, Option.map_some, Option.map_none, List.nil_append, ↓reduceIte, vcu, ↓vcd, h13, h14, h15]
    refine fin_one Try.results61 ⟨(s1.trans s2).trans hs3, ?_⟩
    simp -implicitDefEqProofs (disch := omega) only [List.any_cons, List.any_nil, Nat.reduceEqDiff, List.map_cons, List.map_nil, Option.map_some, Option.map_none, List.nil_append, ↓reduceIte, vcu, ↓vcd]
    exact on
  have hst : (S.take (k + 1)).foldl lstep cs = lstep ((S.take k).foldl lstep cs) (S.getD k rt0) := by rw [takeR_succ hlt, List.foldl_append]; rfl
  have hrm := hSm _ (mem_getR hlt)
  obtain ⟨gb, rfl, hgb, hnb⟩ := ob.row (by omega)
  have hx := (rutsAt_own (hs3 _ _ hgb)).all hlt
  rw [Nat.zero_add] at hx
  have hb := hp _ hrm
  generalize (S.take k).foldl lstep cs = now at *
  generalize S.getD k rt0 = rr at *
  simp -implicitDefEqProofs (disch := omega) only [List.any_cons, List.any_nil, Nat.reduceEqDiff, List.map_cons, List.map_nil, Option.map_some, Option.map_none, List.nil_append, ↓reduceIte, vcu, ↓vcd, h13, h14, h15, hx, co52, Nat.zero_add]
  refine r_local (cs := #[.string (tx rr.b), .int .i64 rr.n]) ze52 (by decide) (by simp -implicitDefEqProofs (disch := omega) only [List.any_cons, List.any_nil, Nat.reduceEqDiff, List.map_cons, List.map_nil, Option.map_some, Option.map_none, List.nil_append, ↓reduceIte, vcu, ↓vcd]) (by rw [co52]; rfl) rfl rfl (Nat.zero_lt_succ _) fun p τ4 np sp ep => ?_
  have lb : ∀ τ', Sub τ4 τ' → ld τ' p (0 + 0) = some (.string (tx rr.b)) := fun τ' s => ld_of (s _ _ ep) rfl
  have ln : ∀ τ', Sub τ4 τ' → ld τ' p (0 + 1) = some (.int .i64 rr.n) := fun τ' s => ld_of (s _ _ ep) rfl
  have lb4 := lb τ4 (Sub.refl _)
  have on4 := on.sub sp
  simp -implicitDefEqProofs (disch := omega) only [List.any_cons, List.any_nil, Nat.reduceEqDiff, List.map_cons, List.map_nil, Option.map_some, Option.map_none, List.nil_append, ↓reduceIte, vcu, ↓vcd, h13, h14, h15, lb4]
  refine (without_calls τ4 (a 3) rr.b now on4.ruts (by omega)).mono ?_
  rintro vw τ5 ⟨s5, ow⟩
  have lb5 := lb τ5 s5
  have ln5 := ln τ5 s5
  have hσ4 : Sub σ τ4 := ((s1.trans s2).trans hs3).trans sp
  have hwl := wo_len now rr.b
  have hwp : ∀ c ∈ wo now rr.b, c.b.length ≤ 1048576 := fun c hc => hp _ (nmem _ (mem_woc hc))
  simp -implicitDefEqProofs (disch := omega) only [List.any_cons, List.any_nil, Nat.reduceEqDiff, List.map_cons, List.map_nil, Option.map_some, Option.map_none, List.nil_append, ↓reduceIte, vcu, ↓vcd, opK_some, lb5, ln5]
  rw [r_callq]
  refine ⟨_, implRO_calls τ5 vw (wo now rr.b) rr.b ow.ruts (by omega) hwp hb, ?_⟩
  by_cases hr : routeV (wo now rr.b) rr.b = rr.n
  · have hls : lstep now rr = wo now rr.b := if_pos hr
    have d3 : decide (routeV (wo now rr.b) rr.b = rr.n) = true := decide_eq_true hr
    simp -implicitDefEqProofs (disch := omega) only [List.any_cons, List.any_nil, Nat.reduceEqDiff, List.map_cons, List.map_nil, Option.map_some, Option.map_none, List.nil_append, ↓reduceIte, vcu, ↓vcd, h13, h14, h15, lb5, ln5, d3]
    exact ⟨⟨trivial, trivial, trivial⟩, m - 1, by omega, k + 1, by omega, by simp, by rw [hst, hls]; exact wo_ok nok _, by rw [hst, hls]; omega, by rw [hst, hls]; exact fun c hc => nmem _ (mem_woc hc), (hs3.trans sp).trans s5, by rw [hst, hls]; exact ow.older hσ4⟩
  · have hls : lstep now rr = now := if_neg hr
    have d3 : decide (routeV (wo now rr.b) rr.b = rr.n) = false := decide_eq_false hr
    simp -implicitDefEqProofs (disch := omega) only [List.any_cons, List.any_nil, Nat.reduceEqDiff, List.map_cons, List.map_nil, Option.map_some, Option.map_none, List.nil_append, ↓reduceIte, vcu, ↓vcd, h13, h14, h15, lb5, ln5, d3]
    exact ⟨⟨trivial, trivial, trivial⟩, m - 1, by omega, k + 1, by omega, by simp, by rw [hst, hls]; exact nok, by rw [hst, hls]; exact n8, by rw [hst, hls]; exact nmem, (hs3.trans sp).trans s5, by rw [hst, hls]; exact on4.sub s5⟩
theorem implRL_calls (σ : AHeap) (v : Value) (cs : List Rt) (hv : Ruts σ v cs) (hl : cs.length ≤ 1048576) (hp : ∀ c ∈ cs, c.b.length ≤ 1048576) : ACall Try.prog w0 61 [v] σ fun r σ' => Sub σ σ' ∧ OwnR σ σ' r (lessV cs) :=
  ACall.ruts_arg (pre := []) (post := []) (by kernel_rfl) hv fun σ1 h o hs hg => (implRL_at σ1 h o cs hg hl hp).mono fun _ _ ⟨s, O⟩ => ⟨hs.trans s, O.older hs⟩
end Go.Proofs.Ytnenopebfobajaa

namespace Go.Proofs.Ytnenopebfobajaa
open Go Go.Abs Go.RowKit Go.Dial
variable {w0 : World}

theorem nanI_at (σ : AHeap) (x : Int) : ACall Try.prog w0 114 [.int .i64 x] σ fun r σ' => r = .bool false ∧ σ' = σ := by
  refine acall_go mixed Try.func114 rfl good114 fun pr => ?_
  have d : decide (x ≠ x) = false := decide_eq_false (by simp)
  simp -implicitDefEqProofs (disch := omega) only [List.any_cons, List.any_nil, Nat.reduceEqDiff, List.map_cons, List.map_nil, Option.map_some, Option.map_none, List.nil_append, ↓reduceIte, vcu, ↓vcd, d]
  refine fin_one Try.results114 ⟨?_, rfl⟩
  simp -implicitDefEqProofs (disch := omega) only [List.any_cons, List.any_nil, Nat.reduceEqDiff, List.map_cons, List.map_nil, Option.map_some, Option.map_none, List.nil_append, ↓reduceIte, vcu, ↓vcd]
theorem lessI_at (σ : AHeap) (x y : Int) : ACall Try.prog w0 102 [.int .i64 x, .int .i64 y] σ fun r σ' => r = .bool (decide (x < y)) ∧ σ' = σ := by
  refine acall_go mixed Try.func102 rfl good102 fun pr => ?_
  simp -implicitDefEqProofs (disch := omega) only [List.any_cons, List.any_nil, Nat.reduceEqDiff, List.map_cons, List.map_nil, Option.map_some, Option.map_none, List.nil_append, ↓reduceIte, vcu, ↓vcd]
  refine (nanI_at _ x).mono ?_
  rintro r _ ⟨rfl, rfl⟩
  simp -implicitDefEqProofs (disch := omega) only [List.any_cons, List.any_nil, Nat.reduceEqDiff, List.map_cons, List.map_nil, Option.map_some, Option.map_none, List.nil_append, ↓reduceIte, vcu, ↓vcd, opK_some]
  refine fin_one Try.results102 ⟨?_, rfl⟩
  simp -implicitDefEqProofs (disch := omega) only [List.any_cons, List.any_nil, Nat.reduceEqDiff, List.map_cons, List.map_nil, Option.map_some, Option.map_none, List.nil_append, ↓reduceIte, vcu, ↓vcd]

/-- where one belongs in an ascending list -/
theorem Srt.cut : ∀ {P : List Int} (x : Int), Srt P → ∃ A B, P = A ++ B ∧ (∀ y ∈ A, y ≤ x) ∧ ∀ y ∈ B, x < y
  | [], x, _ => ⟨[], [], rfl, by simp, by simp⟩
  | p :: P, x, h => by
    by_cases hp : p ≤ x
    · obtain ⟨A, B, e, hA, hB⟩ := Srt.cut x h.2
      refine ⟨p :: A, B, by rw [e]; rfl, fun y hy => ?_, hB⟩
      rcases List.mem_cons.1 hy with rfl | hy
      · exact hp
      · exact hA y hy
    · refine ⟨[], p :: P, rfl, by simp, fun y hy => ?_⟩
      rcases List.mem_cons.1 hy with rfl | hy
      · omega
      · have := h.1 y hy; omega
theorem takeI_succ {xs : List Int} {k : Nat} (h : k < xs.length) : xs.take (k + 1) = xs.take k ++ [xs.getD k 0] := by
  rw [List.take_succ_eq_append_getElem h]; simp [List.getD, h]
theorem mem_getI {xs : List Int} {k : Nat} (h : k < xs.length) : xs.getD k 0 ∈ xs := by simp [List.getD, h]
set_option maxRecDepth 8000 in
theorem insI_at (σ : AHeap) (g : Nat) (xs : List Int) (hg : σ g = some ⟨ints .i64 xs, false⟩) (hl : xs.length ≤ 12) :
    ACall Try.prog w0 96 [.slice (some ⟨g, 0, none⟩) xs.length 1, .int .i64 0, .int .i64 xs.length] σ fun r σ' => ∃ ys, Srt ys ∧ xs.Perm ys ∧ Kept g σ σ' ∧ σ' g = some ⟨ints .i64 ys, false⟩ := by
  refine acall_go mixed Try.func96 rfl good96 fun pr => ?_
  simp -implicitDefEqProofs (disch := omega) only [List.any_cons, List.any_nil, Nat.reduceEqDiff, List.map_cons, List.map_nil, Option.map_some, Option.map_none, List.nil_append, ↓reduceIte, vcu, ↓vcd]
  have hinit : ∃ P, Srt P ∧ (xs.take 1).Perm P ∧ σ g = some ⟨ints .i64 (P ++ xs.drop 1), false⟩ := by
    refine ⟨xs.take 1, ?_, List.Perm.refl _, by rw [List.take_append_drop]; exact hg⟩
    cases xs with
    | nil => exact trivial
    | cons x xs => exact ⟨by simp, trivial⟩
  obtain ⟨P0, hP0, hP1, hP2⟩ := hinit
  refine vc_loop_c mixed (by kernel_rfl) [0, 1, 2] (fun m a τ => ∃ (i : Nat) (P : List Int), m = xs.length - i ∧ 1 ≤ i ∧ a 6 = .int .i64 i ∧ Srt P ∧ (xs.take i).Perm P ∧ Kept g σ τ ∧ τ g = some ⟨ints .i64 (P ++ xs.drop i), false⟩)
    (xs.length - 1) ⟨1, P0, rfl, Nat.le_refl _, rfl, hP0, hP1, Kept.refl _ _, hP2⟩ ?_
  rintro m a τ hc ⟨i, P, hm, hi1, h6, hsP, hpP, hkp, hgi⟩
  simp -implicitDefEqProofs (disch := omega) only [List.any_cons, List.any_nil, Nat.reduceEqDiff, List.map_cons, List.map_nil, Option.map_some, Option.map_none, List.nil_append, ↓reduceIte, vcu, ↓vcd] at hc
  obtain ⟨h0, h1, h2, -⟩ := hc
  by_cases hlt : i < xs.length
  case neg =>
    rw [List.drop_of_length_le (by omega), List.append_nil] at hgi
    rw [List.take_of_length_le (by omega)] at hpP
    simp -implicitDefEqProofs (disch := omega) only [List.any_cons, List.any_nil, Nat.reduceEqDiff, List.map_cons, List.map_nil, Option.map_some, Option.map_none, List.nil_append, ↓reduceIte, vcu, ↓vcd, h0, h1, h2, h6]
    exact fin_unit rfl ⟨P, hsP, hpP, hkp, hgi⟩
  obtain ⟨A, B, e1, hA, hB⟩ := hsP.cut (xs.getD i 0)
  have hlen : P.length = i := by rw [← hpP.length_eq, List.length_take]; omega
  have hnew := Srt.ins (a := A) (b := B) (x := xs.getD i 0) (e1 ▸ hsP) hA fun y hy => Int.le_of_lt (hB y hy)
  have hnp : (xs.take (i + 1)).Perm (A ++ xs.getD i 0 :: B) := by
    rw [takeI_succ hlt]
    refine (List.Perm.append_right _ hpP).trans ?_
    rw [e1, List.append_assoc]
    exact List.Perm.append_left _ (List.perm_append_singleton _ _)
  rw [e1, List.length_append] at hlen
  have hdr : xs.drop i = xs.getD i 0 :: xs.drop (i + 1) := by rw [List.drop_eq_getElem_cons hlt]; simp [List.getD, hlt]
  have hRl : (xs.drop (i + 1)).length = xs.length - (i + 1) := List.length_drop
  rw [hdr, e1] at hgi
  generalize hRe : xs.drop (i + 1) = R at hgi hRl
  generalize xs.getD i 0 = x at *
  simp -implicitDefEqProofs (disch := omega) only [List.any_cons, List.any_nil, Nat.reduceEqDiff, List.map_cons, List.map_nil, Option.map_some, Option.map_none, List.nil_append, ↓reduceIte, vcu, ↓vcd, h0, h1, h2, h6]
  refine vc_loop_c mixed (by kernel_rfl) [0, 1, 2, 6] (fun m a τ' => ∃ t : Nat, m = t ∧ t ≤ B.length ∧ a 7 = .int .i64 ((A.length + t : Nat) : Int) ∧ Kept g σ τ' ∧ τ' g = some ⟨ints .i64 (A ++ (B.take t ++ x :: (B.drop t ++ R))), false⟩)
    B.length ⟨B.length, rfl, Nat.le_refl _, by rw [hlen]; rfl, hkp, by rw [List.take_length, List.drop_length, List.nil_append]; simpa using hgi⟩ ?_
  rintro m2 a2 τ2 hc2 ⟨t, hm2, htB, h7, hkp2, hgt⟩
  simp -implicitDefEqProofs (disch := omega) only [List.any_cons, List.any_nil, Nat.reduceEqDiff, List.map_cons, List.map_nil, Option.map_some, Option.map_none, List.nil_append, ↓reduceIte, vcu, ↓vcd, h0, h1, h2, h6] at hc2
  obtain ⟨g0, g1, g2, g6, -⟩ := hc2
  have hTl : (A ++ (B.take t ++ x :: (B.drop t ++ R))).length = xs.length := by
    simp only [List.length_append, List.length_cons, List.length_take, List.length_drop, Nat.min_eq_left htB]; omega
  have hcase : (A = [] ∧ t = 0) ∨ ∃ (P : List Int) (p : Int), A ++ B.take t = P ++ [p] ∧ ((t = 0 ∧ p ≤ x) ∨ (∃ t', t = t' + 1 ∧ P = A ++ B.take t' ∧ B.drop t' = p :: B.drop t ∧ x < p)) := by
    cases t with
    | zero =>
      rcases List.eq_nil_or_concat A with hA0 | ⟨P, p, hA0⟩
      · exact .inl ⟨hA0, rfl⟩
      · have hpA : p ∈ A := by rw [hA0]; simp
        exact .inr ⟨P, p, by simpa using hA0, .inl ⟨rfl, hA p hpA⟩⟩
    | succ t' =>
      have hlt' : t' < B.length := htB
      have hpB : B.getD t' 0 ∈ B := mem_getI hlt'
      exact .inr ⟨A ++ B.take t', B.getD t' 0, by rw [takeI_succ hlt', List.append_assoc], .inr ⟨t', rfl, rfl, by rw [List.drop_eq_getElem_cons hlt']; simp [List.getD, hlt'], hB _ hpB⟩⟩
  rcases hcase with ⟨rfl, rfl⟩ | ⟨P, p, hP, hcmp⟩
  · replace h7 : a2 7 = .int .i64 0 := h7
    have dz : decide ((0 : Int) > 0) = false := rfl
    simp -implicitDefEqProofs (disch := omega) only [List.any_cons, List.any_nil, Nat.reduceEqDiff, List.map_cons, List.map_nil, Option.map_some, Option.map_none, List.nil_append, ↓reduceIte, vcu, ↓vcd, g0, g1, g2, g6, h7, dz]
    exact ⟨⟨trivial, trivial, trivial, trivial⟩, xs.length - (i + 1), by omega, i + 1, _, rfl, by omega, by simp, hnew, hnp, hkp2, by rw [hRe]; simpa using hgt⟩
  have hPl : A.length + t = P.length + 1 := by
    have := congrArg List.length hP
    simp only [List.length_append, List.length_take, Nat.min_eq_left htB, List.length_singleton] at this
    exact this
  have hTe : A ++ (B.take t ++ x :: (B.drop t ++ R)) = P ++ p :: x :: (B.drop t ++ R) := by rw [← List.append_assoc, hP, List.append_assoc]; rfl
  have hgt0 := hgt
  rw [hTe] at hgt hTl
  rw [hPl] at h7
  have lx := intsAt_own hgt (P.length + 1) (by simp)
  have lp := intsAt_own hgt P.length (by simp)
  have ex : (P ++ p :: x :: (B.drop t ++ R)).getD (P.length + 1) 0 = x := by simp [List.getD]
  have ep : (P ++ p :: x :: (B.drop t ++ R)).getD P.length 0 = p := by simp [List.getD]
  rw [ex, Nat.zero_add] at lx
  rw [ep, Nat.zero_add] at lp
  have hKl : P.length + 1 < xs.length := by rw [← hTl]; simp
  generalize hSe : B.drop t ++ R = S at *
  have u1 : (P ++ p :: x :: S).set (P.length + 1) p = P ++ p :: p :: S := by simp [List.set_append_right]
  have u2 : (P ++ p :: p :: S).set P.length x = P ++ x :: p :: S := by simp [List.set_append_right]
  have hS1 : P.length + 1 < (P ++ p :: x :: S).length := by simp
  have hS2 : P.length < (P ++ p :: p :: S).length := by simp
  generalize hK : P.length = K at *
  have j1 : (((K + 1 : Nat) : Int) - 1) = (K : Int) := by omega
  have dz : decide (((K + 1 : Nat) : Int) > 0) = true := decide_eq_true (by omega)
  simp -implicitDefEqProofs (disch := omega) only [List.any_cons, List.any_nil, Nat.reduceEqDiff, List.map_cons, List.map_nil, Option.map_some, Option.map_none, List.nil_append, ↓reduceIte, vcu, ↓vcd, g0, g1, g2, g6, h7, dz, j1, lx, lp, Int.toNat_natCast, Nat.zero_add]
  rw [r_callq]
  refine ⟨_, lessI_at _ x p, ?_⟩
  rcases hcmp with ⟨rfl, hge⟩ | ⟨t', rfl, hP', hBt, hltp⟩
  · have dl : decide (x < p) = false := decide_eq_false (by omega)
    simp -implicitDefEqProofs (disch := omega) only [List.any_cons, List.any_nil, Nat.reduceEqDiff, List.map_cons, List.map_nil, Option.map_some, Option.map_none, List.nil_append, ↓reduceIte, vcu, ↓vcd, g0, g1, g2, g6, h7, dz, dl]
    exact ⟨⟨trivial, trivial, trivial, trivial⟩, xs.length - (i + 1), by omega, i + 1, _, rfl, by omega, by simp, hnew, hnp, hkp2, by rw [hRe]; rw [← hSe] at hgt0; simpa using hgt0⟩
  have dl : decide (x < p) = true := decide_eq_true hltp
  simp -implicitDefEqProofs (disch := omega) only [List.any_cons, List.any_nil, Nat.reduceEqDiff, List.map_cons, List.map_nil, Option.map_some, Option.map_none, List.nil_append, ↓reduceIte, vcu, ↓vcd, g0, g1, g2, g6, h7, dz, dl]
  refine region_tree mixed (quiets [0, 1, 2, 3, 4, 5, 6, 7, 8, 10, 11, 12] (quiets [9, 13] (quiets [14] (.one 15 (quiets [16] (.one 17 .stop)))))) [([9, 13], Sub τ2)] (by kernel_rfl) (by kernel_rfl) (fun p hp => by simp only [List.mem_singleton] at hp; subst hp; exact Sub.refl _) ?_
  refine tree_quiets _ _ _ _ sf0 (by kernel_rfl) (by kernel_rfl) ?_
  simp -implicitDefEqProofs (disch := omega) only [List.any_cons, List.any_nil, Nat.reduceEqDiff, List.map_cons, List.map_nil, Option.map_some, Option.map_none, List.nil_append, ↓reduceIte, vcu, ↓vcd, pickOps_nil, pickOps_cons, pickO_some, List.getElem?_cons_succ, List.getElem?_cons_zero, g0, g1, g2, g6, h7, j1, Int.toNat_natCast, Nat.zero_add]
  refine tree_quiets τ2 _ _ _ sf1 (by kernel_rfl) (by kernel_rfl) ?_
  simp -implicitDefEqProofs (disch := omega) only [List.any_cons, List.any_nil, Nat.reduceEqDiff, List.map_cons, List.map_nil, Option.map_some, Option.map_none, List.nil_append, ↓reduceIte, vcu, ↓vcd, pickOps_nil, pickOps_cons, pickO_some, List.getElem?_cons_succ, List.getElem?_cons_zero, g0, g1, g2, g6, h7, j1, lx, lp, Int.toNat_natCast, Nat.zero_add]
  refine tree_quiets _ _ _ _ sf0 (by kernel_rfl) (by kernel_rfl) ?_
  simp -implicitDefEqProofs (disch := omega) only [List.any_cons, List.any_nil, Nat.reduceEqDiff, List.map_cons, List.map_nil, Option.map_some, Option.map_none, List.nil_append, ↓reduceIte, vcu, ↓vcd, pickOps_nil, pickOps_cons, pickO_some, List.getElem?_cons_succ, List.getElem?_cons_zero, g0, g1, g2, g6, h7, j1, Int.toNat_natCast, Nat.zero_add]
  refine tree_one rfl ?_
  refine r_setI (g := g) (i := K + 1) (v := p) (by simp -implicitDefEqProofs (disch := omega) only [List.any_cons, List.any_nil, Nat.reduceEqDiff, List.map_cons, List.map_nil, Option.map_some, Option.map_none, List.nil_append, ↓reduceIte, vcu, ↓vcd, Nat.zero_add]) (by simp -implicitDefEqProofs (disch := omega) only [List.any_cons, List.any_nil, Nat.reduceEqDiff, List.map_cons, List.map_nil, Option.map_some, Option.map_none, List.nil_append, ↓reduceIte, vcu, ↓vcd]) co3 hgt hS1 fun τ3 k3 e3 => ?_
  rw [u1] at e3
  simp -implicitDefEqProofs (disch := omega) only [List.any_cons, List.any_nil, Nat.reduceEqDiff, List.map_cons, List.map_nil, Option.map_some, Option.map_none, List.nil_append, ↓reduceIte, vcu, ↓vcd]
  refine ⟨keep_of rfl (fun p hp => by simp only [List.mem_singleton] at hp; subst hp; exact .inl (by kernel_rfl)), ?_⟩
  refine tree_quiets _ _ _ _ sf0 (by kernel_rfl) (by kernel_rfl) ?_
  simp -implicitDefEqProofs (disch := omega) only [List.any_cons, List.any_nil, Nat.reduceEqDiff, List.map_cons, List.map_nil, Option.map_some, Option.map_none, List.nil_append, ↓reduceIte, vcu, ↓vcd, pickOps_nil, pickOps_cons, pickO_some, List.getElem?_cons_succ, List.getElem?_cons_zero, g0, g1, g2, g6, h7, j1, Int.toNat_natCast, Nat.zero_add]
  refine tree_one rfl ?_
  refine r_setI (g := g) (i := K) (v := x) (by simp -implicitDefEqProofs (disch := omega) only [List.any_cons, List.any_nil, Nat.reduceEqDiff, List.map_cons, List.map_nil, Option.map_some, Option.map_none, List.nil_append, ↓reduceIte, vcu, ↓vcd, Nat.zero_add]) (by simp -implicitDefEqProofs (disch := omega) only [List.any_cons, List.any_nil, Nat.reduceEqDiff, List.map_cons, List.map_nil, Option.map_some, Option.map_none, List.nil_append, ↓reduceIte, vcu, ↓vcd]) co3 e3 hS2 fun τ4 k4 e4 => ?_
  rw [u2] at e4
  simp -implicitDefEqProofs (disch := omega) only [List.any_cons, List.any_nil, Nat.reduceEqDiff, List.map_cons, List.map_nil, Option.map_some, Option.map_none, List.nil_append, ↓reduceIte, vcu, ↓vcd]
  refine ⟨keep_of rfl (fun p hp => by simp only [List.mem_singleton] at hp; subst hp; exact .inl (by kernel_rfl)), ?_⟩
  refine tree_stop ?_
  simp -implicitDefEqProofs (disch := omega) only [List.any_cons, List.any_nil, Nat.reduceEqDiff, List.map_cons, List.map_nil, Option.map_some, Option.map_none, List.nil_append, ↓reduceIte, vcu, ↓vcd, pickOps_nil, pickOps_cons, pickO_some, List.getElem?_cons_succ, List.getElem?_cons_zero, g0, g1, g2, g6, h7, j1]
  have hKt : K = A.length + t' := by omega
  refine ⟨⟨?_, ?_, ?_, ?_, trivial⟩, t', by omega, t', rfl, by omega, by rw [hKt], (hkp2.trans k3).trans k4, ?_⟩
  all_goals first | trivial | exact h0.symm | exact h1.symm | exact h2.symm | exact h6.symm | skip
  rw [e4, hBt, ← List.append_assoc A, ← hP', ← hSe, List.cons_append]
end Go.Proofs.Ytnenopebfobajaa

namespace Go.Proofs.Ytnenopebfobajaa
open Go Go.Abs Go.RowKit Go.Dial
variable {w0 : World}

theorem abin_wge {t : TypeId} {a b : Int} : abin Try.prog t .geq (.int .u64 a) (.int .u64 b) = some (.bool (decide (a ≥ b))) := by simp [abin]
theorem conv_w8 {b : Int} (h : 0 ≤ b ∧ b ≤ 255) : aconv Try.prog 97 5 (.int .u64 b) = some (.int .u8 b) := by
  simp only [aconv, Try.underlying97, Try.underlying5]
  congr 2
  show b % 256 = b
  omega
theorem conv_iu {b : Int} (h : 0 ≤ b ∧ b ≤ 255) : aconv Try.prog 3 80 (.int .i64 b) = some (.int .u64 b) := by
  simp only [aconv, Try.underlying3, Try.underlying80]
  congr 2
  show b % 18446744073709551616 = b
  omega
theorem conv_uw {b : Int} (h : 0 ≤ b ∧ b ≤ 255) : aconv Try.prog 80 97 (.int .u64 b) = some (.int .u64 b) := by
  simp only [aconv, Try.underlying80, Try.underlying97]
  congr 2
  show b % 18446744073709551616 = b
  omega
theorem len64_at (σ : AHeap) (n : Nat) (hn : n ≤ 12) : ACall Try.prog w0 106 [.int .u64 n] σ fun r σ' => (∃ z : Int, r = .int .i64 z) ∧ σ' = σ := by
  refine acall_go mixed Try.func106 rfl good106 fun pr => ?_
  have d1 : decide ((n : Int) ≥ 4294967296) = false := decide_eq_false (by omega)
  have d2 : decide ((n : Int) ≥ 65536) = false := decide_eq_false (by omega)
  have d3 : decide ((n : Int) ≥ 256) = false := decide_eq_false (by omega)
  simp -implicitDefEqProofs (disch := omega) only [List.any_cons, List.any_nil, Nat.reduceEqDiff, List.map_cons, List.map_nil, Option.map_some, Option.map_none, List.nil_append, ↓reduceIte, vcu, ↓vcd, abin_wge, d1, d2, d3, conv_w8]
  refine ⟨_, .u8, (n : Int), rfl, rfl, by omega, Int.lt_of_lt_of_le (b := 13) (by omega) (of_decide_eq_true (by kernel_rfl)), ?_⟩
  generalize List.getD _ _ _ = b
  have hb := u8_le b
  show vcR _ _ _ _ _ _ _ _
  simp -implicitDefEqProofs (disch := omega) only [List.any_cons, List.any_nil, Nat.reduceEqDiff, List.map_cons, List.map_nil, Option.map_some, Option.map_none, List.nil_append, ↓reduceIte, vcu, ↓vcd, conv_u8]
  refine fin_one Try.results106 ⟨⟨0 + (b.toNat : Int), ?_⟩, rfl⟩
  simp -implicitDefEqProofs (disch := omega) only [List.any_cons, List.any_nil, Nat.reduceEqDiff, List.map_cons, List.map_nil, Option.map_some, Option.map_none, List.nil_append, ↓reduceIte, vcu, ↓vcd]
theorem len_at (σ : AHeap) (n : Nat) (hn : n ≤ 12) : ACall Try.prog w0 91 [.int .u64 n] σ fun r σ' => (∃ z : Int, r = .int .i64 z) ∧ σ' = σ := by
  refine acall_go mixed Try.func91 rfl good91 fun pr => ?_
  simp -implicitDefEqProofs (disch := omega) only [List.any_cons, List.any_nil, Nat.reduceEqDiff, List.map_cons, List.map_nil, Option.map_some, Option.map_none, List.nil_append, ↓reduceIte, vcu, ↓vcd]
  refine (len64_at σ n hn).mono ?_
  rintro _ _ ⟨⟨z, rfl⟩, rfl⟩
  simp -implicitDefEqProofs (disch := omega) only [List.any_cons, List.any_nil, Nat.reduceEqDiff, List.map_cons, List.map_nil, Option.map_some, Option.map_none, List.nil_append, ↓reduceIte, vcu, ↓vcd, opK_some]
  refine fin_one Try.results91 ⟨⟨z, ?_⟩, rfl⟩
  simp -implicitDefEqProofs (disch := omega) only [List.any_cons, List.any_nil, Nat.reduceEqDiff, List.map_cons, List.map_nil, Option.map_some, Option.map_none, List.nil_append, ↓reduceIte, vcu, ↓vcd]
theorem pdq_at (σ : AHeap) (g : Nat) (z : Int) (xs : List Int) (hg : σ g = some ⟨ints .i64 xs, false⟩) (hl : xs.length ≤ 12) :
    ACall Try.prog w0 90 [.slice (some ⟨g, 0, none⟩) xs.length 1, .int .i64 0, .int .i64 xs.length, .int .i64 z] σ fun r σ' => ∃ ys, Srt ys ∧ xs.Perm ys ∧ Kept g σ σ' ∧ σ' g = some ⟨ints .i64 ys, false⟩ := by
  refine acall_go mixed Try.func90 rfl good90 fun pr => ?_
  simp -implicitDefEqProofs (disch := omega) only [List.any_cons, List.any_nil, Nat.reduceEqDiff, List.map_cons, List.map_nil, Option.map_some, Option.map_none, List.nil_append, ↓reduceIte, vcu, ↓vcd]
  refine vc_loop_c mixed (by kernel_rfl) [0, 1] (fun m a σ' => a 2 = .int .i64 xs.length ∧ σ' = σ) 0 ⟨rfl, rfl⟩ ?_
  rintro m a _ hc ⟨h2, rfl⟩
  rename_i σ
  simp -implicitDefEqProofs (disch := omega) only [List.any_cons, List.any_nil, Nat.reduceEqDiff, List.map_cons, List.map_nil, Option.map_some, Option.map_none, List.nil_append, ↓reduceIte, vcu, ↓vcd] at hc
  obtain ⟨h0, h1, -⟩ := hc
  simp -implicitDefEqProofs (disch := omega) only [List.any_cons, List.any_nil, Nat.reduceEqDiff, List.map_cons, List.map_nil, Option.map_some, Option.map_none, List.nil_append, ↓reduceIte, vcu, ↓vcd, h0, h1, h2]
  refine (insI_at σ g xs hg hl).mono ?_
  rintro r τ h
  simp -implicitDefEqProofs (disch := omega) only [List.any_cons, List.any_nil, Nat.reduceEqDiff, List.map_cons, List.map_nil, Option.map_some, Option.map_none, List.nil_append, ↓reduceIte, vcu, ↓vcd, opK_some]
  exact fin_unit rfl h
theorem sortI_at (σ : AHeap) (g : Nat) (xs : List Int) (hg : σ g = some ⟨ints .i64 xs, false⟩) (hl : xs.length ≤ 12) :
    ACall Try.prog w0 82 [.slice (some ⟨g, 0, none⟩) xs.length 1] σ fun r σ' => ∃ ys, Srt ys ∧ xs.Perm ys ∧ Kept g σ σ' ∧ σ' g = some ⟨ints .i64 ys, false⟩ := by
  refine acall_go mixed Try.func82 rfl good82 fun pr => ?_
  simp -implicitDefEqProofs (disch := omega) only [List.any_cons, List.any_nil, Nat.reduceEqDiff, List.map_cons, List.map_nil, Option.map_some, Option.map_none, List.nil_append, ↓reduceIte, vcu, ↓vcd, conv_iu]
  refine (len_at σ xs.length hl).mono ?_
  rintro _ _ ⟨⟨z, rfl⟩, rfl⟩
  rename_i σ
  simp -implicitDefEqProofs (disch := omega) only [List.any_cons, List.any_nil, Nat.reduceEqDiff, List.map_cons, List.map_nil, Option.map_some, Option.map_none, List.nil_append, ↓reduceIte, vcu, ↓vcd, opK_some]
  refine (pdq_at σ g z xs hg hl).mono ?_
  rintro r τ h
  simp -implicitDefEqProofs (disch := omega) only [List.any_cons, List.any_nil, Nat.reduceEqDiff, List.map_cons, List.map_nil, Option.map_some, Option.map_none, List.nil_append, ↓reduceIte, vcu, ↓vcd, opK_some]
  exact fin_unit rfl h
end Go.Proofs.Ytnenopebfobajaa

namespace Go.Proofs.Ytnenopebfobajaa
open Go Go.Abs Go.RowKit Go.Dial
section
variable {P : Program} {w0 : Base} {n : NR} {a : AFrame} {σ : AHeap} {K : AK} {Q : AQ} {q : Bool} {all os : List Oper}
variable {d : Nat} {dd : Option Tmp} {ty : TypeId} {pos : String} {af : Array Edge}
/-- append to the end of a row of one's own -/
theorem r_pushIo {t u : TypeId} {zv : Value} {b : Nat} {x y : Operand} {g e o b0 len m : Nat} {k : IntKind} {xs ys : List Int} (hE : Elems P t 1 zv b) (hb : b ≤ 64) (hu : ∃ e2, P.underlying u = some (.slice e2))
    (hx : ev a x = .slice (some ⟨g, b0, none⟩) len 1) (hg : σ g = some ⟨ints k xs, false⟩) (hn : xs.length = b0 + len) (hy : ev a y = .slice (some ⟨e, o, none⟩) m 1) (he : IntsAt k σ e o ys) (hm : ys.length = m) (hl : len + m ≤ 4294967296)
    (hk : ∀ g' τ, σ g' = none → Kept g σ τ → τ g' = some ⟨ints k (xs.drop b0 ++ ys), false⟩ → vcR P w0 false all os (fset a d (.slice (some ⟨g', 0, none⟩) (len + m) 1)) τ K) :
    vcR P w0 false all (⟨some d, .call ⟨.builtin .append, #[x, y], #[t, u]⟩, ty, pos, af, none⟩ :: os) a σ K := by
  subst hm
  obtain ⟨e', i, a1, a2, a3, a4, a5⟩ := hE.ex
  obtain ⟨e2, hu⟩ := hu
  subst a5
  have hd : (ints k xs).drop b0 = ints k (xs.drop b0) := by simp [ints, List.map_drop]
  refine r_append_at (ys := ints k ys) a1 hu a2 a3 (by rw [hy, a4]; exact acells_ints he) (by rw [hx, a4]) hg rfl (by show b0 + len * i.size ≤ (ints k xs).length; rw [ints_length, a4]; omega) (ints_one k ys) ?_ fun g' hg' => ?_
  · rw [ints_length, a4]
    have : (len * 1 + ys.length) * i.bytes ≤ 4294967296 * 64 := Nat.mul_le_mul (by omega) hb
    omega
  · have hap : appd ((ints k xs).drop b0) (len * i.size) (ints k ys) = ints k (xs.drop b0 ++ ys) := by
      have := appd_own (C := ints k (xs.drop b0)) (D := ints k ys) (k := len * i.size) (by rw [ints_length, List.length_drop, a4]; omega)
      rw [List.drop_zero] at this
      rw [hd, this, ints_append]
    show vcR P w0 false all os _ ((σ.upd g none).upd g' (some ⟨appd ((ints k xs).drop b0) (len * i.size) (ints k ys), false⟩)) K
    rw [hap, a4, ints_length, Nat.div_one]
    exact hk g' _ hg' (fun k' ob hk' e => by
      rw [AHeap.upd_ne _ _ (by rintro rfl; rw [hg'] at e; cases e), AHeap.upd_ne _ _ hk']; exact e) (AHeap.upd_same _ _ _)
end
variable {w0 : World}
theorem cloneIo_at (σ : AHeap) (h o : Nat) (xs : List Int) (hv : IntsAt .i64 σ h o xs) (hl : xs.length ≤ 1048576) :
    ACall Try.prog w0 81 [.slice (some ⟨h, o, none⟩) xs.length 1] σ fun r σ' => Sub σ σ' ∧ OwnI σ σ' r xs := by
  refine acall_go mixed Try.func81 rfl good81 fun pr => ?_
  simp -implicitDefEqProofs (disch := omega) only [List.any_cons, List.any_nil, Nat.reduceEqDiff, List.map_cons, List.map_nil, Option.map_some, Option.map_none, List.nil_append, ↓reduceIte, vcu, ↓vcd]
  refine r_nilEq (b := some ⟨h, o, none⟩) (l := xs.length) (z := 1) Try.underlying31 (by simp -implicitDefEqProofs (disch := omega) only [List.any_cons, List.any_nil, Nat.reduceEqDiff, List.map_cons, List.map_nil, Option.map_some, Option.map_none, List.nil_append, ↓reduceIte, vcu, ↓vcd]) fun c _ h2 => ?_
  cases c with
  | true =>
    simp -implicitDefEqProofs (disch := omega) only [List.any_cons, List.any_nil, Nat.reduceEqDiff, List.map_cons, List.map_nil, Option.map_some, Option.map_none, List.nil_append, ↓reduceIte, vcu, ↓vcd]
    have : xs = [] := by
      cases xs with
      | nil => rfl
      | cons x xs => have := h2 (by simp); cases this
    subst this
    refine fin_one Try.results81 ⟨Sub.refl _, .inl ⟨?_, rfl⟩⟩
    simp -implicitDefEqProofs (disch := omega) only [List.any_cons, List.any_nil, Nat.reduceEqDiff, List.map_cons, List.map_nil, Option.map_some, Option.map_none, List.nil_append, ↓reduceIte, vcu, ↓vcd]
  | false =>
    simp -implicitDefEqProofs (disch := omega) only [List.any_cons, List.any_nil, Nat.reduceEqDiff, List.map_cons, List.map_nil, Option.map_some, Option.map_none, List.nil_append, ↓reduceIte, vcu, ↓vcd]
    refine r_lit el31 (out := #[]) (by kernel_rfl) (by kernel_rfl) fun e1 τ1 n1 s1 v1 => ?_
    simp -implicitDefEqProofs (disch := omega) only [List.any_cons, List.any_nil, Nat.reduceEqDiff, List.map_cons, List.map_nil, Option.map_some, Option.map_none, List.nil_append, ↓reduceIte, vcu, ↓vcd]
    refine r_pushI (g := e1) (e := h) (o := o) (k := .i64) (xs := []) (ys := xs) (m := xs.length) (len := 0) el31 (by omega) sl31 (by simp -implicitDefEqProofs (disch := omega) only [List.any_cons, List.any_nil, Nat.reduceEqDiff, List.map_cons, List.map_nil, Option.map_some, Option.map_none, List.nil_append, ↓reduceIte, vcu, ↓vcd]) v1 rfl (by simp -implicitDefEqProofs (disch := omega) only [List.any_cons, List.any_nil, Nat.reduceEqDiff, List.map_cons, List.map_nil, Option.map_some, Option.map_none, List.nil_append, ↓reduceIte, vcu, ↓vcd]) (hv.sub s1) rfl (by omega) fun g τ2 n2 k2 v2 => ?_
    rw [List.nil_append] at v2
    simp -implicitDefEqProofs (disch := omega) only [List.any_cons, List.any_nil, Nat.reduceEqDiff, List.map_cons, List.map_nil, Option.map_some, Option.map_none, List.nil_append, ↓reduceIte, vcu, ↓vcd, Nat.zero_add]
    refine fin_one Try.results81 ⟨k2.sub s1 n1, .inr ⟨g, ?_, v2, free_sub s1 n2⟩⟩
    simp -implicitDefEqProofs (disch := omega) only [List.any_cons, List.any_nil, Nat.reduceEqDiff, List.map_cons, List.map_nil, Option.map_some, Option.map_none, List.nil_append, ↓reduceIte, vcu, ↓vcd]
set_option maxRecDepth 8000 in
theorem implLe_at (σ : AHeap) (h o : Nat) (xs : List Int) (hv : IntsAt .i64 σ h o xs) (hl : xs.length ≤ 1048576) :
    ACall Try.prog w0 50 [.slice (some ⟨h, o, none⟩) xs.length 1] σ fun r σ' => r = .int .i64 (leastV xs) ∧ σ' = σ := by
  refine acall_go mixed Try.func50 rfl good50 fun pr => ?_
  simp -implicitDefEqProofs (disch := omega) only [List.any_cons, List.any_nil, Nat.reduceEqDiff, List.map_cons, List.map_nil, Option.map_some, Option.map_none, List.nil_append, ↓reduceIte, vcu, ↓vcd]
  refine (implOf_at _ h o xs hv hl).mono ?_
  rintro r _ ⟨rfl, rfl⟩
  rename_i σ
  by_cases hof : OfOk xs
  case neg =>
    have d1 : decide (OfOk xs) = false := decide_eq_false hof
    simp -implicitDefEqProofs (disch := omega) only [List.any_cons, List.any_nil, Nat.reduceEqDiff, List.map_cons, List.map_nil, Option.map_some, Option.map_none, List.nil_append, ↓reduceIte, vcu, ↓vcd, opK_some, d1]
    refine fin_one Try.results50 ⟨?_, rfl⟩
    simp -implicitDefEqProofs (disch := omega) only [List.any_cons, List.any_nil, Nat.reduceEqDiff, List.map_cons, List.map_nil, Option.map_some, Option.map_none, List.nil_append, ↓reduceIte, vcu, ↓vcd]
    rw [leastV, if_neg hof]
  have d1 : decide (OfOk xs) = true := decide_eq_true hof
  obtain ⟨pd1, pd2, pd3⟩ := padG_facts hof
  have hx2 := hof.2.1
  have hx10 := hof.2.2
  have h0x : ∀ x ∈ xs, 0 ≤ x := of_nonneg fun k hk => (hof.1 k hk).1
  have h99 : ∀ x ∈ xs, x ≤ 99 := fun x hx => by
    obtain ⟨j, hj, rfl⟩ := List.mem_iff_getElem.1 hx
    have := (hof.1 j hj).2
    simpa [List.getD, hj] using this
  have hsx : sumI xs ≤ 990 := by have := sumI_bound h99; omega
  simp -implicitDefEqProofs (disch := omega) only [List.any_cons, List.any_nil, Nat.reduceEqDiff, List.map_cons, List.map_nil, Option.map_some, Option.map_none, List.nil_append, ↓reduceIte, vcu, ↓vcd, opK_some, d1]
  refine (cloneIo_at σ h o xs hv hl).mono ?_
  rintro va τ ⟨s1, oa⟩
  rcases oa with ⟨-, rfl⟩ | ⟨ga, rfl, hga, hna⟩
  · simp at hx2
  have hpad := pad_start hx2 hx10
  have hM : 2 + ((xs.length : Int) - 2) % 3 = ((2 + (xs.length - 2) % 3 : Nat) : Int) := by omega
  have hM2 : 2 ≤ 2 + (xs.length - 2) % 3 := by omega
  generalize 2 + (xs.length - 2) % 3 = M at hpad hM hM2
  have hlv : leastV xs = leastG 4 (padG 2 xs) := if_pos hof
  simp -implicitDefEqProofs (disch := omega) only [List.any_cons, List.any_nil, Nat.reduceEqDiff, List.map_cons, List.map_nil, Option.map_some, Option.map_none, List.nil_append, ↓reduceIte, vcu, ↓vcd, opK_some, hM]
  refine vc_loop_c mixed (by kernel_rfl) [] (fun m a σ' => ∃ (gs P : List Int) (g many : Nat) (s : Int), m ≤ 4 ∧ a 3 = .slice (some ⟨g, 0, none⟩) gs.length 1 ∧ a 4 = .int .i64 many ∧ a 5 = .int .i64 s ∧ Sub σ σ' ∧ σ' g = some ⟨ints .i64 gs, false⟩ ∧ σ g = none ∧ Pad P gs many ∧ 2 ≤ many ∧ s + leastG m P = leastV xs ∧ P.length % 3 = 1 ∧ P.length ≤ 3 * m + 1 ∧ P.length ≤ 12 ∧ (∀ x ∈ gs, 0 ≤ x) ∧ sumI gs ≤ 990 ∧ 0 ≤ s ∧ s ≤ 990 * (4 - (m : Int))) 4
    ⟨xs, padG 2 xs, ga, M, 0, by omega, rfl, rfl, rfl, s1, hga, hna, hpad, hM2, by rw [hlv]; omega, pd1, by omega, pd2, h0x, hsx, by omega, by omega⟩ ?_
  rintro m a τ1 hc ⟨gs, P, g, many, s, hm4, h3, h4, h5, hs, hg, hn, hP, hmany, hval, hmod, hPl, hP12, h0, hsum, hs0, hsb⟩
  clear hc
  have hPlen : P.length = (4 - many) + gs.length := by rw [hP.2.length_eq]; simp
  have hP4 := hP.1
  by_cases hbig : 1 < gs.length
  case neg =>
    have hP1 : ¬ 1 < P.length := by omega
    have hG : leastG m P = 0 := by
      cases m with
      | zero => rfl
      | succ m => simp only [leastG]; rw [if_neg hP1]
    simp -implicitDefEqProofs (disch := omega) only [List.any_cons, List.any_nil, Nat.reduceEqDiff, List.map_cons, List.map_nil, Option.map_some, Option.map_none, List.nil_append, ↓reduceIte, vcu, ↓vcd, h3, h4, h5]
    refine fin_drop Try.results50 σ hs ⟨?_, rfl⟩
    simp -implicitDefEqProofs (disch := omega) only [List.any_cons, List.any_nil, Nat.reduceEqDiff, List.map_cons, List.map_nil, Option.map_some, Option.map_none, List.nil_append, ↓reduceIte, vcu, ↓vcd, h5]
    rw [← hval, hG, Int.add_zero]
  obtain ⟨m', rfl⟩ : ∃ m', m = m' + 1 := ⟨m - 1, by omega⟩
  have hG : leastG (m' + 1) P = (tak P 4).2 + leastG m' (joinG P) := by simp only [leastG]; rw [if_pos (by omega)]
  have hmg : many ≤ gs.length := by omega
  simp -implicitDefEqProofs (disch := omega) only [List.any_cons, List.any_nil, Nat.reduceEqDiff, List.map_cons, List.map_nil, Option.map_some, Option.map_none, List.nil_append, ↓reduceIte, vcu, ↓vcd, h3, h4, h5]
  refine (sortI_at τ1 g gs hg (by omega)).mono ?_
  rintro r τ2 ⟨ss, hsrt, hperm, hk2, hg2⟩
  have hs2 : Sub σ τ2 := hk2.sub hs hn
  have hsl := hperm.length_eq
  obtain ⟨q1, q2⟩ := pad_step hP hperm hsrt h0 hmg
  have hss : sumI ss = sumI gs := (sumI_perm hperm).symm
  have h0s : ∀ x ∈ ss, 0 ≤ x := fun x hx => h0 x (hperm.mem_iff.2 hx)
  rw [hsl] at h3
  simp -implicitDefEqProofs (disch := omega) only [List.any_cons, List.any_nil, Nat.reduceEqDiff, List.map_cons, List.map_nil, Option.map_some, Option.map_none, List.nil_append, ↓reduceIte, vcu, ↓vcd, opK_some, h3, h4, h5, Int.toNat_natCast]
  refine vc_loop_c mixed (by kernel_rfl) [3, 4, 5, 26, 27] (fun m a σ' => ∃ k : Nat, m + k = many ∧ a 28 = .int .i64 k ∧ a 6 = .int .i64 (sumI (ss.take k)) ∧ σ' = τ2) many ⟨0, by simp, rfl, rfl, rfl⟩ ?_
  rintro m2 a2 _ hc2 ⟨k, hk, g28, g6, rfl⟩
  rename_i τ2
  simp -implicitDefEqProofs (disch := omega) only [List.any_cons, List.any_nil, Nat.reduceEqDiff, List.map_cons, List.map_nil, Option.map_some, Option.map_none, List.nil_append, ↓reduceIte, vcu, ↓vcd, h3, h4, h5] at hc2
  obtain ⟨g3, g4, g5, g26, g27, -⟩ := hc2
  have hbk := sumI_take_le h0s k
  by_cases hlt : k < many
  · have hx := own_at hg2 (i := k) (by omega)
    have hsn := sumI_snoc (xs := ss) (k := k) (by omega)
    have hbk2 := sumI_take_le h0s (k + 1)
    simp -implicitDefEqProofs (disch := omega) only [List.any_cons, List.any_nil, Nat.reduceEqDiff, List.map_cons, List.map_nil, Option.map_some, Option.map_none, List.nil_append, ↓reduceIte, vcu, ↓vcd, g3, g4, g5, g6, g26, g27, g28, hx]
    refine ⟨⟨?_, ?_, ?_, ?_, ?_, trivial⟩, m2 - 1, by omega, k + 1, by omega, by simp, by rw [hsn], trivial⟩
    all_goals first | trivial | exact h3.symm | exact h4.symm | exact h5.symm
  obtain rfl : k = many := by omega
  generalize hj : sumI (ss.take k) = J at *
  simp -implicitDefEqProofs (disch := omega) only [List.any_cons, List.any_nil, Nat.reduceEqDiff, List.map_cons, List.map_nil, Option.map_some, Option.map_none, List.nil_append, ↓reduceIte, vcu, ↓vcd, g3, g4, g5, g6, g26, g27, g28, Int.toNat_natCast]
  refine r_lit el31 (out := #[.int .i64 J]) (by first | kernel_rfl | (simp -implicitDefEqProofs (disch := omega) only [List.any_cons, List.any_nil, Nat.reduceEqDiff, List.map_cons, List.map_nil, Option.map_some, Option.map_none, List.nil_append, ↓reduceIte, vcu, ↓vcd, g6]; kernel_rfl)) (by rfl) fun e3 τ3 n3 s3 v3 => ?_
  refine r_pushIo (g := g) (b0 := k) (e := e3) (o := 0) (k := .i64) (xs := ss) (ys := [J]) (m := 1) (len := ss.length - k) el31 (by omega) sl31 (by simp -implicitDefEqProofs (disch := omega) only [List.any_cons, List.any_nil, Nat.reduceEqDiff, List.map_cons, List.map_nil, Option.map_some, Option.map_none, List.nil_append, ↓reduceIte, vcu, ↓vcd, g3, g4, Int.toNat_natCast, Nat.zero_add]) (s3 _ _ hg2) (by omega) (by simp -implicitDefEqProofs (disch := omega) only [List.any_cons, List.any_nil, Nat.reduceEqDiff, List.map_cons, List.map_nil, Option.map_some, Option.map_none, List.nil_append, ↓reduceIte, vcu, ↓vcd]) (intsAt_own v3) rfl (by omega) fun g6 τ6 n6 k6 v6 => ?_
  have hln : (ss.drop k ++ [J]).length = ss.length - k + 1 := by rw [List.length_append, List.length_drop, List.length_singleton]
  have hPj : (joinG P).length = (4 - 4) + (ss.drop k ++ [J]).length := by rw [q2.2.length_eq]; simp
  have hsj : sumI (ss.drop k ++ [J]) = sumI ss := by
    rw [sumI_app, ← hj]
    have := sumI_app (ss.take k) (ss.drop k)
    rw [List.take_append_drop] at this
    simp only [sumI]; omega
  simp -implicitDefEqProofs (disch := omega) only [List.any_cons, List.any_nil, Nat.reduceEqDiff, List.map_cons, List.map_nil, Option.map_some, Option.map_none, List.nil_append, ↓reduceIte, vcu, ↓vcd, g3, g4, g5]
  refine ⟨trivial, m', by omega, ss.drop k ++ [J], joinG P, g6, 4, s + J, by omega, by rw [hln], rfl, rfl, k6.sub (hs2.trans s3) hn, v6, free_sub (hs2.trans s3) n6, q2, by omega, by rw [← hval, hG, q1]; omega, by omega, by omega, by omega, fun x hx => ?_, by omega, by omega, by omega⟩
  rcases List.mem_append.1 hx with hx | hx
  · exact h0s x (List.mem_of_mem_drop hx)
  · rw [List.mem_singleton] at hx; omega
theorem implLe_calls (σ : AHeap) (v : Value) (xs : List Int) (hv : Ints .i64 σ v xs) (hl : xs.length ≤ 1048576) : ACall Try.prog w0 50 [v] σ fun r σ' => r = .int .i64 (leastV xs) ∧ σ' = σ :=
  ACall.ints_quiet (pre := []) (post := []) (by kernel_rfl) hv fun σ1 h o _ hg => implLe_at σ1 h o xs hg hl
end Go.Proofs.Ytnenopebfobajaa
