/- Helpers of FnRoutesLess: records held against each other, sameRoutes, three. -/
import Derived.Test.YtnenopebfobajaaKo
set_option linter.unusedSimpArgs false
set_option linter.unusedVariables false
namespace Go.Proofs.Ytnenopebfobajaa
open Go Go.Abs Go.RowKit Go.Dial
variable {w0 : World}

theorem tx_beq (A D : List UInt8) : (tx A == tx D) = decide (A = D) := by
  show (A.toArray == D.toArray) = _
  by_cases h : A = D
  · subst h; simp
  · rw [decide_eq_false h]
    exact beq_false_of_ne fun e => h (by simpa using congrArg Array.toList e)
set_option maxRecDepth 8000 in
theorem flat_route (A D : List UInt8) (B E : Int) : flatEq Try.prog 52 #[.string (tx A), .int .i64 B] #[.string (tx D), .int .i64 E] = some ((tx A == tx D) && ((B == E) && true)) := by kernel_rfl
set_option maxRecDepth 8000 in
theorem neq_route (A D : List UInt8) (B E : Int) : abin Try.prog 52 .neq (.agg #[.string (tx A), .int .i64 B]) (.agg #[.string (tx D), .int .i64 E]) = some (.bool (!decide ((⟨A, B⟩ : Rt) = ⟨D, E⟩))) := by
  show (flatEq Try.prog 52 #[.string (tx A), .int .i64 B] #[.string (tx D), .int .i64 E]).map _ = _
  rw [flat_route]
  simp only [Option.map_some, Rt.mk.injEq, tx_beq]
  congr 3
  by_cases h1 : A = D
  · by_cases h2 : B = E <;> simp [h1, h2]
  · simp [h1]
set_option maxRecDepth 8000 in
theorem sameR_at (σ : AHeap) (h o g p : Nat) (xs ys : List Rt) (hv : RutsAt σ h o xs) (hu : RutsAt σ g p ys) (hl : xs.length ≤ 1048576) (hl2 : ys.length ≤ 1048576) :
    ACall Try.prog w0 62 [.slice (some ⟨h, o, none⟩) xs.length 2, .slice (some ⟨g, p, none⟩) ys.length 2] σ fun r σ' => r = .bool (decide (xs = ys)) ∧ σ' = σ := by
  refine acall_go mixed Try.func62 rfl good62 fun pr => ?_
  by_cases hlen : xs.length = ys.length
  · simp -implicitDefEqProofs (disch := omega) only [List.any_cons, List.any_nil, Nat.reduceEqDiff, List.map_cons, List.map_nil, Option.map_some, Option.map_none, List.nil_append, ↓reduceIte, vcu, ↓vcd]
    refine vc_loop_c mixed (by kernel_rfl) [0, 1] (fun m a σ' => ∃ k : Nat, m + k = xs.length ∧ a 5 = .int .i64 k ∧ σ' = σ ∧ ∀ j, j < k → xs.getD j rt0 = ys.getD j rt0) xs.length ⟨0, by simp, rfl, rfl, by simp⟩ ?_
    rintro m a σ' hc ⟨k, hk, h5, rfl, he⟩
    simp -implicitDefEqProofs (disch := omega) only [List.any_cons, List.any_nil, Nat.reduceEqDiff, List.map_cons, List.map_nil, Option.map_some, Option.map_none, List.nil_append, ↓reduceIte, vcu, ↓vcd] at hc
    obtain ⟨h0, h1, -⟩ := hc
    by_cases hlt : k < xs.length
    · have hx := hv.all hlt
      have hy := hu.all (show k < ys.length by omega)
      generalize hcx : xs.getD k rt0 = c at hx
      generalize hcy : ys.getD k rt0 = d at hy
      obtain ⟨A, B⟩ := c
      obtain ⟨D, E⟩ := d
      by_cases hxy : (⟨A, B⟩ : Rt) = ⟨D, E⟩
      · have hd : decide ((⟨A, B⟩ : Rt) = ⟨D, E⟩) = true := decide_eq_true hxy
        simp -implicitDefEqProofs (disch := omega) only [List.any_cons, List.any_nil, Nat.reduceEqDiff, List.map_cons, List.map_nil, Option.map_some, Option.map_none, List.nil_append, ↓reduceIte, vcu, ↓vcd, h0, h1, h5, hx, hy, co52, neq_route, hd, Bool.not_true]
        refine ⟨⟨trivial, trivial, trivial⟩, m - 1, by omega, k + 1, by omega, by simp, trivial, fun j hj => ?_⟩
        by_cases e : j = k
        · subst e; rw [hcx, hcy]; exact hxy
        · exact he j (by omega)
      · have hd : decide ((⟨A, B⟩ : Rt) = ⟨D, E⟩) = false := decide_eq_false hxy
        simp -implicitDefEqProofs (disch := omega) only [List.any_cons, List.any_nil, Nat.reduceEqDiff, List.map_cons, List.map_nil, Option.map_some, Option.map_none, List.nil_append, ↓reduceIte, vcu, ↓vcd, h0, h1, h5, hx, hy, co52, neq_route, hd, Bool.not_false]
        refine fin_one Try.results62 ⟨?_, rfl⟩
        simp -implicitDefEqProofs (disch := omega) only [List.any_cons, List.any_nil, Nat.reduceEqDiff, List.map_cons, List.map_nil, Option.map_some, Option.map_none, List.nil_append, ↓reduceIte, vcu, ↓vcd]
        have : xs ≠ ys := fun e => hxy (by rw [← hcx, ← hcy, e])
        simp [this]
    · simp -implicitDefEqProofs (disch := omega) only [List.any_cons, List.any_nil, Nat.reduceEqDiff, List.map_cons, List.map_nil, Option.map_some, Option.map_none, List.nil_append, ↓reduceIte, vcu, ↓vcd, h0, h1, h5]
      refine fin_one Try.results62 ⟨?_, rfl⟩
      simp -implicitDefEqProofs (disch := omega) only [List.any_cons, List.any_nil, Nat.reduceEqDiff, List.map_cons, List.map_nil, Option.map_some, Option.map_none, List.nil_append, ↓reduceIte, vcu, ↓vcd]
      have : xs = ys := listR_eq hlen fun j hj => he j (by omega)
      simp [this]
  · simp -implicitDefEqProofs (disch := omega) only [List.any_cons, List.any_nil, Nat.reduceEqDiff, List.map_cons, List.map_nil, Option.map_some, Option.map_none, List.nil_append, ↓reduceIte, vcu, ↓vcd]
    refine fin_one Try.results62 ⟨?_, rfl⟩
    simp -implicitDefEqProofs (disch := omega) only [List.any_cons, List.any_nil, Nat.reduceEqDiff, List.map_cons, List.map_nil, Option.map_some, Option.map_none, List.nil_append, ↓reduceIte, vcu, ↓vcd]
    have : xs ≠ ys := fun e => hlen (by rw [e])
    simp [this]
theorem sameR_calls (σ : AHeap) (v u : Value) (xs ys : List Rt) (hv : Ruts σ v xs) (hu : Ruts σ u ys) (hl : xs.length ≤ 1048576) (hl2 : ys.length ≤ 1048576) :
    ACall Try.prog w0 62 [v, u] σ fun r σ' => r = .bool (decide (xs = ys)) ∧ σ' = σ :=
  ACall.ruts_quiet (pre := []) (post := [u]) (by kernel_rfl) hv fun σ1 h o hs hg =>
    ACall.ruts_quiet (pre := [_]) (post := []) (by kernel_rfl) (hu.sub hs) fun σ2 g p hs2 hg2 => sameR_at σ2 h o g p xs ys (hg.sub hs2) hg2 hl hl2
/-- a digit -/
def slD (d : Nat) : List UInt8 := (([48, 49, 50, 51] : List UInt8).drop d).take (d + 1 - d)
theorem slD_ok (d : Nat) : DgT (slD d) ∧ (slD d).length ≤ 4 := by
  refine ⟨fun x hx => ?_, ?_⟩
  · have h1 := List.mem_of_mem_drop (List.mem_of_mem_take hx)
    have : ∀ x ∈ ([48, 49, 50, 51] : List UInt8), 48 ≤ x.toNat ∧ x.toNat ≤ 51 := by decide
    exact this x h1
  · unfold slD
    rw [List.length_take, List.length_drop]
    have : ([48, 49, 50, 51] : List UInt8).length = 4 := rfl
    omega
def thr (n : Nat) : List UInt8 := (slD (n / 16 % 4) ++ slD (n / 4 % 4)) ++ slD (n % 4)
theorem thr_ok (n : Nat) : DgT (thr n) ∧ (thr n).length ≤ 12 := by
  have h1 := slD_ok (n / 16 % 4)
  have h2 := slD_ok (n / 4 % 4)
  have h3 := slD_ok (n % 4)
  refine ⟨(h1.1.app h2.1).app h3.1, ?_⟩
  unfold thr
  rw [List.length_append, List.length_append]; omega
set_option maxRecDepth 8000 in
theorem three_at (σ : AHeap) (n : Nat) (hn : n < 64) :
    ACall Try.prog w0 64 [.int .i64 n] σ fun r σ' => r = .string (tx (thr n)) ∧ σ' = σ := by
  refine acall_go mixed Try.func64 rfl good64 fun pr => ?_
  have hz : (Value.string { data := #[48, 49, 50, 51] }) = .string (tx [48, 49, 50, 51]) := rfl
  have hz4 : ([48, 49, 50, 51] : List UInt8).length = 4 := rfl
  have p1 : ((n : Int) / 16 % 4).toNat = n / 16 % 4 := by omega
  have p2 : ((n : Int) / 16 % 4 + 1).toNat = n / 16 % 4 + 1 := by omega
  have p3 : ((n : Int) / 4 % 4).toNat = n / 4 % 4 := by omega
  have p4 : ((n : Int) / 4 % 4 + 1).toNat = n / 4 % 4 + 1 := by omega
  have p5 : ((n : Int) % 4).toNat = n % 4 := by omega
  have p6 : ((n : Int) % 4 + 1).toNat = n % 4 + 1 := by omega
  have l1 := slD_ok (n / 16 % 4)
  have l2 := slD_ok (n / 4 % 4)
  have l3 := slD_ok (n % 4)
  have u1 : (([48, 49, 50, 51] : List UInt8).drop (n / 16 % 4)).take (n / 16 % 4 + 1 - n / 16 % 4) = slD (n / 16 % 4) := rfl
  have u2 : (([48, 49, 50, 51] : List UInt8).drop (n / 4 % 4)).take (n / 4 % 4 + 1 - n / 4 % 4) = slD (n / 4 % 4) := rfl
  have u3 : (([48, 49, 50, 51] : List UInt8).drop (n % 4)).take (n % 4 + 1 - n % 4) = slD (n % 4) := rfl
  have a1 := abin_sadd (P := Try.prog) (t := 9) (xs := slD (n / 16 % 4)) (ys := slD (n / 4 % 4)) (by omega)
  have a2 := abin_sadd (P := Try.prog) (t := 9) (xs := slD (n / 16 % 4) ++ slD (n / 4 % 4)) (ys := slD (n % 4)) (by rw [List.length_append]; omega)
  simp -implicitDefEqProofs (disch := omega) only [List.any_cons, List.any_nil, Nat.reduceEqDiff, List.map_cons, List.map_nil, Option.map_some, Option.map_none, List.nil_append, ↓reduceIte, vcu, ↓vcd, hz, hz4, p1, p2, p3, p4, p5, p6, u1, u2, u3, a1, a2]
  refine fin_one Try.results64 ⟨?_, rfl⟩
  simp -implicitDefEqProofs (disch := omega) only [List.any_cons, List.any_nil, Nat.reduceEqDiff, List.map_cons, List.map_nil, Option.map_some, Option.map_none, List.nil_append, ↓reduceIte, vcu, ↓vcd]
  rfl
end Go.Proofs.Ytnenopebfobajaa
