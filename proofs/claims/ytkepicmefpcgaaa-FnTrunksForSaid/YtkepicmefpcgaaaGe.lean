/- Blocking, by the reference: how often lines are busy; how many lines are enough. -/
import Derived.Test.YtkepicmefpcgaaaGd
set_option linter.unusedSimpArgs false
set_option linter.unusedVariables false
namespace Go.Proofs.Ytkepicmefpcgaaa
open Go Go.Abs Go.RowKit
variable {w0 : World}

def busyN (L t n : Nat) : List Int := (List.range n).map fun i => (term L t i : Int)
def busyV (L t : Int) : List Int := if OK7 L t then busyN L.toNat t.toNat (t.toNat + 1) else []
theorem busyN_length (L t n : Nat) : (busyN L t n).length = n := by simp [busyN]
theorem busyN_succ (L t n : Nat) : busyN L t (n + 1) = busyN L t n ++ [(term L t n : Int)] := by simp [busyN, List.range_succ]
theorem busyN_getD {L t n i : Nat} (h : i < n) : (busyN L t n).getD i 0 = (term L t i : Int) := by simp [busyN, List.getD, h]
theorem specBP_at (σ : AHeap) (L t : Int) : ACall Try.prog w0 37 [.int .i64 L, .int .i64 t] σ fun r σ' => Sub σ σ' ∧ ∃ g, r = .slice (some ⟨g, 0, none⟩) (busyV L t).length 1 ∧ σ g = none ∧ σ' g = some ⟨ints .i64 (busyV L t), false⟩ := by
  unfold busyV
  refine acall_go mixed Try.func37 rfl good37 fun pr => ?_
  simp -implicitDefEqProofs (disch := omega) only [List.any_cons, List.any_nil, Nat.reduceEqDiff, List.map_cons, List.map_nil, Option.map_some, Option.map_none, List.nil_append, ↓reduceIte, vcu, ↓vcd]
  refine r_lit el36 (out := #[]) (by kernel_rfl) (by kernel_rfl) fun e5 τ1 n5 s1 e1 => ?_
  simp -implicitDefEqProofs (disch := omega) only [List.any_cons, List.any_nil, Nat.reduceEqDiff, List.map_cons, List.map_nil, Option.map_some, Option.map_none, List.nil_append, ↓reduceIte, vcu, ↓vcd]
  by_cases h : OK7 L t
  case neg =>
    rw [if_neg h]
    refine vc_loop_c mixed (by kernel_rfl) [0, 1, 5] (fun m a σ' => a 6 = .int .i64 0 ∧ σ' = τ1) 0 ⟨rfl, rfl⟩ ?_
    rintro m a σ' hc ⟨h6, rfl⟩
    simp -implicitDefEqProofs (disch := omega) only [List.any_cons, List.any_nil, Nat.reduceEqDiff, List.map_cons, List.map_nil, Option.map_some, Option.map_none, List.nil_append, ↓reduceIte, vcu, ↓vcd] at hc
    obtain ⟨h0, h1, h5, -⟩ := hc
    by_cases ht : 0 ≤ t
    · simp -implicitDefEqProofs (disch := omega) only [List.any_cons, List.any_nil, Nat.reduceEqDiff, List.map_cons, List.map_nil, Option.map_some, Option.map_none, List.nil_append, ↓reduceIte, vcu, ↓vcd, h0, h1, h5, h6]
      refine (specOk_at σ' L t).mono ?_
      rintro r _ ⟨rfl, rfl⟩
      rw [decide_eq_false h]
      simp -implicitDefEqProofs (disch := omega) only [List.any_cons, List.any_nil, Nat.reduceEqDiff, List.map_cons, List.map_nil, Option.map_some, Option.map_none, List.nil_append, ↓reduceIte, vcu, ↓vcd, opK_some, h5]
      refine fin_one Try.results37 ⟨s1, e5, ?_, n5, e1⟩
      simp -implicitDefEqProofs (disch := omega) only [List.any_cons, List.any_nil, Nat.reduceEqDiff, List.map_cons, List.map_nil, Option.map_some, Option.map_none, List.nil_append, ↓reduceIte, vcu, ↓vcd, h5]
      rfl
    · simp -implicitDefEqProofs (disch := omega) only [List.any_cons, List.any_nil, Nat.reduceEqDiff, List.map_cons, List.map_nil, Option.map_some, Option.map_none, List.nil_append, ↓reduceIte, vcu, ↓vcd, h0, h1, h5, h6]
      refine fin_one Try.results37 ⟨s1, e5, ?_, n5, e1⟩
      simp -implicitDefEqProofs (disch := omega) only [List.any_cons, List.any_nil, Nat.reduceEqDiff, List.map_cons, List.map_nil, Option.map_some, Option.map_none, List.nil_append, ↓reduceIte, vcu, ↓vcd, h5]
      rfl
  rw [if_pos h]
  have hok := h
  obtain ⟨⟨a1, a2⟩, a3, a4⟩ := h
  obtain ⟨L, rfl⟩ : ∃ n : Nat, L = n := ⟨L.toNat, by omega⟩
  obtain ⟨t, rfl⟩ : ∃ n : Nat, t = n := ⟨t.toNat, by omega⟩
  simp only [Int.toNat_natCast]
  have hL : L ≤ 6 := by omega
  have ht : t ≤ 8 := by omega
  rw [busyN_length]
  refine vc_loop_c mixed (by kernel_rfl) [0, 1] (fun m a σ' => ∃ n g : Nat, m + n = t + 1 ∧ a 5 = .slice (some ⟨g, 0, none⟩) n 1 ∧ a 6 = .int .i64 n ∧ Sub σ σ' ∧ σ g = none ∧ σ' g = some ⟨ints .i64 (busyN L t n), false⟩) (t + 1) ⟨0, e5, by simp, rfl, rfl, s1, n5, e1⟩ ?_
  rintro m a σ' hc ⟨n, g, hn, h5, h6, hs, ng, eg⟩
  simp -implicitDefEqProofs (disch := omega) only [List.any_cons, List.any_nil, Nat.reduceEqDiff, List.map_cons, List.map_nil, Option.map_some, Option.map_none, List.nil_append, ↓reduceIte, vcu, ↓vcd] at hc
  obtain ⟨h0, h1, -⟩ := hc
  by_cases hlt : n ≤ t
  · simp -implicitDefEqProofs (disch := omega) only [List.any_cons, List.any_nil, Nat.reduceEqDiff, List.map_cons, List.map_nil, Option.map_some, Option.map_none, List.nil_append, ↓reduceIte, vcu, ↓vcd, h0, h1, h5, h6]
    refine (specOk_at σ' L t).mono ?_
    rintro r _ ⟨rfl, rfl⟩
    rename_i σ'
    rw [decide_eq_true hok]
    simp -implicitDefEqProofs (disch := omega) only [List.any_cons, List.any_nil, Nat.reduceEqDiff, List.map_cons, List.map_nil, Option.map_some, Option.map_none, List.nil_append, ↓reduceIte, vcu, ↓vcd, opK_some, h0, h1, h5, h6]
    refine vc_loop_c mixed (by kernel_rfl) [0, 1, 5, 6] (fun m2 a2 σ2 => ∃ k : Nat, m2 + k = n ∧ a2 7 = .int .i64 (pw L k : Int) ∧ a2 8 = .int .i64 k ∧ σ2 = σ') n ⟨0, by simp, rfl, rfl, rfl⟩ ?_
    rintro m2 a2 σ2 hc2 ⟨k, hk, h9, h10, rfl⟩
    simp -implicitDefEqProofs (disch := omega) only [List.any_cons, List.any_nil, Nat.reduceEqDiff, List.map_cons, List.map_nil, Option.map_some, Option.map_none, List.nil_append, ↓reduceIte, vcu, ↓vcd, h0, h1, h5, h6] at hc2
    obtain ⟨c0, c1, c5, c6, -⟩ := hc2
    by_cases hkl : k < n
    · have hb : pw L (k + 1) ≤ 1679616 := pow6 (L := L) (n := k + 1) hL (by omega)
      have q : (pw L k : Int) * (L : Int) = (pw L (k + 1) : Int) := by rw [pw_succ, Int.natCast_mul]
      simp -implicitDefEqProofs (disch := omega) only [List.any_cons, List.any_nil, Nat.reduceEqDiff, List.map_cons, List.map_nil, Option.map_some, Option.map_none, List.nil_append, ↓reduceIte, vcu, ↓vcd, c0, c1, c5, c6, h9, h10, q]
      exact ⟨by simp [c0, c1, c5, c6, h0, h1, h5, h6], m2 - 1, by omega, k + 1, by omega, rfl, by simp, trivial⟩
    · have e : k = n := by omega
      subst e
      simp -implicitDefEqProofs (disch := omega) only [List.any_cons, List.any_nil, Nat.reduceEqDiff, List.map_cons, List.map_nil, Option.map_some, Option.map_none, List.nil_append, ↓reduceIte, vcu, ↓vcd, c0, c1, c5, c6, h9, h10]
      refine vc_loop_c mixed (by kernel_rfl) [0, 1, 5, 6] (fun m3 a3 σ3 => ∃ j : Nat, m3 + j = t ∧ k ≤ j ∧ a3 7 = .int .i64 (pt L k j : Int) ∧ a3 9 = .int .i64 ((j + 1 : Nat) : Int) ∧ σ3 = σ2) (t - k) ⟨k, by omega, by omega, by rw [pt_self]; simp -implicitDefEqProofs (disch := omega) only [List.any_cons, List.any_nil, Nat.reduceEqDiff, List.map_cons, List.map_nil, Option.map_some, Option.map_none, List.nil_append, ↓reduceIte, vcu, ↓vcd, h9], by simp -implicitDefEqProofs (disch := omega) only [List.any_cons, List.any_nil, Nat.reduceEqDiff, List.map_cons, List.map_nil, Option.map_some, Option.map_none, List.nil_append, ↓reduceIte, vcu, ↓vcd]; simp, rfl⟩ ?_
      rintro m3 a3 σ3 hc3 ⟨j, hj, hkj, h9', h11, rfl⟩
      simp -implicitDefEqProofs (disch := omega) only [List.any_cons, List.any_nil, Nat.reduceEqDiff, List.map_cons, List.map_nil, Option.map_some, Option.map_none, List.nil_append, ↓reduceIte, vcu, ↓vcd, c0, c1, c5, c6] at hc3
      obtain ⟨d0, d1, d5, d6, -⟩ := hc3
      by_cases hjl : j < t
      · have hb : pt L k (j + 1) ≤ 28179280429056 := part_le (L := L) (n := k) (t := j + 1) hL (by omega) (by omega)
        have q : (pt L k j : Int) * ((j + 1 : Nat) : Int) = (pt L k (j + 1) : Int) := by rw [pt_succ hkj, Int.natCast_mul]
        simp -implicitDefEqProofs (disch := omega) only [List.any_cons, List.any_nil, Nat.reduceEqDiff, List.map_cons, List.map_nil, Option.map_some, Option.map_none, List.nil_append, ↓reduceIte, vcu, ↓vcd, d0, d1, d5, d6, h9', h11, q]
        exact ⟨by simp [d0, d1, d5, d6, c0, c1, c5, c6], m3 - 1, by omega, j + 1, by omega, by omega, rfl, by simp, trivial⟩
      · have e : j = t := by omega
        subst e
        have hterm : pt L k j = term L j k := rfl
        rw [hterm] at h9'
        have hst := busyN_succ L j k
        have hbl := busyN_length L j k
        simp -implicitDefEqProofs (disch := omega) only [List.any_cons, List.any_nil, Nat.reduceEqDiff, List.map_cons, List.map_nil, Option.map_some, Option.map_none, List.nil_append, ↓reduceIte, vcu, ↓vcd, d0, d1, d5, d6, h9', h11]
        refine r_lit el36 (out := #[.int .i64 (term L j k : Int)]) (by simp -implicitDefEqProofs (disch := omega) only [List.any_cons, List.any_nil, Nat.reduceEqDiff, List.map_cons, List.map_nil, Option.map_some, Option.map_none, List.nil_append, ↓reduceIte, vcu, ↓vcd]; kernel_rfl) (by kernel_rfl) fun e7 τ7 n7 s7 v7 => ?_
        refine r_pushI (g := g) (e := e7) (o := 0) (k := .i64) (xs := busyN L j k) (ys := [(term L j k : Int)]) (m := 1) (len := k) el36 (by omega) sl36 (by simp -implicitDefEqProofs (disch := omega) only [List.any_cons, List.any_nil, Nat.reduceEqDiff, List.map_cons, List.map_nil, Option.map_some, Option.map_none, List.nil_append, ↓reduceIte, vcu, ↓vcd, d5]) (s7 _ _ eg) hbl (by simp -implicitDefEqProofs (disch := omega) only [List.any_cons, List.any_nil, Nat.reduceEqDiff, List.map_cons, List.map_nil, Option.map_some, Option.map_none, List.nil_append, ↓reduceIte, vcu, ↓vcd]) (intsAt_own v7) rfl (by omega) fun z' τ8 n8 k8 v8 => ?_
        simp -implicitDefEqProofs (disch := omega) only [List.any_cons, List.any_nil, Nat.reduceEqDiff, List.map_cons, List.map_nil, Option.map_some, Option.map_none, List.nil_append, ↓reduceIte, vcu, ↓vcd, d6]
        exact ⟨by simp [d0, d1, c0, c1, h0, h1], m - 1, by omega, k + 1, z', by omega, rfl, by simp, k8.sub (hs.trans s7) ng, free_sub (hs.trans s7) n8, by rw [hst]; exact v8⟩
  · have e : n = t + 1 := by omega
    subst e
    simp -implicitDefEqProofs (disch := omega) only [List.any_cons, List.any_nil, Nat.reduceEqDiff, List.map_cons, List.map_nil, Option.map_some, Option.map_none, List.nil_append, ↓reduceIte, vcu, ↓vcd, h0, h1, h5, h6]
    refine fin_one Try.results37 ⟨hs, g, ?_, ng, eg⟩
    simp -implicitDefEqProofs (disch := omega) only [List.any_cons, List.any_nil, Nat.reduceEqDiff, List.map_cons, List.map_nil, Option.map_some, Option.map_none, List.nil_append, ↓reduceIte, vcu, ↓vcd, h5]

/-- the least number of lines for which at most a part is lost -/
def TfOk (L x y r : Int) : Prop := (¬ ((0 ≤ L ∧ L ≤ 6) ∧ FV x y) ∧ r = -1) ∨ (((0 ≤ L ∧ L ≤ 6) ∧ FV x y) ∧
  ((∃ n : Nat, n ≤ 8 ∧ r = n ∧ ¬ FLs x y (lpN L n) (lpD L n) ∧ ∀ k : Nat, k < n → FLs x y (lpN L k) (lpD L k)) ∨ (r = -1 ∧ ∀ k : Nat, k ≤ 8 → FLs x y (lpN L k) (lpD L k))))
theorem TfOk.uniq {L x y r r' : Int} (h : TfOk L x y r) (h' : TfOk L x y r') : r = r' := by
  rcases h with ⟨a, rfl⟩ | ⟨a, h⟩ <;> rcases h' with ⟨a', rfl⟩ | ⟨a', h'⟩
  · rfl
  · exact absurd a' a
  · exact absurd a a'
  · rcases h with ⟨n, b, rfl, c, d⟩ | ⟨rfl, b⟩ <;> rcases h' with ⟨n', b', rfl, c', d'⟩ | ⟨rfl, b'⟩
    · rcases Nat.lt_trichotomy n n' with e | e | e
      · exact absurd (d' n e) c
      · rw [e]
      · exact absurd (d n' e) c'
    · exact absurd (b' n b) c
    · exact absurd (b n' b') c'
    · rfl
theorem specTF_at (σ : AHeap) (L x y : Int) : ACall Try.prog w0 40 [.int .i64 L, .agg #[.int .i64 x, .int .i64 y]] σ fun r σ' => ∃ z : Int, r = .int .i64 z ∧ TfOk L x y z ∧ -1 ≤ z ∧ z ≤ 8 ∧ σ' = σ := by
  refine acall_go mixed Try.func40 rfl good40 fun pr => ?_
  simp -implicitDefEqProofs (disch := omega) only [List.any_cons, List.any_nil, Nat.reduceEqDiff, List.map_cons, List.map_nil, Option.map_some, Option.map_none, List.nil_append, ↓reduceIte, vcu, ↓vcd]
  refine r_boxed fun h1 τ1 n1 s1 e1 => ?_
  replace e1 : τ1 h1 = some ⟨[.int .i64 x, .int .i64 y], false⟩ := e1
  simp -implicitDefEqProofs (disch := omega) only [List.any_cons, List.any_nil, Nat.reduceEqDiff, List.map_cons, List.map_nil, Option.map_some, Option.map_none, List.nil_append, ↓reduceIte, vcu, ↓vcd]
  refine vc_loop_c mixed (by kernel_rfl) [0, 3] (fun m a σ' => ∃ n : Nat, m + n = 9 ∧ a 5 = .int .i64 n ∧ Sub τ1 σ' ∧ ((0 < n → (0 ≤ L ∧ L ≤ 6) ∧ FV x y) ∧ ∀ k : Nat, k < n → FLs x y (lpN L k) (lpD L k))) 9 ⟨0, by simp, rfl, Sub.refl _, fun h => absurd h (by omega), fun k hk => absurd hk (by omega)⟩ ?_
  rintro m a σ' hc ⟨n, hn, h5, hs, hd, hall⟩
  simp -implicitDefEqProofs (disch := omega) only [List.any_cons, List.any_nil, Nat.reduceEqDiff, List.map_cons, List.map_nil, Option.map_some, Option.map_none, List.nil_append, ↓reduceIte, vcu, ↓vcd] at hc
  obtain ⟨h0, h3, -⟩ := hc
  have e1' := hs _ _ e1
  have ll : lds σ' h1 0 2 = some [.int .i64 x, .int .i64 y] := lds_two (ld_of e1' rfl) (ld_of e1' rfl)
  by_cases h9 : n ≤ 8
  · simp -implicitDefEqProofs (disch := omega) only [List.any_cons, List.any_nil, Nat.reduceEqDiff, List.map_cons, List.map_nil, Option.map_some, Option.map_none, List.nil_append, ↓reduceIte, vcu, ↓vcd, h0, h3, h5]
    refine (in_calls _ _ _ _).mono ?_
    rintro r _ ⟨rfl, rfl⟩
    rename_i σ'
    by_cases hL : 0 ≤ L ∧ L ≤ 6
    case neg =>
      have hn0 : n = 0 := by
        rcases Nat.eq_zero_or_pos n with e | e
        · exact e
        · exact absurd (hd e).1 hL
      rw [decide_eq_false hL]
      simp -implicitDefEqProofs (disch := omega) only [List.any_cons, List.any_nil, Nat.reduceEqDiff, List.map_cons, List.map_nil, Option.map_some, Option.map_none, List.nil_append, ↓reduceIte, vcu, ↓vcd, opK_some, h0, h3, h5]
      refine fin_drop Try.results40 σ (s1.trans hs) ⟨-1, ?_, .inl ⟨fun hh => hL hh.1, rfl⟩, by omega, by omega, rfl⟩
      simp -implicitDefEqProofs (disch := omega) only [List.any_cons, List.any_nil, Nat.reduceEqDiff, List.map_cons, List.map_nil, Option.map_some, Option.map_none, List.nil_append, ↓reduceIte, vcu, ↓vcd]
    rw [decide_eq_true hL]
    simp -implicitDefEqProofs (disch := omega) only [List.any_cons, List.any_nil, Nat.reduceEqDiff, List.map_cons, List.map_nil, Option.map_some, Option.map_none, List.nil_append, ↓reduceIte, vcu, ↓vcd, opK_some, h0, h3, h5, ll, co24]
    refine (specFV_at σ' x y).mono ?_
    rintro r _ ⟨rfl, rfl⟩
    rename_i σ'
    by_cases hF : FV x y
    case neg =>
      rw [decide_eq_false hF]
      simp -implicitDefEqProofs (disch := omega) only [List.any_cons, List.any_nil, Nat.reduceEqDiff, List.map_cons, List.map_nil, Option.map_some, Option.map_none, List.nil_append, ↓reduceIte, vcu, ↓vcd, opK_some, h0, h3, h5]
      refine fin_drop Try.results40 σ (s1.trans hs) ⟨-1, ?_, .inl ⟨fun hh => hF hh.2, rfl⟩, by omega, by omega, rfl⟩
      simp -implicitDefEqProofs (disch := omega) only [List.any_cons, List.any_nil, Nat.reduceEqDiff, List.map_cons, List.map_nil, Option.map_some, Option.map_none, List.nil_append, ↓reduceIte, vcu, ↓vcd]
    rw [decide_eq_true hF]
    simp -implicitDefEqProofs (disch := omega) only [List.any_cons, List.any_nil, Nat.reduceEqDiff, List.map_cons, List.map_nil, Option.map_some, Option.map_none, List.nil_append, ↓reduceIte, vcu, ↓vcd, opK_some, h0, h3, h5]
    refine (specLP_at σ' L n).mono ?_
    rintro r _ ⟨rfl, rfl⟩
    rename_i σ'
    simp -implicitDefEqProofs (disch := omega) only [List.any_cons, List.any_nil, Nat.reduceEqDiff, List.map_cons, List.map_nil, Option.map_some, Option.map_none, List.nil_append, ↓reduceIte, vcu, ↓vcd, opK_some, List.getElem?_toArray, List.getElem?_cons_zero, List.getElem?_cons_succ]
    refine r_local (cs := #[.int .i64 (lpN L n), .int .i64 (lpD L n)]) ze24 (by decide) (by simp -implicitDefEqProofs (disch := omega) only [List.any_cons, List.any_nil, Nat.reduceEqDiff, List.map_cons, List.map_nil, Option.map_some, Option.map_none, List.nil_append, ↓reduceIte, vcu, ↓vcd]) (by rw [co24]; rfl) rfl rfl (Nat.zero_lt_succ _) fun c6 τ2 n6 s2 e6 => ?_
    replace e6 : τ2 c6 = some ⟨[.int .i64 (lpN L n), .int .i64 (lpD L n)], false⟩ := e6
    have ll2 : lds τ2 h1 0 2 = some [.int .i64 x, .int .i64 y] := lds_two (ld_of (s2 _ _ e1') rfl) (ld_of (s2 _ _ e1') rfl)
    have l6 : lds τ2 c6 0 2 = some [.int .i64 (lpN L n), .int .i64 (lpD L n)] := lds_two (ld_of e6 rfl) (ld_of e6 rfl)
    simp -implicitDefEqProofs (disch := omega) only [List.any_cons, List.any_nil, Nat.reduceEqDiff, List.map_cons, List.map_nil, Option.map_some, Option.map_none, List.nil_append, ↓reduceIte, vcu, ↓vcd, h0, h3, h5, ll2, l6, co24]
    refine (specFL_at τ2 x y (lpN L n) (lpD L n)).mono ?_
    rintro r _ ⟨rfl, rfl⟩
    rename_i τ2
    by_cases hl : FLs x y (lpN L n) (lpD L n)
    · rw [decide_eq_true hl]
      simp -implicitDefEqProofs (disch := omega) only [List.any_cons, List.any_nil, Nat.reduceEqDiff, List.map_cons, List.map_nil, Option.map_some, Option.map_none, List.nil_append, ↓reduceIte, vcu, ↓vcd, opK_some, h0, h3, h5, Bool.not_true]
      refine ⟨by simp [h0, h3], m - 1, by omega, n + 1, by omega, by simp, hs.trans s2, fun _ => ⟨hL, hF⟩, fun k hk => ?_⟩
      by_cases e : k = n
      · subst e; exact hl
      · exact hall k (by omega)
    · rw [decide_eq_false hl]
      simp -implicitDefEqProofs (disch := omega) only [List.any_cons, List.any_nil, Nat.reduceEqDiff, List.map_cons, List.map_nil, Option.map_some, Option.map_none, List.nil_append, ↓reduceIte, vcu, ↓vcd, opK_some, h0, h3, h5, Bool.not_false]
      refine fin_drop Try.results40 σ ((s1.trans hs).trans s2) ⟨n, ?_, .inr ⟨⟨hL, hF⟩, .inl ⟨n, h9, rfl, hl, hall⟩⟩, by omega, by omega, rfl⟩
      simp -implicitDefEqProofs (disch := omega) only [List.any_cons, List.any_nil, Nat.reduceEqDiff, List.map_cons, List.map_nil, Option.map_some, Option.map_none, List.nil_append, ↓reduceIte, vcu, ↓vcd]
  · have e : n = 9 := by omega
    subst e
    simp -implicitDefEqProofs (disch := omega) only [List.any_cons, List.any_nil, Nat.reduceEqDiff, List.map_cons, List.map_nil, Option.map_some, Option.map_none, List.nil_append, ↓reduceIte, vcu, ↓vcd, h0, h3, h5]
    refine fin_drop Try.results40 σ (s1.trans hs) ⟨-1, ?_, .inr ⟨hd (by omega), .inr ⟨rfl, fun k hk => hall k (by omega)⟩⟩, by omega, by omega, rfl⟩
    simp -implicitDefEqProofs (disch := omega) only [List.any_cons, List.any_nil, Nat.reduceEqDiff, List.map_cons, List.map_nil, Option.map_some, Option.map_none, List.nil_append, ↓reduceIte, vcu, ↓vcd]
end Go.Proofs.Ytkepicmefpcgaaa
