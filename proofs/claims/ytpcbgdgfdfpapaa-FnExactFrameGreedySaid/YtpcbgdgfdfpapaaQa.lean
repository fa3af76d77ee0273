/- Ranks and their permutations; PermOf of the reference. -/
import Derived.Test.YtpcbgdgfdfpapaaGdM
set_option linter.unusedSimpArgs false
set_option linter.unusedVariables false
namespace Go.Proofs.Ytpcbgdgfdfpapaa
open Go Go.Abs Go.RowKit
variable {w0 : World}


def fac : Nat → Nat
  | 0 => 1
  | n + 1 => fac n * (n + 1)
theorem fac_le : ∀ {n : Nat}, n ≤ 6 → 1 ≤ fac n ∧ fac n ≤ 720 := by
  intro n h
  have : n = 0 ∨ n = 1 ∨ n = 2 ∨ n = 3 ∨ n = 4 ∨ n = 5 ∨ n = 6 := by omega
  rcases this with rfl | rfl | rfl | rfl | rfl | rfl | rfl <;> decide

theorem specFac_calls (σ : AHeap) (z : Int) (hz : 0 ≤ z ∧ z ≤ 6) :
    ACall Try.prog w0 81 [.int .i64 z] σ fun r σ' => r = .int .i64 (fac z.toNat) ∧ σ' = σ := by
  obtain ⟨n, rfl⟩ : ∃ n : Nat, z = n := ⟨z.toNat, by omega⟩
  rw [Int.toNat_natCast]
  have hn : n ≤ 6 := by omega
  refine acall_go mixed Try.func81 rfl good81 fun pr => ?_
  simp -implicitDefEqProofs (disch := omega) only [List.any_cons, List.any_nil, Nat.reduceEqDiff, List.map_cons, List.map_nil, Option.map_some, Option.map_none, List.nil_append, ↓reduceIte, vcu, ↓vcd]
  refine vc_loop mixed (by kernel_rfl) (fun m a σ' => ∃ i : Nat, m + i = 7 ∧ 1 ≤ i ∧ (i ≤ n ∨ i = 1) ∧ a 0 = .int .i64 n ∧ a 3 = .int .i64 (fac i) ∧ a 4 = .int .i64 (i + 1 : Nat) ∧ σ' = σ) 6 ⟨1, by omega, by omega, by omega, rfl, rfl, rfl, rfl⟩ ?_
  rintro m a σ' ⟨i, hi, h1, h2, h0, h3, h4, rfl⟩
  by_cases hlt : i + 1 ≤ n
  · have hb := fac_le (n := i) (by omega)
    have hb2 := fac_le (n := i + 1) (by omega)
    have hm : (fac i : Int) * ((i + 1 : Nat) : Int) = (fac (i + 1) : Nat) := by rw [fac]; simp
    simp -implicitDefEqProofs (disch := omega) only [List.any_cons, List.any_nil, Nat.reduceEqDiff, List.map_cons, List.map_nil, Option.map_some, Option.map_none, List.nil_append, ↓reduceIte, vcu, ↓vcd, h0, h3, h4]
    exact ⟨m - 1, by omega, i + 1, by omega, by omega, by omega, trivial, by rw [hm], by simp, trivial⟩
  · simp -implicitDefEqProofs (disch := omega) only [List.any_cons, List.any_nil, Nat.reduceEqDiff, List.map_cons, List.map_nil, Option.map_some, Option.map_none, List.nil_append, ↓reduceIte, vcu, ↓vcd, h0, h3, h4]
    refine fin_one Try.results81 ⟨?_, rfl⟩
    simp -implicitDefEqProofs (disch := omega) only [List.any_cons, List.any_nil, Nat.reduceEqDiff, List.map_cons, List.map_nil, Option.map_some, Option.map_none, List.nil_append, ↓reduceIte, vcu, ↓vcd, h3]
    rcases h2 with h2 | h2
    · have : i = n := by omega
      rw [this]
    · subst h2
      have : n = 0 ∨ n = 1 := by omega
      rcases this with rfl | rfl <;> rfl

/-- how many of the first i are such -/
def cnt (q : Int → Bool) (ys : List Int) (i : Nat) : Nat := ((ys.take i).filter q).length
theorem cnt_zero (q : Int → Bool) (ys : List Int) : cnt q ys 0 = 0 := by simp [cnt]
theorem cnt_le (q : Int → Bool) (ys : List Int) (i : Nat) : cnt q ys i ≤ ys.length := by
  unfold cnt; have h := List.length_filter_le q (ys.take i); have h2 := List.length_take_le' i ys; omega
theorem cnt_yes {q : Int → Bool} {ys : List Int} {i : Nat} (h : i < ys.length) (hq : q (ys.getD i 0) = true) : cnt q ys (i + 1) = cnt q ys i + 1 := by
  unfold cnt
  have e : ys.getD i 0 = ys[i] := by simp [List.getD, h]
  rw [e] at hq
  rw [List.take_succ_eq_append_getElem h, List.filter_append, List.length_append]; simp [hq]
theorem cnt_no {q : Int → Bool} {ys : List Int} {i : Nat} (h : i < ys.length) (hq : q (ys.getD i 0) = false) : cnt q ys (i + 1) = cnt q ys i := by
  unfold cnt
  have e : ys.getD i 0 = ys[i] := by simp [List.getD, h]
  rw [e] at hq
  rw [List.take_succ_eq_append_getElem h, List.filter_append, List.length_append]; simp [hq]
/-- how many behind a place are less -/
def less (xs : List Int) (k : Nat) : Nat := cnt (fun y => decide (y < xs.getD k 0)) (xs.drop (k + 1)) (xs.length - (k + 1))
theorem less_le (xs : List Int) (k : Nat) : less xs k ≤ xs.length := by
  unfold less; have := cnt_le (fun y => decide (y < xs.getD k 0)) (xs.drop (k + 1)) (xs.length - (k + 1)); simp at this ⊢; omega

def rankT (xs : List Int) (i : Nat) : Nat := less xs i * fac ((xs.length : Int) - 1 - i).toNat
def rankI (xs : List Int) (k : Nat) : Nat := ((List.range k).map (rankT xs)).sum
theorem rankI_succ (xs : List Int) (k : Nat) : rankI xs (k + 1) = rankI xs k + rankT xs k := by
  simp [rankI, List.range_succ, List.map_append, List.sum_append]
theorem rankT_le {xs : List Int} (h : xs.length ≤ 6) (k : Nat) : rankT xs k ≤ 4320 :=
  Nat.le_trans (Nat.mul_le_mul (by have := less_le xs k; omega : less xs k ≤ 6) (fac_le (by omega)).2) (by decide)
theorem rankI_le {xs : List Int} (h : xs.length ≤ 6) : ∀ k, rankI xs k ≤ k * 4320
  | 0 => by simp [rankI]
  | k + 1 => by rw [rankI_succ, Nat.succ_mul]; have := rankI_le h k; have := rankT_le h k; omega
def rankV (xs : List Int) : Int := if Valid xs then (rankI xs xs.length : Int) else -1

def idl (n : Nat) : List Int := (List.range n).map fun (i : Nat) => (i : Int)
theorem idl_getD {n i : Nat} (h : i < n) : (idl n).getD i 0 = i := by simp [idl, List.getD, h]


theorem r_pushO {b0 : Base} {P : Program} {a : AFrame} {σ β : AHeap} {K : AK} {all os : List Oper} {d : Nat} {ty : TypeId} {pos : String} {af : Array Go.Edge} {t u : TypeId} {zv : Value} {b : Nat} {x y : Operand} {v : Value} {e o m : Nat} {cs ds : List Int}
    (hE : Elems P t 1 zv b) (hb : b ≤ 64) (hu : ∃ e2, P.underlying u = some (.slice e2)) (hs : Sub β σ) (hx : ev a x = v) (hv : OwnI β σ v cs) (hy : ev a y = .slice (some ⟨e, o, none⟩) m 1) (he : IntsAt .i64 σ e o ds) (hm : ds.length = m) (hl : cs.length + m ≤ 1048576)
    (hk : ∀ g' τ, Sub β τ → β g' = none → τ g' = some ⟨ints .i64 (cs ++ ds), false⟩ → vcR P b0 false all os (fset a d (.slice (some ⟨g', 0, none⟩) (cs.length + m) 1)) τ K) :
    vcR P b0 false all (⟨some d, .call ⟨.builtin .append, #[x, y], #[t, u]⟩, ty, pos, af, none⟩ :: os) a σ K := by
  rcases hv with ⟨rfl, rfl⟩ | ⟨g, rfl, hg, hn⟩
  · refine r_pushI_nil hE hb hu hx hy he hm (by simp at hl; omega) fun g' τ h1 h2 h3 => ?_
    have := hk g' τ (hs.trans h2) (free_sub hs h1) (by simpa using h3)
    simpa using this
  · refine r_pushI hE hb hu hx hg rfl hy he hm (by omega) fun g' τ h1 h2 h3 => ?_
    exact hk g' τ (h2.sub hs hn) (free_sub hs h1) h3
theorem idl_succ (k : Nat) : idl (k + 1) = idl k ++ [(k : Int)] := by simp [idl, List.range_succ]
theorem idl_length (k : Nat) : (idl k).length = k := by simp [idl]

/-- what is left, the rank, what is there already, behind so many places -/
def ofS (n r : Nat) : Nat → List Int × Nat × List Int
  | 0 => (idl n, r, [])
  | k + 1 => ((ofS n r k).1.take ((ofS n r k).2.1 / fac (n - 1 - k)) ++ (ofS n r k).1.drop ((ofS n r k).2.1 / fac (n - 1 - k) + 1), (ofS n r k).2.1 % fac (n - 1 - k), (ofS n r k).2.2 ++ [(ofS n r k).1.getD ((ofS n r k).2.1 / fac (n - 1 - k)) 0])
theorem fac_pos (n : Nat) : 0 < fac n := by
  induction n with
  | zero => decide
  | succ n ih => exact Nat.mul_pos ih (by omega)
theorem ofS_at {n r k : Nat} (hk : k < n) (h : (ofS n r k).2.1 < fac (n - k)) : (ofS n r k).2.1 / fac (n - 1 - k) < n - k := by
  have e : n - k = (n - 1 - k) + 1 := by omega
  rw [e] at h ⊢
  have h2 : fac (n - 1 - k + 1) = fac (n - 1 - k) * (n - 1 - k + 1) := rfl
  rw [h2] at h
  exact Nat.div_lt_of_lt_mul h
theorem ofS_inv {n r : Nat} (hr : r < fac n) : ∀ k, k ≤ n → (ofS n r k).1.length = n - k ∧ (ofS n r k).2.1 < fac (n - k) ∧ (ofS n r k).2.2.length = k
  | 0, _ => ⟨by simp [ofS, idl_length], by simpa [ofS] using hr, rfl⟩
  | k + 1, hk => by
    obtain ⟨h1, h2, h3⟩ := ofS_inv hr k (by omega)
    have hat := ofS_at (by omega) h2
    have e : n - (k + 1) = n - 1 - k := by omega
    refine ⟨?_, ?_, ?_⟩
    · simp only [ofS]
      rw [List.length_append, List.length_take, List.length_drop]; omega
    · rw [e]; exact Nat.mod_lt _ (fac_pos _)
    · simp [ofS, h3]
def OfOk (l r : Int) : Prop := 0 ≤ l ∧ l ≤ 6 ∧ 0 ≤ r ∧ r < fac l.toNat
instance (l r : Int) : Decidable (OfOk l r) := by unfold OfOk; infer_instance
def ofV (l r : Int) : List Int := if OfOk l r then (ofS l.toNat r.toNat l.toNat).2.2 else []



theorem specOf_at (σ : AHeap) (l r : Int) (hlr : -9223372036854775808 ≤ r) : ACall Try.prog w0 82 [.int .i64 l, .int .i64 r] σ fun res σ' => ∃ v, res = .tuple #[v, .bool (decide (OfOk l r))] ∧ Sub σ σ' ∧ OwnI σ σ' v (ofV l r) := by
  unfold ofV
  refine acall_go mixed Try.func82 rfl good82 fun pr => ?_
  have no : ¬ OfOk l r → ∀ (a : AFrame) (τ : AHeap) (e : Nat), a 4 = .slice (some ⟨e, 0, none⟩) 0 1 → a 5 = .bool false → Sub σ τ → τ e = some ⟨[], false⟩ → σ e = none → fin Try.f82 (fun res σ' => ∃ v, res = .tuple #[v, .bool (decide (OfOk l r))] ∧ Sub σ σ' ∧ OwnI σ σ' v (if OfOk l r then (ofS l.toNat r.toNat l.toNat).2.2 else [])) a τ := fun hn a τ e h4 h5 hs he hne =>
    fin_two Try.results82 ⟨.slice (some ⟨e, 0, none⟩) 0 1, by rw [h4, h5, decide_eq_false hn], hs, .inr ⟨e, by rw [if_neg hn]; rfl, by rw [if_neg hn]; exact he, hne⟩⟩
  simp -implicitDefEqProofs (disch := omega) only [List.any_cons, List.any_nil, Nat.reduceEqDiff, List.map_cons, List.map_nil, Option.map_some, Option.map_none, List.nil_append, ↓reduceIte, vcu, ↓vcd]
  refine (in_calls σ l 0 6).mono ?_
  rintro r1 _ ⟨rfl, rfl⟩
  rename_i σ
  by_cases h06 : 0 ≤ l ∧ l ≤ 6
  · have hfl := fac_le (n := l.toNat) (by omega)
    rw [decide_eq_true h06]
    simp -implicitDefEqProofs (disch := omega) only [List.any_cons, List.any_nil, Nat.reduceEqDiff, List.map_cons, List.map_nil, Option.map_some, Option.map_none, List.nil_append, ↓reduceIte, vcu, ↓vcd, opK_some]
    refine (specFac_calls σ l (by omega)).mono ?_
    rintro r1 _ ⟨rfl, rfl⟩
    rename_i σ
    simp -implicitDefEqProofs (disch := omega) only [List.any_cons, List.any_nil, Nat.reduceEqDiff, List.map_cons, List.map_nil, Option.map_some, Option.map_none, List.nil_append, ↓reduceIte, vcu, ↓vcd, opK_some]
    refine (in_calls σ r 0 ((fac l.toNat : Int) - 1)).mono ?_
    rintro r1 _ ⟨rfl, rfl⟩
    rename_i σ
    by_cases hr : 0 ≤ r ∧ r ≤ (fac l.toNat : Int) - 1
    · have hOk : OfOk l r := ⟨by omega, by omega, by omega, by omega⟩
      rw [decide_eq_true hr]
      obtain ⟨n, rfl⟩ : ∃ n : Nat, l = n := ⟨l.toNat, by omega⟩
      obtain ⟨rk, rfl⟩ : ∃ rk : Nat, r = rk := ⟨r.toNat, by omega⟩
      simp only [Int.toNat_natCast] at *
      have hinv := ofS_inv (n := n) (r := rk) (by omega)
      clear no
      simp -implicitDefEqProofs (disch := omega) only [List.any_cons, List.any_nil, Nat.reduceEqDiff, List.map_cons, List.map_nil, Option.map_some, Option.map_none, List.nil_append, ↓reduceIte, vcu, ↓vcd, opK_some]
      refine r_lit el30 (out := #[]) (by kernel_rfl) (by kernel_rfl) fun e0 τ0 n0 s0 v0 => ?_
      simp -implicitDefEqProofs (disch := omega) only [List.any_cons, List.any_nil, Nat.reduceEqDiff, List.map_cons, List.map_nil, Option.map_some, Option.map_none, List.nil_append, ↓reduceIte, vcu, ↓vcd]
      refine vc_loop_c mixed (by kernel_rfl) [0, 1] (fun m a τ => ∃ (k g : Nat), m + k = n ∧ a 7 = .int .i64 k ∧ a 6 = .slice (some ⟨g, 0, none⟩) k 1 ∧ τ g = some ⟨ints .i64 (idl k), false⟩ ∧ σ g = none ∧ Sub σ τ) n ⟨0, e0, by simp, rfl, rfl, v0, n0, s0⟩ ?_
      rintro m a τ hc ⟨k, g, hk, h7, h6, hg, ng, hs⟩
      simp -implicitDefEqProofs (disch := omega) only [List.any_cons, List.any_nil, Nat.reduceEqDiff, List.map_cons, List.map_nil, Option.map_some, Option.map_none, List.nil_append, ↓reduceIte, vcu, ↓vcd] at hc
      obtain ⟨h0', h1', -⟩ := hc
      by_cases hlt : k < n
      · simp -implicitDefEqProofs (disch := omega) only [List.any_cons, List.any_nil, Nat.reduceEqDiff, List.map_cons, List.map_nil, Option.map_some, Option.map_none, List.nil_append, ↓reduceIte, vcu, ↓vcd, h0', h1', h6, h7]
        refine r_lit el30 (out := #[.int .i64 k]) (by simp -implicitDefEqProofs (disch := omega) only [List.any_cons, List.any_nil, Nat.reduceEqDiff, List.map_cons, List.map_nil, Option.map_some, Option.map_none, List.nil_append, ↓reduceIte, vcu, ↓vcd, h7]; kernel_rfl) (by kernel_rfl) fun e τ1 n1 s1 v1 => ?_
        refine r_pushI (g := g) (e := e) (o := 0) (k := .i64) (xs := idl k) (ys := [(k : Int)]) (m := 1) (len := k) el30 (by omega) sl30 (by simp -implicitDefEqProofs (disch := omega) only [List.any_cons, List.any_nil, Nat.reduceEqDiff, List.map_cons, List.map_nil, Option.map_some, Option.map_none, List.nil_append, ↓reduceIte, vcu, ↓vcd, h6]) (s1 _ _ hg) (idl_length k) (by simp -implicitDefEqProofs (disch := omega) only [List.any_cons, List.any_nil, Nat.reduceEqDiff, List.map_cons, List.map_nil, Option.map_some, Option.map_none, List.nil_append, ↓reduceIte, vcu, ↓vcd]) (intsAt_own v1) rfl (by omega) fun g2 τ2 n2 k2 v2 => ?_
        rw [← idl_succ] at v2
        simp -implicitDefEqProofs (disch := omega) only [List.any_cons, List.any_nil, Nat.reduceEqDiff, List.map_cons, List.map_nil, Option.map_some, Option.map_none, List.nil_append, ↓reduceIte, vcu, ↓vcd, h0', h1', h7]
        exact ⟨⟨trivial, trivial, trivial⟩, m - 1, by omega, k + 1, g2, by omega, by simp, rfl, v2, free_sub (hs.trans s1) n2, k2.sub (hs.trans s1) ng⟩
      · have e : k = n := by omega
        subst e
        simp -implicitDefEqProofs (disch := omega) only [List.any_cons, List.any_nil, Nat.reduceEqDiff, List.map_cons, List.map_nil, Option.map_some, Option.map_none, List.nil_append, ↓reduceIte, vcu, ↓vcd, h0', h1', h6, h7]
        refine r_lit el30 (out := #[]) (by kernel_rfl) (by kernel_rfl) fun e1 τ1 n1 s1 v1 => ?_
        simp -implicitDefEqProofs (disch := omega) only [List.any_cons, List.any_nil, Nat.reduceEqDiff, List.map_cons, List.map_nil, Option.map_some, Option.map_none, List.nil_append, ↓reduceIte, vcu, ↓vcd, h0']
        refine vc_loop_c mixed (by kernel_rfl) [0] (fun m a τ2 => ∃ (j gl go : Nat), m + j = k ∧ j ≤ k ∧ a 9 = .int .i64 ((k : Int) - 1 - j) ∧ a 1 = .int .i64 (ofS k rk j).2.1 ∧ a 6 = .slice (some ⟨gl, 0, none⟩) (k - j) 1 ∧ a 8 = .slice (some ⟨go, 0, none⟩) j 1 ∧ Sub σ τ2 ∧
          τ2 gl = some ⟨ints .i64 (ofS k rk j).1, false⟩ ∧ τ2 go = some ⟨ints .i64 (ofS k rk j).2.2, false⟩ ∧ σ gl = none ∧ σ go = none ∧ gl ≠ go) k ⟨0, g, e1, by simp, by omega, ?_, by simp -implicitDefEqProofs (disch := omega) only [List.any_cons, List.any_nil, Nat.reduceEqDiff, List.map_cons, List.map_nil, Option.map_some, Option.map_none, List.nil_append, ↓reduceIte, vcu, ↓vcd, h1']; rfl, by simpa [fset] using h6, rfl, hs.trans s1, s1 _ _ hg, v1, ng, free_sub hs n1, ne_of' n1 hg⟩ ?_
        · show Value.int .i64 ((k : Int) - 1) = .int .i64 ((k : Int) - 1 - ((0 : Nat) : Int))
          congr 1 <;> omega
        rintro m2 a2 τ2 hc2 ⟨j, gl, go, hj, hjk, h9, hrk, h6', h8, hs2, hgl, hgo, nl, no', hne⟩
        simp -implicitDefEqProofs (disch := omega) only [List.any_cons, List.any_nil, Nat.reduceEqDiff, List.map_cons, List.map_nil, Option.map_some, Option.map_none, List.nil_append, ↓reduceIte, vcu, ↓vcd, h0'] at hc2
        obtain ⟨h0'', -⟩ := hc2
        by_cases hjl : j < k
        · obtain ⟨i1, i2, i3⟩ := hinv j (by omega)
          have hat := ofS_at hjl i2
          have hfk := fac_le (n := k - 1 - j) (by omega)
          have hfk2 := fac_le (n := k - j) (by omega)
          have ek : (k : Int) - 1 - (j : Int) = ((k - 1 - j : Nat) : Int) := by omega
          rw [ek] at h9
          have hstep : ofS k rk (j + 1) = ((ofS k rk j).1.take ((ofS k rk j).2.1 / fac (k - 1 - j)) ++ (ofS k rk j).1.drop ((ofS k rk j).2.1 / fac (k - 1 - j) + 1), (ofS k rk j).2.1 % fac (k - 1 - j), (ofS k rk j).2.2 ++ [(ofS k rk j).1.getD ((ofS k rk j).2.1 / fac (k - 1 - j)) 0]) := rfl
          generalize ofS k rk j = st at *
          obtain ⟨lf, rr, out⟩ := st
          dsimp only at *
          generalize hF : fac (k - 1 - j) = F at *
          simp -implicitDefEqProofs (disch := omega) only [List.any_cons, List.any_nil, Nat.reduceEqDiff, List.map_cons, List.map_nil, Option.map_some, Option.map_none, List.nil_append, ↓reduceIte, vcu, ↓vcd, h9, hrk]
          refine (specFac_calls τ2 ((k - 1 - j : Nat) : Int) (by omega)).mono ?_
          rintro rf _ ⟨rfl, rfl⟩
          rename_i τ2
          simp only [Int.toNat_natCast, hF]
          have ediv : ((rr : Int) / (F : Int)) = ((rr / F : Nat) : Int) := by simp
          have emod : ((rr : Int) % (F : Int)) = ((rr % F : Nat) : Int) := by simp
          have hmod : rr % F < F := Nat.mod_lt _ (by omega)
          generalize rr / F = Qd at *
          generalize rr % F = Md at *
          simp -implicitDefEqProofs (disch := omega) only [List.any_cons, List.any_nil, Nat.reduceEqDiff, List.map_cons, List.map_nil, Option.map_some, Option.map_none, List.nil_append, ↓reduceIte, vcu, ↓vcd, opK_some, h9, hrk, ediv]
          refine (specFac_calls τ2 ((k - 1 - j : Nat) : Int) (by omega)).mono ?_
          rintro rf _ ⟨rfl, rfl⟩
          rename_i τ2
          simp only [Int.toNat_natCast, hF]
          have hx := own_at hgl (i := Qd) (by omega)
          simp -implicitDefEqProofs (disch := omega) only [List.any_cons, List.any_nil, Nat.reduceEqDiff, List.map_cons, List.map_nil, Option.map_some, Option.map_none, List.nil_append, ↓reduceIte, vcu, ↓vcd, opK_some, h6', h8, h9, hrk, ediv, emod, hx]
          refine r_lit el30 (out := #[.int .i64 (lf.getD (Qd) 0)]) (by simp -implicitDefEqProofs (disch := omega) only [List.any_cons, List.any_nil, Nat.reduceEqDiff, List.map_cons, List.map_nil, Option.map_some, Option.map_none, List.nil_append, ↓reduceIte, vcu, ↓vcd]; kernel_rfl) (by kernel_rfl) fun e τ3 n3 s3 v3 => ?_
          refine r_pushI (g := go) (e := e) (o := 0) (k := .i64) (xs := out) (ys := [lf.getD (Qd) 0]) (m := 1) (len := j) el30 (by omega) sl30 (by simp -implicitDefEqProofs (disch := omega) only [List.any_cons, List.any_nil, Nat.reduceEqDiff, List.map_cons, List.map_nil, Option.map_some, Option.map_none, List.nil_append, ↓reduceIte, vcu, ↓vcd, h8]) (s3 _ _ hgo) i3 (by simp -implicitDefEqProofs (disch := omega) only [List.any_cons, List.any_nil, Nat.reduceEqDiff, List.map_cons, List.map_nil, Option.map_some, Option.map_none, List.nil_append, ↓reduceIte, vcu, ↓vcd]) (intsAt_own v3) rfl (by omega) fun go2 τ4 n4 k4 v4 => ?_
          have hgl4 := k4.at (s3 _ _ hgl) hne
          have hs4 : Sub σ τ4 := k4.sub (hs2.trans s3) no'
          have ngo2 : σ go2 = none := free_sub (hs2.trans s3) n4
          have hne4 : gl ≠ go2 := ne_of' n4 (s3 _ _ hgl)
          have eat1 : (((Qd : Nat) : Int) + 1) = ((Qd + 1 : Nat) : Int) := by omega
          simp -implicitDefEqProofs (disch := omega) only [List.any_cons, List.any_nil, Nat.reduceEqDiff, List.map_cons, List.map_nil, Option.map_some, Option.map_none, List.nil_append, ↓reduceIte, vcu, ↓vcd, h6', h9]
          refine region_tree mixed (quiets [1, 2, 3, 5, 6, 7, 8] (.one 0 (.one 4 (.one 9 (quiets [10] .stop))))) [] (by kernel_rfl) (by kernel_rfl) (fun p hp => by cases hp) ?_
          refine tree_quiets _ _ _ _ sf0 (by kernel_rfl) (by kernel_rfl) ?_
          simp -implicitDefEqProofs (disch := omega) only [List.any_cons, List.any_nil, Nat.reduceEqDiff, List.map_cons, List.map_nil, Option.map_some, Option.map_none, List.nil_append, ↓reduceIte, vcu, ↓vcd, pickOps_nil, pickOps_cons, pickO_some, List.getElem?_cons_succ, List.getElem?_cons_zero, h6', eat1, Int.toNat_natCast]
          refine tree_one rfl ?_
          refine r_lit el30 (out := #[]) (by kernel_rfl) (by kernel_rfl) fun ea τ5 n5 s5 v5 => ?_
          simp -implicitDefEqProofs (disch := omega) only [List.any_cons, List.any_nil, Nat.reduceEqDiff, List.map_cons, List.map_nil, Option.map_some, Option.map_none, List.nil_append, ↓reduceIte, vcu, ↓vcd]
          refine ⟨keep_of rfl (fun p hp => by cases hp), tree_one rfl ?_⟩
          have hl5 : IntsAt .i64 τ5 gl 0 lf := intsAt_own (s5 _ _ hgl4)
          refine r_pushI (g := ea) (e := gl) (o := 0) (k := .i64) (xs := []) (ys := lf.take (Qd)) (m := Qd) (len := 0) el30 (by omega) sl30 (by simp -implicitDefEqProofs (disch := omega) only [List.any_cons, List.any_nil, Nat.reduceEqDiff, List.map_cons, List.map_nil, Option.map_some, Option.map_none, List.nil_append, ↓reduceIte, vcu, ↓vcd]) v5 rfl (by simp -implicitDefEqProofs (disch := omega) only [List.any_cons, List.any_nil, Nat.reduceEqDiff, List.map_cons, List.map_nil, Option.map_some, Option.map_none, List.nil_append, ↓reduceIte, vcu, ↓vcd, Int.toNat_natCast]) (hl5.take _) (by simp; omega) (by omega) fun gb τ6 n6 k6 v6 => ?_
          rw [List.nil_append] at v6
          have hgl6 := k6.at (s5 _ _ hgl4) (ne_of' n5 hgl4)
          have hgo6 := k6.at (s5 _ _ v4) (ne_of' n5 v4)
          have hs6 : Sub σ τ6 := k6.sub (hs4.trans s5) (free_sub hs4 n5)
          have nb := free_sub (hs4.trans s5) n6
          simp -implicitDefEqProofs (disch := omega) only [List.any_cons, List.any_nil, Nat.reduceEqDiff, List.map_cons, List.map_nil, Option.map_some, Option.map_none, List.nil_append, ↓reduceIte, vcu, ↓vcd, Nat.zero_add]
          refine ⟨keep_of rfl (fun p hp => by cases hp), tree_one rfl ?_⟩
          have hl6 : IntsAt .i64 τ6 gl 0 lf := intsAt_own hgl6
          have hdr := hl6.drop (Qd + 1)
          rw [Nat.zero_add] at hdr
          refine r_pushI (g := gb) (e := gl) (o := Qd + 1) (k := .i64) (xs := lf.take (Qd)) (ys := lf.drop (Qd + 1)) (m := k - j - (Qd + 1)) (len := Qd) el30 (by omega) sl30 (by simp -implicitDefEqProofs (disch := omega) only [List.any_cons, List.any_nil, Nat.reduceEqDiff, List.map_cons, List.map_nil, Option.map_some, Option.map_none, List.nil_append, ↓reduceIte, vcu, ↓vcd]) v6 (by simp; omega) (by simp -implicitDefEqProofs (disch := omega) only [List.any_cons, List.any_nil, Nat.reduceEqDiff, List.map_cons, List.map_nil, Option.map_some, Option.map_none, List.nil_append, ↓reduceIte, vcu, ↓vcd, Int.toNat_natCast]) hdr (by simp; omega) (by omega) fun gc τ7 n7 k7 v7 => ?_
          have hgo7 := k7.at hgo6 (ne_of' n6 (s5 _ _ v4))
          have hs7 : Sub σ τ7 := k7.sub hs6 nb
          have nc := free_sub hs6 n7
          simp -implicitDefEqProofs (disch := omega) only [List.any_cons, List.any_nil, Nat.reduceEqDiff, List.map_cons, List.map_nil, Option.map_some, Option.map_none, List.nil_append, ↓reduceIte, vcu, ↓vcd]
          refine ⟨keep_of rfl (fun p hp => by cases hp), ?_⟩
          refine tree_quiets _ _ _ _ sf0 (by kernel_rfl) (by kernel_rfl) ?_
          simp -implicitDefEqProofs (disch := omega) only [List.any_cons, List.any_nil, Nat.reduceEqDiff, List.map_cons, List.map_nil, Option.map_some, Option.map_none, List.nil_append, ↓reduceIte, vcu, ↓vcd, pickOps_nil, pickOps_cons, pickO_some, List.getElem?_cons_succ, List.getElem?_cons_zero]
          refine tree_stop ?_
          simp -implicitDefEqProofs (disch := omega) only [List.any_cons, List.any_nil, Nat.reduceEqDiff, List.map_cons, List.map_nil, Option.map_some, Option.map_none, List.nil_append, ↓reduceIte, vcu, ↓vcd, h9, h0'']
          refine ⟨⟨?_, trivial⟩, m2 - 1, by omega, j + 1, gc, go2, by omega, by omega, ?_, by rw [hstep], ?_, rfl, hs7, by rw [hstep]; exact v7, by rw [hstep]; exact hgo7, nc, ngo2, ne_of n7 hgo6⟩
          · first | trivial | exact h0'.symm
          · congr 1 <;> omega
          · congr 1 <;> omega
        · have e : j = k := by omega
          subst e
          simp -implicitDefEqProofs (disch := omega) only [List.any_cons, List.any_nil, Nat.reduceEqDiff, List.map_cons, List.map_nil, Option.map_some, Option.map_none, List.nil_append, ↓reduceIte, vcu, ↓vcd, h8, h9]
          refine fin_two Try.results82 ⟨.slice (some ⟨go, 0, none⟩) j 1, ?_, hs2, .inr ⟨go, ?_, ?_, no'⟩⟩
          · simp -implicitDefEqProofs (disch := omega) only [List.any_cons, List.any_nil, Nat.reduceEqDiff, List.map_cons, List.map_nil, Option.map_some, Option.map_none, List.nil_append, ↓reduceIte, vcu, ↓vcd, h8]
            simp [hOk]
          · rw [if_pos hOk, (hinv j (Nat.le_refl _)).2.2]
          · rw [if_pos hOk]; exact hgo
    · have hn : ¬ OfOk l r := fun h => hr (by unfold OfOk at h; omega)
      rw [decide_eq_false hr]
      simp -implicitDefEqProofs (disch := omega) only [List.any_cons, List.any_nil, Nat.reduceEqDiff, List.map_cons, List.map_nil, Option.map_some, Option.map_none, List.nil_append, ↓reduceIte, vcu, ↓vcd, opK_some]
      refine r_lit el30 (out := #[]) (by kernel_rfl) (by kernel_rfl) fun e0 τ0 n0 s0 v0 => ?_
      simp -implicitDefEqProofs (disch := omega) only [List.any_cons, List.any_nil, Nat.reduceEqDiff, List.map_cons, List.map_nil, Option.map_some, Option.map_none, List.nil_append, ↓reduceIte, vcu, ↓vcd]
      exact no hn _ τ0 e0 (by simp -implicitDefEqProofs (disch := omega) only [List.any_cons, List.any_nil, Nat.reduceEqDiff, List.map_cons, List.map_nil, Option.map_some, Option.map_none, List.nil_append, ↓reduceIte, vcu, ↓vcd]) (by simp -implicitDefEqProofs (disch := omega) only [List.any_cons, List.any_nil, Nat.reduceEqDiff, List.map_cons, List.map_nil, Option.map_some, Option.map_none, List.nil_append, ↓reduceIte, vcu, ↓vcd]) s0 v0 n0
  · have hn : ¬ OfOk l r := fun h => h06 ⟨h.1, h.2.1⟩
    rw [decide_eq_false h06]
    simp -implicitDefEqProofs (disch := omega) only [List.any_cons, List.any_nil, Nat.reduceEqDiff, List.map_cons, List.map_nil, Option.map_some, Option.map_none, List.nil_append, ↓reduceIte, vcu, ↓vcd, opK_some]
    refine r_lit el30 (out := #[]) (by kernel_rfl) (by kernel_rfl) fun e0 τ0 n0 s0 v0 => ?_
    simp -implicitDefEqProofs (disch := omega) only [List.any_cons, List.any_nil, Nat.reduceEqDiff, List.map_cons, List.map_nil, Option.map_some, Option.map_none, List.nil_append, ↓reduceIte, vcu, ↓vcd]
    exact no hn _ τ0 e0 (by simp -implicitDefEqProofs (disch := omega) only [List.any_cons, List.any_nil, Nat.reduceEqDiff, List.map_cons, List.map_nil, Option.map_some, Option.map_none, List.nil_append, ↓reduceIte, vcu, ↓vcd]) (by simp -implicitDefEqProofs (disch := omega) only [List.any_cons, List.any_nil, Nat.reduceEqDiff, List.map_cons, List.map_nil, Option.map_some, Option.map_none, List.nil_append, ↓reduceIte, vcu, ↓vcd]) s0 v0 n0
end Go.Proofs.Ytpcbgdgfdfpapaa
