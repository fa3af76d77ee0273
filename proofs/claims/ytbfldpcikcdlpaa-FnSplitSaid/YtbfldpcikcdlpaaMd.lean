/- leastMatch: the least continuation, number by number. -/
import Derived.Test.YtbfldpcikcdlpaaMc
set_option linter.unusedSimpArgs false
set_option linter.unusedVariables false
namespace Go.Proofs.Ytbfldpcikcdlpaa
open Go Go.Abs Go.RowKit
variable {w0 : World}

/-- append to a row of integers of one's own that is still wanted; how much room is left -/
theorem r_bothS {P : Program} {a : AFrame} {σ : AHeap} {K : AK} {all os : List Oper} {d : Nat} {ty : TypeId} {pos : String} {af : Array Go.Edge} {t u : TypeId} {zv : Value} {b : Nat} {x y : Operand} {g e o len : Nat} {xs sp : List Int} {z : Int} (hE : Elems P t 1 zv b) (hb : b ≤ 64) (hu : ∃ e2, P.underlying u = some (.slice e2))
    (hx : ev a x = .slice (some ⟨g, 0, none⟩) len 1) (hg : σ g = some ⟨ints .i64 (xs ++ sp), false⟩) (hn : xs.length = len) (hy : ev a y = .slice (some ⟨e, o, none⟩) 1 1) (he : IntsAt .i64 σ e o [z]) (hl : len ≤ 4294967296)
    (hk : ∀ g' τ sp', (g' = g ∨ (σ g' = none ∧ τ g = σ g)) → Kept g σ τ → τ g' = some ⟨ints .i64 (xs ++ [z] ++ sp'), false⟩ → 1 + sp'.length ≤ max 1 sp.length → vcR P w0 false all os (fset a d (.slice (some ⟨g', 0, none⟩) (len + 1) 1)) τ K) :
    vcR P w0 false all (⟨some d, .call ⟨.builtin .append, #[x, y], #[t, u]⟩, ty, pos, af, none⟩ :: os) a σ K := by
  obtain ⟨e0, i, a1, a2, a3, a4, a5⟩ := hE.ex
  obtain ⟨e2, hu⟩ := hu
  have hlen : (len * i.size + (ints .i64 [z]).length) * i.bytes ≤ 1099511627776 ∧ len * i.size + (ints .i64 [z]).length ≤ 1099511627776 := by
    rw [a4, a5, ints_length, Nat.mul_one]
    have : (len + 1) * b ≤ 4294967297 * 64 := Nat.mul_le_mul (by omega) hb
    simp only [List.length_singleton]; omega
  have hdiv : (ints .i64 [z]).length / i.size = 1 := by rw [a4, ints_length]; simp
  have hcell : acells i.size σ (ev a y) = some (ints .i64 [z]) := by rw [a4, hy]; exact acells_ints he
  refine r_append_both_at (b := 0) (ys := ints .i64 [z]) a1 hu a2 a3 hcell (by rw [a4]; exact hx) hg rfl (by rw [a4]; simp [ints_length]; omega) (ints_one _ _) hlen ?_ fun h' hh' => ?_
  · rw [hdiv, a4]
    by_cases hfit : 1 ≤ sp.length
    · refine hk g _ (sp.drop 1) (.inl rfl) (Kept.put _ _ _) ?_ (by simp; omega)
      rw [AHeap.upd_same]
      congr 2
      unfold appd
      rw [if_pos (by simp [ints_length]; omega)]
      unfold lwrite
      simp only [ints_length, Nat.zero_add, Nat.mul_one]
      simp [ints, ← hn, List.take_append, List.drop_append, List.drop_eq_nil_of_le]
    · refine hk g _ [] (.inl rfl) (Kept.put _ _ _) ?_ (by simp; omega)
      rw [AHeap.upd_same]
      congr 2
      unfold appd
      rw [if_neg (by simp [ints_length]; omega)]
      simp [ints, ← hn, List.take_append]
  · rw [hdiv, a4]
    have hne : g ≠ h' := by rintro rfl; rw [hg] at hh'; cases hh'
    refine hk h' _ [] (.inr ⟨hh', AHeap.upd_ne _ _ hne⟩) (fun q ob hq e => ?_) ?_ (by simp; omega)
    · rw [AHeap.upd_ne _ _ (by rintro rfl; rw [hh'] at e; cases e)]; exact e
    · rw [AHeap.upd_same]
      congr 2
      simp [ints, ← hn, List.take_append]

theorem index_at (σ : AHeap) (h o : Nat) (xs : List Int) (x : Int) (hv : IntsAt .i64 σ h o xs) (hl : xs.length ≤ 1048576) :
    ACall Try.prog w0 70 [.slice (some ⟨h, o, none⟩) xs.length 1, .int .i64 x] σ fun r σ' => ∃ z : Int, r = .int .i64 z ∧ (0 ≤ z ↔ x ∈ xs) ∧ σ' = σ := by
  refine acall_go mixed Try.func70 rfl good70 ?_
  simp -implicitDefEqProofs (disch := omega) only [List.any_cons, List.any_nil, Nat.reduceEqDiff, List.map_cons, List.map_nil, Option.map_some, Option.map_none, List.nil_append, ↓reduceIte, vcu0, vcu1, vcu2, vcu3, vcu4, vcu5, vcu6, vcu7, vcu8, vcu9, vcu10, vcu11, vcu12, vcu13, vcu14, vcu15, vcu16, ↓vcd0, ↓vcd1, ↓vcd2, ↓vcd3]
  refine vc_loop_c mixed (by kernel_rfl) [0, 1, 6, 7] (fun m a σ' => ∃ k : Nat, m + k = xs.length ∧ a 8 = .int .i64 k ∧ σ' = σ ∧ ∀ j, j < k → xs.getD j 0 ≠ x) xs.length ⟨0, by simp, rfl, rfl, by simp⟩ ?_
  rintro m a σ' hc ⟨k, hk, h8, rfl, hne⟩
  simp -implicitDefEqProofs (disch := omega) only [List.any_cons, List.any_nil, Nat.reduceEqDiff, List.map_cons, List.map_nil, Option.map_some, Option.map_none, List.nil_append, ↓reduceIte, vcu0, vcu1, vcu2, vcu3, vcu4, vcu5, vcu6, vcu7, vcu8, vcu9, vcu10, vcu11, vcu12, vcu13, vcu14, vcu15, vcu16, ↓vcd0, ↓vcd1, ↓vcd2, ↓vcd3] at hc
  obtain ⟨h0, h1, h6, h7, -⟩ := hc
  by_cases hlt : k < xs.length
  · have hx := hv k hlt
    by_cases he : x = xs.getD k 0
    · simp -implicitDefEqProofs (disch := omega) only [List.any_cons, List.any_nil, Nat.reduceEqDiff, List.map_cons, List.map_nil, Option.map_some, Option.map_none, List.nil_append, ↓reduceIte, vcu0, vcu1, vcu2, vcu3, vcu4, vcu5, vcu6, vcu7, vcu8, vcu9, vcu10, vcu11, vcu12, vcu13, vcu14, vcu15, vcu16, ↓vcd0, ↓vcd1, ↓vcd2, ↓vcd3, h0, h1, h6, h7, h8, hx, ← he, decide_true]
      refine fin_one Try.results70 ⟨k, ?_, ⟨fun _ => ?_, fun _ => by omega⟩, rfl⟩
      · simp -implicitDefEqProofs (disch := omega) only [List.any_cons, List.any_nil, Nat.reduceEqDiff, List.map_cons, List.map_nil, Option.map_some, Option.map_none, List.nil_append, ↓reduceIte, vcu0, vcu1, vcu2, vcu3, vcu4, vcu5, vcu6, vcu7, vcu8, vcu9, vcu10, vcu11, vcu12, vcu13, vcu14, vcu15, vcu16, ↓vcd0, ↓vcd1, ↓vcd2, ↓vcd3]
      · rw [he]; simp [List.getD, hlt]
    · simp -implicitDefEqProofs (disch := omega) only [List.any_cons, List.any_nil, Nat.reduceEqDiff, List.map_cons, List.map_nil, Option.map_some, Option.map_none, List.nil_append, ↓reduceIte, vcu0, vcu1, vcu2, vcu3, vcu4, vcu5, vcu6, vcu7, vcu8, vcu9, vcu10, vcu11, vcu12, vcu13, vcu14, vcu15, vcu16, ↓vcd0, ↓vcd1, ↓vcd2, ↓vcd3, h0, h1, h6, h7, h8, hx, he, decide_false]
      refine ⟨?_, m - 1, by omega, k + 1, by omega, by simp, trivial, fun j hj => ?_⟩
      · first | trivial | simp [h0, h1, h6, h7]
      · by_cases e : j = k
        · subst e; exact fun hh => he hh.symm
        · exact hne j (by omega)
  · simp -implicitDefEqProofs (disch := omega) only [List.any_cons, List.any_nil, Nat.reduceEqDiff, List.map_cons, List.map_nil, Option.map_some, Option.map_none, List.nil_append, ↓reduceIte, vcu0, vcu1, vcu2, vcu3, vcu4, vcu5, vcu6, vcu7, vcu8, vcu9, vcu10, vcu11, vcu12, vcu13, vcu14, vcu15, vcu16, ↓vcd0, ↓vcd1, ↓vcd2, ↓vcd3, h0, h1, h6, h7, h8]
    refine fin_one Try.results70 ⟨-1, ?_, ⟨fun h => by omega, fun hm => ?_⟩, rfl⟩
    · simp -implicitDefEqProofs (disch := omega) only [List.any_cons, List.any_nil, Nat.reduceEqDiff, List.map_cons, List.map_nil, Option.map_some, Option.map_none, List.nil_append, ↓reduceIte, vcu0, vcu1, vcu2, vcu3, vcu4, vcu5, vcu6, vcu7, vcu8, vcu9, vcu10, vcu11, vcu12, vcu13, vcu14, vcu15, vcu16, ↓vcd0, ↓vcd1, ↓vcd2, ↓vcd3]
    · obtain ⟨i, hi, rfl⟩ := List.getElem_of_mem hm
      exact absurd (by simp [List.getD, hi]) (hne i (by omega))
theorem contains_at (σ : AHeap) (h o : Nat) (xs : List Int) (x : Int) (hv : IntsAt .i64 σ h o xs) (hl : xs.length ≤ 1048576) :
    ACall Try.prog w0 67 [.slice (some ⟨h, o, none⟩) xs.length 1, .int .i64 x] σ fun r σ' => r = .bool (decide (x ∈ xs)) ∧ σ' = σ := by
  refine acall_go mixed Try.func67 rfl good67 ?_
  simp -implicitDefEqProofs (disch := omega) only [List.any_cons, List.any_nil, Nat.reduceEqDiff, List.map_cons, List.map_nil, Option.map_some, Option.map_none, List.nil_append, ↓reduceIte, vcu0, vcu1, vcu2, vcu3, vcu4, vcu5, vcu6, vcu7, vcu8, vcu9, vcu10, vcu11, vcu12, vcu13, vcu14, vcu15, vcu16, ↓vcd0, ↓vcd1, ↓vcd2, ↓vcd3]
  refine (index_at σ h o xs x hv hl).mono ?_
  rintro r _ ⟨z, rfl, hz, rfl⟩
  simp -implicitDefEqProofs (disch := omega) only [List.any_cons, List.any_nil, Nat.reduceEqDiff, List.map_cons, List.map_nil, Option.map_some, Option.map_none, List.nil_append, ↓reduceIte, vcu0, vcu1, vcu2, vcu3, vcu4, vcu5, vcu6, vcu7, vcu8, vcu9, vcu10, vcu11, vcu12, vcu13, vcu14, vcu15, vcu16, ↓vcd0, ↓vcd1, ↓vcd2, ↓vcd3, opK_some]
  refine fin_one Try.results67 ⟨?_, rfl⟩
  simp -implicitDefEqProofs (disch := omega) only [List.any_cons, List.any_nil, Nat.reduceEqDiff, List.map_cons, List.map_nil, Option.map_some, Option.map_none, List.nil_append, ↓reduceIte, vcu0, vcu1, vcu2, vcu3, vcu4, vcu5, vcu6, vcu7, vcu8, vcu9, vcu10, vcu11, vcu12, vcu13, vcu14, vcu15, vcu16, ↓vcd0, ↓vcd1, ↓vcd2, ↓vcd3]
  rw [decide_eq_decide.2 hz]

/-- the least numbers so far -/
structure Pre (rows : List (List Int)) (ps : List Int) : Prop where
  ok : ∀ k, k < ps.length → 0 ≤ ps.getD k 0 ∧ ps.getD k 0 < rows.length ∧ Edge rows k (ps.getD k 0).toNat ∧ ps.getD k 0 ∉ ps.take k
  least : ∀ k, k < ps.length → ∀ o : Nat, (o : Int) < ps.getD k 0 → ¬ (Edge rows k o ∧ (o : Int) ∉ ps.take k ∧ CanM rows (ps.take k ++ [(o : Int)]))
  can : CanM rows ps
theorem Pre.nil {rows : List (List Int)} (h : CanM rows []) : Pre rows [] := ⟨fun k hk => absurd hk (by simp), fun k hk => absurd hk (by simp), h⟩
theorem getD_app (xs : List Int) (x : Int) (k : Nat) : (xs ++ [x]).getD k 0 = if k = xs.length then x else xs.getD k 0 := by
  simp only [List.getD, List.getElem?_append]
  by_cases h1 : k < xs.length
  · rw [if_pos h1, if_neg (by omega)]
  · rw [if_neg h1]
    by_cases h2 : k = xs.length
    · subst h2; simp
    · rw [if_neg h2, List.getElem?_eq_none (by simp; omega), List.getElem?_eq_none (by omega)]
theorem Pre.push {rows : List (List Int)} {ps : List Int} {o : Nat} (h : Pre rows ps) (ho : o < rows.length) (he : Edge rows ps.length o) (hn : (o : Int) ∉ ps) (hc : CanM rows (ps ++ [(o : Int)]))
    (hl : ∀ o' : Nat, o' < o → ¬ (Edge rows ps.length o' ∧ (o' : Int) ∉ ps ∧ CanM rows (ps ++ [(o' : Int)]))) : Pre rows (ps ++ [(o : Int)]) := by
  have ht : ∀ k, k < ps.length → (ps ++ [(o : Int)]).take k = ps.take k := fun k hk => List.take_append_of_le_length (by omega)
  have ht2 : (ps ++ [(o : Int)]).take ps.length = ps := by simp
  refine ⟨fun k hk => ?_, fun k hk o' ho' => ?_, hc⟩
  · rw [getD_app]
    by_cases e : k = ps.length
    · subst e; rw [if_pos rfl, ht2]; exact ⟨by omega, by omega, by simpa using he, hn⟩
    · have hk' : k < ps.length := by simp at hk; omega
      rw [if_neg e, ht k hk']; exact h.ok k hk'
  · rw [getD_app] at ho'
    by_cases e : k = ps.length
    · subst e; rw [if_pos rfl] at ho'; rw [ht2]; exact hl o' (by omega)
    · have hk' : k < ps.length := by simp at hk; omega
      rw [if_neg e] at ho'; rw [ht k hk']; exact h.least k hk' o' ho'
theorem CanM.next {rows : List (List Int)} {ps : List Int} (h : CanM rows ps) (hl : ps.length < rows.length) : ∃ o, o < rows.length ∧ Edge rows ps.length o ∧ (o : Int) ∉ ps ∧ CanM rows (ps ++ [(o : Int)]) := by
  obtain ⟨p, hp⟩ := h
  refine ⟨p ps.length, hp.lt _ (Nat.le_refl _) hl, hp.edge _ (Nat.le_refl _) hl, hp.new _ (Nat.le_refl _) hl, p, ?_⟩
  have hlen : (ps ++ [((p ps.length : Nat) : Int)]).length = ps.length + 1 := by simp
  refine ⟨fun i h1 h2 => hp.lt i (by omega) h2, fun i h1 h2 => hp.edge i (by omega) h2, fun i h1 h2 hm => ?_, fun i j h1 h2 h3 h4 => hp.inj i j (by omega) h2 (by omega) h4⟩
  rcases List.mem_append.1 hm with hm | hm
  · exact hp.new i (by omega) h2 hm
  · have := List.mem_singleton.1 hm
    have := hp.inj i ps.length (by omega) h2 (Nat.le_refl _) hl (by omega)
    omega

theorem leastMatch_at (σ : AHeap) (th to : Nat) (rows : List (List Int)) (n : Nat) (hv : RowsAt σ th to rows) (hsq : Sq n rows) (hn6 : n ≤ 6) :
    ACall Try.prog w0 53 [.slice (some ⟨th, to, none⟩) n 1] σ fun r σ' => ∃ (v : Value) (b : Bool) (ps : List Int), r = .tuple #[v, .bool b] ∧ Sub σ σ' ∧ OwnI σ σ' v ps ∧ (b = false → ps = [] ∧ ¬ CanM rows []) ∧ (b = true → ps.length = n ∧ Pre rows ps) := by
  refine acall_go mixed Try.func53 rfl good53 ?_
  simp -implicitDefEqProofs (disch := omega) only [List.any_cons, List.any_nil, Nat.reduceEqDiff, List.map_cons, List.map_nil, Option.map_some, Option.map_none, List.nil_append, ↓reduceIte, vcu0, vcu1, vcu2, vcu3, vcu4, vcu5, vcu6, vcu7, vcu8, vcu9, vcu10, vcu11, vcu12, vcu13, vcu14, vcu15, vcu16, ↓vcd0, ↓vcd1, ↓vcd2, ↓vcd3]
  refine ACall.mono (R := fun r σ' => ∃ b : Bool, r = .bool b ∧ (b = true ↔ CanM rows []) ∧ Sub σ σ') ?_ ?_
  · refine ACall.nil_arg (pre := [_]) (post := []) (z := 1) (by kernel_rfl) fun gz hz => ?_
    refine (canMatch_at _ th to rows n gz 0 [] (hv.sub (sub_upd hz)) hsq hn6 (fun i hi => absurd hi (by simp)) (by simp) (fun j hj => absurd hj (by simp))).mono ?_
    rintro r σ' ⟨b, rfl, h1, h2⟩
    exact ⟨b, rfl, h1, (sub_upd hz).trans h2⟩
  rintro r σ1 ⟨b, rfl, hb, s1⟩
  cases b with
  | false =>
    simp -implicitDefEqProofs (disch := omega) only [List.any_cons, List.any_nil, Nat.reduceEqDiff, List.map_cons, List.map_nil, Option.map_some, Option.map_none, List.nil_append, ↓reduceIte, vcu0, vcu1, vcu2, vcu3, vcu4, vcu5, vcu6, vcu7, vcu8, vcu9, vcu10, vcu11, vcu12, vcu13, vcu14, vcu15, vcu16, ↓vcd0, ↓vcd1, ↓vcd2, ↓vcd3, opK_some]
    refine fin_two Try.results53 ⟨.slice none 0 0, false, [], ?_, s1, .inl ⟨rfl, rfl⟩, fun _ => ⟨rfl, fun h => absurd (hb.2 h) (by simp)⟩, fun h => (by cases h)⟩
    simp -implicitDefEqProofs (disch := omega) only [List.any_cons, List.any_nil, Nat.reduceEqDiff, List.map_cons, List.map_nil, Option.map_some, Option.map_none, List.nil_append, ↓reduceIte, vcu0, vcu1, vcu2, vcu3, vcu4, vcu5, vcu6, vcu7, vcu8, vcu9, vcu10, vcu11, vcu12, vcu13, vcu14, vcu15, vcu16, ↓vcd0, ↓vcd1, ↓vcd2, ↓vcd3]
  | true =>
    have hcan := hb.1 rfl
    simp -implicitDefEqProofs (disch := omega) only [List.any_cons, List.any_nil, Nat.reduceEqDiff, List.map_cons, List.map_nil, Option.map_some, Option.map_none, List.nil_append, ↓reduceIte, vcu0, vcu1, vcu2, vcu3, vcu4, vcu5, vcu6, vcu7, vcu8, vcu9, vcu10, vcu11, vcu12, vcu13, vcu14, vcu15, vcu16, ↓vcd0, ↓vcd1, ↓vcd2, ↓vcd3, opK_some]
    refine r_makeI (kx := .i64) (ky := .i64) (l := 0) (c := n) el27 (by omega) (by simp -implicitDefEqProofs (disch := omega) only [List.any_cons, List.any_nil, Nat.reduceEqDiff, List.map_cons, List.map_nil, Option.map_some, Option.map_none, List.nil_append, ↓reduceIte, vcu0, vcu1, vcu2, vcu3, vcu4, vcu5, vcu6, vcu7, vcu8, vcu9, vcu10, vcu11, vcu12, vcu13, vcu14, vcu15, vcu16, ↓vcd0, ↓vcd1, ↓vcd2, ↓vcd3]; rfl) (by simp -implicitDefEqProofs (disch := omega) only [List.any_cons, List.any_nil, Nat.reduceEqDiff, List.map_cons, List.map_nil, Option.map_some, Option.map_none, List.nil_append, ↓reduceIte, vcu0, vcu1, vcu2, vcu3, vcu4, vcu5, vcu6, vcu7, vcu8, vcu9, vcu10, vcu11, vcu12, vcu13, vcu14, vcu15, vcu16, ↓vcd0, ↓vcd1, ↓vcd2, ↓vcd3]) (by omega) fun g0 σ2 n2 s2 e2 => ?_
    simp -implicitDefEqProofs (disch := omega) only [List.any_cons, List.any_nil, Nat.reduceEqDiff, List.map_cons, List.map_nil, Option.map_some, Option.map_none, List.nil_append, ↓reduceIte, vcu0, vcu1, vcu2, vcu3, vcu4, vcu5, vcu6, vcu7, vcu8, vcu9, vcu10, vcu11, vcu12, vcu13, vcu14, vcu15, vcu16, ↓vcd0, ↓vcd1, ↓vcd2, ↓vcd3]
    refine vc_loop_c mixed (by kernel_rfl) [0, 15, 16] (fun m a σ' => ∃ (g : Nat) (ps sp : List Int), m + ps.length = n ∧ a 17 = .int .i64 ps.length ∧ a 4 = .slice (some ⟨g, 0, none⟩) ps.length 1 ∧ Sub σ σ' ∧ σ g = none ∧ σ' g = some ⟨ints .i64 (ps ++ sp), false⟩ ∧ ps.length + sp.length ≤ n ∧ Pre rows ps) n
      ⟨g0, [], [], by simp, rfl, rfl, s1.trans s2, free_sub s1 n2, e2, by simp, Pre.nil hcan⟩ ?_
    clear e2 n2 s2 s1
    rintro m a σ3 hc ⟨g, ps, sp, hm, h17, h4, hs, fg, eg, hsp, hP⟩
    simp -implicitDefEqProofs (disch := omega) only [List.any_cons, List.any_nil, Nat.reduceEqDiff, List.map_cons, List.map_nil, Option.map_some, Option.map_none, List.nil_append, ↓reduceIte, vcu0, vcu1, vcu2, vcu3, vcu4, vcu5, vcu6, vcu7, vcu8, vcu9, vcu10, vcu11, vcu12, vcu13, vcu14, vcu15, vcu16, ↓vcd0, ↓vcd1, ↓vcd2, ↓vcd3] at hc
    obtain ⟨h0, h15, h16, -⟩ := hc
    by_cases hlt : ps.length < n
    · obtain ⟨v, hx, hi⟩ := (hv.sub hs) ps.length (by rw [hsq.1]; exact hlt)
      have hrl := hsq.2 ps.length hlt
      have hen : ∀ o, en rows ps.length o = (rows.getD ps.length []).getD o 0 := fun _ => rfl
      have hrowσ : ∃ rg ro, v = .slice (some ⟨rg, ro, none⟩) n 1 ∧ IntsAt .i64 σ rg ro (rows.getD ps.length []) := by
        obtain ⟨v', hx', hi'⟩ := hv ps.length (by rw [hsq.1]; exact hlt)
        rw [ld_sub hs hx'] at hx
        cases hx
        rcases hi' with ⟨-, e⟩ | ⟨rg, ro, e, hh⟩
        · rw [e] at hrl; simp at hrl; omega
        · rw [hrl] at e; exact ⟨rg, ro, e, hh⟩
      obtain ⟨rg, ro, rfl, hrow⟩ := hrowσ
      clear hi
      generalize rows.getD ps.length [] = row at hrow hrl hen
      simp -implicitDefEqProofs (disch := omega) only [List.any_cons, List.any_nil, Nat.reduceEqDiff, List.map_cons, List.map_nil, Option.map_some, Option.map_none, List.nil_append, ↓reduceIte, vcu0, vcu1, vcu2, vcu3, vcu4, vcu5, vcu6, vcu7, vcu8, vcu9, vcu10, vcu11, vcu12, vcu13, vcu14, vcu15, vcu16, ↓vcd0, ↓vcd1, ↓vcd2, ↓vcd3, h0, h15, h16, h17, hx]
      refine vc_loop_c mixed (by kernel_rfl) [0, 4, 15, 16, 17, 21, 22] (fun m2 a2 σ' => ∃ (j : Nat) (sp : List Int), m2 + j = n ∧ a2 23 = .int .i64 j ∧ Sub σ σ' ∧ σ' g = some ⟨ints .i64 (ps ++ sp), false⟩ ∧ ps.length + sp.length ≤ n ∧ ∀ o' : Nat, o' < j → ¬ (Edge rows ps.length o' ∧ (o' : Int) ∉ ps ∧ CanM rows (ps ++ [(o' : Int)]))) n
        ⟨0, sp, by simp, rfl, hs, eg, hsp, fun o' h => absurd h (by omega)⟩ ?_
      clear eg hsp hs hx sp
      rintro m2 a2 σ4 hc2 ⟨j, sp, hj, h23, hs, eg, hsp, hno⟩
      simp -implicitDefEqProofs (disch := omega) only [List.any_cons, List.any_nil, Nat.reduceEqDiff, List.map_cons, List.map_nil, Option.map_some, Option.map_none, List.nil_append, ↓reduceIte, vcu0, vcu1, vcu2, vcu3, vcu4, vcu5, vcu6, vcu7, vcu8, vcu9, vcu10, vcu11, vcu12, vcu13, vcu14, vcu15, vcu16, ↓vcd0, ↓vcd1, ↓vcd2, ↓vcd3, h0, h4, h15, h16, h17] at hc2
      obtain ⟨c0, c4, c15, c16, c17, c21, c22, -⟩ := hc2
      have hps : IntsAt .i64 σ4 g 0 ps := by
        have := (intsAt_own eg).take ps.length
        rwa [List.take_append_of_le_length (Nat.le_refl _), List.take_length] at this
      by_cases hjl : j < n
      · have hy := (hrow.sub hs) j (by omega)
        have hEd : Edge rows ps.length j ↔ 0 < row.getD j 0 := by unfold Edge; rw [hen]
        by_cases hpos : 0 < row.getD j 0
        case' neg =>
          simp -implicitDefEqProofs (disch := omega) only [List.any_cons, List.any_nil, Nat.reduceEqDiff, List.map_cons, List.map_nil, Option.map_some, Option.map_none, List.nil_append, ↓reduceIte, vcu0, vcu1, vcu2, vcu3, vcu4, vcu5, vcu6, vcu7, vcu8, vcu9, vcu10, vcu11, vcu12, vcu13, vcu14, vcu15, vcu16, ↓vcd0, ↓vcd1, ↓vcd2, ↓vcd3, c0, c4, c15, c16, c17, c21, c22, h23, hy]
          have hskip : ¬ (Edge rows ps.length j ∧ (j : Int) ∉ ps ∧ CanM rows (ps ++ [(j : Int)])) := fun hh => hpos (hEd.1 hh.1)
        case' pos =>
          simp -implicitDefEqProofs (disch := omega) only [List.any_cons, List.any_nil, Nat.reduceEqDiff, List.map_cons, List.map_nil, Option.map_some, Option.map_none, List.nil_append, ↓reduceIte, vcu0, vcu1, vcu2, vcu3, vcu4, vcu5, vcu6, vcu7, vcu8, vcu9, vcu10, vcu11, vcu12, vcu13, vcu14, vcu15, vcu16, ↓vcd0, ↓vcd1, ↓vcd2, ↓vcd3, c0, c4, c15, c16, c17, c21, c22, h23, hy]
          refine (contains_at σ4 g 0 ps j hps (by omega)).mono ?_
          rintro r _ ⟨rfl, rfl⟩
          rename_i σ4
          by_cases hin : (j : Int) ∈ ps
          case' pos =>
            rw [decide_eq_true hin]
            simp -implicitDefEqProofs (disch := omega) only [List.any_cons, List.any_nil, Nat.reduceEqDiff, List.map_cons, List.map_nil, Option.map_some, Option.map_none, List.nil_append, ↓reduceIte, vcu0, vcu1, vcu2, vcu3, vcu4, vcu5, vcu6, vcu7, vcu8, vcu9, vcu10, vcu11, vcu12, vcu13, vcu14, vcu15, vcu16, ↓vcd0, ↓vcd1, ↓vcd2, ↓vcd3, opK_some, c0, c4, c15, c16, c17, c21, c22, h23]
            have hskip : ¬ (Edge rows ps.length j ∧ (j : Int) ∉ ps ∧ CanM rows (ps ++ [(j : Int)])) := fun hh => hh.2.1 hin
          case' neg =>
            rw [decide_eq_false hin]
            simp -implicitDefEqProofs (disch := omega) only [List.any_cons, List.any_nil, Nat.reduceEqDiff, List.map_cons, List.map_nil, Option.map_some, Option.map_none, List.nil_append, ↓reduceIte, vcu0, vcu1, vcu2, vcu3, vcu4, vcu5, vcu6, vcu7, vcu8, vcu9, vcu10, vcu11, vcu12, vcu13, vcu14, vcu15, vcu16, ↓vcd0, ↓vcd1, ↓vcd2, ↓vcd3, opK_some, c0, c4, c15, c16, c17, c21, c22, h23]
            refine r_lit el27 (out := #[.int .i64 j]) (by simp -implicitDefEqProofs (disch := omega) only [List.any_cons, List.any_nil, Nat.reduceEqDiff, List.map_cons, List.map_nil, Option.map_some, Option.map_none, List.nil_append, ↓reduceIte, vcu0, vcu1, vcu2, vcu3, vcu4, vcu5, vcu6, vcu7, vcu8, vcu9, vcu10, vcu11, vcu12, vcu13, vcu14, vcu15, vcu16, ↓vcd0, ↓vcd1, ↓vcd2, ↓vcd3]; kernel_rfl) (by kernel_rfl) fun e5 σ5 n5 s5 v5 => ?_
            simp -implicitDefEqProofs (disch := omega) only [List.any_cons, List.any_nil, Nat.reduceEqDiff, List.map_cons, List.map_nil, Option.map_some, Option.map_none, List.nil_append, ↓reduceIte, vcu0, vcu1, vcu2, vcu3, vcu4, vcu5, vcu6, vcu7, vcu8, vcu9, vcu10, vcu11, vcu12, vcu13, vcu14, vcu15, vcu16, ↓vcd0, ↓vcd1, ↓vcd2, ↓vcd3]
            have hne5 : g ≠ e5 := ne_of' n5 eg
            have hlen : (ps ++ [(j : Int)]).length = ps.length + 1 := by simp
            refine r_bothS (g := g) (e := e5) (o := 0) (xs := ps) (sp := sp) (z := j) (len := ps.length) el27 (by omega) sl27 (by simp -implicitDefEqProofs (disch := omega) only [List.any_cons, List.any_nil, Nat.reduceEqDiff, List.map_cons, List.map_nil, Option.map_some, Option.map_none, List.nil_append, ↓reduceIte, vcu0, vcu1, vcu2, vcu3, vcu4, vcu5, vcu6, vcu7, vcu8, vcu9, vcu10, vcu11, vcu12, vcu13, vcu14, vcu15, vcu16, ↓vcd0, ↓vcd1, ↓vcd2, ↓vcd3, c4]) (s5 _ _ eg) rfl (by simp -implicitDefEqProofs (disch := omega) only [List.any_cons, List.any_nil, Nat.reduceEqDiff, List.map_cons, List.map_nil, Option.map_some, Option.map_none, List.nil_append, ↓reduceIte, vcu0, vcu1, vcu2, vcu3, vcu4, vcu5, vcu6, vcu7, vcu8, vcu9, vcu10, vcu11, vcu12, vcu13, vcu14, vcu15, vcu16, ↓vcd0, ↓vcd1, ↓vcd2, ↓vcd3]) (intsAt_own (xs := [(j : Int)]) v5) (by omega) fun g6 σ6 sp6 hg6 k6 e6 l6 => ?_
            simp -implicitDefEqProofs (disch := omega) only [List.any_cons, List.any_nil, Nat.reduceEqDiff, List.map_cons, List.map_nil, Option.map_some, Option.map_none, List.nil_append, ↓reduceIte, vcu0, vcu1, vcu2, vcu3, vcu4, vcu5, vcu6, vcu7, vcu8, vcu9, vcu10, vcu11, vcu12, vcu13, vcu14, vcu15, vcu16, ↓vcd0, ↓vcd1, ↓vcd2, ↓vcd3, c0]
            have hs6 : Sub σ σ6 := k6.sub (hs.trans s5) fg
            have eg6 : ∃ sp7 : List Int, σ6 g = some ⟨ints .i64 (ps ++ sp7), false⟩ ∧ ps.length + sp7.length ≤ n := by
              rcases hg6 with rfl | ⟨hn6', he6⟩
              · exact ⟨[(j : Int)] ++ sp6, by rw [← List.append_assoc]; exact e6, by simp; omega⟩
              · exact ⟨sp, by rw [he6]; exact s5 _ _ eg, hsp⟩
            have hgiv : IntsAt .i64 σ6 g6 0 (ps ++ [(j : Int)]) := by
              have := (intsAt_own e6).take (ps.length + 1)
              rwa [List.take_append_of_le_length (by simp), List.take_of_length_le (by simp)] at this
            have hcm := canMatch_at (w0 := w0) σ6 th to rows n g6 0 (ps ++ [(j : Int)]) (hv.sub hs6) hsq hn6 hgiv (by rw [hlen]; omega) (fun i hi => by
              rw [getD_app]
              split
              · omega
              · have hi' : i < ps.length := by rw [hlen] at hi; omega
                have := hP.ok i hi'
                rw [hsq.1] at this
                exact ⟨this.1, this.2.1⟩)
            rw [hlen] at hcm
            refine hcm.mono ?_
            rintro r σ7 ⟨b, rfl, hb7, s7⟩
            obtain ⟨sp7, eg7, hsp7⟩ := eg6
            replace eg7 := s7 _ _ eg7
            cases b with
            | true =>
              simp -implicitDefEqProofs (disch := omega) only [List.any_cons, List.any_nil, Nat.reduceEqDiff, List.map_cons, List.map_nil, Option.map_some, Option.map_none, List.nil_append, ↓reduceIte, vcu0, vcu1, vcu2, vcu3, vcu4, vcu5, vcu6, vcu7, vcu8, vcu9, vcu10, vcu11, vcu12, vcu13, vcu14, vcu15, vcu16, ↓vcd0, ↓vcd1, ↓vcd2, ↓vcd3, opK_some, c0, c4, c15, c16, c17, c21, c22, h23]
              refine r_lit el27 (out := #[.int .i64 j]) (by simp -implicitDefEqProofs (disch := omega) only [List.any_cons, List.any_nil, Nat.reduceEqDiff, List.map_cons, List.map_nil, Option.map_some, Option.map_none, List.nil_append, ↓reduceIte, vcu0, vcu1, vcu2, vcu3, vcu4, vcu5, vcu6, vcu7, vcu8, vcu9, vcu10, vcu11, vcu12, vcu13, vcu14, vcu15, vcu16, ↓vcd0, ↓vcd1, ↓vcd2, ↓vcd3]; kernel_rfl) (by kernel_rfl) fun e8 σ8 n8 s8 v8 => ?_
              refine r_bothS (g := g) (e := e8) (o := 0) (xs := ps) (sp := sp7) (z := j) (len := ps.length) el27 (by omega) sl27 (by simp -implicitDefEqProofs (disch := omega) only [List.any_cons, List.any_nil, Nat.reduceEqDiff, List.map_cons, List.map_nil, Option.map_some, Option.map_none, List.nil_append, ↓reduceIte, vcu0, vcu1, vcu2, vcu3, vcu4, vcu5, vcu6, vcu7, vcu8, vcu9, vcu10, vcu11, vcu12, vcu13, vcu14, vcu15, vcu16, ↓vcd0, ↓vcd1, ↓vcd2, ↓vcd3, c4]) (s8 _ _ eg7) rfl (by simp -implicitDefEqProofs (disch := omega) only [List.any_cons, List.any_nil, Nat.reduceEqDiff, List.map_cons, List.map_nil, Option.map_some, Option.map_none, List.nil_append, ↓reduceIte, vcu0, vcu1, vcu2, vcu3, vcu4, vcu5, vcu6, vcu7, vcu8, vcu9, vcu10, vcu11, vcu12, vcu13, vcu14, vcu15, vcu16, ↓vcd0, ↓vcd1, ↓vcd2, ↓vcd3]) (intsAt_own (xs := [(j : Int)]) v8) (by omega) fun g9 σ9 sp9 hg9 k9 e9 l9 => ?_
              simp -implicitDefEqProofs (disch := omega) only [List.any_cons, List.any_nil, Nat.reduceEqDiff, List.map_cons, List.map_nil, Option.map_some, Option.map_none, List.nil_append, ↓reduceIte, vcu0, vcu1, vcu2, vcu3, vcu4, vcu5, vcu6, vcu7, vcu8, vcu9, vcu10, vcu11, vcu12, vcu13, vcu14, vcu15, vcu16, ↓vcd0, ↓vcd1, ↓vcd2, ↓vcd3, c17]
              have hs9 : Sub σ σ9 := k9.sub ((hs6.trans s7).trans s8) fg
              have fg9 : σ g9 = none := by
                rcases hg9 with rfl | ⟨hn9, -⟩
                · exact fg
                · exact free_sub ((hs6.trans s7).trans s8) hn9
              refine ⟨?_, m - 1, by omega, g9, ps ++ [(j : Int)], sp9, by simp; omega, by simp, by simp, hs9, fg9, e9, by simp; omega, ?_⟩
              · simp [c0, c15, c16, h0, h15, h16]
              · exact hP.push (by rw [hsq.1]; exact hjl) (hEd.2 hpos) hin (hb7.1 rfl) hno
            | false =>
              simp -implicitDefEqProofs (disch := omega) only [List.any_cons, List.any_nil, Nat.reduceEqDiff, List.map_cons, List.map_nil, Option.map_some, Option.map_none, List.nil_append, ↓reduceIte, vcu0, vcu1, vcu2, vcu3, vcu4, vcu5, vcu6, vcu7, vcu8, vcu9, vcu10, vcu11, vcu12, vcu13, vcu14, vcu15, vcu16, ↓vcd0, ↓vcd1, ↓vcd2, ↓vcd3, opK_some, c0, c4, c15, c16, c17, c21, c22, h23]
              have hskip : ¬ (Edge rows ps.length j ∧ (j : Int) ∉ ps ∧ CanM rows (ps ++ [(j : Int)])) := fun hh => absurd (hb7.2 hh.2.2) (by simp)
              replace hs := hs6.trans s7
              replace eg := eg7
              replace hsp := hsp7
              refine ⟨?_, m2 - 1, by omega, j + 1, _, by omega, by simp, hs, eg, hsp, fun o' ho' => ?_⟩
              · first | trivial | simp [c0, c4, c15, c16, c17, c21, c22, h0, h4, h15, h16, h17]
              · by_cases e : o' = j
                · subst e; exact hskip
                · exact hno o' (by omega)
        all_goals
          refine ⟨?_, m2 - 1, by omega, j + 1, _, by omega, by simp, hs, eg, hsp, fun o' ho' => ?_⟩
          · first | trivial | simp [c0, c4, c15, c16, c17, c21, c22, h0, h4, h15, h16, h17]
          · by_cases e : o' = j
            · subst e; exact hskip
            · exact hno o' (by omega)
      · obtain ⟨o, h1, h2, h3, h4'⟩ := hP.can.next (by rw [hsq.1]; exact hlt)
        rw [hsq.1] at h1
        exact absurd ⟨h2, h3, h4'⟩ (hno o (by omega))
    · simp -implicitDefEqProofs (disch := omega) only [List.any_cons, List.any_nil, Nat.reduceEqDiff, List.map_cons, List.map_nil, Option.map_some, Option.map_none, List.nil_append, ↓reduceIte, vcu0, vcu1, vcu2, vcu3, vcu4, vcu5, vcu6, vcu7, vcu8, vcu9, vcu10, vcu11, vcu12, vcu13, vcu14, vcu15, vcu16, ↓vcd0, ↓vcd1, ↓vcd2, ↓vcd3, h0, h15, h16, h17, h4]
      have hl : ps.length = n := by omega
      have hsp0 : sp = [] := List.eq_nil_of_length_eq_zero (by omega)
      subst hsp0
      rw [List.append_nil] at eg
      refine fin_two Try.results53 ⟨_, true, ps, ?_, hs, .inr ⟨g, rfl, eg, fg⟩, fun h => (by cases h), fun _ => ⟨hl, hP⟩⟩
      simp -implicitDefEqProofs (disch := omega) only [List.any_cons, List.any_nil, Nat.reduceEqDiff, List.map_cons, List.map_nil, Option.map_some, Option.map_none, List.nil_append, ↓reduceIte, vcu0, vcu1, vcu2, vcu3, vcu4, vcu5, vcu6, vcu7, vcu8, vcu9, vcu10, vcu11, vcu12, vcu13, vcu14, vcu15, vcu16, ↓vcd0, ↓vcd1, ↓vcd2, ↓vcd3, h4]
end Go.Proofs.Ytbfldpcikcdlpaa
