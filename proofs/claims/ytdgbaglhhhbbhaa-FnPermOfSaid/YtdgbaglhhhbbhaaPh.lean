/- Marks in lists; PermBack of the program and of the reference. -/
import Derived.Test.YtdgbaglhhhbbhaaPe
set_option linter.unusedSimpArgs false
set_option linter.unusedVariables false
namespace Go.Proofs.Ytdgbaglhhhbbhaa
open Go Go.Abs Go.RowKit
variable {w0 : World}

theorem sub_own2 {σ τ : AHeap} {g : Nat} {o : Option AObj} (hs : Sub σ τ) (hn : σ g = none) : Sub σ (τ.upd g o) := fun k ob hk => by
  by_cases e : k = g
  · subst e; rw [hn] at hk; cases hk
  · rw [AHeap.upd_ne _ _ e]; exact hs k ob hk
theorem sub_free {σ τ : AHeap} {g : Nat} (hs : Sub σ τ) (h : τ g = none) : σ g = none := by
  cases e : σ g with
  | none => rfl
  | some ob => have := hs g ob e; rw [h] at this; cases this
theorem upd_other {τ : AHeap} {g t : Nat} {ob : AObj} {o : Option AObj} (h : τ g = some ob) (ht : τ t = none) : (τ.upd t o) g = some ob := by
  rw [AHeap.upd_ne _ _ (by rintro rfl; rw [h] at ht; cases ht)]; exact h

/-- the numbers from k on -/
def seq (k : Int) (n : Nat) : List Int := (List.range n).map fun (i : Nat) => k + i
theorem seq_length (k : Int) (n : Nat) : (seq k n).length = n := by simp [seq]
theorem seq_getD {k : Int} {n i : Nat} (h : i < n) : (seq k n).getD i 0 = k + i := by simp [seq, List.getD, h]
theorem seq_succ (k : Int) (n : Nat) : seq k (n + 1) = seq k n ++ [k + n] := by simp [seq, List.range_succ]
theorem set_seq {k : Int} {ys : List Int} {i : Nat} (h : i < ys.length) : (seq k i ++ ys.drop i).set i (k + i) = seq k (i + 1) ++ ys.drop (i + 1) := by
  rw [List.set_append_right _ _ (by rw [seq_length]; omega), seq_length, Nat.sub_self, seq_succ, List.append_assoc]
  congr 1
  rw [List.drop_eq_getElem_cons h]; rfl

theorem mark_own (σ : AHeap) (g : Nat) (ys : List Int) (k : Int) (hg : σ g = some ⟨ints .i64 ys, false⟩) (hl : ys.length ≤ 1048576) (hk : 0 ≤ k ∧ k ≤ 1099511627776) :
    ACall Try.prog w0 48 [.slice (some ⟨g, 0, none⟩) ys.length 1, .int .i64 k] σ fun r σ' => r = .int .i64 (k + ys.length) ∧ σ' = σ.upd g (some ⟨ints .i64 (seq k ys.length), false⟩) := by
  refine acall_go mixed Try.func48 rfl good48 ?_
  simp -implicitDefEqProofs (disch := omega) only [List.any_cons, List.any_nil, Nat.reduceEqDiff, List.map_cons, List.map_nil, Option.map_some, Option.map_none, List.nil_append, ↓reduceIte, vcu0, vcu1, vcu2, vcu3, vcu4, vcu5, vcu6, vcu7, vcu8, vcu9, vcu10, vcu11, vcu12, vcu13, vcu14, ↓vcd0, ↓vcd1, ↓vcd2]
  have e0 : σ = σ.upd g (some ⟨ints .i64 (seq k 0 ++ ys.drop 0), false⟩) := by
    funext h; by_cases e : h = g
    · subst e; rw [AHeap.upd_same, hg]; rfl
    · rw [AHeap.upd_ne _ _ e]
  refine vc_loop mixed (by kernel_rfl) (fun m a σ' => ∃ i : Nat, m + i = ys.length ∧ a 0 = .slice (some ⟨g, 0, none⟩) ys.length 1 ∧ a 1 = .int .i64 (k + i) ∧ a 5 = .int .i64 i ∧ σ' = σ.upd g (some ⟨ints .i64 (seq k i ++ ys.drop i), false⟩)) ys.length ⟨0, by simp, rfl, by simp [fset]; rfl, rfl, e0⟩ ?_
  rintro m a σ' ⟨i, hi, h0, h1, h5, rfl⟩
  by_cases hlt : i < ys.length
  · simp -implicitDefEqProofs (disch := omega) only [List.any_cons, List.any_nil, Nat.reduceEqDiff, List.map_cons, List.map_nil, Option.map_some, Option.map_none, List.nil_append, ↓reduceIte, vcu0, vcu1, vcu2, vcu3, vcu4, vcu5, vcu6, vcu7, vcu8, vcu9, vcu10, vcu11, vcu12, vcu13, vcu14, ↓vcd0, ↓vcd1, ↓vcd2, h0, h1, h5]
    have hst := sts_one (σ := σ.upd g (some ⟨ints .i64 (seq k i ++ ys.drop i), false⟩)) (h := g) (cs := ints .i64 (seq k i ++ ys.drop i)) (i := 0 + i) (v := .int .i64 (k + i)) (AHeap.upd_same _ _ _) (by rw [ints_length]; simp [seq_length]; omega)
    refine r_store_at (h := g) (i := 0 + i) (by simp -implicitDefEqProofs (disch := omega) only [List.any_cons, List.any_nil, Nat.reduceEqDiff, List.map_cons, List.map_nil, Option.map_some, Option.map_none, List.nil_append, ↓reduceIte, vcu0, vcu1, vcu2, vcu3, vcu4, vcu5, vcu6, vcu7, vcu8, vcu9, vcu10, vcu11, vcu12, vcu13, vcu14, ↓vcd0, ↓vcd1, ↓vcd2, h0]) (by simp -implicitDefEqProofs (disch := omega) only [List.any_cons, List.any_nil, Nat.reduceEqDiff, List.map_cons, List.map_nil, Option.map_some, Option.map_none, List.nil_append, ↓reduceIte, vcu0, vcu1, vcu2, vcu3, vcu4, vcu5, vcu6, vcu7, vcu8, vcu9, vcu10, vcu11, vcu12, vcu13, vcu14, ↓vcd0, ↓vcd1, ↓vcd2]; rfl) (by simp -implicitDefEqProofs (disch := omega) only [List.any_cons, List.any_nil, Nat.reduceEqDiff, List.map_cons, List.map_nil, Option.map_some, Option.map_none, List.nil_append, ↓reduceIte, vcu0, vcu1, vcu2, vcu3, vcu4, vcu5, vcu6, vcu7, vcu8, vcu9, vcu10, vcu11, vcu12, vcu13, vcu14, ↓vcd0, ↓vcd1, ↓vcd2]; rfl) (by simp -implicitDefEqProofs (disch := omega) only [List.any_cons, List.any_nil, Nat.reduceEqDiff, List.map_cons, List.map_nil, Option.map_some, Option.map_none, List.nil_append, ↓reduceIte, vcu0, vcu1, vcu2, vcu3, vcu4, vcu5, vcu6, vcu7, vcu8, vcu9, vcu10, vcu11, vcu12, vcu13, vcu14, ↓vcd0, ↓vcd1, ↓vcd2]; exact hst) ?_
    rw [ints_set, Nat.zero_add, set_seq hlt, AHeap.upd_upd]
    simp -implicitDefEqProofs (disch := omega) only [List.any_cons, List.any_nil, Nat.reduceEqDiff, List.map_cons, List.map_nil, Option.map_some, Option.map_none, List.nil_append, ↓reduceIte, vcu0, vcu1, vcu2, vcu3, vcu4, vcu5, vcu6, vcu7, vcu8, vcu9, vcu10, vcu11, vcu12, vcu13, vcu14, ↓vcd0, ↓vcd1, ↓vcd2, h0, h1, h5]
    exact ⟨m - 1, by omega, i + 1, by omega, trivial, by congr 1; omega, by simp, rfl⟩
  · simp -implicitDefEqProofs (disch := omega) only [List.any_cons, List.any_nil, Nat.reduceEqDiff, List.map_cons, List.map_nil, Option.map_some, Option.map_none, List.nil_append, ↓reduceIte, vcu0, vcu1, vcu2, vcu3, vcu4, vcu5, vcu6, vcu7, vcu8, vcu9, vcu10, vcu11, vcu12, vcu13, vcu14, ↓vcd0, ↓vcd1, ↓vcd2, h0, h1, h5]
    refine fin_one Try.results48 ⟨?_, ?_⟩
    · simp -implicitDefEqProofs (disch := omega) only [List.any_cons, List.any_nil, Nat.reduceEqDiff, List.map_cons, List.map_nil, Option.map_some, Option.map_none, List.nil_append, ↓reduceIte, vcu0, vcu1, vcu2, vcu3, vcu4, vcu5, vcu6, vcu7, vcu8, vcu9, vcu10, vcu11, vcu12, vcu13, vcu14, ↓vcd0, ↓vcd1, ↓vcd2, h1]
      have e : i = ys.length := by omega
      rw [e]
    · have e : i = ys.length := by omega
      subst e; simp

theorem mark_nil (σ : AHeap) (k : Int) (hk : 0 ≤ k ∧ k ≤ 1099511627776) :
    ACall Try.prog w0 48 [.slice none 0 0, .int .i64 k] σ fun r σ' => r = .int .i64 k ∧ σ' = σ := by
  refine acall_go mixed Try.func48 rfl good48 ?_
  simp -implicitDefEqProofs (disch := omega) only [List.any_cons, List.any_nil, Nat.reduceEqDiff, List.map_cons, List.map_nil, Option.map_some, Option.map_none, List.nil_append, ↓reduceIte, vcu0, vcu1, vcu2, vcu3, vcu4, vcu5, vcu6, vcu7, vcu8, vcu9, vcu10, vcu11, vcu12, vcu13, vcu14, ↓vcd0, ↓vcd1, ↓vcd2]
  refine vc_loop mixed (by kernel_rfl) (fun m a σ' => a 0 = .slice none 0 0 ∧ a 1 = .int .i64 k ∧ a 5 = .int .i64 0 ∧ σ' = σ) 0 ⟨rfl, rfl, rfl, rfl⟩ ?_
  rintro m a σ' ⟨h0, h1, h5, rfl⟩
  simp -implicitDefEqProofs (disch := omega) only [List.any_cons, List.any_nil, Nat.reduceEqDiff, List.map_cons, List.map_nil, Option.map_some, Option.map_none, List.nil_append, ↓reduceIte, vcu0, vcu1, vcu2, vcu3, vcu4, vcu5, vcu6, vcu7, vcu8, vcu9, vcu10, vcu11, vcu12, vcu13, vcu14, ↓vcd0, ↓vcd1, ↓vcd2, h0, h1, h5]
  refine fin_one Try.results48 ⟨?_, rfl⟩
  simp -implicitDefEqProofs (disch := omega) only [List.any_cons, List.any_nil, Nat.reduceEqDiff, List.map_cons, List.map_nil, Option.map_some, Option.map_none, List.nil_append, ↓reduceIte, vcu0, vcu1, vcu2, vcu3, vcu4, vcu5, vcu6, vcu7, vcu8, vcu9, vcu10, vcu11, vcu12, vcu13, vcu14, ↓vcd0, ↓vcd1, ↓vcd2, h1]

theorem held_own (σ : AHeap) (g : Nat) (n : Nat) (k : Int) (hg : IntsAt .i64 σ g 0 (seq k n)) (hl : n ≤ 1048576) (hk : 0 ≤ k ∧ k ≤ 1099511627776) :
    ACall Try.prog w0 49 [.slice (some ⟨g, 0, none⟩) n 1, .int .i64 k] σ fun r σ' => r = .int .i64 (k + n) ∧ σ' = σ := by
  refine acall_go mixed Try.func49 rfl good49 ?_
  simp -implicitDefEqProofs (disch := omega) only [List.any_cons, List.any_nil, Nat.reduceEqDiff, List.map_cons, List.map_nil, Option.map_some, Option.map_none, List.nil_append, ↓reduceIte, vcu0, vcu1, vcu2, vcu3, vcu4, vcu5, vcu6, vcu7, vcu8, vcu9, vcu10, vcu11, vcu12, vcu13, vcu14, ↓vcd0, ↓vcd1, ↓vcd2]
  refine vc_loop mixed (by kernel_rfl) (fun m a σ' => ∃ i : Nat, m + i = n ∧ a 0 = .slice (some ⟨g, 0, none⟩) n 1 ∧ a 1 = .int .i64 (k + i) ∧ a 5 = .int .i64 i ∧ σ' = σ) n ⟨0, by simp, rfl, by simp [fset]; rfl, rfl, rfl⟩ ?_
  rintro m a σ' ⟨i, hi, h0, h1, h5, rfl⟩
  by_cases hlt : i < n
  · have hx := hg i (by rw [seq_length]; exact hlt)
    rw [seq_getD hlt] at hx
    simp -implicitDefEqProofs (disch := omega) only [List.any_cons, List.any_nil, Nat.reduceEqDiff, List.map_cons, List.map_nil, Option.map_some, Option.map_none, List.nil_append, ↓reduceIte, vcu0, vcu1, vcu2, vcu3, vcu4, vcu5, vcu6, vcu7, vcu8, vcu9, vcu10, vcu11, vcu12, vcu13, vcu14, ↓vcd0, ↓vcd1, ↓vcd2, h0, h1, h5, hx]
    exact ⟨m - 1, by omega, i + 1, by omega, trivial, by congr 1; omega, by simp, trivial⟩
  · simp -implicitDefEqProofs (disch := omega) only [List.any_cons, List.any_nil, Nat.reduceEqDiff, List.map_cons, List.map_nil, Option.map_some, Option.map_none, List.nil_append, ↓reduceIte, vcu0, vcu1, vcu2, vcu3, vcu4, vcu5, vcu6, vcu7, vcu8, vcu9, vcu10, vcu11, vcu12, vcu13, vcu14, ↓vcd0, ↓vcd1, ↓vcd2, h0, h1, h5]
    refine fin_one Try.results49 ⟨?_, rfl⟩
    simp -implicitDefEqProofs (disch := omega) only [List.any_cons, List.any_nil, Nat.reduceEqDiff, List.map_cons, List.map_nil, Option.map_some, Option.map_none, List.nil_append, ↓reduceIte, vcu0, vcu1, vcu2, vcu3, vcu4, vcu5, vcu6, vcu7, vcu8, vcu9, vcu10, vcu11, vcu12, vcu13, vcu14, ↓vcd0, ↓vcd1, ↓vcd2, h1]
    have e : i = n := by omega
    rw [e]

theorem held_nil (σ : AHeap) (k : Int) (hk : 0 ≤ k ∧ k ≤ 1099511627776) :
    ACall Try.prog w0 49 [.slice none 0 0, .int .i64 k] σ fun r σ' => r = .int .i64 k ∧ σ' = σ := by
  refine acall_go mixed Try.func49 rfl good49 ?_
  simp -implicitDefEqProofs (disch := omega) only [List.any_cons, List.any_nil, Nat.reduceEqDiff, List.map_cons, List.map_nil, Option.map_some, Option.map_none, List.nil_append, ↓reduceIte, vcu0, vcu1, vcu2, vcu3, vcu4, vcu5, vcu6, vcu7, vcu8, vcu9, vcu10, vcu11, vcu12, vcu13, vcu14, ↓vcd0, ↓vcd1, ↓vcd2]
  refine vc_loop mixed (by kernel_rfl) (fun m a σ' => a 0 = .slice none 0 0 ∧ a 1 = .int .i64 k ∧ a 5 = .int .i64 0 ∧ σ' = σ) 0 ⟨rfl, rfl, rfl, rfl⟩ ?_
  rintro m a σ' ⟨h0, h1, h5, rfl⟩
  simp -implicitDefEqProofs (disch := omega) only [List.any_cons, List.any_nil, Nat.reduceEqDiff, List.map_cons, List.map_nil, Option.map_some, Option.map_none, List.nil_append, ↓reduceIte, vcu0, vcu1, vcu2, vcu3, vcu4, vcu5, vcu6, vcu7, vcu8, vcu9, vcu10, vcu11, vcu12, vcu13, vcu14, ↓vcd0, ↓vcd1, ↓vcd2, h0, h1, h5]
  refine fin_one Try.results49 ⟨?_, rfl⟩
  simp -implicitDefEqProofs (disch := omega) only [List.any_cons, List.any_nil, Nat.reduceEqDiff, List.map_cons, List.map_nil, Option.map_some, Option.map_none, List.nil_append, ↓reduceIte, vcu0, vcu1, vcu2, vcu3, vcu4, vcu5, vcu6, vcu7, vcu8, vcu9, vcu10, vcu11, vcu12, vcu13, vcu14, ↓vcd0, ↓vcd1, ↓vcd2, h1]

/-- the permutation that goes back, as far as k -/
def inv (xs : List Int) : Nat → List Int
  | 0 => List.replicate xs.length 0
  | k + 1 => (inv xs k).set (xs.getD k 0).toNat k
theorem inv_length (xs : List Int) : ∀ k, (inv xs k).length = xs.length
  | 0 => by simp [inv]
  | k + 1 => by rw [inv, List.length_set, inv_length xs k]

theorem implBack_at (σ : AHeap) (h o : Nat) (xs : List Int) (hv : IntsAt .i64 σ h o xs) (hl : xs.length ≤ 1048576) :
    ACall Try.prog w0 25 [.slice (some ⟨h, o, none⟩) xs.length 1] σ fun r σ' => (¬ Valid xs ∧ r = .slice none 0 0 ∧ σ' = σ) ∨ (Valid xs ∧ ∃ g, σ g = none ∧ r = .slice (some ⟨g, 0, none⟩) xs.length 1 ∧ σ' = σ.upd g (some ⟨ints .i64 (inv xs xs.length), false⟩)) := by
  refine acall_go mixed Try.func25 rfl good25 ?_
  simp -implicitDefEqProofs (disch := omega) only [List.any_cons, List.any_nil, Nat.reduceEqDiff, List.map_cons, List.map_nil, Option.map_some, Option.map_none, List.nil_append, ↓reduceIte, vcu0, vcu1, vcu2, vcu3, vcu4, vcu5, vcu6, vcu7, vcu8, vcu9, vcu10, vcu11, vcu12, vcu13, vcu14, ↓vcd0, ↓vcd1, ↓vcd2]
  refine (implValid_at σ h o xs hv hl).mono ?_
  rintro r σ' ⟨rfl, rfl⟩
  by_cases hV : Valid xs
  · have h6 := hV.2
    rw [decide_eq_true hV]
    simp -implicitDefEqProofs (disch := omega) only [List.any_cons, List.any_nil, Nat.reduceEqDiff, List.map_cons, List.map_nil, Option.map_some, Option.map_none, List.nil_append, ↓reduceIte, vcu0, vcu1, vcu2, vcu3, vcu4, vcu5, vcu6, vcu7, vcu8, vcu9, vcu10, vcu11, vcu12, vcu13, vcu14, ↓vcd0, ↓vcd1, ↓vcd2, opK_some]
    refine r_make_at Try.underlying23 (i := Try.t3) (z := .int .i64 0) rfl rfl (kx := .i64) (l := xs.length) (ky := .i64) (c := xs.length) (by simp -implicitDefEqProofs (disch := omega) only [List.any_cons, List.any_nil, Nat.reduceEqDiff, List.map_cons, List.map_nil, Option.map_some, Option.map_none, List.nil_append, ↓reduceIte, vcu0, vcu1, vcu2, vcu3, vcu4, vcu5, vcu6, vcu7, vcu8, vcu9, vcu10, vcu11, vcu12, vcu13, vcu14, ↓vcd0, ↓vcd1, ↓vcd2]) (by simp -implicitDefEqProofs (disch := omega) only [List.any_cons, List.any_nil, Nat.reduceEqDiff, List.map_cons, List.map_nil, Option.map_some, Option.map_none, List.nil_append, ↓reduceIte, vcu0, vcu1, vcu2, vcu3, vcu4, vcu5, vcu6, vcu7, vcu8, vcu9, vcu10, vcu11, vcu12, vcu13, vcu14, ↓vcd0, ↓vcd1, ↓vcd2]) ?_ fun g hg => ?_
    · have : ((Try.t3.bytes : Nat) : Int) = 8 := rfl
      rw [this]; omega
    have e1 : Try.t3.size = 1 := rfl
    rw [e1, Nat.mul_one, azeros_ints]
    simp -implicitDefEqProofs (disch := omega) only [List.any_cons, List.any_nil, Nat.reduceEqDiff, List.map_cons, List.map_nil, Option.map_some, Option.map_none, List.nil_append, ↓reduceIte, vcu0, vcu1, vcu2, vcu3, vcu4, vcu5, vcu6, vcu7, vcu8, vcu9, vcu10, vcu11, vcu12, vcu13, vcu14, ↓vcd0, ↓vcd1, ↓vcd2]
    refine vc_loop mixed (by kernel_rfl) (fun m a σ1 => ∃ k : Nat, m + k = xs.length ∧ a 3 = .slice (some ⟨g, 0, none⟩) xs.length 1 ∧ a 12 = .slice (some ⟨h, o, none⟩) xs.length 1 ∧ a 13 = .int .i64 xs.length ∧ a 14 = .int .i64 k ∧
        σ1 = σ'.upd g (some ⟨ints .i64 (inv xs k), false⟩)) xs.length ⟨0, by simp, rfl, rfl, rfl, rfl, rfl⟩ ?_
    rintro m a σ1 ⟨k, hk, h3, h12, h13, h14, rfl⟩
    by_cases hlt : k < xs.length
    · have hx := (hv.sub (sub_upd (o := some ⟨ints .i64 (inv xs k), false⟩) hg)) k hlt
      have hr := hV.1.1 (xs.getD k 0) (by simp [List.getD, hlt])
      have hie : inv xs (k + 1) = (inv xs k).set (xs.getD k 0).toNat k := rfl
      generalize xs.getD k 0 = x at hx hr hie
      simp -implicitDefEqProofs (disch := omega) only [List.any_cons, List.any_nil, Nat.reduceEqDiff, List.map_cons, List.map_nil, Option.map_some, Option.map_none, List.nil_append, ↓reduceIte, vcu0, vcu1, vcu2, vcu3, vcu4, vcu5, vcu6, vcu7, vcu8, vcu9, vcu10, vcu11, vcu12, vcu13, vcu14, ↓vcd0, ↓vcd1, ↓vcd2, h3, h12, h13, h14, hx]
      have hst := sts_one (σ := σ'.upd g (some ⟨ints .i64 (inv xs k), false⟩)) (h := g) (cs := ints .i64 (inv xs k)) (i := 0 + x.toNat) (v := .int .i64 k) (AHeap.upd_same _ _ _) (by rw [ints_length, inv_length]; omega)
      refine r_store_at (h := g) (i := 0 + x.toNat) (by simp -implicitDefEqProofs (disch := omega) only [List.any_cons, List.any_nil, Nat.reduceEqDiff, List.map_cons, List.map_nil, Option.map_some, Option.map_none, List.nil_append, ↓reduceIte, vcu0, vcu1, vcu2, vcu3, vcu4, vcu5, vcu6, vcu7, vcu8, vcu9, vcu10, vcu11, vcu12, vcu13, vcu14, ↓vcd0, ↓vcd1, ↓vcd2, h3]) (by simp -implicitDefEqProofs (disch := omega) only [List.any_cons, List.any_nil, Nat.reduceEqDiff, List.map_cons, List.map_nil, Option.map_some, Option.map_none, List.nil_append, ↓reduceIte, vcu0, vcu1, vcu2, vcu3, vcu4, vcu5, vcu6, vcu7, vcu8, vcu9, vcu10, vcu11, vcu12, vcu13, vcu14, ↓vcd0, ↓vcd1, ↓vcd2]; rfl) (by simp -implicitDefEqProofs (disch := omega) only [List.any_cons, List.any_nil, Nat.reduceEqDiff, List.map_cons, List.map_nil, Option.map_some, Option.map_none, List.nil_append, ↓reduceIte, vcu0, vcu1, vcu2, vcu3, vcu4, vcu5, vcu6, vcu7, vcu8, vcu9, vcu10, vcu11, vcu12, vcu13, vcu14, ↓vcd0, ↓vcd1, ↓vcd2]; rfl) (by simp -implicitDefEqProofs (disch := omega) only [List.any_cons, List.any_nil, Nat.reduceEqDiff, List.map_cons, List.map_nil, Option.map_some, Option.map_none, List.nil_append, ↓reduceIte, vcu0, vcu1, vcu2, vcu3, vcu4, vcu5, vcu6, vcu7, vcu8, vcu9, vcu10, vcu11, vcu12, vcu13, vcu14, ↓vcd0, ↓vcd1, ↓vcd2]; exact hst) ?_
      rw [ints_set, Nat.zero_add, ← hie, AHeap.upd_upd]
      simp -implicitDefEqProofs (disch := omega) only [List.any_cons, List.any_nil, Nat.reduceEqDiff, List.map_cons, List.map_nil, Option.map_some, Option.map_none, List.nil_append, ↓reduceIte, vcu0, vcu1, vcu2, vcu3, vcu4, vcu5, vcu6, vcu7, vcu8, vcu9, vcu10, vcu11, vcu12, vcu13, vcu14, ↓vcd0, ↓vcd1, ↓vcd2, h3, h12, h13, h14]
      exact ⟨m - 1, by omega, k + 1, by omega, trivial, trivial, trivial, by simp, rfl⟩
    · simp -implicitDefEqProofs (disch := omega) only [List.any_cons, List.any_nil, Nat.reduceEqDiff, List.map_cons, List.map_nil, Option.map_some, Option.map_none, List.nil_append, ↓reduceIte, vcu0, vcu1, vcu2, vcu3, vcu4, vcu5, vcu6, vcu7, vcu8, vcu9, vcu10, vcu11, vcu12, vcu13, vcu14, ↓vcd0, ↓vcd1, ↓vcd2, h3, h12, h13, h14]
      refine fin_one Try.results25 (.inr ⟨hV, g, hg, ?_, ?_⟩)
      · simp -implicitDefEqProofs (disch := omega) only [List.any_cons, List.any_nil, Nat.reduceEqDiff, List.map_cons, List.map_nil, Option.map_some, Option.map_none, List.nil_append, ↓reduceIte, vcu0, vcu1, vcu2, vcu3, vcu4, vcu5, vcu6, vcu7, vcu8, vcu9, vcu10, vcu11, vcu12, vcu13, vcu14, ↓vcd0, ↓vcd1, ↓vcd2, h3]
      · have e2 : k = xs.length := by omega
        rw [e2]
  · rw [decide_eq_false hV]
    simp -implicitDefEqProofs (disch := omega) only [List.any_cons, List.any_nil, Nat.reduceEqDiff, List.map_cons, List.map_nil, Option.map_some, Option.map_none, List.nil_append, ↓reduceIte, vcu0, vcu1, vcu2, vcu3, vcu4, vcu5, vcu6, vcu7, vcu8, vcu9, vcu10, vcu11, vcu12, vcu13, vcu14, ↓vcd0, ↓vcd1, ↓vcd2, opK_some]
    refine fin_one Try.results25 (.inl ⟨hV, ?_, rfl⟩)
    simp -implicitDefEqProofs (disch := omega) only [List.any_cons, List.any_nil, Nat.reduceEqDiff, List.map_cons, List.map_nil, Option.map_some, Option.map_none, List.nil_append, ↓reduceIte, vcu0, vcu1, vcu2, vcu3, vcu4, vcu5, vcu6, vcu7, vcu8, vcu9, vcu10, vcu11, vcu12, vcu13, vcu14, ↓vcd0, ↓vcd1, ↓vcd2]

theorem specBack_at (σ : AHeap) (h o : Nat) (xs : List Int) (hv : IntsAt .i64 σ h o xs) (hl : xs.length ≤ 1048576) :
    ACall Try.prog w0 27 [.slice (some ⟨h, o, none⟩) xs.length 1] σ fun r σ' => ∃ (g : Nat) (ys : List Int), ys = (if Valid xs then inv xs xs.length else []) ∧ σ g = none ∧ r = .slice (some ⟨g, 0, none⟩) ys.length 1 ∧ σ' = σ.upd g (some ⟨ints .i64 ys, false⟩) := by
  refine acall_go mixed Try.func27 rfl good27 ?_
  simp -implicitDefEqProofs (disch := omega) only [List.any_cons, List.any_nil, Nat.reduceEqDiff, List.map_cons, List.map_nil, Option.map_some, Option.map_none, List.nil_append, ↓reduceIte, vcu0, vcu1, vcu2, vcu3, vcu4, vcu5, vcu6, vcu7, vcu8, vcu9, vcu10, vcu11, vcu12, vcu13, vcu14, ↓vcd0, ↓vcd1, ↓vcd2]
  refine (specValid_at σ h o xs hv hl).mono ?_
  rintro r σ' ⟨rfl, rfl⟩
  by_cases hV : Valid xs
  · have h6 := hV.2
    rw [decide_eq_true hV, if_pos hV]
    simp -implicitDefEqProofs (disch := omega) only [List.any_cons, List.any_nil, Nat.reduceEqDiff, List.map_cons, List.map_nil, Option.map_some, Option.map_none, List.nil_append, ↓reduceIte, vcu0, vcu1, vcu2, vcu3, vcu4, vcu5, vcu6, vcu7, vcu8, vcu9, vcu10, vcu11, vcu12, vcu13, vcu14, ↓vcd0, ↓vcd1, ↓vcd2, opK_some]
    refine r_make_at Try.underlying23 (i := Try.t3) (z := .int .i64 0) rfl rfl (kx := .i64) (l := xs.length) (ky := .i64) (c := xs.length) (by simp -implicitDefEqProofs (disch := omega) only [List.any_cons, List.any_nil, Nat.reduceEqDiff, List.map_cons, List.map_nil, Option.map_some, Option.map_none, List.nil_append, ↓reduceIte, vcu0, vcu1, vcu2, vcu3, vcu4, vcu5, vcu6, vcu7, vcu8, vcu9, vcu10, vcu11, vcu12, vcu13, vcu14, ↓vcd0, ↓vcd1, ↓vcd2]) (by simp -implicitDefEqProofs (disch := omega) only [List.any_cons, List.any_nil, Nat.reduceEqDiff, List.map_cons, List.map_nil, Option.map_some, Option.map_none, List.nil_append, ↓reduceIte, vcu0, vcu1, vcu2, vcu3, vcu4, vcu5, vcu6, vcu7, vcu8, vcu9, vcu10, vcu11, vcu12, vcu13, vcu14, ↓vcd0, ↓vcd1, ↓vcd2]) ?_ fun g hg => ?_
    · have : ((Try.t3.bytes : Nat) : Int) = 8 := rfl
      rw [this]; omega
    have e1 : Try.t3.size = 1 := rfl
    rw [e1, Nat.mul_one, azeros_ints]
    simp -implicitDefEqProofs (disch := omega) only [List.any_cons, List.any_nil, Nat.reduceEqDiff, List.map_cons, List.map_nil, Option.map_some, Option.map_none, List.nil_append, ↓reduceIte, vcu0, vcu1, vcu2, vcu3, vcu4, vcu5, vcu6, vcu7, vcu8, vcu9, vcu10, vcu11, vcu12, vcu13, vcu14, ↓vcd0, ↓vcd1, ↓vcd2]
    refine vc_loop mixed (by kernel_rfl) (fun m a σ1 => ∃ k : Nat, m + k = xs.length ∧ a 0 = .slice (some ⟨h, o, none⟩) xs.length 1 ∧ a 3 = .slice (some ⟨g, 0, none⟩) xs.length 1 ∧ a 4 = .int .i64 k ∧
        σ1 = σ'.upd g (some ⟨ints .i64 (inv xs k), false⟩)) xs.length ⟨0, by simp, rfl, rfl, rfl, rfl⟩ ?_
    rintro m a σ1 ⟨k, hk, h0, h3, h4, rfl⟩
    by_cases hlt : k < xs.length
    · have hx := (hv.sub (sub_upd (o := some ⟨ints .i64 (inv xs k), false⟩) hg)) k hlt
      have hr := hV.1.1 (xs.getD k 0) (by simp [List.getD, hlt])
      have hie : inv xs (k + 1) = (inv xs k).set (xs.getD k 0).toNat k := rfl
      generalize xs.getD k 0 = x at hx hr hie
      simp -implicitDefEqProofs (disch := omega) only [List.any_cons, List.any_nil, Nat.reduceEqDiff, List.map_cons, List.map_nil, Option.map_some, Option.map_none, List.nil_append, ↓reduceIte, vcu0, vcu1, vcu2, vcu3, vcu4, vcu5, vcu6, vcu7, vcu8, vcu9, vcu10, vcu11, vcu12, vcu13, vcu14, ↓vcd0, ↓vcd1, ↓vcd2, h0, h3, h4, hx]
      have hst := sts_one (σ := σ'.upd g (some ⟨ints .i64 (inv xs k), false⟩)) (h := g) (cs := ints .i64 (inv xs k)) (i := 0 + x.toNat) (v := .int .i64 k) (AHeap.upd_same _ _ _) (by rw [ints_length, inv_length]; omega)
      refine r_store_at (h := g) (i := 0 + x.toNat) (by simp -implicitDefEqProofs (disch := omega) only [List.any_cons, List.any_nil, Nat.reduceEqDiff, List.map_cons, List.map_nil, Option.map_some, Option.map_none, List.nil_append, ↓reduceIte, vcu0, vcu1, vcu2, vcu3, vcu4, vcu5, vcu6, vcu7, vcu8, vcu9, vcu10, vcu11, vcu12, vcu13, vcu14, ↓vcd0, ↓vcd1, ↓vcd2, h3]) (by simp -implicitDefEqProofs (disch := omega) only [List.any_cons, List.any_nil, Nat.reduceEqDiff, List.map_cons, List.map_nil, Option.map_some, Option.map_none, List.nil_append, ↓reduceIte, vcu0, vcu1, vcu2, vcu3, vcu4, vcu5, vcu6, vcu7, vcu8, vcu9, vcu10, vcu11, vcu12, vcu13, vcu14, ↓vcd0, ↓vcd1, ↓vcd2]; rfl) (by simp -implicitDefEqProofs (disch := omega) only [List.any_cons, List.any_nil, Nat.reduceEqDiff, List.map_cons, List.map_nil, Option.map_some, Option.map_none, List.nil_append, ↓reduceIte, vcu0, vcu1, vcu2, vcu3, vcu4, vcu5, vcu6, vcu7, vcu8, vcu9, vcu10, vcu11, vcu12, vcu13, vcu14, ↓vcd0, ↓vcd1, ↓vcd2]; rfl) (by simp -implicitDefEqProofs (disch := omega) only [List.any_cons, List.any_nil, Nat.reduceEqDiff, List.map_cons, List.map_nil, Option.map_some, Option.map_none, List.nil_append, ↓reduceIte, vcu0, vcu1, vcu2, vcu3, vcu4, vcu5, vcu6, vcu7, vcu8, vcu9, vcu10, vcu11, vcu12, vcu13, vcu14, ↓vcd0, ↓vcd1, ↓vcd2]; exact hst) ?_
      rw [ints_set, Nat.zero_add, ← hie, AHeap.upd_upd]
      simp -implicitDefEqProofs (disch := omega) only [List.any_cons, List.any_nil, Nat.reduceEqDiff, List.map_cons, List.map_nil, Option.map_some, Option.map_none, List.nil_append, ↓reduceIte, vcu0, vcu1, vcu2, vcu3, vcu4, vcu5, vcu6, vcu7, vcu8, vcu9, vcu10, vcu11, vcu12, vcu13, vcu14, ↓vcd0, ↓vcd1, ↓vcd2, h0, h3, h4]
      exact ⟨m - 1, by omega, k + 1, by omega, trivial, trivial, by simp, rfl⟩
    · simp -implicitDefEqProofs (disch := omega) only [List.any_cons, List.any_nil, Nat.reduceEqDiff, List.map_cons, List.map_nil, Option.map_some, Option.map_none, List.nil_append, ↓reduceIte, vcu0, vcu1, vcu2, vcu3, vcu4, vcu5, vcu6, vcu7, vcu8, vcu9, vcu10, vcu11, vcu12, vcu13, vcu14, ↓vcd0, ↓vcd1, ↓vcd2, h0, h3, h4]
      refine fin_one Try.results27 ⟨g, _, rfl, hg, ?_, ?_⟩
      · simp -implicitDefEqProofs (disch := omega) only [List.any_cons, List.any_nil, Nat.reduceEqDiff, List.map_cons, List.map_nil, Option.map_some, Option.map_none, List.nil_append, ↓reduceIte, vcu0, vcu1, vcu2, vcu3, vcu4, vcu5, vcu6, vcu7, vcu8, vcu9, vcu10, vcu11, vcu12, vcu13, vcu14, ↓vcd0, ↓vcd1, ↓vcd2, h3]
        rw [inv_length]
      · have e2 : k = xs.length := by omega
        rw [e2]
  · rw [decide_eq_false hV, if_neg hV]
    simp -implicitDefEqProofs (disch := omega) only [List.any_cons, List.any_nil, Nat.reduceEqDiff, List.map_cons, List.map_nil, Option.map_some, Option.map_none, List.nil_append, ↓reduceIte, vcu0, vcu1, vcu2, vcu3, vcu4, vcu5, vcu6, vcu7, vcu8, vcu9, vcu10, vcu11, vcu12, vcu13, vcu14, ↓vcd0, ↓vcd1, ↓vcd2, opK_some]
    refine r_lit_at Try.underlying23 ze3 (out := #[]) (by kernel_rfl) (by kernel_rfl) fun g hg => ?_
    simp -implicitDefEqProofs (disch := omega) only [List.any_cons, List.any_nil, Nat.reduceEqDiff, List.map_cons, List.map_nil, Option.map_some, Option.map_none, List.nil_append, ↓reduceIte, vcu0, vcu1, vcu2, vcu3, vcu4, vcu5, vcu6, vcu7, vcu8, vcu9, vcu10, vcu11, vcu12, vcu13, vcu14, ↓vcd0, ↓vcd1, ↓vcd2]
    refine fin_one Try.results27 ⟨g, [], rfl, hg, ?_, rfl⟩
    simp -implicitDefEqProofs (disch := omega) only [List.any_cons, List.any_nil, Nat.reduceEqDiff, List.map_cons, List.map_nil, Option.map_some, Option.map_none, List.nil_append, ↓reduceIte, vcu0, vcu1, vcu2, vcu3, vcu4, vcu5, vcu6, vcu7, vcu8, vcu9, vcu10, vcu11, vcu12, vcu13, vcu14, ↓vcd0, ↓vcd1, ↓vcd2, co3]
    rfl

end Go.Proofs.Ytdgbaglhhhbbhaa
