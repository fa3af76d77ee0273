/- Readers of a code. -/
import Derived.Test.YtkepicmefpcgaaaXa
set_option linter.unusedSimpArgs false
set_option linter.unusedVariables false
namespace Go.Proofs.Ytkepicmefpcgaaa
open Go Go.Abs Go.RowKit
variable {w0 : World}

def Valid (xs : List Int) : Prop := Perm xs ∧ xs.length ≤ 6
instance (xs : List Int) : Decidable (Valid xs) := by unfold Valid; infer_instance

/-- what has been seen, number by number -/
def seenB (xs : List Int) : List Value := (List.range 6).map fun (i : Nat) => .bool (decide ((i : Int) ∈ xs))
theorem seenB_length (xs : List Int) : (seenB xs).length = 6 := by simp [seenB]
theorem seenB_get (xs : List Int) {i : Nat} (h : i < 6) : (seenB xs)[i]? = some (.bool (decide ((i : Int) ∈ xs))) := by simp [seenB, h]
theorem seenB_set (xs : List Int) {x : Int} (h0 : 0 ≤ x) (h : x < 6) : (seenB xs).set x.toNat (.bool true) = seenB (xs ++ [x]) := by
  apply List.ext_getElem?
  intro i
  rw [List.getElem?_set]
  by_cases hi : i < 6
  · rw [seenB_get _ hi, seenB_get _ hi, seenB_length]
    by_cases e : x.toNat = i
    · have : (i : Int) = x := by omega
      rw [if_pos e, if_pos (by omega)]; simp [this]
    · have : (i : Int) ≠ x := by omega
      rw [if_neg e]; simp [this]
  · have : x.toNat ≠ i := by omega
    rw [if_neg this, List.getElem?_eq_none (by simp [seenB]; omega), List.getElem?_eq_none (by simp [seenB]; omega)]

set_option maxRecDepth 8000 in
theorem implValid_at (σ : AHeap) (h o : Nat) (xs : List Int) (hv : IntsAt .i64 σ h o xs) (hl : xs.length ≤ 1048576) :
    ACall Try.prog w0 49 [.slice (some ⟨h, o, none⟩) xs.length 1] σ fun r σ' => r = .bool (decide (Valid xs)) ∧ σ' = σ := by
  refine acall_go mixed Try.func49 rfl good49 fun pr => ?_
  by_cases h6 : 6 < xs.length
  · simp -implicitDefEqProofs (disch := omega) only [List.any_cons, List.any_nil, Nat.reduceEqDiff, List.map_cons, List.map_nil, Option.map_some, Option.map_none, List.nil_append, ↓reduceIte, vcu, ↓vcd]
    refine fin_one Try.results49 ⟨?_, rfl⟩
    simp -implicitDefEqProofs (disch := omega) only [List.any_cons, List.any_nil, Nat.reduceEqDiff, List.map_cons, List.map_nil, Option.map_some, Option.map_none, List.nil_append, ↓reduceIte, vcu, ↓vcd]
    have : ¬ Valid xs := fun hV => by have := hV.2; omega
    simp [this]
  · simp -implicitDefEqProofs (disch := omega) only [List.any_cons, List.any_nil, Nat.reduceEqDiff, List.map_cons, List.map_nil, Option.map_some, Option.map_none, List.nil_append, ↓reduceIte, vcu, ↓vcd]
    refine r_alloc_at ze62 fun g hg => ?_
    simp -implicitDefEqProofs (disch := omega) only [List.any_cons, List.any_nil, Nat.reduceEqDiff, List.map_cons, List.map_nil, Option.map_some, Option.map_none, List.nil_append, ↓reduceIte, vcu, ↓vcd]
    refine vc_loop mixed (by kernel_rfl) (fun m a σ' => ∃ k : Nat, m + k = xs.length ∧ a 0 = .slice (some ⟨h, o, none⟩) xs.length 1 ∧ a 3 = .pointer (some ⟨g, 0, none⟩) ∧ a 9 = .slice (some ⟨h, o, none⟩) xs.length 1 ∧ a 10 = .int .i64 xs.length ∧ a 11 = .int .i64 k ∧
      σ' = σ.upd g (some ⟨seenB (xs.take k), false⟩) ∧ ∀ j, j < k → (0 ≤ xs.getD j 0 ∧ xs.getD j 0 < xs.length) ∧ xs.getD j 0 ∉ xs.take j) xs.length ⟨0, by simp, rfl, rfl, rfl, rfl, rfl, rfl, by simp⟩ ?_
    rintro m a σ' ⟨k, hk, h0, h3, h9, h10, h11, rfl, hp⟩
    by_cases hlt : k < xs.length
    · have hx := (hv.sub (sub_upd (o := some ⟨seenB (xs.take k), false⟩) hg)) k hlt
      have hxm : xs.getD k 0 ∈ xs := by simp [List.getD, hlt]
      generalize hxx : xs.getD k 0 = x at hx hxm
      by_cases hneg : x < 0
      · simp -implicitDefEqProofs (disch := omega) only [List.any_cons, List.any_nil, Nat.reduceEqDiff, List.map_cons, List.map_nil, Option.map_some, Option.map_none, List.nil_append, ↓reduceIte, vcu, ↓vcd, h0, h3, h9, h10, h11, hx]
        refine fin_drop Try.results49 σ (sub_upd hg) ⟨?_, rfl⟩
        simp -implicitDefEqProofs (disch := omega) only [List.any_cons, List.any_nil, Nat.reduceEqDiff, List.map_cons, List.map_nil, Option.map_some, Option.map_none, List.nil_append, ↓reduceIte, vcu, ↓vcd]
        have : ¬ Valid xs := fun hV => by have := hV.1.1 _ hxm; omega
        simp [this]
      · by_cases hbig : (xs.length : Int) ≤ x
        · simp -implicitDefEqProofs (disch := omega) only [List.any_cons, List.any_nil, Nat.reduceEqDiff, List.map_cons, List.map_nil, Option.map_some, Option.map_none, List.nil_append, ↓reduceIte, vcu, ↓vcd, h0, h3, h9, h10, h11, hx]
          refine fin_drop Try.results49 σ (sub_upd hg) ⟨?_, rfl⟩
          simp -implicitDefEqProofs (disch := omega) only [List.any_cons, List.any_nil, Nat.reduceEqDiff, List.map_cons, List.map_nil, Option.map_some, Option.map_none, List.nil_append, ↓reduceIte, vcu, ↓vcd]
          have : ¬ Valid xs := fun hV => by have := hV.1.1 _ hxm; omega
          simp [this]
        · have hs : ld (σ.upd g (some ⟨seenB (xs.take k), false⟩)) g (0 + x.toNat) = some (.bool (decide (x ∈ xs.take k))) := by
            rw [ld_upd_same]
            dsimp only
            rw [Nat.zero_add, seenB_get _ (by omega)]
            have : ((x.toNat : Nat) : Int) = x := by omega
            rw [this]
          by_cases hm : x ∈ xs.take k
          · rw [decide_eq_true hm] at hs
            simp -implicitDefEqProofs (disch := omega) only [List.any_cons, List.any_nil, Nat.reduceEqDiff, List.map_cons, List.map_nil, Option.map_some, Option.map_none, List.nil_append, ↓reduceIte, vcu, ↓vcd, h0, h3, h9, h10, h11, hx, hs]
            refine fin_drop Try.results49 σ (sub_upd hg) ⟨?_, rfl⟩
            simp -implicitDefEqProofs (disch := omega) only [List.any_cons, List.any_nil, Nat.reduceEqDiff, List.map_cons, List.map_nil, Option.map_some, Option.map_none, List.nil_append, ↓reduceIte, vcu, ↓vcd]
            have : ¬ Valid xs := fun hV => (nodup_take.1 hV.1.2) k hlt (by rw [hxx]; exact hm)
            simp [this]
          · rw [decide_eq_false hm] at hs
            simp -implicitDefEqProofs (disch := omega) only [List.any_cons, List.any_nil, Nat.reduceEqDiff, List.map_cons, List.map_nil, Option.map_some, Option.map_none, List.nil_append, ↓reduceIte, vcu, ↓vcd, h0, h3, h9, h10, h11, hx, hs]
            have hst := sts_one (σ := σ.upd g (some ⟨seenB (xs.take k), false⟩)) (h := g) (cs := seenB (xs.take k)) (i := 0 + x.toNat) (v := .bool true) (AHeap.upd_same _ _ _) (by rw [seenB_length]; omega)
            refine r_store_at (h := g) (i := 0 + x.toNat) (by simp -implicitDefEqProofs (disch := omega) only [List.any_cons, List.any_nil, Nat.reduceEqDiff, List.map_cons, List.map_nil, Option.map_some, Option.map_none, List.nil_append, ↓reduceIte, vcu, ↓vcd, h3]) (by rfl) (by rfl) hst ?_
            have htk : xs.take k ++ [x] = xs.take (k + 1) := by
              rw [List.take_succ_eq_append_getElem hlt]
              simp [List.getD, hlt] at hxx
              rw [hxx]
            rw [Nat.zero_add, seenB_set _ (by omega) (by omega), AHeap.upd_upd, htk]
            simp -implicitDefEqProofs (disch := omega) only [List.any_cons, List.any_nil, Nat.reduceEqDiff, List.map_cons, List.map_nil, Option.map_some, Option.map_none, List.nil_append, ↓reduceIte, vcu, ↓vcd, h0, h3, h9, h10, h11]
            refine ⟨m - 1, by omega, k + 1, by omega, trivial, trivial, trivial, trivial, by simp, rfl, fun j hj => ?_⟩
            by_cases e : j = k
            · subst e; rw [hxx]; exact ⟨by omega, hm⟩
            · exact hp j (by omega)
    · simp -implicitDefEqProofs (disch := omega) only [List.any_cons, List.any_nil, Nat.reduceEqDiff, List.map_cons, List.map_nil, Option.map_some, Option.map_none, List.nil_append, ↓reduceIte, vcu, ↓vcd, h0, h3, h9, h10, h11]
      refine fin_drop Try.results49 σ (sub_upd hg) ⟨?_, rfl⟩
      simp -implicitDefEqProofs (disch := omega) only [List.any_cons, List.any_nil, Nat.reduceEqDiff, List.map_cons, List.map_nil, Option.map_some, Option.map_none, List.nil_append, ↓reduceIte, vcu, ↓vcd]
      have : Valid xs := by
        refine ⟨⟨fun x hx => ?_, nodup_take.2 fun j hj => (hp j (by omega)).2⟩, by omega⟩
        obtain ⟨i, hi, rfl⟩ := List.getElem_of_mem hx
        have := (hp i (by omega)).1
        simpa [List.getD, hi] using this
      simp [this]

theorem implValid_calls (σ : AHeap) (v : Value) (xs : List Int) (hv : Ints .i64 σ v xs) (hl : xs.length ≤ 1048576) :
    ACall Try.prog w0 49 [v] σ fun r σ' => r = .bool (decide (Valid xs)) ∧ σ' = σ :=
  ACall.ints_quiet (pre := []) (by kernel_rfl) hv fun σ1 g o _ hg => implValid_at σ1 g o xs hg hl


theorem own_ints {σ : AHeap} {g : Nat} {xs : List Int} : Ints .i64 (σ.upd g (some ⟨ints .i64 xs, false⟩)) (.slice (some ⟨g, 0, none⟩) xs.length 1) xs :=
  .inr ⟨g, 0, rfl, intsAt_own (AHeap.upd_same _ _ _)⟩



def xorN (a b : Int) : Nat := a.toNat ^^^ b.toNat
theorem conv_byte {b : Int} (h : 0 ≤ b ∧ b ≤ 255) : aconv Try.prog 5 3 (.int .u8 b) = some (.int .i64 b) := by
  simp only [aconv, Try.underlying5, Try.underlying3]
  rw [wrap_i64_ok (by omega)]
theorem xor_ok {a b : Int} {t : TypeId} (ha : 0 ≤ a ∧ a < 4611686018427387904) (hb : 0 ≤ b ∧ b < 4611686018427387904) :
    abin Try.prog t .xor (.int .i64 a) (.int .i64 b) = some (.int .i64 (xorN a b : Int)) ∧ xorN a b < 4611686018427387904 := by
  unfold xorN
  have hlt : a.toNat ^^^ b.toNat < 2 ^ 62 := Nat.xor_lt_two_pow (by omega) (by omega)
  refine ⟨?_, hlt⟩
  simp only [abin, if_true]
  have e1 : (BitVec.ofInt IntKind.i64.bits a ^^^ BitVec.ofInt IntKind.i64.bits b).toNat = a.toNat ^^^ b.toNat := by
    rw [BitVec.toNat_xor, BitVec.toNat_ofInt, BitVec.toNat_ofInt]
    have h1 : (a % ((2 ^ IntKind.i64.bits : Nat) : Int)).toNat = a.toNat := by rw [Int.emod_eq_of_lt ha.1 (by simp [IntKind.bits]; omega)]
    have h2 : (b % ((2 ^ IntKind.i64.bits : Nat) : Int)).toNat = b.toNat := by rw [Int.emod_eq_of_lt hb.1 (by simp [IntKind.bits]; omega)]
    rw [h1, h2]
  rw [e1, wrap_i64_ok (by omega)]

theorem abin_xor' {a b : Int} {t : TypeId} (h : (0 ≤ a ∧ a < 4611686018427387904) ∧ 0 ≤ b ∧ b < 4611686018427387904) : abin Try.prog t .xor (.int .i64 a) (.int .i64 b) = some (.int .i64 (xorN a b : Int)) := (xor_ok h.1 h.2).1

set_option maxRecDepth 8000 in
theorem open_at (σ : AHeap) (h o : Nat) (bs : List Int) (hl : bs.length ≤ 1048576) :
    ACall Try.prog w0 47 [.slice (some ⟨h, o, none⟩) bs.length 1] σ fun r σ' => ∃ (g m : Nat), σ g = none ∧ m ≤ 2000 ∧ m ≤ bs.length ∧ r = .pointer (some ⟨g, 0, none⟩) ∧ σ' = σ.upd g (some ⟨[.slice (some ⟨h, o, none⟩) m 1, .int .i64 0], false⟩) := by
  refine acall_go mixed Try.func47 rfl good47 fun pr => ?_
  by_cases hb : 2000 < bs.length
  · simp -implicitDefEqProofs (disch := omega) only [List.any_cons, List.any_nil, Nat.reduceEqDiff, List.map_cons, List.map_nil, Option.map_some, Option.map_none, List.nil_append, ↓reduceIte, vcu, ↓vcd]
    rw [r_build]
    refine ⟨(_, #[.slice (some ⟨h, o, none⟩) 2000 1, .int .i64 0]), ⟨ze61, by simp -implicitDefEqProofs (disch := omega) only [List.any_cons, List.any_nil, Nat.reduceEqDiff, List.map_cons, List.map_nil, Option.map_some, Option.map_none, List.nil_append, ↓reduceIte, vcu, ↓vcd]; kernel_rfl⟩, ?_⟩
    simp -implicitDefEqProofs (disch := omega) only [List.any_cons, List.any_nil, Nat.reduceEqDiff, List.map_cons, List.map_nil, Option.map_some, Option.map_none, List.nil_append, ↓reduceIte, vcu, ↓vcd]
    rw [r_box]
    intro g hg
    rw [vcRH_eq]
    simp -implicitDefEqProofs (disch := omega) only [List.any_cons, List.any_nil, Nat.reduceEqDiff, List.map_cons, List.map_nil, Option.map_some, Option.map_none, List.nil_append, ↓reduceIte, vcu, ↓vcd]
    refine fin_one Try.results47 ⟨g, 2000, hg, by omega, by omega, ?_, ?_⟩
    · simp -implicitDefEqProofs (disch := omega) only [List.any_cons, List.any_nil, Nat.reduceEqDiff, List.map_cons, List.map_nil, Option.map_some, Option.map_none, List.nil_append, ↓reduceIte, vcu, ↓vcd]
    · rfl
  · simp -implicitDefEqProofs (disch := omega) only [List.any_cons, List.any_nil, Nat.reduceEqDiff, List.map_cons, List.map_nil, Option.map_some, Option.map_none, List.nil_append, ↓reduceIte, vcu, ↓vcd]
    rw [r_build]
    refine ⟨(_, #[.slice (some ⟨h, o, none⟩) bs.length 1, .int .i64 0]), ⟨ze61, by simp -implicitDefEqProofs (disch := omega) only [List.any_cons, List.any_nil, Nat.reduceEqDiff, List.map_cons, List.map_nil, Option.map_some, Option.map_none, List.nil_append, ↓reduceIte, vcu, ↓vcd]; kernel_rfl⟩, ?_⟩
    simp -implicitDefEqProofs (disch := omega) only [List.any_cons, List.any_nil, Nat.reduceEqDiff, List.map_cons, List.map_nil, Option.map_some, Option.map_none, List.nil_append, ↓reduceIte, vcu, ↓vcd]
    rw [r_box]
    intro g hg
    rw [vcRH_eq]
    simp -implicitDefEqProofs (disch := omega) only [List.any_cons, List.any_nil, Nat.reduceEqDiff, List.map_cons, List.map_nil, Option.map_some, Option.map_none, List.nil_append, ↓reduceIte, vcu, ↓vcd]
    refine fin_one Try.results47 ⟨g, bs.length, hg, by omega, by omega, ?_, ?_⟩
    · simp -implicitDefEqProofs (disch := omega) only [List.any_cons, List.any_nil, Nat.reduceEqDiff, List.map_cons, List.map_nil, Option.map_some, Option.map_none, List.nil_append, ↓reduceIte, vcu, ↓vcd]
    · rfl

/-- a reader: what is left of the code, and how often it was asked -/
structure Rd (β σ : AHeap) (g h o : Nat) (bs : List Int) (p : Int) : Prop where
  at_ : σ g = some ⟨[.slice (some ⟨h, o, none⟩) bs.length 1, .int .i64 p], false⟩
  sub : Sub β σ
  free : β g = none
  ints : IntsAt .u8 β h o bs
  len : bs.length ≤ 2000
  byte : ∀ b ∈ bs, 0 ≤ b ∧ b ≤ 255

set_option maxRecDepth 8000 in
theorem pick_at (β σ : AHeap) (g h o : Nat) (bs : List Int) (p n : Int) (hr : Rd β σ g h o bs p) (hp : 0 ≤ p ∧ p ≤ 1000000) (hn : 1 ≤ n ∧ n ≤ 1000000) :
    ACall Try.prog w0 50 [.pointer (some ⟨g, 0, none⟩), .int .i64 n] σ fun r σ' => ∃ z : Int, r = .int .i64 z ∧ 0 ≤ z ∧ z < n ∧ Rd β σ' g h o bs (p + 1) ∧ Kept g σ σ' := by
  refine acall_go mixed Try.func50 rfl good50 fun pr => ?_
  have hl0 : ld σ g (0 + 0) = some (.slice (some ⟨h, o, none⟩) bs.length 1) := by unfold ld; rw [hr.at_]; rfl
  have hl1 : ld σ g (0 + 1) = some (.int .i64 p) := by unfold ld; rw [hr.at_]; rfl
  simp -implicitDefEqProofs (disch := omega) only [List.any_cons, List.any_nil, Nat.reduceEqDiff, List.map_cons, List.map_nil, Option.map_some, Option.map_none, List.nil_append, ↓reduceIte, vcu, ↓vcd, hl0, hl1]
  refine r_store_at (h := g) (i := 0 + 1) (by simp -implicitDefEqProofs (disch := omega) only [List.any_cons, List.any_nil, Nat.reduceEqDiff, List.map_cons, List.map_nil, Option.map_some, Option.map_none, List.nil_append, ↓reduceIte, vcu, ↓vcd]) (by simp -implicitDefEqProofs (disch := omega) only [List.any_cons, List.any_nil, Nat.reduceEqDiff, List.map_cons, List.map_nil, Option.map_some, Option.map_none, List.nil_append, ↓reduceIte, vcu, ↓vcd]; rfl) (by simp -implicitDefEqProofs (disch := omega) only [List.any_cons, List.any_nil, Nat.reduceEqDiff, List.map_cons, List.map_nil, Option.map_some, Option.map_none, List.nil_append, ↓reduceIte, vcu, ↓vcd]; rfl) (by simp -implicitDefEqProofs (disch := omega) only [List.any_cons, List.any_nil, Nat.reduceEqDiff, List.map_cons, List.map_nil, Option.map_some, Option.map_none, List.nil_append, ↓reduceIte, vcu, ↓vcd]; exact sts_one hr.at_ (by simp)) ?_
  generalize hσ : σ.upd g (some ⟨List.set [.slice (some ⟨h, o, none⟩) bs.length 1, .int .i64 p] (0 + 1) (.int .i64 (p + 1)), false⟩) = τ
  have hm0 : ld τ g (0 + 0) = some (.slice (some ⟨h, o, none⟩) bs.length 1) := by rw [← hσ, ld_upd_same]; rfl
  have hm1 : ld τ g (0 + 1) = some (.int .i64 (p + 1)) := by rw [← hσ, ld_upd_same]; rfl
  have hst : Sub β τ := by rw [← hσ]; exact sub_put hr.sub hr.free
  have hbs : IntsAt .u8 τ h o bs := hr.ints.sub hst
  have hR : Rd β τ g h o bs (p + 1) := ⟨by rw [← hσ]; exact AHeap.upd_same _ _ _, hst, hr.free, hr.ints, hr.len, hr.byte⟩
  have hK : Kept g σ τ := by rw [← hσ]; exact Kept.put _ _ _
  by_cases h0 : bs.length = 0
  · simp -implicitDefEqProofs (disch := omega) only [List.any_cons, List.any_nil, Nat.reduceEqDiff, List.map_cons, List.map_nil, Option.map_some, Option.map_none, List.nil_append, ↓reduceIte, vcu, ↓vcd, hm0, hm1]
    refine fin_one Try.results50 ⟨0, ?_, by omega, by omega, hR, hK⟩
    simp -implicitDefEqProofs (disch := omega) only [List.any_cons, List.any_nil, Nat.reduceEqDiff, List.map_cons, List.map_nil, Option.map_some, Option.map_none, List.nil_append, ↓reduceIte, vcu, ↓vcd]
  · have byte : ∀ i : Nat, i < bs.length → ∃ b : Int, ld τ h (o + i) = some (.int .u8 b) ∧ 0 ≤ b ∧ b ≤ 255 := fun i hi => ⟨_, hbs i hi, hr.byte _ (by simp [List.getD, hi])⟩
    have hlen := hr.len
    by_cases hpl : p < bs.length
    · obtain ⟨b, hb, hb0⟩ := byte p.toNat (by omega)
      have hcv := conv_byte hb0
      simp -implicitDefEqProofs (disch := omega) only [List.any_cons, List.any_nil, Nat.reduceEqDiff, List.map_cons, List.map_nil, Option.map_some, Option.map_none, List.nil_append, ↓reduceIte, vcu, ↓vcd, hm0, hm1, Int.add_sub_cancel, hb, hcv]
      refine fin_one Try.results50 ⟨b % n, ?_, Int.emod_nonneg _ (by omega), Int.emod_lt_of_pos _ (by omega), hR, hK⟩
      simp -implicitDefEqProofs (disch := omega) only [List.any_cons, List.any_nil, Nat.reduceEqDiff, List.map_cons, List.map_nil, Option.map_some, Option.map_none, List.nil_append, ↓reduceIte, vcu, ↓vcd]
    · have h1 : 0 ≤ p % (bs.length : Int) ∧ p % (bs.length : Int) < bs.length := ⟨Int.emod_nonneg _ (by omega), Int.emod_lt_of_pos _ (by omega)⟩
      have h2 : 0 ≤ (p * 7 + 3) % (bs.length : Int) ∧ (p * 7 + 3) % (bs.length : Int) < bs.length := ⟨Int.emod_nonneg _ (by omega), Int.emod_lt_of_pos _ (by omega)⟩
      have h3 : 0 ≤ p / (bs.length : Int) ∧ p / (bs.length : Int) ≤ p := ⟨Int.ediv_nonneg (by omega) (by omega), Int.ediv_le_self _ (by omega)⟩
      obtain ⟨b1, hb1, hc1⟩ := byte (p % (bs.length : Int)).toNat (by omega)
      obtain ⟨b2, hb2, hc2⟩ := byte ((p * 7 + 3) % (bs.length : Int)).toNat (by omega)
      have hcv1 := conv_byte hc1
      have hcv2 := conv_byte hc2
      simp -implicitDefEqProofs (disch := omega) only [List.any_cons, List.any_nil, Nat.reduceEqDiff, List.map_cons, List.map_nil, Option.map_some, Option.map_none, List.nil_append, ↓reduceIte, vcu, ↓vcd, hm0, hm1, Int.add_sub_cancel, hb1, hb2, hcv1, hcv2, abin_xor']
      refine fin_one Try.results50 ?_
      simp -implicitDefEqProofs (disch := omega) only [List.any_cons, List.any_nil, Nat.reduceEqDiff, List.map_cons, List.map_nil, Option.map_some, Option.map_none, List.nil_append, ↓reduceIte, vcu, ↓vcd]
      exact ⟨_, rfl, Int.emod_nonneg _ (by omega), Int.emod_lt_of_pos _ (by omega), hR, hK⟩

set_option maxRecDepth 8000 in
theorem odd_at (β σ : AHeap) (g h o : Nat) (bs : List Int) (p n : Int) (hr : Rd β σ g h o bs p) (hp : 0 ≤ p ∧ p ≤ 1000000) (hn : 1 ≤ n ∧ n ≤ 1000000) :
    ACall Try.prog w0 57 [.pointer (some ⟨g, 0, none⟩), .int .i64 n] σ fun r σ' => ∃ b : Bool, r = .bool b ∧ Rd β σ' g h o bs (p + 1) ∧ Kept g σ σ' := by
  refine acall_go mixed Try.func57 rfl good57 fun pr => ?_
  simp -implicitDefEqProofs (disch := omega) only [List.any_cons, List.any_nil, Nat.reduceEqDiff, List.map_cons, List.map_nil, Option.map_some, Option.map_none, List.nil_append, ↓reduceIte, vcu, ↓vcd]
  refine (pick_at β σ g h o bs p n hr hp hn).mono ?_
  rintro r σ' ⟨z, rfl, hz0, hz1, hR, hK⟩
  simp -implicitDefEqProofs (disch := omega) only [List.any_cons, List.any_nil, Nat.reduceEqDiff, List.map_cons, List.map_nil, Option.map_some, Option.map_none, List.nil_append, ↓reduceIte, vcu, ↓vcd, opK_some]
  refine fin_one Try.results57 ⟨decide (z = n - 1), ?_, hR, hK⟩
  simp -implicitDefEqProofs (disch := omega) only [List.any_cons, List.any_nil, Nat.reduceEqDiff, List.map_cons, List.map_nil, Option.map_some, Option.map_none, List.nil_append, ↓reduceIte, vcu, ↓vcd]

set_option maxRecDepth 8000 in
theorem alive_at (σ : AHeap) : ACall Try.prog w0 20 [] σ fun r σ' => r = .bool true ∧ σ' = σ := by
  refine acall_go mixed Try.func20 rfl good20 fun pr => ?_
  simp -implicitDefEqProofs (disch := omega) only [List.any_cons, List.any_nil, Nat.reduceEqDiff, List.map_cons, List.map_nil, Option.map_some, Option.map_none, List.nil_append, ↓reduceIte, vcu, ↓vcd]
  refine r_lit_at Try.underlying36 ze3 (out := (ints .i64 [1, 0]).toArray) (by kernel_rfl) (by kernel_rfl) fun e1 he1 => ?_
  simp -implicitDefEqProofs (disch := omega) only [List.any_cons, List.any_nil, Nat.reduceEqDiff, List.map_cons, List.map_nil, Option.map_some, Option.map_none, List.nil_append, ↓reduceIte, vcu, ↓vcd, co3]
  refine (implValid_at _ e1 0 [1, 0] (intsAt_own (AHeap.upd_same _ _ _)) (by simp)).mono ?_
  rintro r σ1 ⟨rfl, rfl⟩
  have d1 : decide (Valid [1, 0]) = true := by decide
  rw [d1]
  simp -implicitDefEqProofs (disch := omega) only [List.any_cons, List.any_nil, Nat.reduceEqDiff, List.map_cons, List.map_nil, Option.map_some, Option.map_none, List.nil_append, ↓reduceIte, vcu, ↓vcd, opK_some]
  refine r_lit_at Try.underlying36 ze3 (out := (ints .i64 [1, 1]).toArray) (by kernel_rfl) (by kernel_rfl) fun e2 he2 => ?_
  simp -implicitDefEqProofs (disch := omega) only [List.any_cons, List.any_nil, Nat.reduceEqDiff, List.map_cons, List.map_nil, Option.map_some, Option.map_none, List.nil_append, ↓reduceIte, vcu, ↓vcd, co3]
  refine (implValid_at _ e2 0 [1, 1] (intsAt_own (AHeap.upd_same _ _ _)) (by simp)).mono ?_
  rintro r σ1 ⟨rfl, rfl⟩
  have d2 : decide (Valid [1, 1]) = false := by decide
  rw [d2]
  simp -implicitDefEqProofs (disch := omega) only [List.any_cons, List.any_nil, Nat.reduceEqDiff, List.map_cons, List.map_nil, Option.map_some, Option.map_none, List.nil_append, ↓reduceIte, vcu, ↓vcd, opK_some]
  refine fin_drop Try.results20 σ (sub_put (sub_upd he1) (free_sub (sub_upd he1) he2)) ⟨?_, rfl⟩
  simp -implicitDefEqProofs (disch := omega) only [List.any_cons, List.any_nil, Nat.reduceEqDiff, List.map_cons, List.map_nil, Option.map_some, Option.map_none, List.nil_append, ↓reduceIte, vcu, ↓vcd]

theorem bytes_of {bs : List Int} (hw : ∀ z ∈ bs, (Lit.int .u8 z).wf = true) : ∀ b ∈ bs, 0 ≤ b ∧ b ≤ 255 := fun b hb => by
  have := hw b hb; simpa [Lit.wf, IntKind.min, IntKind.max, IntKind.signed, IntKind.bits] using this

set_option maxRecDepth 8000 in
theorem odd0_at (σ : AHeap) (v : Value) : ACall Try.prog w0 57 [v, .int .i64 0] σ fun r σ' => r = .bool false ∧ σ' = σ := by
  refine acall_go mixed Try.func57 rfl good57 fun pr => ?_
  simp -implicitDefEqProofs (disch := omega) only [List.any_cons, List.any_nil, Nat.reduceEqDiff, List.map_cons, List.map_nil, Option.map_some, Option.map_none, List.nil_append, ↓reduceIte, vcu, ↓vcd]
  refine fin_one Try.results57 ⟨?_, rfl⟩
  simp -implicitDefEqProofs (disch := omega) only [List.any_cons, List.any_nil, Nat.reduceEqDiff, List.map_cons, List.map_nil, Option.map_some, Option.map_none, List.nil_append, ↓reduceIte, vcu, ↓vcd]
theorem Rd.sub' {β σ τ : AHeap} {g h o : Nat} {bs : List Int} {p : Int} (hr : Rd β σ g h o bs p) (hs : Sub σ τ) : Rd β τ g h o bs p :=
  ⟨hs _ _ hr.at_, hr.sub.trans hs, hr.free, hr.ints, hr.len, hr.byte⟩
theorem Rd.put {β σ τ : AHeap} {g g2 h o : Nat} {bs : List Int} {p : Int} (hr : Rd β σ g h o bs p) (hk : Kept g2 σ τ) (hne : g2 ≠ g) (hn : β g2 = none) : Rd β τ g h o bs p :=
  ⟨hk.at hr.at_ hne.symm, hk.sub hr.sub hn, hr.free, hr.ints, hr.len, hr.byte⟩
/-- a reader that was just opened -/
theorem opened (σ : AHeap) (h o : Nat) (bs : List Int) (hv : IntsAt .u8 σ h o bs) (hl : bs.length ≤ 1048576) (hb : ∀ b ∈ bs, 0 ≤ b ∧ b ≤ 255) :
    ACall Try.prog w0 47 [.slice (some ⟨h, o, none⟩) bs.length 1] σ fun r τ => ∃ (g m : Nat), r = .pointer (some ⟨g, 0, none⟩) ∧ Sub σ τ ∧ Rd σ τ g h o (bs.take m) 0 :=
  (open_at σ h o bs hl).mono fun r τ ⟨g, m, hg, hm, hmb, hr, hτ⟩ => by
    have htl : (bs.take m).length = m := by simp; omega
    have hs0 : Sub σ τ := by rw [hτ]; exact sub_upd hg
    exact ⟨g, m, hr, hs0, ⟨by rw [hτ, htl]; exact AHeap.upd_same _ _ _, hs0, hg, hv.take m, by rw [htl]; exact hm, fun b hb' => hb b (List.mem_of_mem_take hb')⟩⟩
theorem fin_three {a : AFrame} {σ : AHeap} {fn : Func} {R : Value → AHeap → Prop} {s t u : Nat} (h : fn.results = #[.tmp s, .tmp t, .tmp u]) (hr : R (.tuple #[a s, a t, a u]) σ) : fin fn R a σ := fin_same (by simp [aresults, h, rtv]) hr
end Go.Proofs.Ytkepicmefpcgaaa
