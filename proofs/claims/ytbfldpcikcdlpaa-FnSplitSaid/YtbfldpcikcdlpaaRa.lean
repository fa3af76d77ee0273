/- All valid lists; readers of a code. -/
import Derived.Test.YtbfldpcikcdlpaaVa
set_option linter.unusedSimpArgs false
set_option linter.unusedVariables false
namespace Go.Proofs.Ytbfldpcikcdlpaa
open Go Go.Abs Go.RowKit
variable {w0 : World}


/-- all orders of k of the numbers of a pool -/
def orders : Nat → List Int → List (List Int)
  | 0, _ => [[]]
  | k + 1, pool => pool.flatMap fun x => (orders k (pool.filter (· ≠ x))).map (x :: ·)
theorem mem_orders : ∀ (ys pool : List Int), ys.Nodup → (∀ y ∈ ys, y ∈ pool) → ys ∈ orders ys.length pool
  | [], pool, _, _ => by simp [orders]
  | y :: ys, pool, hd, hm => by
    rw [List.nodup_cons] at hd
    simp only [List.length_cons, orders, List.mem_flatMap]
    refine ⟨y, hm y (by simp), List.mem_map.2 ⟨ys, mem_orders ys _ hd.2 fun z hz => ?_, rfl⟩⟩
    rw [List.mem_filter]
    refine ⟨hm z (by simp [hz]), ?_⟩
    have : z ≠ y := fun e => hd.1 (e ▸ hz)
    simpa using this
/-- all valid lists -/
def allV : List (List Int) := (List.range 7).flatMap fun n => orders n ((List.range n).map fun (i : Nat) => (i : Int))
theorem valid_mem {xs : List Int} (h : Valid xs) : xs ∈ allV := by
  unfold allV
  rw [List.mem_flatMap]
  refine ⟨xs.length, by have := h.2; simp; omega, mem_orders xs _ h.1.2 fun y hy => ?_⟩
  have := h.1.1 y hy
  rw [List.mem_map]
  exact ⟨y.toNat, by simp; omega, by omega⟩
theorem valid_all {p : List Int → Bool} (hp : allV.all p = true) {xs : List Int} (h : Valid xs) : p xs = true := List.all_eq_true.1 hp xs (valid_mem h)

theorem own_ints {σ : AHeap} {g : Nat} {xs : List Int} : Ints .i64 (σ.upd g (some ⟨ints .i64 xs, false⟩)) (.slice (some ⟨g, 0, none⟩) xs.length 1) xs :=
  .inr ⟨g, 0, rfl, intsAt_own (AHeap.upd_same _ _ _)⟩



def xorN (a b : Int) : Nat := a.toNat ^^^ b.toNat
theorem conv_byte {b : Int} (h : 0 ≤ b ∧ b ≤ 255) : aconv Try.prog 5 3 (.int .u8 b) = some (.int .i64 b) := by
  simp only [aconv, Try.underlying5, Try.underlying3]
  rw [wrap_i64_ok (by omega)]
theorem xor_ok {a b : Int} {t : TypeId} (ha : 0 ≤ a ∧ a < 4611686018427387904) (hb : 0 ≤ b ∧ b < 4611686018427387904) :
    abin Try.prog t .xor (.int .i64 a) (.int .i64 b) = some (.int .i64 (xorN a b : Int)) ∧ xorN a b < 4611686018427387904 := by
  unfold xorN
  have hlt : a.toNat ^^^ b.toNat < 2 ^ 62 := Nat.xor_lt_two_pow (by omega) (by omega)
  refine ⟨?_, hlt⟩
  simp only [abin, if_true]
  have e1 : (BitVec.ofInt IntKind.i64.bits a ^^^ BitVec.ofInt IntKind.i64.bits b).toNat = a.toNat ^^^ b.toNat := by
    rw [BitVec.toNat_xor, BitVec.toNat_ofInt, BitVec.toNat_ofInt]
    have h1 : (a % ((2 ^ IntKind.i64.bits : Nat) : Int)).toNat = a.toNat := by rw [Int.emod_eq_of_lt ha.1 (by simp [IntKind.bits]; omega)]
    have h2 : (b % ((2 ^ IntKind.i64.bits : Nat) : Int)).toNat = b.toNat := by rw [Int.emod_eq_of_lt hb.1 (by simp [IntKind.bits]; omega)]
    rw [h1, h2]
  rw [e1, wrap_i64_ok (by omega)]

theorem abin_xor' {a b : Int} {t : TypeId} (h : (0 ≤ a ∧ a < 4611686018427387904) ∧ 0 ≤ b ∧ b < 4611686018427387904) : abin Try.prog t .xor (.int .i64 a) (.int .i64 b) = some (.int .i64 (xorN a b : Int)) := (xor_ok h.1 h.2).1

theorem open_at (σ : AHeap) (h o : Nat) (bs : List Int) (hl : bs.length ≤ 1048576) :
    ACall Try.prog w0 47 [.slice (some ⟨h, o, none⟩) bs.length 1] σ fun r σ' => ∃ (g m : Nat), σ g = none ∧ m ≤ 2000 ∧ m ≤ bs.length ∧ r = .pointer (some ⟨g, 0, none⟩) ∧ σ' = σ.upd g (some ⟨[.slice (some ⟨h, o, none⟩) m 1, .int .i64 0], false⟩) := by
  refine acall_go mixed Try.func47 rfl good47 ?_
  by_cases hb : 2000 < bs.length
  · simp -implicitDefEqProofs (disch := omega) only [List.any_cons, List.any_nil, Nat.reduceEqDiff, List.map_cons, List.map_nil, Option.map_some, Option.map_none, List.nil_append, ↓reduceIte, vcu0, vcu1, vcu2, vcu3, vcu4, vcu5, vcu6, vcu7, vcu8, vcu9, vcu10, vcu11, vcu12, vcu13, vcu14, vcu15, vcu16, ↓vcd0, ↓vcd1, ↓vcd2, ↓vcd3]
    rw [r_build]
    refine ⟨(_, #[.slice (some ⟨h, o, none⟩) 2000 1, .int .i64 0]), ⟨ze59, by simp -implicitDefEqProofs (disch := omega) only [List.any_cons, List.any_nil, Nat.reduceEqDiff, List.map_cons, List.map_nil, Option.map_some, Option.map_none, List.nil_append, ↓reduceIte, vcu0, vcu1, vcu2, vcu3, vcu4, vcu5, vcu6, vcu7, vcu8, vcu9, vcu10, vcu11, vcu12, vcu13, vcu14, vcu15, vcu16, ↓vcd0, ↓vcd1, ↓vcd2, ↓vcd3]; kernel_rfl⟩, ?_⟩
    simp -implicitDefEqProofs (disch := omega) only [List.any_cons, List.any_nil, Nat.reduceEqDiff, List.map_cons, List.map_nil, Option.map_some, Option.map_none, List.nil_append, ↓reduceIte, vcu0, vcu1, vcu2, vcu3, vcu4, vcu5, vcu6, vcu7, vcu8, vcu9, vcu10, vcu11, vcu12, vcu13, vcu14, vcu15, vcu16, ↓vcd0, ↓vcd1, ↓vcd2, ↓vcd3]
    rw [r_box]
    intro g hg
    rw [vcRH_eq]
    simp -implicitDefEqProofs (disch := omega) only [List.any_cons, List.any_nil, Nat.reduceEqDiff, List.map_cons, List.map_nil, Option.map_some, Option.map_none, List.nil_append, ↓reduceIte, vcu0, vcu1, vcu2, vcu3, vcu4, vcu5, vcu6, vcu7, vcu8, vcu9, vcu10, vcu11, vcu12, vcu13, vcu14, vcu15, vcu16, ↓vcd0, ↓vcd1, ↓vcd2, ↓vcd3]
    refine fin_one Try.results47 ⟨g, 2000, hg, by omega, by omega, ?_, ?_⟩
    · simp -implicitDefEqProofs (disch := omega) only [List.any_cons, List.any_nil, Nat.reduceEqDiff, List.map_cons, List.map_nil, Option.map_some, Option.map_none, List.nil_append, ↓reduceIte, vcu0, vcu1, vcu2, vcu3, vcu4, vcu5, vcu6, vcu7, vcu8, vcu9, vcu10, vcu11, vcu12, vcu13, vcu14, vcu15, vcu16, ↓vcd0, ↓vcd1, ↓vcd2, ↓vcd3]
    · rfl
  · simp -implicitDefEqProofs (disch := omega) only [List.any_cons, List.any_nil, Nat.reduceEqDiff, List.map_cons, List.map_nil, Option.map_some, Option.map_none, List.nil_append, ↓reduceIte, vcu0, vcu1, vcu2, vcu3, vcu4, vcu5, vcu6, vcu7, vcu8, vcu9, vcu10, vcu11, vcu12, vcu13, vcu14, vcu15, vcu16, ↓vcd0, ↓vcd1, ↓vcd2, ↓vcd3]
    rw [r_build]
    refine ⟨(_, #[.slice (some ⟨h, o, none⟩) bs.length 1, .int .i64 0]), ⟨ze59, by simp -implicitDefEqProofs (disch := omega) only [List.any_cons, List.any_nil, Nat.reduceEqDiff, List.map_cons, List.map_nil, Option.map_some, Option.map_none, List.nil_append, ↓reduceIte, vcu0, vcu1, vcu2, vcu3, vcu4, vcu5, vcu6, vcu7, vcu8, vcu9, vcu10, vcu11, vcu12, vcu13, vcu14, vcu15, vcu16, ↓vcd0, ↓vcd1, ↓vcd2, ↓vcd3]; kernel_rfl⟩, ?_⟩
    simp -implicitDefEqProofs (disch := omega) only [List.any_cons, List.any_nil, Nat.reduceEqDiff, List.map_cons, List.map_nil, Option.map_some, Option.map_none, List.nil_append, ↓reduceIte, vcu0, vcu1, vcu2, vcu3, vcu4, vcu5, vcu6, vcu7, vcu8, vcu9, vcu10, vcu11, vcu12, vcu13, vcu14, vcu15, vcu16, ↓vcd0, ↓vcd1, ↓vcd2, ↓vcd3]
    rw [r_box]
    intro g hg
    rw [vcRH_eq]
    simp -implicitDefEqProofs (disch := omega) only [List.any_cons, List.any_nil, Nat.reduceEqDiff, List.map_cons, List.map_nil, Option.map_some, Option.map_none, List.nil_append, ↓reduceIte, vcu0, vcu1, vcu2, vcu3, vcu4, vcu5, vcu6, vcu7, vcu8, vcu9, vcu10, vcu11, vcu12, vcu13, vcu14, vcu15, vcu16, ↓vcd0, ↓vcd1, ↓vcd2, ↓vcd3]
    refine fin_one Try.results47 ⟨g, bs.length, hg, by omega, by omega, ?_, ?_⟩
    · simp -implicitDefEqProofs (disch := omega) only [List.any_cons, List.any_nil, Nat.reduceEqDiff, List.map_cons, List.map_nil, Option.map_some, Option.map_none, List.nil_append, ↓reduceIte, vcu0, vcu1, vcu2, vcu3, vcu4, vcu5, vcu6, vcu7, vcu8, vcu9, vcu10, vcu11, vcu12, vcu13, vcu14, vcu15, vcu16, ↓vcd0, ↓vcd1, ↓vcd2, ↓vcd3]
    · rfl

/-- a reader: what is left of the code, and how often it was asked -/
structure Rd (β σ : AHeap) (g h o : Nat) (bs : List Int) (p : Int) : Prop where
  at_ : σ g = some ⟨[.slice (some ⟨h, o, none⟩) bs.length 1, .int .i64 p], false⟩
  sub : Sub β σ
  free : β g = none
  ints : IntsAt .u8 β h o bs
  len : bs.length ≤ 2000
  byte : ∀ b ∈ bs, 0 ≤ b ∧ b ≤ 255

theorem pick_at (β σ : AHeap) (g h o : Nat) (bs : List Int) (p n : Int) (hr : Rd β σ g h o bs p) (hp : 0 ≤ p ∧ p ≤ 1000000) (hn : 1 ≤ n ∧ n ≤ 1000000) :
    ACall Try.prog w0 57 [.pointer (some ⟨g, 0, none⟩), .int .i64 n] σ fun r σ' => ∃ z : Int, r = .int .i64 z ∧ 0 ≤ z ∧ z < n ∧ Rd β σ' g h o bs (p + 1) ∧ Kept g σ σ' := by
  refine acall_go mixed Try.func57 rfl good57 ?_
  have hl0 : ld σ g (0 + 0) = some (.slice (some ⟨h, o, none⟩) bs.length 1) := by unfold ld; rw [hr.at_]; rfl
  have hl1 : ld σ g (0 + 1) = some (.int .i64 p) := by unfold ld; rw [hr.at_]; rfl
  simp -implicitDefEqProofs (disch := omega) only [List.any_cons, List.any_nil, Nat.reduceEqDiff, List.map_cons, List.map_nil, Option.map_some, Option.map_none, List.nil_append, ↓reduceIte, vcu0, vcu1, vcu2, vcu3, vcu4, vcu5, vcu6, vcu7, vcu8, vcu9, vcu10, vcu11, vcu12, vcu13, vcu14, vcu15, vcu16, ↓vcd0, ↓vcd1, ↓vcd2, ↓vcd3, hl0, hl1]
  refine r_store_at (h := g) (i := 0 + 1) (by simp -implicitDefEqProofs (disch := omega) only [List.any_cons, List.any_nil, Nat.reduceEqDiff, List.map_cons, List.map_nil, Option.map_some, Option.map_none, List.nil_append, ↓reduceIte, vcu0, vcu1, vcu2, vcu3, vcu4, vcu5, vcu6, vcu7, vcu8, vcu9, vcu10, vcu11, vcu12, vcu13, vcu14, vcu15, vcu16, ↓vcd0, ↓vcd1, ↓vcd2, ↓vcd3]) (by simp -implicitDefEqProofs (disch := omega) only [List.any_cons, List.any_nil, Nat.reduceEqDiff, List.map_cons, List.map_nil, Option.map_some, Option.map_none, List.nil_append, ↓reduceIte, vcu0, vcu1, vcu2, vcu3, vcu4, vcu5, vcu6, vcu7, vcu8, vcu9, vcu10, vcu11, vcu12, vcu13, vcu14, vcu15, vcu16, ↓vcd0, ↓vcd1, ↓vcd2, ↓vcd3]; rfl) (by simp -implicitDefEqProofs (disch := omega) only [List.any_cons, List.any_nil, Nat.reduceEqDiff, List.map_cons, List.map_nil, Option.map_some, Option.map_none, List.nil_append, ↓reduceIte, vcu0, vcu1, vcu2, vcu3, vcu4, vcu5, vcu6, vcu7, vcu8, vcu9, vcu10, vcu11, vcu12, vcu13, vcu14, vcu15, vcu16, ↓vcd0, ↓vcd1, ↓vcd2, ↓vcd3]; rfl) (by simp -implicitDefEqProofs (disch := omega) only [List.any_cons, List.any_nil, Nat.reduceEqDiff, List.map_cons, List.map_nil, Option.map_some, Option.map_none, List.nil_append, ↓reduceIte, vcu0, vcu1, vcu2, vcu3, vcu4, vcu5, vcu6, vcu7, vcu8, vcu9, vcu10, vcu11, vcu12, vcu13, vcu14, vcu15, vcu16, ↓vcd0, ↓vcd1, ↓vcd2, ↓vcd3]; exact sts_one hr.at_ (by simp)) ?_
  generalize hσ : σ.upd g (some ⟨List.set [.slice (some ⟨h, o, none⟩) bs.length 1, .int .i64 p] (0 + 1) (.int .i64 (p + 1)), false⟩) = τ
  have hm0 : ld τ g (0 + 0) = some (.slice (some ⟨h, o, none⟩) bs.length 1) := by rw [← hσ, ld_upd_same]; rfl
  have hm1 : ld τ g (0 + 1) = some (.int .i64 (p + 1)) := by rw [← hσ, ld_upd_same]; rfl
  have hst : Sub β τ := by rw [← hσ]; exact sub_put hr.sub hr.free
  have hbs : IntsAt .u8 τ h o bs := hr.ints.sub hst
  have hR : Rd β τ g h o bs (p + 1) := ⟨by rw [← hσ]; exact AHeap.upd_same _ _ _, hst, hr.free, hr.ints, hr.len, hr.byte⟩
  have hK : Kept g σ τ := by rw [← hσ]; exact Kept.put _ _ _
  by_cases h0 : bs.length = 0
  · simp -implicitDefEqProofs (disch := omega) only [List.any_cons, List.any_nil, Nat.reduceEqDiff, List.map_cons, List.map_nil, Option.map_some, Option.map_none, List.nil_append, ↓reduceIte, vcu0, vcu1, vcu2, vcu3, vcu4, vcu5, vcu6, vcu7, vcu8, vcu9, vcu10, vcu11, vcu12, vcu13, vcu14, vcu15, vcu16, ↓vcd0, ↓vcd1, ↓vcd2, ↓vcd3, hm0, hm1]
    refine fin_one Try.results57 ⟨0, ?_, by omega, by omega, hR, hK⟩
    simp -implicitDefEqProofs (disch := omega) only [List.any_cons, List.any_nil, Nat.reduceEqDiff, List.map_cons, List.map_nil, Option.map_some, Option.map_none, List.nil_append, ↓reduceIte, vcu0, vcu1, vcu2, vcu3, vcu4, vcu5, vcu6, vcu7, vcu8, vcu9, vcu10, vcu11, vcu12, vcu13, vcu14, vcu15, vcu16, ↓vcd0, ↓vcd1, ↓vcd2, ↓vcd3]
  · have byte : ∀ i : Nat, i < bs.length → ∃ b : Int, ld τ h (o + i) = some (.int .u8 b) ∧ 0 ≤ b ∧ b ≤ 255 := fun i hi => ⟨_, hbs i hi, hr.byte _ (by simp [List.getD, hi])⟩
    have hlen := hr.len
    by_cases hpl : p < bs.length
    · obtain ⟨b, hb, hb0⟩ := byte p.toNat (by omega)
      have hcv := conv_byte hb0
      simp -implicitDefEqProofs (disch := omega) only [List.any_cons, List.any_nil, Nat.reduceEqDiff, List.map_cons, List.map_nil, Option.map_some, Option.map_none, List.nil_append, ↓reduceIte, vcu0, vcu1, vcu2, vcu3, vcu4, vcu5, vcu6, vcu7, vcu8, vcu9, vcu10, vcu11, vcu12, vcu13, vcu14, vcu15, vcu16, ↓vcd0, ↓vcd1, ↓vcd2, ↓vcd3, hm0, hm1, Int.add_sub_cancel, hb, hcv]
      refine fin_one Try.results57 ⟨b % n, ?_, Int.emod_nonneg _ (by omega), Int.emod_lt_of_pos _ (by omega), hR, hK⟩
      simp -implicitDefEqProofs (disch := omega) only [List.any_cons, List.any_nil, Nat.reduceEqDiff, List.map_cons, List.map_nil, Option.map_some, Option.map_none, List.nil_append, ↓reduceIte, vcu0, vcu1, vcu2, vcu3, vcu4, vcu5, vcu6, vcu7, vcu8, vcu9, vcu10, vcu11, vcu12, vcu13, vcu14, vcu15, vcu16, ↓vcd0, ↓vcd1, ↓vcd2, ↓vcd3]
    · have h1 : 0 ≤ p % (bs.length : Int) ∧ p % (bs.length : Int) < bs.length := ⟨Int.emod_nonneg _ (by omega), Int.emod_lt_of_pos _ (by omega)⟩
      have h2 : 0 ≤ (p * 7 + 3) % (bs.length : Int) ∧ (p * 7 + 3) % (bs.length : Int) < bs.length := ⟨Int.emod_nonneg _ (by omega), Int.emod_lt_of_pos _ (by omega)⟩
      have h3 : 0 ≤ p / (bs.length : Int) ∧ p / (bs.length : Int) ≤ p := ⟨Int.ediv_nonneg (by omega) (by omega), Int.ediv_le_self _ (by omega)⟩
      obtain ⟨b1, hb1, hc1⟩ := byte (p % (bs.length : Int)).toNat (by omega)
      obtain ⟨b2, hb2, hc2⟩ := byte ((p * 7 + 3) % (bs.length : Int)).toNat (by omega)
      have hcv1 := conv_byte hc1
      have hcv2 := conv_byte hc2
      simp -implicitDefEqProofs (disch := omega) only [List.any_cons, List.any_nil, Nat.reduceEqDiff, List.map_cons, List.map_nil, Option.map_some, Option.map_none, List.nil_append, ↓reduceIte, vcu0, vcu1, vcu2, vcu3, vcu4, vcu5, vcu6, vcu7, vcu8, vcu9, vcu10, vcu11, vcu12, vcu13, vcu14, vcu15, vcu16, ↓vcd0, ↓vcd1, ↓vcd2, ↓vcd3, hm0, hm1, Int.add_sub_cancel, hb1, hb2, hcv1, hcv2, abin_xor']
      refine fin_one Try.results57 ?_
      simp -implicitDefEqProofs (disch := omega) only [List.any_cons, List.any_nil, Nat.reduceEqDiff, List.map_cons, List.map_nil, Option.map_some, Option.map_none, List.nil_append, ↓reduceIte, vcu0, vcu1, vcu2, vcu3, vcu4, vcu5, vcu6, vcu7, vcu8, vcu9, vcu10, vcu11, vcu12, vcu13, vcu14, vcu15, vcu16, ↓vcd0, ↓vcd1, ↓vcd2, ↓vcd3]
      exact ⟨_, rfl, Int.emod_nonneg _ (by omega), Int.emod_lt_of_pos _ (by omega), hR, hK⟩

theorem odd_at (β σ : AHeap) (g h o : Nat) (bs : List Int) (p n : Int) (hr : Rd β σ g h o bs p) (hp : 0 ≤ p ∧ p ≤ 1000000) (hn : 1 ≤ n ∧ n ≤ 1000000) :
    ACall Try.prog w0 60 [.pointer (some ⟨g, 0, none⟩), .int .i64 n] σ fun r σ' => ∃ b : Bool, r = .bool b ∧ Rd β σ' g h o bs (p + 1) ∧ Kept g σ σ' := by
  refine acall_go mixed Try.func60 rfl good60 ?_
  simp -implicitDefEqProofs (disch := omega) only [List.any_cons, List.any_nil, Nat.reduceEqDiff, List.map_cons, List.map_nil, Option.map_some, Option.map_none, List.nil_append, ↓reduceIte, vcu0, vcu1, vcu2, vcu3, vcu4, vcu5, vcu6, vcu7, vcu8, vcu9, vcu10, vcu11, vcu12, vcu13, vcu14, vcu15, vcu16, ↓vcd0, ↓vcd1, ↓vcd2, ↓vcd3]
  refine (pick_at β σ g h o bs p n hr hp hn).mono ?_
  rintro r σ' ⟨z, rfl, hz0, hz1, hR, hK⟩
  simp -implicitDefEqProofs (disch := omega) only [List.any_cons, List.any_nil, Nat.reduceEqDiff, List.map_cons, List.map_nil, Option.map_some, Option.map_none, List.nil_append, ↓reduceIte, vcu0, vcu1, vcu2, vcu3, vcu4, vcu5, vcu6, vcu7, vcu8, vcu9, vcu10, vcu11, vcu12, vcu13, vcu14, vcu15, vcu16, ↓vcd0, ↓vcd1, ↓vcd2, ↓vcd3, opK_some]
  refine fin_one Try.results60 ⟨decide (z = n - 1), ?_, hR, hK⟩
  simp -implicitDefEqProofs (disch := omega) only [List.any_cons, List.any_nil, Nat.reduceEqDiff, List.map_cons, List.map_nil, Option.map_some, Option.map_none, List.nil_append, ↓reduceIte, vcu0, vcu1, vcu2, vcu3, vcu4, vcu5, vcu6, vcu7, vcu8, vcu9, vcu10, vcu11, vcu12, vcu13, vcu14, vcu15, vcu16, ↓vcd0, ↓vcd1, ↓vcd2, ↓vcd3]

end Go.Proofs.Ytbfldpcikcdlpaa
