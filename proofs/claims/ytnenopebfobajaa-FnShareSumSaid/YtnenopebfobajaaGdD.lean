/- Readers of a code. -/
import Derived.Test.YtnenopebfobajaaXa
import Derived.Test.YtnenopebfobajaaGbK
set_option linter.unusedSimpArgs false
set_option linter.unusedVariables false
namespace Go.Proofs.Ytnenopebfobajaa
open Go Go.Abs Go.RowKit
variable {w0 : World}

def Valid (xs : List Int) : Prop := Perm xs ∧ xs.length ≤ 6
instance (xs : List Int) : Decidable (Valid xs) := by unfold Valid; infer_instance

/-- what has been seen, number by number -/
def seenB (xs : List Int) : List Value := (List.range 6).map fun (i : Nat) => .bool (decide ((i : Int) ∈ xs))
theorem seenB_length (xs : List Int) : (seenB xs).length = 6 := by simp [seenB]
theorem seenB_get (xs : List Int) {i : Nat} (h : i < 6) : (seenB xs)[i]? = some (.bool (decide ((i : Int) ∈ xs))) := by simp [seenB, h]
theorem seenB_set (xs : List Int) {x : Int} (h0 : 0 ≤ x) (h : x < 6) : (seenB xs).set x.toNat (.bool true) = seenB (xs ++ [x]) := by
  apply List.ext_getElem?
  intro i
  rw [List.getElem?_set]
  by_cases hi : i < 6
  · rw [seenB_get _ hi, seenB_get _ hi, seenB_length]
    by_cases e : x.toNat = i
    · have : (i : Int) = x := by omega
      rw [if_pos e, if_pos (by omega)]; simp [this]
    · have : (i : Int) ≠ x := by omega
      rw [if_neg e]; simp [this]
  · have : x.toNat ≠ i := by omega
    rw [if_neg this, List.getElem?_eq_none (by simp [seenB]; omega), List.getElem?_eq_none (by simp [seenB]; omega)]

set_option maxRecDepth 8000 in
theorem implValid_at (σ : AHeap) (h o : Nat) (xs : List Int) (hv : IntsAt .i64 σ h o xs) (hl : xs.length ≤ 1048576) :
    ACall Try.prog w0 69 [.slice (some ⟨h, o, none⟩) xs.length 1] σ fun r σ' => r = .bool (decide (Valid xs)) ∧ σ' = σ := by
  refine acall_go mixed Try.func69 rfl good69 fun pr => ?_
  by_cases h6 : 6 < xs.length
  · simp -implicitDefEqProofs (disch := omega) only [List.any_cons, List.any_nil, Nat.reduceEqDiff, List.map_cons, List.map_nil, Option.map_some, Option.map_none, List.nil_append, ↓reduceIte, vcu, ↓vcd]
    refine fin_one Try.results69 ⟨?_, rfl⟩
    simp -implicitDefEqProofs (disch := omega) only [List.any_cons, List.any_nil, Nat.reduceEqDiff, List.map_cons, List.map_nil, Option.map_some, Option.map_none, List.nil_append, ↓reduceIte, vcu, ↓vcd]
    have : ¬ Valid xs := fun hV => by have := hV.2; omega
    simp [this]
  · simp -implicitDefEqProofs (disch := omega) only [List.any_cons, List.any_nil, Nat.reduceEqDiff, List.map_cons, List.map_nil, Option.map_some, Option.map_none, List.nil_append, ↓reduceIte, vcu, ↓vcd]
    refine r_alloc_at ze76 fun g hg => ?_
    simp -implicitDefEqProofs (disch := omega) only [List.any_cons, List.any_nil, Nat.reduceEqDiff, List.map_cons, List.map_nil, Option.map_some, Option.map_none, List.nil_append, ↓reduceIte, vcu, ↓vcd]
    refine vc_loop mixed (by kernel_rfl) (fun m a σ' => ∃ k : Nat, m + k = xs.length ∧ a 0 = .slice (some ⟨h, o, none⟩) xs.length 1 ∧ a 3 = .pointer (some ⟨g, 0, none⟩) ∧ a 9 = .slice (some ⟨h, o, none⟩) xs.length 1 ∧ a 10 = .int .i64 xs.length ∧ a 11 = .int .i64 k ∧
      σ' = σ.upd g (some ⟨seenB (xs.take k), false⟩) ∧ ∀ j, j < k → (0 ≤ xs.getD j 0 ∧ xs.getD j 0 < xs.length) ∧ xs.getD j 0 ∉ xs.take j) xs.length ⟨0, by simp, rfl, rfl, rfl, rfl, rfl, rfl, by simp⟩ ?_
    rintro m a σ' ⟨k, hk, h0, h3, h9, h10, h11, rfl, hp⟩
    by_cases hlt : k < xs.length
    · have hx := (hv.sub (sub_upd (o := some ⟨seenB (xs.take k), false⟩) hg)) k hlt
      have hxm : xs.getD k 0 ∈ xs := by simp [List.getD, hlt]
      generalize hxx : xs.getD k 0 = x at hx hxm
      by_cases hneg : x < 0
      · simp -implicitDefEqProofs (disch := omega) only [List.any_cons, List.any_nil, Nat.reduceEqDiff, List.map_cons, List.map_nil, Option.map_some, Option.map_none, List.nil_append, ↓reduceIte, vcu, ↓vcd, h0, h3, h9, h10, h11, hx]
        refine fin_drop Try.results69 σ (sub_upd hg) ⟨?_, rfl⟩
        simp -implicitDefEqProofs (disch := omega) only [List.any_cons, List.any_nil, Nat.reduceEqDiff, List.map_cons, List.map_nil, Option.map_some, Option.map_none, List.nil_append, ↓reduceIte, vcu, ↓vcd]
        have : ¬ Valid xs := fun hV => by have := hV.1.1 _ hxm; omega
        simp [this]
      · by_cases hbig : (xs.length : Int) ≤ x
        · simp -implicitDefEqProofs (disch := omega) only [List.any_cons, List.any_nil, Nat.reduceEqDiff, List.map_cons, List.map_nil, Option.map_some, Option.map_none, List.nil_append, ↓reduceIte, vcu, ↓vcd, h0, h3, h9, h10, h11, hx]
          refine fin_drop Try.results69 σ (sub_upd hg) ⟨?_, rfl⟩
          simp -implicitDefEqProofs (disch := omega) only [List.any_cons, List.any_nil, Nat.reduceEqDiff, List.map_cons, List.map_nil, Option.map_some, Option.map_none, List.nil_append, ↓reduceIte, vcu, ↓vcd]
          have : ¬ Valid xs := fun hV => by have := hV.1.1 _ hxm; omega
          simp [this]
        · have hs : ld (σ.upd g (some ⟨seenB (xs.take k), false⟩)) g (0 + x.toNat) = some (.bool (decide (x ∈ xs.take k))) := by
            rw [ld_upd_same]
            dsimp only
            rw [Nat.zero_add, seenB_get _ (by omega)]
            have : ((x.toNat : Nat) : Int) = x := by omega
            rw [this]
          by_cases hm : x ∈ xs.take k
          · rw [decide_eq_true hm] at hs
            simp -implicitDefEqProofs (disch := omega) only [List.any_cons, List.any_nil, Nat.reduceEqDiff, List.map_cons, List.map_nil, Option.map_some, Option.map_none, List.nil_append, ↓reduceIte, vcu, ↓vcd, h0, h3, h9, h10, h11, hx, hs]
            refine fin_drop Try.results69 σ (sub_upd hg) ⟨?_, rfl⟩
            simp -implicitDefEqProofs (disch := omega) only [List.any_cons, List.any_nil, Nat.reduceEqDiff, List.map_cons, List.map_nil, Option.map_some, Option.map_none, List.nil_append, ↓reduceIte, vcu, ↓vcd]
            have : ¬ Valid xs := fun hV => (nodup_take.1 hV.1.2) k hlt (by rw [hxx]; exact hm)
            simp [this]
          · rw [decide_eq_false hm] at hs
            simp -implicitDefEqProofs (disch := omega) only [List.any_cons, List.any_nil, Nat.reduceEqDiff, List.map_cons, List.map_nil, Option.map_some, Option.map_none, List.nil_append, ↓reduceIte, vcu, ↓vcd, h0, h3, h9, h10, h11, hx, hs]
            have hst := sts_one (σ := σ.upd g (some ⟨seenB (xs.take k), false⟩)) (h := g) (cs := seenB (xs.take k)) (i := 0 + x.toNat) (v := .bool true) (AHeap.upd_same _ _ _) (by rw [seenB_length]; omega)
            refine r_store_at (h := g) (i := 0 + x.toNat) (by simp -implicitDefEqProofs (disch := omega) only [List.any_cons, List.any_nil, Nat.reduceEqDiff, List.map_cons, List.map_nil, Option.map_some, Option.map_none, List.nil_append, ↓reduceIte, vcu, ↓vcd, h3]) (by rfl) (by rfl) hst ?_
            have htk : xs.take k ++ [x] = xs.take (k + 1) := by
              rw [List.take_succ_eq_append_getElem hlt]
              simp [List.getD, hlt] at hxx
              rw [hxx]
            rw [Nat.zero_add, seenB_set _ (by omega) (by omega), AHeap.upd_upd, htk]
            simp -implicitDefEqProofs (disch := omega) only [List.any_cons, List.any_nil, Nat.reduceEqDiff, List.map_cons, List.map_nil, Option.map_some, Option.map_none, List.nil_append, ↓reduceIte, vcu, ↓vcd, h0, h3, h9, h10, h11]
            refine ⟨m - 1, by omega, k + 1, by omega, trivial, trivial, trivial, trivial, by simp, rfl, fun j hj => ?_⟩
            by_cases e : j = k
            · subst e; rw [hxx]; exact ⟨by omega, hm⟩
            · exact hp j (by omega)
    · simp -implicitDefEqProofs (disch := omega) only [List.any_cons, List.any_nil, Nat.reduceEqDiff, List.map_cons, List.map_nil, Option.map_some, Option.map_none, List.nil_append, ↓reduceIte, vcu, ↓vcd, h0, h3, h9, h10, h11]
      refine fin_drop Try.results69 σ (sub_upd hg) ⟨?_, rfl⟩
      simp -implicitDefEqProofs (disch := omega) only [List.any_cons, List.any_nil, Nat.reduceEqDiff, List.map_cons, List.map_nil, Option.map_some, Option.map_none, List.nil_append, ↓reduceIte, vcu, ↓vcd]
      have : Valid xs := by
        refine ⟨⟨fun x hx => ?_, nodup_take.2 fun j hj => (hp j (by omega)).2⟩, by omega⟩
        obtain ⟨i, hi, rfl⟩ := List.getElem_of_mem hx
        have := (hp i (by omega)).1
        simpa [List.getD, hi] using this
      simp [this]

theorem implValid_calls (σ : AHeap) (v : Value) (xs : List Int) (hv : Ints .i64 σ v xs) (hl : xs.length ≤ 1048576) :
    ACall Try.prog w0 69 [v] σ fun r σ' => r = .bool (decide (Valid xs)) ∧ σ' = σ :=
  ACall.ints_quiet (pre := []) (by kernel_rfl) hv fun σ1 g o _ hg => implValid_at σ1 g o xs hg hl


theorem own_ints {σ : AHeap} {g : Nat} {xs : List Int} : Ints .i64 (σ.upd g (some ⟨ints .i64 xs, false⟩)) (.slice (some ⟨g, 0, none⟩) xs.length 1) xs :=
  .inr ⟨g, 0, rfl, intsAt_own (AHeap.upd_same _ _ _)⟩



def xorN (a b : Int) : Nat := a.toNat ^^^ b.toNat
theorem conv_byte {b : Int} (h : 0 ≤ b ∧ b ≤ 255) : aconv Try.prog 5 3 (.int .u8 b) = some (.int .i64 b) := by
  simp only [aconv, Try.underlying5, Try.underlying3]
  rw [wrap_i64_ok (by omega)]
theorem xor_ok {a b : Int} {t : TypeId} (ha : 0 ≤ a ∧ a < 4611686018427387904) (hb : 0 ≤ b ∧ b < 4611686018427387904) :
    abin Try.prog t .xor (.int .i64 a) (.int .i64 b) = some (.int .i64 (xorN a b : Int)) ∧ xorN a b < 4611686018427387904 := by
  unfold xorN
  have hlt : a.toNat ^^^ b.toNat < 2 ^ 62 := Nat.xor_lt_two_pow (by omega) (by omega)
  refine ⟨?_, hlt⟩
  simp only [abin, if_true]
  have e1 : (BitVec.ofInt IntKind.i64.bits a ^^^ BitVec.ofInt IntKind.i64.bits b).toNat = a.toNat ^^^ b.toNat := by
    rw [BitVec.toNat_xor, BitVec.toNat_ofInt, BitVec.toNat_ofInt]
    have h1 : (a % ((2 ^ IntKind.i64.bits : Nat) : Int)).toNat = a.toNat := by rw [Int.emod_eq_of_lt ha.1 (by simp [IntKind.bits]; omega)]
    have h2 : (b % ((2 ^ IntKind.i64.bits : Nat) : Int)).toNat = b.toNat := by rw [Int.emod_eq_of_lt hb.1 (by simp [IntKind.bits]; omega)]
    rw [h1, h2]
  rw [e1, wrap_i64_ok (by omega)]

theorem abin_xor' {a b : Int} {t : TypeId} (h : (0 ≤ a ∧ a < 4611686018427387904) ∧ 0 ≤ b ∧ b < 4611686018427387904) : abin Try.prog t .xor (.int .i64 a) (.int .i64 b) = some (.int .i64 (xorN a b : Int)) := (xor_ok h.1 h.2).1

set_option maxRecDepth 8000 in
theorem open_at (σ : AHeap) (h o : Nat) (bs : List Int) (hl : bs.length ≤ 1048576) :
    ACall Try.prog w0 65 [.slice (some ⟨h, o, none⟩) bs.length 1] σ fun r σ' => ∃ (g m : Nat), σ g = none ∧ m ≤ 2000 ∧ m ≤ bs.length ∧ r = .pointer (some ⟨g, 0, none⟩) ∧ σ' = σ.upd g (some ⟨[.slice (some ⟨h, o, none⟩) m 1, .int .i64 0], false⟩) := by
  refine acall_go mixed Try.func65 rfl good65 fun pr => ?_
  by_cases hb : 2000 < bs.length
  · simp -implicitDefEqProofs (disch := omega) only [List.any_cons, List.any_nil, Nat.reduceEqDiff, List.map_cons, List.map_nil, Option.map_some, Option.map_none, List.nil_append, ↓reduceIte, vcu, ↓vcd]
    rw [r_build]
    refine ⟨(_, #[.slice (some ⟨h, o, none⟩) 2000 1, .int .i64 0]), ⟨ze75, by simp -implicitDefEqProofs (disch := omega) only [List.any_cons, List.any_nil, Nat.reduceEqDiff, List.map_cons, List.map_nil, Option.map_some, Option.map_none, List.nil_append, ↓reduceIte, vcu, ↓vcd]; kernel_rfl⟩, ?_⟩
    simp -implicitDefEqProofs (disch := omega) only [List.any_cons, List.any_nil, Nat.reduceEqDiff, List.map_cons, List.map_nil, Option.map_some, Option.map_none, List.nil_append, ↓reduceIte, vcu, ↓vcd]
    rw [r_box]
    intro g hg
    rw [vcRH_eq]
    simp -implicitDefEqProofs (disch := omega) only [List.any_cons, List.any_nil, Nat.reduceEqDiff, List.map_cons, List.map_nil, Option.map_some, Option.map_none, List.nil_append, ↓reduceIte, vcu, ↓vcd]
    refine fin_one Try.results65 ⟨g, 2000, hg, by omega, by omega, ?_, ?_⟩
    · simp -implicitDefEqProofs (disch := omega) only [List.any_cons, List.any_nil, Nat.reduceEqDiff, List.map_cons, List.map_nil, Option.map_some, Option.map_none, List.nil_append, ↓reduceIte, vcu, ↓vcd]
    · rfl
  · simp -implicitDefEqProofs (disch := omega) only [List.any_cons, List.any_nil, Nat.reduceEqDiff, List.map_cons, List.map_nil, Option.map_some, Option.map_none, List.nil_append, ↓reduceIte, vcu, ↓vcd]
    rw [r_build]
    refine ⟨(_, #[.slice (some ⟨h, o, none⟩) bs.length 1, .int .i64 0]), ⟨ze75, by simp -implicitDefEqProofs (disch := omega) only [List.any_cons, List.any_nil, Nat.reduceEqDiff, List.map_cons, List.map_nil, Option.map_some, Option.map_none, List.nil_append, ↓reduceIte, vcu, ↓vcd]; kernel_rfl⟩, ?_⟩
    simp -implicitDefEqProofs (disch := omega) only [List.any_cons, List.any_nil, Nat.reduceEqDiff, List.map_cons, List.map_nil, Option.map_some, Option.map_none, List.nil_append, ↓reduceIte, vcu, ↓vcd]
    rw [r_box]
    intro g hg
    rw [vcRH_eq]
    simp -implicitDefEqProofs (disch := omega) only [List.any_cons, List.any_nil, Nat.reduceEqDiff, List.map_cons, List.map_nil, Option.map_some, Option.map_none, List.nil_append, ↓reduceIte, vcu, ↓vcd]
    refine fin_one Try.results65 ⟨g, bs.length, hg, by omega, by omega, ?_, ?_⟩
    · simp -implicitDefEqProofs (disch := omega) only [List.any_cons, List.any_nil, Nat.reduceEqDiff, List.map_cons, List.map_nil, Option.map_some, Option.map_none, List.nil_append, ↓reduceIte, vcu, ↓vcd]
    · rfl

/-- a reader: what is left of the code, and how often it was asked -/
structure Rd (β σ : AHeap) (g h o : Nat) (bs : List Int) (p : Int) : Prop where
  at_ : σ g = some ⟨[.slice (some ⟨h, o, none⟩) bs.length 1, .int .i64 p], false⟩
  sub : Sub β σ
  free : β g = none
  ints : IntsAt .u8 β h o bs
  len : bs.length ≤ 2000
  byte : ∀ b ∈ bs, 0 ≤ b ∧ b ≤ 255

set_option maxRecDepth 8000 in
theorem pick_at (β σ : AHeap) (g h o : Nat) (bs : List Int) (p n : Int) (hr : Rd β σ g h o bs p) (hp : 0 ≤ p ∧ p ≤ 1000000) (hn : 1 ≤ n ∧ n ≤ 1000000) :
    ACall Try.prog w0 67 [.pointer (some ⟨g, 0, none⟩), .int .i64 n] σ fun r σ' => ∃ z : Int, r = .int .i64 z ∧ 0 ≤ z ∧ z < n ∧ Rd β σ' g h o bs (p + 1) ∧ Kept g σ σ' := by
  refine acall_go mixed Try.func67 rfl good67 fun pr => ?_
  have hl0 : ld σ g (0 + 0) = some (.slice (some ⟨h, o, none⟩) bs.length 1) := by unfold ld; rw [hr.at_]; rfl
  have hl1 : ld σ g (0 + 1) = some (.int .i64 p) := by unfold ld; rw [hr.at_]; rfl
  simp -implicitDefEqProofs (disch := omega) only [List.any_cons, List.any_nil, Nat.reduceEqDiff, List.map_cons, List.map_nil, Option.map_some, Option.map_none, List.nil_append, ↓reduceIte, vcu, ↓vcd, hl0, hl1]
  refine r_store_at (h := g) (i := 0 + 1) (by simp -implicitDefEqProofs (disch := omega) only [List.any_cons, List.any_nil, Nat.reduceEqDiff, List.map_cons, List.map_nil, Option.map_some, Option.map_none, List.nil_append, ↓reduceIte, vcu, ↓vcd]) (by simp -implicitDefEqProofs (disch := omega) only [List.any_cons, List.any_nil, Nat.reduceEqDiff, List.map_cons, List.map_nil, Option.map_some, Option.map_none, List.nil_append, ↓reduceIte, vcu, ↓vcd]; rfl) (by simp -implicitDefEqProofs (disch := omega) only [List.any_cons, List.any_nil, Nat.reduceEqDiff, List.map_cons, List.map_nil, Option.map_some, Option.map_none, List.nil_append, ↓reduceIte, vcu, ↓vcd]; rfl) (by simp -implicitDefEqProofs (disch := omega) only [List.any_cons, List.any_nil, Nat.reduceEqDiff, List.map_cons, List.map_nil, Option.map_some, Option.map_none, List.nil_append, ↓reduceIte, vcu, ↓vcd]; exact sts_one hr.at_ (by simp)) ?_
  generalize hσ : σ.upd g (some ⟨List.set [.slice (some ⟨h, o, none⟩) bs.length 1, .int .i64 p] (0 + 1) (.int .i64 (p + 1)), false⟩) = τ
  have hm0 : ld τ g (0 + 0) = some (.slice (some ⟨h, o, none⟩) bs.length 1) := by rw [← hσ, ld_upd_same]; rfl
  have hm1 : ld τ g (0 + 1) = some (.int .i64 (p + 1)) := by rw [← hσ, ld_upd_same]; rfl
  have hst : Sub β τ := by rw [← hσ]; exact sub_put hr.sub hr.free
  have hbs : IntsAt .u8 τ h o bs := hr.ints.sub hst
  have hR : Rd β τ g h o bs (p + 1) := ⟨by rw [← hσ]; exact AHeap.upd_same _ _ _, hst, hr.free, hr.ints, hr.len, hr.byte⟩
  have hK : Kept g σ τ := by rw [← hσ]; exact Kept.put _ _ _
  by_cases h0 : bs.length = 0
  · simp -implicitDefEqProofs (disch := omega) only [List.any_cons, List.any_nil, Nat.reduceEqDiff, List.map_cons, List.map_nil, Option.map_some, Option.map_none, List.nil_append, ↓reduceIte, vcu, ↓vcd, hm0, hm1]
    refine fin_one Try.results67 ⟨0, ?_, by omega, by omega, hR, hK⟩
    simp -implicitDefEqProofs (disch := omega) only [List.any_cons, List.any_nil, Nat.reduceEqDiff, List.map_cons, List.map_nil, Option.map_some, Option.map_none, List.nil_append, ↓reduceIte, vcu, ↓vcd]
  · have byte : ∀ i : Nat, i < bs.length → ∃ b : Int, ld τ h (o + i) = some (.int .u8 b) ∧ 0 ≤ b ∧ b ≤ 255 := fun i hi => ⟨_, hbs i hi, hr.byte _ (by simp [List.getD, hi])⟩
    have hlen := hr.len
    by_cases hpl : p < bs.length
    · obtain ⟨b, hb, hb0⟩ := byte p.toNat (by omega)
      have hcv := conv_byte hb0
      simp -implicitDefEqProofs (disch := omega) only [List.any_cons, List.any_nil, Nat.reduceEqDiff, List.map_cons, List.map_nil, Option.map_some, Option.map_none, List.nil_append, ↓reduceIte, vcu, ↓vcd, hm0, hm1, Int.add_sub_cancel, hb, hcv]
      refine fin_one Try.results67 ⟨b % n, ?_, Int.emod_nonneg _ (by omega), Int.emod_lt_of_pos _ (by omega), hR, hK⟩
      simp -implicitDefEqProofs (disch := omega) only [List.any_cons, List.any_nil, Nat.reduceEqDiff, List.map_cons, List.map_nil, Option.map_some, Option.map_none, List.nil_append, ↓reduceIte, vcu, ↓vcd]
    · have h1 : 0 ≤ p % (bs.length : Int) ∧ p % (bs.length : Int) < bs.length := ⟨Int.emod_nonneg _ (by omega), Int.emod_lt_of_pos _ (by omega)⟩
      have h2 : 0 ≤ (p * 7 + 3) % (bs.length : Int) ∧ (p * 7 + 3) % (bs.length : Int) < bs.length := ⟨Int.emod_nonneg _ (by omega), Int.emod_lt_of_pos _ (by omega)⟩
      have h3 : 0 ≤ p / (bs.length : Int) ∧ p / (bs.length : Int) ≤ p := ⟨Int.ediv_nonneg (by omega) (by omega), Int.ediv_le_self _ (by omega)⟩
      obtain ⟨b1, hb1, hc1⟩ := byte (p % (bs.length : Int)).toNat (by omega)
      obtain ⟨b2, hb2, hc2⟩ := byte ((p * 7 + 3) % (bs.length : Int)).toNat (by omega)
      have hcv1 := conv_byte hc1
      have hcv2 := conv_byte hc2
      simp -implicitDefEqProofs (disch := omega) only [List.any_cons, List.any_nil, Nat.reduceEqDiff, List.map_cons, List.map_nil, Option.map_some, Option.map_none, List.nil_append, ↓reduceIte, vcu, ↓vcd, hm0, hm1, Int.add_sub_cancel, hb1, hb2, hcv1, hcv2, abin_xor']
      refine fin_one Try.results67 ?_
      simp -implicitDefEqProofs (disch := omega) only [List.any_cons, List.any_nil, Nat.reduceEqDiff, List.map_cons, List.map_nil, Option.map_some, Option.map_none, List.nil_append, ↓reduceIte, vcu, ↓vcd]
      exact ⟨_, rfl, Int.emod_nonneg _ (by omega), Int.emod_lt_of_pos _ (by omega), hR, hK⟩

set_option maxRecDepth 8000 in
theorem odd_at (β σ : AHeap) (g h o : Nat) (bs : List Int) (p n : Int) (hr : Rd β σ g h o bs p) (hp : 0 ≤ p ∧ p ≤ 1000000) (hn : 1 ≤ n ∧ n ≤ 1000000) :
    ACall Try.prog w0 80 [.pointer (some ⟨g, 0, none⟩), .int .i64 n] σ fun r σ' => ∃ b : Bool, r = .bool b ∧ Rd β σ' g h o bs (p + 1) ∧ Kept g σ σ' := by
  refine acall_go mixed Try.func80 rfl good80 fun pr => ?_
  simp -implicitDefEqProofs (disch := omega) only [List.any_cons, List.any_nil, Nat.reduceEqDiff, List.map_cons, List.map_nil, Option.map_some, Option.map_none, List.nil_append, ↓reduceIte, vcu, ↓vcd]
  refine (pick_at β σ g h o bs p n hr hp hn).mono ?_
  rintro r σ' ⟨z, rfl, hz0, hz1, hR, hK⟩
  simp -implicitDefEqProofs (disch := omega) only [List.any_cons, List.any_nil, Nat.reduceEqDiff, List.map_cons, List.map_nil, Option.map_some, Option.map_none, List.nil_append, ↓reduceIte, vcu, ↓vcd, opK_some]
  refine fin_one Try.results80 ⟨decide (z = n - 1), ?_, hR, hK⟩
  simp -implicitDefEqProofs (disch := omega) only [List.any_cons, List.any_nil, Nat.reduceEqDiff, List.map_cons, List.map_nil, Option.map_some, Option.map_none, List.nil_append, ↓reduceIte, vcu, ↓vcd]

set_option maxRecDepth 8000 in
theorem alive_at (σ : AHeap) : ACall Try.prog w0 20 [] σ fun r σ' => r = .bool true ∧ σ' = σ := by
  refine acall_go mixed Try.func20 rfl good20 fun pr => ?_
  simp -implicitDefEqProofs (disch := omega) only [List.any_cons, List.any_nil, Nat.reduceEqDiff, List.map_cons, List.map_nil, Option.map_some, Option.map_none, List.nil_append, ↓reduceIte, vcu, ↓vcd]
  refine r_lit_at Try.underlying31 ze3 (out := (ints .i64 [1, 0]).toArray) (by kernel_rfl) (by kernel_rfl) fun e1 he1 => ?_
  simp -implicitDefEqProofs (disch := omega) only [List.any_cons, List.any_nil, Nat.reduceEqDiff, List.map_cons, List.map_nil, Option.map_some, Option.map_none, List.nil_append, ↓reduceIte, vcu, ↓vcd, co3]
  refine (implValid_at _ e1 0 [1, 0] (intsAt_own (AHeap.upd_same _ _ _)) (by simp)).mono ?_
  rintro r σ1 ⟨rfl, rfl⟩
  have d1 : decide (Valid [1, 0]) = true := by decide
  rw [d1]
  simp -implicitDefEqProofs (disch := omega) only [List.any_cons, List.any_nil, Nat.reduceEqDiff, List.map_cons, List.map_nil, Option.map_some, Option.map_none, List.nil_append, ↓reduceIte, vcu, ↓vcd, opK_some]
  refine r_lit_at Try.underlying31 ze3 (out := (ints .i64 [1, 1]).toArray) (by kernel_rfl) (by kernel_rfl) fun e2 he2 => ?_
  simp -implicitDefEqProofs (disch := omega) only [List.any_cons, List.any_nil, Nat.reduceEqDiff, List.map_cons, List.map_nil, Option.map_some, Option.map_none, List.nil_append, ↓reduceIte, vcu, ↓vcd, co3]
  refine (implValid_at _ e2 0 [1, 1] (intsAt_own (AHeap.upd_same _ _ _)) (by simp)).mono ?_
  rintro r σ1 ⟨rfl, rfl⟩
  have d2 : decide (Valid [1, 1]) = false := by decide
  rw [d2]
  simp -implicitDefEqProofs (disch := omega) only [List.any_cons, List.any_nil, Nat.reduceEqDiff, List.map_cons, List.map_nil, Option.map_some, Option.map_none, List.nil_append, ↓reduceIte, vcu, ↓vcd, opK_some]
  refine fin_drop Try.results20 σ (sub_put (sub_upd he1) (free_sub (sub_upd he1) he2)) ⟨?_, rfl⟩
  simp -implicitDefEqProofs (disch := omega) only [List.any_cons, List.any_nil, Nat.reduceEqDiff, List.map_cons, List.map_nil, Option.map_some, Option.map_none, List.nil_append, ↓reduceIte, vcu, ↓vcd]

theorem bytes_of {bs : List Int} (hw : ∀ z ∈ bs, (Lit.int .u8 z).wf = true) : ∀ b ∈ bs, 0 ≤ b ∧ b ≤ 255 := fun b hb => by
  have := hw b hb; simpa [Lit.wf, IntKind.min, IntKind.max, IntKind.signed, IntKind.bits] using this

set_option maxRecDepth 8000 in
theorem odd0_at (σ : AHeap) (v : Value) : ACall Try.prog w0 80 [v, .int .i64 0] σ fun r σ' => r = .bool false ∧ σ' = σ := by
  refine acall_go mixed Try.func80 rfl good80 fun pr => ?_
  simp -implicitDefEqProofs (disch := omega) only [List.any_cons, List.any_nil, Nat.reduceEqDiff, List.map_cons, List.map_nil, Option.map_some, Option.map_none, List.nil_append, ↓reduceIte, vcu, ↓vcd]
  refine fin_one Try.results80 ⟨?_, rfl⟩
  simp -implicitDefEqProofs (disch := omega) only [List.any_cons, List.any_nil, Nat.reduceEqDiff, List.map_cons, List.map_nil, Option.map_some, Option.map_none, List.nil_append, ↓reduceIte, vcu, ↓vcd]
theorem Rd.sub' {β σ τ : AHeap} {g h o : Nat} {bs : List Int} {p : Int} (hr : Rd β σ g h o bs p) (hs : Sub σ τ) : Rd β τ g h o bs p :=
  ⟨hs _ _ hr.at_, hr.sub.trans hs, hr.free, hr.ints, hr.len, hr.byte⟩
theorem Rd.put {β σ τ : AHeap} {g g2 h o : Nat} {bs : List Int} {p : Int} (hr : Rd β σ g h o bs p) (hk : Kept g2 σ τ) (hne : g2 ≠ g) (hn : β g2 = none) : Rd β τ g h o bs p :=
  ⟨hk.at hr.at_ hne.symm, hk.sub hr.sub hn, hr.free, hr.ints, hr.len, hr.byte⟩
/-- a reader that was just opened -/
theorem opened (σ : AHeap) (h o : Nat) (bs : List Int) (hv : IntsAt .u8 σ h o bs) (hl : bs.length ≤ 1048576) (hb : ∀ b ∈ bs, 0 ≤ b ∧ b ≤ 255) :
    ACall Try.prog w0 65 [.slice (some ⟨h, o, none⟩) bs.length 1] σ fun r τ => ∃ (g m : Nat), r = .pointer (some ⟨g, 0, none⟩) ∧ Sub σ τ ∧ Rd σ τ g h o (bs.take m) 0 :=
  (open_at σ h o bs hl).mono fun r τ ⟨g, m, hg, hm, hmb, hr, hτ⟩ => by
    have htl : (bs.take m).length = m := by simp; omega
    have hs0 : Sub σ τ := by rw [hτ]; exact sub_upd hg
    exact ⟨g, m, hr, hs0, ⟨by rw [hτ, htl]; exact AHeap.upd_same _ _ _, hs0, hg, hv.take m, by rw [htl]; exact hm, fun b hb' => hb b (List.mem_of_mem_take hb')⟩⟩
theorem fin_three {a : AFrame} {σ : AHeap} {fn : Func} {R : Value → AHeap → Prop} {s t u : Nat} (h : fn.results = #[.tmp s, .tmp t, .tmp u]) (hr : R (.tuple #[a s, a t, a u]) σ) : fin fn R a σ := fin_same (by simp [aresults, h, rtv]) hr
end Go.Proofs.Ytnenopebfobajaa

namespace Go.Proofs.Ytnenopebfobajaa
open Go Go.Abs Go.RowKit
variable {w0 : World}

theorem acodeB_monoY {P : Program} {b : Base} {n : NR} {c : Code} {a : AFrame} {σ : AHeap} {Q Q' : AQ} (h : ACodeB P b n c a σ Q') (hq : ∀ e a σ, Q' e a σ → Q e a σ) : ACodeB P b n c a σ Q := ACode.mono h hq
/-- all but the reader -/
theorem less_keptY {g : Nat} {σ τ : AHeap} (h : Kept g σ τ) : Sub (σ.upd g none) τ := fun k ob e => by
  by_cases hk : k = g
  · subst hk; rw [AHeap.upd_same] at e; cases e
  · rw [AHeap.upd_ne _ _ hk] at e; exact h k ob hk e
/-- a drawing: the reader, and what was there -/
structure DS (β σ0 σ : AHeap) (g h o : Nat) (bs : List Int) (p : Int) : Prop where
  rd : Rd β σ g h o bs p
  kp : Kept g σ0 σ
  s0 : Sub β σ0
section
variable {β σ0 σ τ : AHeap} {g h o c : Nat} {bs : List Int} {p p' : Int}
theorem DS.start (hr : Rd β σ g h o bs p) : DS β σ σ g h o bs p := ⟨hr, Kept.refl _ _, hr.sub⟩
theorem DS.new (d : DS β σ0 σ g h o bs p) (hs : Sub σ τ) : DS β σ0 τ g h o bs p := ⟨d.rd.sub' hs, d.kp.trans hs.kept, d.s0⟩
theorem DS.put (d : DS β σ0 σ g h o bs p) (hk : Kept c σ τ) (hc : c ≠ g) (hn : σ0 c = none) : DS β σ0 τ g h o bs p := ⟨d.rd.put hk hc (free_sub d.s0 hn), d.kp.step hk (.inl hn), d.s0⟩
theorem DS.step (d : DS β σ0 σ g h o bs p) (hR : Rd β τ g h o bs p') (hK : Kept g σ τ) : DS β σ0 τ g h o bs p' := ⟨hR, d.kp.trans hK, d.s0⟩
theorem DS.fresh (d : DS β σ0 σ g h o bs p) (hn : σ c = none) : σ0 c = none ∧ c ≠ g := by
  have hc : c ≠ g := ne_of hn d.rd.at_
  refine ⟨?_, hc⟩
  cases e : σ0 c with
  | none => rfl
  | some ob => rw [d.kp c ob hc e] at hn; cases hn
theorem DS.on (d : DS β σ0 σ g h o bs p) (d2 : DS β σ τ g h o bs p') : DS β σ0 τ g h o bs p' := ⟨d2.rd, d.kp.trans d2.kp, d.s0⟩
end
end Go.Proofs.Ytnenopebfobajaa

namespace Go.Proofs.Ytnenopebfobajaa
open Go Go.Abs Go.RowKit
variable {w0 : World}

theorem lit_text {τ : AHeap} {q : Nat} {ts : List (List UInt8)} {z : Int} (h : τ q = some ⟨texts ts, false⟩) (h0 : 0 ≤ z) (h1 : z < ts.length) : ld τ q (0 + z.toNat) = some (.string (tx (ts.getD z.toNat []))) := textsAt_own h z.toNat (by omega)
theorem lit_int {τ : AHeap} {q : Nat} {xs : List Int} {z : Int} (h : τ q = some ⟨ints .i64 xs, false⟩) (h0 : 0 ≤ z) (h1 : z < xs.length) : ld τ q (0 + z.toNat) = some (.int .i64 (xs.getD z.toNat 0)) := own_at h (i := z.toNat) (by omega)
theorem getD_len {ts : List (List UInt8)} {M : Nat} (h : ∀ t ∈ ts, t.length ≤ M) (i : Nat) : (ts.getD i []).length ≤ M := by
  by_cases hi : i < ts.length
  · have := h _ (List.getElem_mem hi); simpa [List.getD, hi] using this
  · simp [List.getD, List.getElem?_eq_none (Nat.le_of_not_lt hi)]
theorem odd_any (β σ : AHeap) (g h o : Nat) (bs : List Int) (p n : Int) (hr : Rd β σ g h o bs p) (hp : 0 ≤ p ∧ p ≤ 1000000) (hn : n = 0 ∨ 1 ≤ n ∧ n ≤ 1000000) :
    ACall Try.prog w0 80 [.pointer (some ⟨g, 0, none⟩), .int .i64 n] σ fun r σ' => ∃ (b : Bool) (p' : Int), r = .bool b ∧ p ≤ p' ∧ p' ≤ p + 1 ∧ Rd β σ' g h o bs p' ∧ Kept g σ σ' := by
  rcases hn with rfl | hn
  · refine (odd0_at σ _).mono ?_
    rintro r _ ⟨rfl, rfl⟩
    exact ⟨false, p, rfl, by omega, by omega, hr, Kept.refl _ _⟩
  · refine (odd_at β σ g h o bs p n hr hp hn).mono ?_
    rintro r σ' ⟨b, rfl, hR, hK⟩
    exact ⟨b, p + 1, rfl, by omega, by omega, hR, hK⟩

set_option maxRecDepth 8000 in
theorem digits_draw (β σ : AHeap) (g h o : Nat) (bs : List Int) (p : Int) (most : Nat) (hr : Rd β σ g h o bs p) (hp : 0 ≤ p ∧ p ≤ 10000) (hm : most ≤ 100) :
    ACall Try.prog w0 66 [.pointer (some ⟨g, 0, none⟩), .int .i64 most] σ fun r σ' => ∃ (xs : List UInt8) (p' : Int), r = .string (tx xs) ∧ xs.length ≤ most ∧ p ≤ p' ∧ p' ≤ p + 1 + most ∧ DS β σ σ' g h o bs p' := by
  refine acall_go mixed Try.func66 rfl good66 fun pr => ?_
  simp -implicitDefEqProofs (disch := omega) only [List.any_cons, List.any_nil, Nat.reduceEqDiff, List.map_cons, List.map_nil, Option.map_some, Option.map_none, List.nil_append, ↓reduceIte, vcu, ↓vcd]
  refine (pick_at β σ g h o bs p (most + 1) hr (by omega) (by omega)).mono ?_
  rintro r τ1 ⟨z, rfl, a1, a2, hR, hK⟩
  have d1 := (DS.start hr).step hR hK
  clear hR hK
  obtain ⟨z0, rfl⟩ : ∃ z0 : Nat, z = z0 := ⟨z.toNat, by omega⟩
  simp -implicitDefEqProofs (disch := omega) only [List.any_cons, List.any_nil, Nat.reduceEqDiff, List.map_cons, List.map_nil, Option.map_some, Option.map_none, List.nil_append, ↓reduceIte, vcu, ↓vcd, opK_some]
  refine vc_loop_c mixed (by kernel_rfl) [0] (fun m a σ' => ∃ (xs : List UInt8) (p' : Int), a 6 = .int .i64 m ∧ a 5 = .string (tx xs) ∧ xs.length + m ≤ most ∧ p + 1 ≤ p' ∧ p' + m ≤ p + 1 + most ∧ DS β σ σ' g h o bs p') z0 ⟨[], p + 1, rfl, rfl, by simp; omega, by omega, by omega, d1⟩ ?_
  clear d1 a1 a2
  rintro m a τ hc ⟨xs, p', h6, h5, hl, hp1, hp2, d⟩
  simp -implicitDefEqProofs (disch := omega) only [List.any_cons, List.any_nil, Nat.reduceEqDiff, List.map_cons, List.map_nil, Option.map_some, Option.map_none, List.nil_append, ↓reduceIte, vcu, ↓vcd] at hc
  obtain ⟨h0, -⟩ := hc
  by_cases hlt : 0 < m
  · simp -implicitDefEqProofs (disch := omega) only [List.any_cons, List.any_nil, Nat.reduceEqDiff, List.map_cons, List.map_nil, Option.map_some, Option.map_none, List.nil_append, ↓reduceIte, vcu, ↓vcd, h0, h5, h6]
    refine r_lit el27 (out := #[.string (tx [48]), .string (tx [49]), .string (tx [50]), .string (tx [51])]) (by simp -implicitDefEqProofs (disch := omega) only [List.any_cons, List.any_nil, Nat.reduceEqDiff, List.map_cons, List.map_nil, Option.map_some, Option.map_none, List.nil_append, ↓reduceIte, vcu, ↓vcd]; kernel_rfl) (by kernel_rfl) fun q τ2 nq sq eq => ?_
    replace eq : τ2 q = some ⟨texts [[48], [49], [50], [51]], false⟩ := eq
    have d2 := d.new sq
    have gq := (d.fresh nq).2
    clear sq nq d
    simp -implicitDefEqProofs (disch := omega) only [List.any_cons, List.any_nil, Nat.reduceEqDiff, List.map_cons, List.map_nil, Option.map_some, Option.map_none, List.nil_append, ↓reduceIte, vcu, ↓vcd, h0]
    refine (pick_at β τ2 g h o bs p' 4 d2.rd (by omega) (by omega)).mono ?_
    rintro r τ3 ⟨w, rfl, b1, b2, hR, hK⟩
    have d3 := d2.step hR hK
    replace eq := hK.at eq gq
    clear hR hK d2
    have hx := lit_text eq b1 (by simpa using b2)
    have hc1 : ([[48], [49], [50], [51]].getD w.toNat [] : List UInt8).length ≤ 1 := getD_len (by decide) _
    generalize ([[48], [49], [50], [51]].getD w.toNat [] : List UInt8) = c at hx hc1
    have ha := abin_sadd (P := Try.prog) (t := 9) (xs := xs) (ys := c) (by omega)
    simp -implicitDefEqProofs (disch := omega) only [List.any_cons, List.any_nil, Nat.reduceEqDiff, List.map_cons, List.map_nil, Option.map_some, Option.map_none, List.nil_append, ↓reduceIte, vcu, ↓vcd, opK_some, h0, h5, h6, hx, ha]
    exact ⟨by simp [h0], m - 1, by omega, xs ++ c, p' + 1, by congr 1; omega, by simp, by simp; omega, by omega, by omega, d3⟩
  · simp -implicitDefEqProofs (disch := omega) only [List.any_cons, List.any_nil, Nat.reduceEqDiff, List.map_cons, List.map_nil, Option.map_some, Option.map_none, List.nil_append, ↓reduceIte, vcu, ↓vcd, h0, h5, h6]
    refine fin_one Try.results66 ⟨xs, p', ?_, by omega, by omega, by omega, d⟩
    simp -implicitDefEqProofs (disch := omega) only [List.any_cons, List.any_nil, Nat.reduceEqDiff, List.map_cons, List.map_nil, Option.map_some, Option.map_none, List.nil_append, ↓reduceIte, vcu, ↓vcd, h5]

/-- a row of one's own that is drawn: newer than σ0, and not the reader -/
def OYI (σ0 : AHeap) (g : Nat) (τ : AHeap) (v : Value) (xs : List Int) : Prop := ∃ q, v = .slice (some ⟨q, 0, none⟩) xs.length 1 ∧ τ q = some ⟨ints .i64 xs, false⟩ ∧ σ0 q = none ∧ q ≠ g
theorem OYI.ints {σ0 τ : AHeap} {g : Nat} {v : Value} {xs : List Int} (w : OYI σ0 g τ v xs) : Ints .i64 τ v xs := let ⟨q, e, h, _⟩ := w; .inr ⟨q, 0, e, intsAt_own h⟩
theorem OYI.sub {σ0 τ τ' : AHeap} {g : Nat} {v : Value} {xs : List Int} (w : OYI σ0 g τ v xs) (hs : Sub τ τ') : OYI σ0 g τ' v xs := let ⟨q, e, h, n⟩ := w; ⟨q, e, hs _ _ h, n⟩
theorem OYI.pick {σ0 τ τ' : AHeap} {g : Nat} {v : Value} {xs : List Int} (w : OYI σ0 g τ v xs) (hk : Kept g τ τ') : OYI σ0 g τ' v xs := let ⟨q, e, h, n1, n2⟩ := w; ⟨q, e, hk.at h n2, n1, n2⟩

set_option maxRecDepth 8000 in
theorem lengths_draw (β σ : AHeap) (g h o : Nat) (bs : List Int) (p n : Int) (hr : Rd β σ g h o bs p) (hp : 0 ≤ p ∧ p ≤ 10000) (hn : n = 0 ∨ 1 ≤ n ∧ n ≤ 1000) :
    ACall Try.prog w0 74 [.pointer (some ⟨g, 0, none⟩), .int .i64 n] σ fun r σ' => ∃ (xs : List Int) (p' : Int), OYI σ g σ' r xs ∧ xs.length ≤ 11 ∧ (∀ x ∈ xs, 0 ≤ x ∧ x ≤ 4) ∧ p ≤ p' ∧ p' ≤ p + 20 ∧ DS β σ σ' g h o bs p' := by
  refine acall_go mixed Try.func74 rfl good74 fun pr => ?_
  simp -implicitDefEqProofs (disch := omega) only [List.any_cons, List.any_nil, Nat.reduceEqDiff, List.map_cons, List.map_nil, Option.map_some, Option.map_none, List.nil_append, ↓reduceIte, vcu, ↓vcd]
  refine r_lit el31 (out := #[]) (by kernel_rfl) (by kernel_rfl) fun q0 τ1 n0 s0 v0 => ?_
  have d1 := (DS.start hr).new s0
  have w1 : OYI σ g τ1 (.slice (some ⟨q0, 0, none⟩) 0 1) [] := ⟨q0, rfl, v0, (DS.start hr).fresh n0⟩
  clear s0 v0 n0
  simp -implicitDefEqProofs (disch := omega) only [List.any_cons, List.any_nil, Nat.reduceEqDiff, List.map_cons, List.map_nil, Option.map_some, Option.map_none, List.nil_append, ↓reduceIte, vcu, ↓vcd]
  refine (pick_at β τ1 g h o bs p 11 d1.rd (by omega) (by omega)).mono ?_
  rintro r τ2 ⟨z, rfl, a1, a2, hR, hK⟩
  have d2 := d1.step hR hK
  have w2 := w1.pick hK
  clear hR hK d1 w1
  obtain ⟨z0, rfl⟩ : ∃ z0 : Nat, z = z0 := ⟨z.toNat, by omega⟩
  simp -implicitDefEqProofs (disch := omega) only [List.any_cons, List.any_nil, Nat.reduceEqDiff, List.map_cons, List.map_nil, Option.map_some, Option.map_none, List.nil_append, ↓reduceIte, vcu, ↓vcd, opK_some]
  refine vc_loop_c mixed (by kernel_rfl) [0, 1] (fun m a σ' => ∃ (xs : List Int) (p' : Int), a 6 = .int .i64 m ∧ OYI σ g σ' (a 5) xs ∧ xs.length + m ≤ 10 ∧ (∀ x ∈ xs, 0 ≤ x ∧ x ≤ 4) ∧ p + 1 ≤ p' ∧ p' + m ≤ p + 12 ∧ DS β σ σ' g h o bs p') z0 ⟨[], p + 1, rfl, w2, by simp; omega, by simp, by omega, by omega, d2⟩ ?_
  clear d2 w2 a1 a2
  rintro m a τ hc ⟨xs, p', h6, w, hl, hx, hp1, hp2, d⟩
  simp -implicitDefEqProofs (disch := omega) only [List.any_cons, List.any_nil, Nat.reduceEqDiff, List.map_cons, List.map_nil, Option.map_some, Option.map_none, List.nil_append, ↓reduceIte, vcu, ↓vcd] at hc
  obtain ⟨h0, h1, -⟩ := hc
  have push : ∀ {x : Int}, 0 ≤ x ∧ x ≤ 4 → ∀ y ∈ xs ++ [x], 0 ≤ y ∧ y ≤ 4 := fun hh y hy => by
    rcases List.mem_append.1 hy with hy | hy
    · exact hx y hy
    · rw [List.mem_singleton] at hy; subst hy; exact hh
  by_cases hlt : 0 < m
  · obtain ⟨q, h5, vq, nq, gq⟩ := w
    simp -implicitDefEqProofs (disch := omega) only [List.any_cons, List.any_nil, Nat.reduceEqDiff, List.map_cons, List.map_nil, Option.map_some, Option.map_none, List.nil_append, ↓reduceIte, vcu, ↓vcd, h0, h1, h5, h6]
    refine r_lit el31 (out := (ints .i64 [1, 2, 2, 3, 3, 3]).toArray) (by simp -implicitDefEqProofs (disch := omega) only [List.any_cons, List.any_nil, Nat.reduceEqDiff, List.map_cons, List.map_nil, Option.map_some, Option.map_none, List.nil_append, ↓reduceIte, vcu, ↓vcd]; kernel_rfl) (by kernel_rfl) fun e τ2 ne se ve => ?_
    replace ve : τ2 e = some ⟨ints .i64 [1, 2, 2, 3, 3, 3], false⟩ := ve
    have d2 := d.new se
    have ge := (d.fresh ne).2
    replace vq := se _ _ vq
    clear se ne d
    simp -implicitDefEqProofs (disch := omega) only [List.any_cons, List.any_nil, Nat.reduceEqDiff, List.map_cons, List.map_nil, Option.map_some, Option.map_none, List.nil_append, ↓reduceIte, vcu, ↓vcd, h0]
    refine (pick_at β τ2 g h o bs p' 6 d2.rd (by omega) (by omega)).mono ?_
    rintro r τ3 ⟨y, rfl, b1, b2, hR, hK⟩
    have d3 := d2.step hR hK
    replace ve := hK.at ve ge
    replace vq := hK.at vq gq
    clear hR hK d2
    have hy := lit_int ve b1 (by simpa using b2)
    have hc : 0 ≤ ([1, 2, 2, 3, 3, 3] : List Int).getD y.toNat 0 ∧ ([1, 2, 2, 3, 3, 3] : List Int).getD y.toNat 0 ≤ 4 := by
      have : y = 0 ∨ y = 1 ∨ y = 2 ∨ y = 3 ∨ y = 4 ∨ y = 5 := by omega
      rcases this with rfl | rfl | rfl | rfl | rfl | rfl <;> decide
    generalize ([1, 2, 2, 3, 3, 3] : List Int).getD y.toNat 0 = c at hy hc
    simp -implicitDefEqProofs (disch := omega) only [List.any_cons, List.any_nil, Nat.reduceEqDiff, List.map_cons, List.map_nil, Option.map_some, Option.map_none, List.nil_append, ↓reduceIte, vcu, ↓vcd, opK_some, h0, h1, h5, h6, hy]
    refine r_lit el31 (out := #[.int .i64 c]) (by simp -implicitDefEqProofs (disch := omega) only [List.any_cons, List.any_nil, Nat.reduceEqDiff, List.map_cons, List.map_nil, Option.map_some, Option.map_none, List.nil_append, ↓reduceIte, vcu, ↓vcd]; kernel_rfl) (by kernel_rfl) fun e4 τ4 n4 s4 v4 => ?_
    have d4 := d3.new s4
    refine r_pushI (g := q) (e := e4) (o := 0) (k := .i64) (xs := xs) (ys := [c]) (m := 1) (len := xs.length) el31 (by omega) sl31 (by simp -implicitDefEqProofs (disch := omega) only [List.any_cons, List.any_nil, Nat.reduceEqDiff, List.map_cons, List.map_nil, Option.map_some, Option.map_none, List.nil_append, ↓reduceIte, vcu, ↓vcd, h5]) (s4 _ _ vq) rfl (by simp -implicitDefEqProofs (disch := omega) only [List.any_cons, List.any_nil, Nat.reduceEqDiff, List.map_cons, List.map_nil, Option.map_some, Option.map_none, List.nil_append, ↓reduceIte, vcu, ↓vcd]) (intsAt_own v4) rfl (by omega) fun q5 τ5 n5 k5 v5 => ?_
    have d5 := d4.put k5 gq nq
    simp -implicitDefEqProofs (disch := omega) only [List.any_cons, List.any_nil, Nat.reduceEqDiff, List.map_cons, List.map_nil, Option.map_some, Option.map_none, List.nil_append, ↓reduceIte, vcu, ↓vcd, h0, h1, h6]
    exact ⟨by simp [h0, h1], m - 1, by omega, xs ++ [c], p' + 1, by congr 1; omega, ⟨q5, by simp, v5, d4.fresh n5⟩, by simp; omega, push hc, by omega, by omega, d5⟩
  · obtain ⟨q, h5, vq, nq, gq⟩ := w
    simp -implicitDefEqProofs (disch := omega) only [List.any_cons, List.any_nil, Nat.reduceEqDiff, List.map_cons, List.map_nil, Option.map_some, Option.map_none, List.nil_append, ↓reduceIte, vcu, ↓vcd, h0, h1, h5, h6]
    refine (odd_any β τ g h o bs p' n d.rd (by omega) (by omega)).mono ?_
    rintro r τ2 ⟨b, p2, rfl, c1, c2, hR, hK⟩
    have d2 := d.step hR hK
    replace vq := hK.at vq gq
    clear hR hK d
    cases b with
    | false =>
      simp -implicitDefEqProofs (disch := omega) only [List.any_cons, List.any_nil, Nat.reduceEqDiff, List.map_cons, List.map_nil, Option.map_some, Option.map_none, List.nil_append, ↓reduceIte, vcu, ↓vcd, opK_some, h0, h1, h5, h6]
      refine fin_one Try.results74 ⟨xs, p2, ⟨q, ?_, vq, nq, gq⟩, by omega, hx, by omega, by omega, d2⟩
      simp -implicitDefEqProofs (disch := omega) only [List.any_cons, List.any_nil, Nat.reduceEqDiff, List.map_cons, List.map_nil, Option.map_some, Option.map_none, List.nil_append, ↓reduceIte, vcu, ↓vcd, h5]
    | true =>
      simp -implicitDefEqProofs (disch := omega) only [List.any_cons, List.any_nil, Nat.reduceEqDiff, List.map_cons, List.map_nil, Option.map_some, Option.map_none, List.nil_append, ↓reduceIte, vcu, ↓vcd, opK_some, h0, h1, h5, h6]
      refine (pick_at β τ2 g h o bs p2 2 d2.rd (by omega) (by omega)).mono ?_
      rintro r τ3 ⟨y, rfl, b1, b2, hR, hK⟩
      have d3 := d2.step hR hK
      replace vq := hK.at vq gq
      clear hR hK d2
      by_cases hy0 : y = 0
      · simp -implicitDefEqProofs (disch := omega) only [List.any_cons, List.any_nil, Nat.reduceEqDiff, List.map_cons, List.map_nil, Option.map_some, Option.map_none, List.nil_append, ↓reduceIte, vcu, ↓vcd, opK_some, h0, h1, h5, h6, hy0]
        refine r_lit el31 (out := (ints .i64 [0, 4]).toArray) (by simp -implicitDefEqProofs (disch := omega) only [List.any_cons, List.any_nil, Nat.reduceEqDiff, List.map_cons, List.map_nil, Option.map_some, Option.map_none, List.nil_append, ↓reduceIte, vcu, ↓vcd]; kernel_rfl) (by kernel_rfl) fun e τ4 ne se ve => ?_
        replace ve : τ4 e = some ⟨ints .i64 [0, 4], false⟩ := ve
        have d4 := d3.new se
        have ge := (d3.fresh ne).2
        replace vq := se _ _ vq
        clear se ne d3
        simp -implicitDefEqProofs (disch := omega) only [List.any_cons, List.any_nil, Nat.reduceEqDiff, List.map_cons, List.map_nil, Option.map_some, Option.map_none, List.nil_append, ↓reduceIte, vcu, ↓vcd, h0]
        refine (pick_at β τ4 g h o bs (p2 + 1) 2 d4.rd (by omega) (by omega)).mono ?_
        rintro r τ5 ⟨u, rfl, u1, u2, hR, hK⟩
        have d5 := d4.step hR hK
        replace ve := hK.at ve ge
        replace vq := hK.at vq gq
        clear hR hK d4
        have hu := lit_int ve u1 (by simpa using u2)
        have hc : 0 ≤ ([0, 4] : List Int).getD u.toNat 0 ∧ ([0, 4] : List Int).getD u.toNat 0 ≤ 4 := by
          have : u = 0 ∨ u = 1 := by omega
          rcases this with rfl | rfl <;> decide
        generalize ([0, 4] : List Int).getD u.toNat 0 = c at hu hc
        simp -implicitDefEqProofs (disch := omega) only [List.any_cons, List.any_nil, Nat.reduceEqDiff, List.map_cons, List.map_nil, Option.map_some, Option.map_none, List.nil_append, ↓reduceIte, vcu, ↓vcd, opK_some, h0, h5, hu]
        refine r_lit el31 (out := #[.int .i64 c]) (by simp -implicitDefEqProofs (disch := omega) only [List.any_cons, List.any_nil, Nat.reduceEqDiff, List.map_cons, List.map_nil, Option.map_some, Option.map_none, List.nil_append, ↓reduceIte, vcu, ↓vcd]; kernel_rfl) (by kernel_rfl) fun e6 τ6 n6 s6 v6 => ?_
        have d6 := d5.new s6
        refine r_pushI (g := q) (e := e6) (o := 0) (k := .i64) (xs := xs) (ys := [c]) (m := 1) (len := xs.length) el31 (by omega) sl31 (by simp -implicitDefEqProofs (disch := omega) only [List.any_cons, List.any_nil, Nat.reduceEqDiff, List.map_cons, List.map_nil, Option.map_some, Option.map_none, List.nil_append, ↓reduceIte, vcu, ↓vcd, h5]) (s6 _ _ vq) rfl (by simp -implicitDefEqProofs (disch := omega) only [List.any_cons, List.any_nil, Nat.reduceEqDiff, List.map_cons, List.map_nil, Option.map_some, Option.map_none, List.nil_append, ↓reduceIte, vcu, ↓vcd]) (intsAt_own v6) rfl (by omega) fun q7 τ7 n7 k7 v7 => ?_
        have d7 := d6.put k7 gq nq
        simp -implicitDefEqProofs (disch := omega) only [List.any_cons, List.any_nil, Nat.reduceEqDiff, List.map_cons, List.map_nil, Option.map_some, Option.map_none, List.nil_append, ↓reduceIte, vcu, ↓vcd]
        refine fin_one Try.results74 ⟨xs ++ [c], p2 + 1 + 1, ⟨q7, ?_, v7, d6.fresh n7⟩, by simp; omega, push hc, by omega, by omega, d7⟩
        simp -implicitDefEqProofs (disch := omega) only [List.any_cons, List.any_nil, Nat.reduceEqDiff, List.map_cons, List.map_nil, Option.map_some, Option.map_none, List.nil_append, ↓reduceIte, vcu, ↓vcd]
        simp
      · have hy1 : y = 1 := by omega
        simp -implicitDefEqProofs (disch := omega) only [List.any_cons, List.any_nil, Nat.reduceEqDiff, List.map_cons, List.map_nil, Option.map_some, Option.map_none, List.nil_append, ↓reduceIte, vcu, ↓vcd, opK_some, h0, h1, h5, h6, hy1]
        refine r_makeI (kx := .i64) (ky := .i64) (l := 11) (c := 11) el31 (by omega) (by simp -implicitDefEqProofs (disch := omega) only [List.any_cons, List.any_nil, Nat.reduceEqDiff, List.map_cons, List.map_nil, Option.map_some, Option.map_none, List.nil_append, ↓reduceIte, vcu, ↓vcd]; rfl) (by simp -implicitDefEqProofs (disch := omega) only [List.any_cons, List.any_nil, Nat.reduceEqDiff, List.map_cons, List.map_nil, Option.map_some, Option.map_none, List.nil_append, ↓reduceIte, vcu, ↓vcd]; rfl) (by omega) fun e τ4 ne se ve => ?_
        have d4 := d3.new se
        simp -implicitDefEqProofs (disch := omega) only [List.any_cons, List.any_nil, Nat.reduceEqDiff, List.map_cons, List.map_nil, Option.map_some, Option.map_none, List.nil_append, ↓reduceIte, vcu, ↓vcd]
        refine fin_one Try.results74 ⟨List.replicate 11 0, p2 + 1, ⟨e, ?_, ve, d3.fresh ne⟩, by simp, fun x hx => by rw [(List.mem_replicate.1 hx).2]; omega, by omega, by omega, d4⟩
        simp -implicitDefEqProofs (disch := omega) only [List.any_cons, List.any_nil, Nat.reduceEqDiff, List.map_cons, List.map_nil, Option.map_some, Option.map_none, List.nil_append, ↓reduceIte, vcu, ↓vcd]
        simp
end Go.Proofs.Ytnenopebfobajaa

namespace Go.Proofs.Ytnenopebfobajaa
open Go Go.Abs Go.RowKit
variable {w0 : World}

theorem mul_76 {a b : Int} (ha : 0 ≤ a ∧ a < 20) (hb : 0 ≤ b ∧ b < 4) : 0 ≤ a * (1 + b) ∧ a * (1 + b) ≤ 76 := by
  have : b = 0 ∨ b = 1 ∨ b = 2 ∨ b = 3 := by omega
  rcases this with rfl | rfl | rfl | rfl <;> omega
set_option maxRecDepth 8000 in
theorem often_draw (β σ : AHeap) (g h o : Nat) (bs : List Int) (p n : Int) (hr : Rd β σ g h o bs p) (hp : 0 ≤ p ∧ p ≤ 10000) (hn : n = 0 ∨ 1 ≤ n ∧ n ≤ 1000) :
    ACall Try.prog w0 79 [.pointer (some ⟨g, 0, none⟩), .int .i64 n] σ fun r σ' => ∃ (xs : List Int) (p' : Int), OYI σ g σ' r xs ∧ xs.length ≤ 11 ∧ (∀ x ∈ xs, -1 ≤ x ∧ x ≤ 100) ∧ p ≤ p' ∧ p' ≤ p + 30 ∧ DS β σ σ' g h o bs p' := by
  refine acall_go mixed Try.func79 rfl good79 fun pr => ?_
  simp -implicitDefEqProofs (disch := omega) only [List.any_cons, List.any_nil, Nat.reduceEqDiff, List.map_cons, List.map_nil, Option.map_some, Option.map_none, List.nil_append, ↓reduceIte, vcu, ↓vcd]
  refine r_lit el31 (out := #[]) (by kernel_rfl) (by kernel_rfl) fun q0 τ1 n0 s0 v0 => ?_
  have d1 := (DS.start hr).new s0
  have w1 : OYI σ g τ1 (.slice (some ⟨q0, 0, none⟩) 0 1) [] := ⟨q0, rfl, v0, (DS.start hr).fresh n0⟩
  clear s0 v0 n0
  simp -implicitDefEqProofs (disch := omega) only [List.any_cons, List.any_nil, Nat.reduceEqDiff, List.map_cons, List.map_nil, Option.map_some, Option.map_none, List.nil_append, ↓reduceIte, vcu, ↓vcd]
  refine (pick_at β τ1 g h o bs p 9 d1.rd (by omega) (by omega)).mono ?_
  rintro r τ2 ⟨z, rfl, a1, a2, hR, hK⟩
  have d2 := d1.step hR hK
  have w2 := w1.pick hK
  clear hR hK d1 w1
  obtain ⟨z0, hz⟩ : ∃ z0 : Nat, 2 + z = z0 := ⟨(2 + z).toNat, by omega⟩
  simp -implicitDefEqProofs (disch := omega) only [List.any_cons, List.any_nil, Nat.reduceEqDiff, List.map_cons, List.map_nil, Option.map_some, Option.map_none, List.nil_append, ↓reduceIte, vcu, ↓vcd, opK_some, hz]
  refine vc_loop_c mixed (by kernel_rfl) [0, 1] (fun m a σ' => ∃ (xs : List Int) (p' : Int), a 6 = .int .i64 m ∧ OYI σ g σ' (a 5) xs ∧ xs.length + m = z0 ∧ (∀ x ∈ xs, -1 ≤ x ∧ x ≤ 100) ∧ p + 1 ≤ p' ∧ p' + 2 * m ≤ p + 1 + 2 * z0 ∧ DS β σ σ' g h o bs p') z0 ⟨[], p + 1, rfl, w2, by simp, by simp, by omega, by omega, d2⟩ ?_
  clear d2 w2
  rintro m a τ hc ⟨xs, p', h6, w, hl, hx, hp1, hp2, d⟩
  simp -implicitDefEqProofs (disch := omega) only [List.any_cons, List.any_nil, Nat.reduceEqDiff, List.map_cons, List.map_nil, Option.map_some, Option.map_none, List.nil_append, ↓reduceIte, vcu, ↓vcd] at hc
  obtain ⟨h0, h1, -⟩ := hc
  by_cases hlt : 0 < m
  · obtain ⟨q, h5, vq, nq, gq⟩ := w
    simp -implicitDefEqProofs (disch := omega) only [List.any_cons, List.any_nil, Nat.reduceEqDiff, List.map_cons, List.map_nil, Option.map_some, Option.map_none, List.nil_append, ↓reduceIte, vcu, ↓vcd, h0, h1, h5, h6]
    refine (pick_at β τ g h o bs p' 20 d.rd (by omega) (by omega)).mono ?_
    rintro r τ3 ⟨y, rfl, b1, b2, hR, hK⟩
    have d3 := d.step hR hK
    replace vq := hK.at vq gq
    clear hR hK d
    simp -implicitDefEqProofs (disch := omega) only [List.any_cons, List.any_nil, Nat.reduceEqDiff, List.map_cons, List.map_nil, Option.map_some, Option.map_none, List.nil_append, ↓reduceIte, vcu, ↓vcd, opK_some, h0, h1, h5, h6]
    refine (pick_at β τ3 g h o bs (p' + 1) 4 d3.rd (by omega) (by omega)).mono ?_
    rintro r τ4 ⟨u, rfl, u1, u2, hR, hK⟩
    have d4 := d3.step hR hK
    replace vq := hK.at vq gq
    clear hR hK d3
    have hm := mul_76 ⟨b1, b2⟩ ⟨u1, u2⟩
    simp -implicitDefEqProofs (disch := omega) only [List.any_cons, List.any_nil, Nat.reduceEqDiff, List.map_cons, List.map_nil, Option.map_some, Option.map_none, List.nil_append, ↓reduceIte, vcu, ↓vcd, opK_some, h0, h1, h5, h6]
    generalize y * (1 + u) = c at hm
    refine r_lit el31 (out := #[.int .i64 c]) (by simp -implicitDefEqProofs (disch := omega) only [List.any_cons, List.any_nil, Nat.reduceEqDiff, List.map_cons, List.map_nil, Option.map_some, Option.map_none, List.nil_append, ↓reduceIte, vcu, ↓vcd]; kernel_rfl) (by kernel_rfl) fun e4 τ5 n4 s4 v4 => ?_
    have d5 := d4.new s4
    refine r_pushI (g := q) (e := e4) (o := 0) (k := .i64) (xs := xs) (ys := [c]) (m := 1) (len := xs.length) el31 (by omega) sl31 (by simp -implicitDefEqProofs (disch := omega) only [List.any_cons, List.any_nil, Nat.reduceEqDiff, List.map_cons, List.map_nil, Option.map_some, Option.map_none, List.nil_append, ↓reduceIte, vcu, ↓vcd, h5]) (s4 _ _ vq) rfl (by simp -implicitDefEqProofs (disch := omega) only [List.any_cons, List.any_nil, Nat.reduceEqDiff, List.map_cons, List.map_nil, Option.map_some, Option.map_none, List.nil_append, ↓reduceIte, vcu, ↓vcd]) (intsAt_own v4) rfl (by omega) fun q5 τ6 n5 k5 v5 => ?_
    have d6 := d5.put k5 gq nq
    simp -implicitDefEqProofs (disch := omega) only [List.any_cons, List.any_nil, Nat.reduceEqDiff, List.map_cons, List.map_nil, Option.map_some, Option.map_none, List.nil_append, ↓reduceIte, vcu, ↓vcd, h0, h1, h6]
    exact ⟨by simp [h0, h1], m - 1, by omega, xs ++ [c], p' + 1 + 1, by congr 1; omega, ⟨q5, by simp, v5, d5.fresh n5⟩, by simp; omega, fun y hy => by
      rcases List.mem_append.1 hy with hy | hy
      · exact hx y hy
      · rw [List.mem_singleton] at hy; subst hy; omega, by omega, by omega, d6⟩
  · obtain ⟨q, h5, vq, nq, gq⟩ := w
    have hl0 : 0 < xs.length := by omega
    simp -implicitDefEqProofs (disch := omega) only [List.any_cons, List.any_nil, Nat.reduceEqDiff, List.map_cons, List.map_nil, Option.map_some, Option.map_none, List.nil_append, ↓reduceIte, vcu, ↓vcd, h0, h1, h5, h6]
    refine (odd_any β τ g h o bs p' n d.rd (by omega) (by omega)).mono ?_
    rintro r τ2 ⟨b, p2, rfl, c1, c2, hR, hK⟩
    have d2 := d.step hR hK
    replace vq := hK.at vq gq
    clear hR hK d
    cases b with
    | false =>
      simp -implicitDefEqProofs (disch := omega) only [List.any_cons, List.any_nil, Nat.reduceEqDiff, List.map_cons, List.map_nil, Option.map_some, Option.map_none, List.nil_append, ↓reduceIte, vcu, ↓vcd, opK_some, h0, h1, h5, h6]
      refine fin_one Try.results79 ⟨xs, p2, ⟨q, ?_, vq, nq, gq⟩, by omega, hx, by omega, by omega, d2⟩
      simp -implicitDefEqProofs (disch := omega) only [List.any_cons, List.any_nil, Nat.reduceEqDiff, List.map_cons, List.map_nil, Option.map_some, Option.map_none, List.nil_append, ↓reduceIte, vcu, ↓vcd, h5]
    | true =>
      simp -implicitDefEqProofs (disch := omega) only [List.any_cons, List.any_nil, Nat.reduceEqDiff, List.map_cons, List.map_nil, Option.map_some, Option.map_none, List.nil_append, ↓reduceIte, vcu, ↓vcd, opK_some, h0, h1, h5, h6]
      refine (pick_at β τ2 g h o bs p2 3 d2.rd (by omega) (by omega)).mono ?_
      rintro r τ3 ⟨y, rfl, b1, b2, hR, hK⟩
      have d3 := d2.step hR hK
      replace vq := hK.at vq gq
      clear hR hK d2
      by_cases hy0 : y = 0
      · simp -implicitDefEqProofs (disch := omega) only [List.any_cons, List.any_nil, Nat.reduceEqDiff, List.map_cons, List.map_nil, Option.map_some, Option.map_none, List.nil_append, ↓reduceIte, vcu, ↓vcd, opK_some, h0, h1, h5, h6, hy0]
        refine r_lit el31 (out := #[.int .i64 5]) (by simp -implicitDefEqProofs (disch := omega) only [List.any_cons, List.any_nil, Nat.reduceEqDiff, List.map_cons, List.map_nil, Option.map_some, Option.map_none, List.nil_append, ↓reduceIte, vcu, ↓vcd]; kernel_rfl) (by kernel_rfl) fun e τ4 ne se ve => ?_
        have d4 := d3.new se
        simp -implicitDefEqProofs (disch := omega) only [List.any_cons, List.any_nil, Nat.reduceEqDiff, List.map_cons, List.map_nil, Option.map_some, Option.map_none, List.nil_append, ↓reduceIte, vcu, ↓vcd]
        refine fin_one Try.results79 ⟨[5], p2 + 1, ⟨e, ?_, ve, d3.fresh ne⟩, by simp, fun x hx => by rw [List.mem_singleton.1 hx]; omega, by omega, by omega, d4⟩
        simp -implicitDefEqProofs (disch := omega) only [List.any_cons, List.any_nil, Nat.reduceEqDiff, List.map_cons, List.map_nil, Option.map_some, Option.map_none, List.nil_append, ↓reduceIte, vcu, ↓vcd]
        rfl
      by_cases hy1 : y = 1
      · simp -implicitDefEqProofs (disch := omega) only [List.any_cons, List.any_nil, Nat.reduceEqDiff, List.map_cons, List.map_nil, Option.map_some, Option.map_none, List.nil_append, ↓reduceIte, vcu, ↓vcd, opK_some, h0, h1, h5, h6, hy1]
        refine r_lit el31 (out := (ints .i64 [-1, 100]).toArray) (by simp -implicitDefEqProofs (disch := omega) only [List.any_cons, List.any_nil, Nat.reduceEqDiff, List.map_cons, List.map_nil, Option.map_some, Option.map_none, List.nil_append, ↓reduceIte, vcu, ↓vcd]; kernel_rfl) (by kernel_rfl) fun e τ4 ne se ve => ?_
        replace ve : τ4 e = some ⟨ints .i64 [-1, 100], false⟩ := ve
        have d4 := d3.new se
        have ge := (d3.fresh ne).2
        replace vq := se _ _ vq
        clear se ne d3
        simp -implicitDefEqProofs (disch := omega) only [List.any_cons, List.any_nil, Nat.reduceEqDiff, List.map_cons, List.map_nil, Option.map_some, Option.map_none, List.nil_append, ↓reduceIte, vcu, ↓vcd, h0]
        refine (pick_at β τ4 g h o bs (p2 + 1) 2 d4.rd (by omega) (by omega)).mono ?_
        rintro r τ5 ⟨u, rfl, u1, u2, hR, hK⟩
        have d5 := d4.step hR hK
        replace ve := hK.at ve ge
        replace vq := hK.at vq gq
        clear hR hK d4
        have hu := lit_int ve u1 (by simpa using u2)
        have hc : -1 ≤ ([-1, 100] : List Int).getD u.toNat 0 ∧ ([-1, 100] : List Int).getD u.toNat 0 ≤ 100 := by
          have : u = 0 ∨ u = 1 := by omega
          rcases this with rfl | rfl <;> decide
        generalize ([-1, 100] : List Int).getD u.toNat 0 = c at hu hc
        simp -implicitDefEqProofs (disch := omega) only [List.any_cons, List.any_nil, Nat.reduceEqDiff, List.map_cons, List.map_nil, Option.map_some, Option.map_none, List.nil_append, ↓reduceIte, vcu, ↓vcd, opK_some, h0, h5, hu, Int.toNat_zero]
        refine r_setI (g := q) (i := 0 + 0) (v := c) (by simp -implicitDefEqProofs (disch := omega) only [List.any_cons, List.any_nil, Nat.reduceEqDiff, List.map_cons, List.map_nil, Option.map_some, Option.map_none, List.nil_append, ↓reduceIte, vcu, ↓vcd, h5]) (by simp -implicitDefEqProofs (disch := omega) only [List.any_cons, List.any_nil, Nat.reduceEqDiff, List.map_cons, List.map_nil, Option.map_some, Option.map_none, List.nil_append, ↓reduceIte, vcu, ↓vcd]) co3 vq (by omega) fun τ6 k6 e6 => ?_
        have d6 := d5.put k6 gq nq
        simp -implicitDefEqProofs (disch := omega) only [List.any_cons, List.any_nil, Nat.reduceEqDiff, List.map_cons, List.map_nil, Option.map_some, Option.map_none, List.nil_append, ↓reduceIte, vcu, ↓vcd, h5]
        refine fin_one Try.results79 ⟨xs.set 0 c, p2 + 1 + 1, ⟨q, ?_, e6, nq, gq⟩, by simp; omega, fun x hx' => ?_, by omega, by omega, d6⟩
        · simp -implicitDefEqProofs (disch := omega) only [List.any_cons, List.any_nil, Nat.reduceEqDiff, List.map_cons, List.map_nil, Option.map_some, Option.map_none, List.nil_append, ↓reduceIte, vcu, ↓vcd, h5]
          simp
        · rcases List.mem_or_eq_of_mem_set hx' with hh | hh
          · exact hx x hh
          · rw [hh]; exact hc
      · have hy2 : y = 2 := by omega
        simp -implicitDefEqProofs (disch := omega) only [List.any_cons, List.any_nil, Nat.reduceEqDiff, List.map_cons, List.map_nil, Option.map_some, Option.map_none, List.nil_append, ↓reduceIte, vcu, ↓vcd, opK_some, h0, h1, h5, h6, hy2]
        refine r_makeI (kx := .i64) (ky := .i64) (l := 11) (c := 11) el31 (by omega) (by simp -implicitDefEqProofs (disch := omega) only [List.any_cons, List.any_nil, Nat.reduceEqDiff, List.map_cons, List.map_nil, Option.map_some, Option.map_none, List.nil_append, ↓reduceIte, vcu, ↓vcd]; rfl) (by simp -implicitDefEqProofs (disch := omega) only [List.any_cons, List.any_nil, Nat.reduceEqDiff, List.map_cons, List.map_nil, Option.map_some, Option.map_none, List.nil_append, ↓reduceIte, vcu, ↓vcd]; rfl) (by omega) fun e τ4 ne se ve => ?_
        have d4 := d3.new se
        simp -implicitDefEqProofs (disch := omega) only [List.any_cons, List.any_nil, Nat.reduceEqDiff, List.map_cons, List.map_nil, Option.map_some, Option.map_none, List.nil_append, ↓reduceIte, vcu, ↓vcd]
        refine fin_one Try.results79 ⟨List.replicate 11 0, p2 + 1, ⟨e, ?_, ve, d3.fresh ne⟩, by simp, fun x hx => by rw [(List.mem_replicate.1 hx).2]; omega, by omega, by omega, d4⟩
        simp -implicitDefEqProofs (disch := omega) only [List.any_cons, List.any_nil, Nat.reduceEqDiff, List.map_cons, List.map_nil, Option.map_some, Option.map_none, List.nil_append, ↓reduceIte, vcu, ↓vcd]
        simp
end Go.Proofs.Ytnenopebfobajaa

namespace Go.Proofs.Ytnenopebfobajaa
open Go Go.Abs Go.RowKit
variable {w0 : World}

/-- nil, or a row of texts of one's own that is drawn: newer than σ0, and not the reader -/
def OYS (σ0 : AHeap) (g : Nat) (τ : AHeap) (v : Value) (xs : List (List UInt8)) : Prop := (v = .slice none 0 0 ∧ xs = []) ∨ ∃ q, v = .slice (some ⟨q, 0, none⟩) xs.length 1 ∧ τ q = some ⟨texts xs, false⟩ ∧ σ0 q = none ∧ q ≠ g
theorem OYS.texts {σ0 τ : AHeap} {g : Nat} {v : Value} {xs : List (List UInt8)} (w : OYS σ0 g τ v xs) : Texts τ v xs := w.imp id fun ⟨q, e, h, _⟩ => ⟨q, 0, e, textsAt_own h⟩
theorem OYS.sub {σ0 τ τ' : AHeap} {g : Nat} {v : Value} {xs : List (List UInt8)} (w : OYS σ0 g τ v xs) (hs : Sub τ τ') : OYS σ0 g τ' v xs := w.imp id fun ⟨q, e, h, n⟩ => ⟨q, e, hs _ _ h, n⟩
theorem OYS.pick {σ0 τ τ' : AHeap} {g : Nat} {v : Value} {xs : List (List UInt8)} (w : OYS σ0 g τ v xs) (hk : Kept g τ τ') : OYS σ0 g τ' v xs := w.imp id fun ⟨q, e, h, n1, n2⟩ => ⟨q, e, hk.at h n2, n1, n2⟩
theorem OYS.len {σ0 τ : AHeap} {g : Nat} {v : Value} {xs : List (List UInt8)} (w : OYS σ0 g τ v xs) : ∃ a z, v = .slice a xs.length z := by
  rcases w with ⟨rfl, rfl⟩ | ⟨q, rfl, _⟩
  · exact ⟨none, 0, rfl⟩
  · exact ⟨_, _, rfl⟩
theorem planV_small (xs : List Int) : (planV xs).length ≤ 10 ∧ ∀ t ∈ planV xs, t.length ≤ 3 := by
  by_cases h : pfOk xs
  · have hp := (planV_ok h).1
    refine ⟨hp.2, fun t ht => ?_⟩
    obtain ⟨i, hi, rfl⟩ := List.mem_iff_getElem.1 ht
    have := (hp.1 i hi).2.1.2
    simpa [List.getD, hi] using this
  · have : planV xs = [] := if_neg h
    rw [this]; simp
set_option maxRecDepth 8000 in
set_option maxHeartbeats 1000000 in
set_option maxRecDepth 8000 in
theorem numbers_draw (β σ : AHeap) (g h o : Nat) (bs : List Int) (p n : Int) (hr : Rd β σ g h o bs p) (hp : 0 ≤ p ∧ p ≤ 5000) (hn : 1 ≤ n ∧ n ≤ 1000) :
    ACall Try.prog w0 70 [.pointer (some ⟨g, 0, none⟩), .int .i64 n] σ fun r σ' => ∃ (ps : List (List UInt8)) (p' : Int), OYS σ g σ' r ps ∧ ps.length ≤ 11 ∧ (∀ t ∈ ps, t.length ≤ 4) ∧ p ≤ p' ∧ p' ≤ p + 100 ∧ DS β σ σ' g h o bs p' := by
  refine acall_go mixed Try.func70 rfl good70 fun pr => ?_
  simp -implicitDefEqProofs (disch := omega) only [List.any_cons, List.any_nil, Nat.reduceEqDiff, List.map_cons, List.map_nil, Option.map_some, Option.map_none, List.nil_append, ↓reduceIte, vcu, ↓vcd]
  refine (lengths_draw β σ g h o bs p 0 hr (by omega) (.inl rfl)).mono ?_
  rintro r τ1 ⟨xs, p1, w, hl, -, c1, c2, d1⟩
  have wi := w.ints
  clear w
  simp -implicitDefEqProofs (disch := omega) only [List.any_cons, List.any_nil, Nat.reduceEqDiff, List.map_cons, List.map_nil, Option.map_some, Option.map_none, List.nil_append, ↓reduceIte, vcu, ↓vcd, opK_some]
  refine (planFor_calls τ1 r xs wi (by omega)).mono ?_
  rintro r τ2 ⟨v, rfl, s2, wS⟩
  have d2 := d1.new s2
  have hsm := planV_small xs
  have w2 : OYS σ g τ2 v (planV xs) := wS.imp id fun ⟨q, e, h, n⟩ => ⟨q, e, h, d1.fresh n⟩
  clear wS wi s2 d1
  generalize planV xs = ps at hsm w2
  by_cases hok : pfOk xs
  · have e1 : decide (pfOk xs) = true := decide_eq_true hok
    rw [e1]
    simp -implicitDefEqProofs (disch := omega) only [List.any_cons, List.any_nil, Nat.reduceEqDiff, List.map_cons, List.map_nil, Option.map_some, Option.map_none, List.nil_append, ↓reduceIte, vcu, ↓vcd, opK_some, Bool.not_true, List.getElem?_toArray, List.getElem?_cons_zero, List.getElem?_cons_succ]
    refine (pick_at β τ2 g h o bs p1 3 d2.rd (by omega) (by omega)).mono ?_
    rintro r τ3 ⟨z3, rfl, a1, a2, hR, hK⟩
    have d3 := d2.step hR hK
    have w3 := w2.pick hK
    clear hR hK d2 w2
    by_cases hz : z3 = 0
    · subst hz
      simp -implicitDefEqProofs (disch := omega) only [List.any_cons, List.any_nil, Nat.reduceEqDiff, List.map_cons, List.map_nil, Option.map_some, Option.map_none, List.nil_append, ↓reduceIte, vcu, ↓vcd, opK_some, decide_true]
      refine r_lit el27 (out := #[]) (by kernel_rfl) (by kernel_rfl) fun q0 τ4 n0 s0 v0 => ?_
      have d4 := d3.new s0
      have w4 : OYS σ g τ4 (.slice (some ⟨q0, 0, none⟩) 0 1) [] := .inr ⟨q0, rfl, v0, d3.fresh n0⟩
      clear s0 v0 n0
      simp -implicitDefEqProofs (disch := omega) only [List.any_cons, List.any_nil, Nat.reduceEqDiff, List.map_cons, List.map_nil, Option.map_some, Option.map_none, List.nil_append, ↓reduceIte, vcu, ↓vcd]
      refine (pick_at β τ4 g h o bs (p1 + 1) 9 d4.rd (by omega) (by omega)).mono ?_
      rintro r τ5 ⟨z9, rfl, a1, a2, hR, hK⟩
      have d5 := d4.step hR hK
      have w5 := w4.pick hK
      clear hR hK d4 w4
      obtain ⟨z0, rfl⟩ : ∃ z0 : Nat, z9 = z0 := ⟨z9.toNat, by omega⟩
      simp -implicitDefEqProofs (disch := omega) only [List.any_cons, List.any_nil, Nat.reduceEqDiff, List.map_cons, List.map_nil, Option.map_some, Option.map_none, List.nil_append, ↓reduceIte, vcu, ↓vcd, opK_some]
      refine vc_loop_c mixed (by kernel_rfl) [0, 1] (fun m a σ' => ∃ (ps : List (List UInt8)) (p' : Int), a 7 = .int .i64 m ∧ OYS σ g σ' (a 5) ps ∧ a 5 ≠ .slice none 0 0 ∧ ps.length + m ≤ 8 ∧ (∀ t ∈ ps, t.length ≤ 3) ∧ p ≤ p' ∧ p' + 5 * m ≤ p + 80 ∧ DS β σ σ' g h o bs p') z0 ⟨[], _, rfl, w5, by simp -implicitDefEqProofs (disch := omega) only [List.any_cons, List.any_nil, Nat.reduceEqDiff, List.map_cons, List.map_nil, Option.map_some, Option.map_none, List.nil_append, ↓reduceIte, vcu, ↓vcd]; simp, by simp; omega, by simp, by omega, by omega, d5⟩ ?_
      clear d5 w5 a1 a2
      rintro m a τ hc ⟨ps, p', h7, w, hne, hl8, hpt, c1, c2, d⟩
      simp -implicitDefEqProofs (disch := omega) only [List.any_cons, List.any_nil, Nat.reduceEqDiff, List.map_cons, List.map_nil, Option.map_some, Option.map_none, List.nil_append, ↓reduceIte, vcu, ↓vcd] at hc
      obtain ⟨h0, h1, -⟩ := hc
      by_cases hlt : 0 < m
      · obtain ⟨q, h5, vq, nq, gq⟩ : ∃ q, a 5 = .slice (some ⟨q, 0, none⟩) ps.length 1 ∧ τ q = some ⟨texts ps, false⟩ ∧ σ q = none ∧ q ≠ g := w.resolve_left fun hh => hne hh.1
        simp -implicitDefEqProofs (disch := omega) only [List.any_cons, List.any_nil, Nat.reduceEqDiff, List.map_cons, List.map_nil, Option.map_some, Option.map_none, List.nil_append, ↓reduceIte, vcu, ↓vcd, h0, h1, h5, h7]
        refine r_lit el27 (out := #[]) (by kernel_rfl) (by kernel_rfl) fun e6 τ6 n6 s6 v6 => ?_
        have d6 := d.new s6
        have f6 := d.fresh n6
        replace v6 : τ6 e6 = some ⟨texts [], false⟩ := v6
        simp -implicitDefEqProofs (disch := omega) only [List.any_cons, List.any_nil, Nat.reduceEqDiff, List.map_cons, List.map_nil, Option.map_some, Option.map_none, List.nil_append, ↓reduceIte, vcu, ↓vcd, h5]
        refine r_pushX (g := e6) (e := q) (o := 0) (xs := []) (ys := ps) (m := ps.length) (len := 0) el27 (by omega) sl27 (by simp -implicitDefEqProofs (disch := omega) only [List.any_cons, List.any_nil, Nat.reduceEqDiff, List.map_cons, List.map_nil, Option.map_some, Option.map_none, List.nil_append, ↓reduceIte, vcu, ↓vcd]) v6 rfl (by simp -implicitDefEqProofs (disch := omega) only [List.any_cons, List.any_nil, Nat.reduceEqDiff, List.map_cons, List.map_nil, Option.map_some, Option.map_none, List.nil_append, ↓reduceIte, vcu, ↓vcd, h5]) (textsAt_own (s6 _ _ vq)) rfl (by omega) fun e7 τ7 n7 k7 v7 => ?_
        rw [List.nil_append] at v7
        have d7 := d6.put k7 f6.2 f6.1
        have f7 := d6.fresh n7
        have vq7 := k7.at (s6 _ _ vq) (ne_of' n6 vq)
        have hqe : q ≠ e7 := ne_of' n7 (s6 _ _ vq)
        clear v6 d6 f6 k7 n7 n6 s6
        simp -implicitDefEqProofs (disch := omega) only [List.any_cons, List.any_nil, Nat.reduceEqDiff, List.map_cons, List.map_nil, Option.map_some, Option.map_none, List.nil_append, ↓reduceIte, vcu, ↓vcd, h0]
        refine (digits_draw β τ7 g h o bs p' 3 d7.rd (by omega) (by omega)).mono ?_
        rintro r τ8 ⟨c, p8, rfl, cl, c3, c4, ds⟩
        have d8 := d7.on ds
        have v8 := ds.kp.at v7 f7.2
        have vq8 := ds.kp.at vq7 gq
        clear ds d7 v7 vq7
        simp -implicitDefEqProofs (disch := omega) only [List.any_cons, List.any_nil, Nat.reduceEqDiff, List.map_cons, List.map_nil, Option.map_some, Option.map_none, List.nil_append, ↓reduceIte, vcu, ↓vcd, opK_some]
        refine r_lit el27 (out := #[.string (tx c)]) (by simp -implicitDefEqProofs (disch := omega) only [List.any_cons, List.any_nil, Nat.reduceEqDiff, List.map_cons, List.map_nil, Option.map_some, Option.map_none, List.nil_append, ↓reduceIte, vcu, ↓vcd]; kernel_rfl) (by kernel_rfl) fun e9 τ9 n9 s9 v9 => ?_
        replace v9 : τ9 e9 = some ⟨texts [c], false⟩ := v9
        have d9 := d8.new s9
        refine r_pushX (g := e7) (e := e9) (o := 0) (xs := ps) (ys := [c]) (m := 1) (len := ps.length) el27 (by omega) sl27 (by simp -implicitDefEqProofs (disch := omega) only [List.any_cons, List.any_nil, Nat.reduceEqDiff, List.map_cons, List.map_nil, Option.map_some, Option.map_none, List.nil_append, ↓reduceIte, vcu, ↓vcd, Nat.zero_add]) (s9 _ _ v8) rfl (by simp -implicitDefEqProofs (disch := omega) only [List.any_cons, List.any_nil, Nat.reduceEqDiff, List.map_cons, List.map_nil, Option.map_some, Option.map_none, List.nil_append, ↓reduceIte, vcu, ↓vcd]) (textsAt_own v9) rfl (by omega) fun eA τA nA kA vA => ?_
        have dA := d9.put kA f7.2 f7.1
        have fA := d9.fresh nA
        have vqA := kA.at (s9 _ _ vq8) hqe
        have tl3 : ∀ t ∈ ps ++ [c], t.length ≤ 3 := fun t ht => by
          rcases List.mem_append.1 ht with hh | hh
          · exact hpt t hh
          · rw [List.mem_singleton.1 hh]; exact cl
        simp -implicitDefEqProofs (disch := omega) only [List.any_cons, List.any_nil, Nat.reduceEqDiff, List.map_cons, List.map_nil, Option.map_some, Option.map_none, List.nil_append, ↓reduceIte, vcu, ↓vcd, h0, h1, h7]
        refine (planValid_calls τA _ (ps ++ [c]) (.inr ⟨eA, 0, by simp, textsAt_own vA⟩) (by simp; omega) (fun x hx => by have := tl3 x hx; omega)).mono ?_
        rintro r _ ⟨rfl, rfl⟩
        rename_i τA
        by_cases hok2 : PlanOk (ps ++ [c])
        · rw [decide_eq_true hok2]
          simp -implicitDefEqProofs (disch := omega) only [List.any_cons, List.any_nil, Nat.reduceEqDiff, List.map_cons, List.map_nil, Option.map_some, Option.map_none, List.nil_append, ↓reduceIte, vcu, ↓vcd, opK_some, h0, h1, h7]
          exact ⟨by simp [h0, h1], m - 1, by omega, ps ++ [c], p8, by congr 1; omega, .inr ⟨eA, by simp, vA, fA⟩, by simp, by simp; omega, tl3, by omega, by omega, dA⟩
        · rw [decide_eq_false hok2]
          simp -implicitDefEqProofs (disch := omega) only [List.any_cons, List.any_nil, Nat.reduceEqDiff, List.map_cons, List.map_nil, Option.map_some, Option.map_none, List.nil_append, ↓reduceIte, vcu, ↓vcd, opK_some, h0, h1, h5, h7]
          exact ⟨by simp [h0, h1], m - 1, by omega, ps, p8, by congr 1; omega, .inr ⟨q, rfl, vqA, nq, gq⟩, by simp, by omega, hpt, by omega, by omega, dA⟩
      · have hl10 : ps.length ≤ 10 := by omega
        simp -implicitDefEqProofs (disch := omega) only [List.any_cons, List.any_nil, Nat.reduceEqDiff, List.map_cons, List.map_nil, Option.map_some, Option.map_none, List.nil_append, ↓reduceIte, vcu, ↓vcd, h0, h1, h7]
        refine (odd_at β τ g h o bs p' n d.rd (by omega) (by omega)).mono ?_
        rintro r τ5 ⟨b, rfl, hR, hK⟩
        have d5 := d.step hR hK
        have w5 := w.pick hK
        clear hR hK d w
        cases b with
        | false =>
          simp -implicitDefEqProofs (disch := omega) only [List.any_cons, List.any_nil, Nat.reduceEqDiff, List.map_cons, List.map_nil, Option.map_some, Option.map_none, List.nil_append, ↓reduceIte, vcu, ↓vcd, opK_some, h0, h1]
          refine fin_one Try.results70 ⟨ps, p' + 1, ?_, by omega, fun t ht => by have := hpt t ht; omega, by omega, by omega, d5⟩
          simp -implicitDefEqProofs (disch := omega) only [List.any_cons, List.any_nil, Nat.reduceEqDiff, List.map_cons, List.map_nil, Option.map_some, Option.map_none, List.nil_append, ↓reduceIte, vcu, ↓vcd, h0, h1]
          exact w5
        | true =>
          simp -implicitDefEqProofs (disch := omega) only [List.any_cons, List.any_nil, Nat.reduceEqDiff, List.map_cons, List.map_nil, Option.map_some, Option.map_none, List.nil_append, ↓reduceIte, vcu, ↓vcd, opK_some, h0, h1]
          refine r_lit el27 (out := #[.string (tx []), .string (tx [52]), .string (tx [48, 49, 50, 51]), .string (tx [48]), .string (tx [97])]) (by simp -implicitDefEqProofs (disch := omega) only [List.any_cons, List.any_nil, Nat.reduceEqDiff, List.map_cons, List.map_nil, Option.map_some, Option.map_none, List.nil_append, ↓reduceIte, vcu, ↓vcd]; kernel_rfl) (by kernel_rfl) fun e τ6 ne se ve => ?_
          replace ve : τ6 e = some ⟨texts [[], [52], [48, 49, 50, 51], [48], [97]], false⟩ := ve
          have d6 := d5.new se
          have ge := (d5.fresh ne).2
          have w6 := w5.sub se
          clear se ne d5 w5
          simp -implicitDefEqProofs (disch := omega) only [List.any_cons, List.any_nil, Nat.reduceEqDiff, List.map_cons, List.map_nil, Option.map_some, Option.map_none, List.nil_append, ↓reduceIte, vcu, ↓vcd, h0, h1]
          refine (pick_at β τ6 g h o bs (p' + 1) 5 d6.rd (by omega) (by omega)).mono ?_
          rintro r τ7 ⟨u, rfl, u1, u2, hR, hK⟩
          have d7 := d6.step hR hK
          replace ve := hK.at ve ge
          have w7 := w6.pick hK
          clear hR hK d6 w6
          have hu := lit_text ve u1 (by simpa using u2)
          have hc4 : ([[], [52], [48, 49, 50, 51], [48], [97]].getD u.toNat [] : List UInt8).length ≤ 4 := getD_len (by decide) _
          generalize ([[], [52], [48, 49, 50, 51], [48], [97]].getD u.toNat [] : List UInt8) = c at hu hc4
          simp -implicitDefEqProofs (disch := omega) only [List.any_cons, List.any_nil, Nat.reduceEqDiff, List.map_cons, List.map_nil, Option.map_some, Option.map_none, List.nil_append, ↓reduceIte, vcu, ↓vcd, opK_some, h0, h1, hu]
          refine r_lit el27 (out := #[.string (tx c)]) (by simp -implicitDefEqProofs (disch := omega) only [List.any_cons, List.any_nil, Nat.reduceEqDiff, List.map_cons, List.map_nil, Option.map_some, Option.map_none, List.nil_append, ↓reduceIte, vcu, ↓vcd]; kernel_rfl) (by kernel_rfl) fun e8 τ8 n8 s8 v8 => ?_
          replace v8 : τ8 e8 = some ⟨texts [c], false⟩ := v8
          have d8 := d7.new s8
          have w8 := w7.sub s8
          clear w7 s8
          rcases w8 with ⟨h5, rfl⟩ | ⟨q, h5, vq, nq, gq⟩
          · refine r_pushX_nil (e := e8) (o := 0) (ys := [c]) (m := 1) el27 (by omega) sl27 (by simp -implicitDefEqProofs (disch := omega) only [List.any_cons, List.any_nil, Nat.reduceEqDiff, List.map_cons, List.map_nil, Option.map_some, Option.map_none, List.nil_append, ↓reduceIte, vcu, ↓vcd, h5]) (by simp -implicitDefEqProofs (disch := omega) only [List.any_cons, List.any_nil, Nat.reduceEqDiff, List.map_cons, List.map_nil, Option.map_some, Option.map_none, List.nil_append, ↓reduceIte, vcu, ↓vcd]) (textsAt_own v8) rfl (by omega) fun q9 τ9 n9 s9 v9 => ?_
            simp -implicitDefEqProofs (disch := omega) only [List.any_cons, List.any_nil, Nat.reduceEqDiff, List.map_cons, List.map_nil, Option.map_some, Option.map_none, List.nil_append, ↓reduceIte, vcu, ↓vcd]
            refine fin_one Try.results70 ⟨[c], p' + 1 + 1, .inr ⟨q9, ?_, v9, d8.fresh n9⟩, by simp, fun t ht => by rw [List.mem_singleton.1 ht]; exact hc4, by omega, by omega, d8.new s9⟩
            simp -implicitDefEqProofs (disch := omega) only [List.any_cons, List.any_nil, Nat.reduceEqDiff, List.map_cons, List.map_nil, Option.map_some, Option.map_none, List.nil_append, ↓reduceIte, vcu, ↓vcd]
            rfl
          · refine r_pushX (g := q) (e := e8) (o := 0) (xs := ps) (ys := [c]) (m := 1) (len := ps.length) el27 (by omega) sl27 (by simp -implicitDefEqProofs (disch := omega) only [List.any_cons, List.any_nil, Nat.reduceEqDiff, List.map_cons, List.map_nil, Option.map_some, Option.map_none, List.nil_append, ↓reduceIte, vcu, ↓vcd, h5]) vq rfl (by simp -implicitDefEqProofs (disch := omega) only [List.any_cons, List.any_nil, Nat.reduceEqDiff, List.map_cons, List.map_nil, Option.map_some, Option.map_none, List.nil_append, ↓reduceIte, vcu, ↓vcd]) (textsAt_own v8) rfl (by omega) fun q9 τ9 n9 k9 v9 => ?_
            have d9 := d8.put k9 gq nq
            simp -implicitDefEqProofs (disch := omega) only [List.any_cons, List.any_nil, Nat.reduceEqDiff, List.map_cons, List.map_nil, Option.map_some, Option.map_none, List.nil_append, ↓reduceIte, vcu, ↓vcd]
            refine fin_one Try.results70 ⟨ps ++ [c], p' + 1 + 1, .inr ⟨q9, ?_, v9, d8.fresh n9⟩, by simp; omega, fun t ht => ?_, by omega, by omega, d9⟩
            · simp -implicitDefEqProofs (disch := omega) only [List.any_cons, List.any_nil, Nat.reduceEqDiff, List.map_cons, List.map_nil, Option.map_some, Option.map_none, List.nil_append, ↓reduceIte, vcu, ↓vcd]
              simp
            · rcases List.mem_append.1 ht with hh | hh
              · have := hpt t hh; omega
              · rw [List.mem_singleton.1 hh]; exact hc4
    · have hz' : decide (z3 = 0) = false := decide_eq_false hz
      obtain ⟨hl10, hpt⟩ := hsm
      obtain ⟨p', hp'⟩ : ∃ p', p' = p1 + 1 := ⟨_, rfl⟩
      rw [← hp'] at d3
      have d := d3
      have w := w3
      clear d3 w3
      obtain ⟨τ, hτ⟩ : ∃ τ, τ = τ3 := ⟨_, rfl⟩
      subst hτ
      simp -implicitDefEqProofs (disch := omega) only [List.any_cons, List.any_nil, Nat.reduceEqDiff, List.map_cons, List.map_nil, Option.map_some, Option.map_none, List.nil_append, ↓reduceIte, vcu, ↓vcd, opK_some, hz']
      refine (odd_at β τ g h o bs p' n d.rd (by omega) (by omega)).mono ?_
      rintro r τ5 ⟨b, rfl, hR, hK⟩
      have d5 := d.step hR hK
      have w5 := w.pick hK
      clear hR hK d w
      cases b with
      | false =>
        simp -implicitDefEqProofs (disch := omega) only [List.any_cons, List.any_nil, Nat.reduceEqDiff, List.map_cons, List.map_nil, Option.map_some, Option.map_none, List.nil_append, ↓reduceIte, vcu, ↓vcd, opK_some]
        refine fin_one Try.results70 ⟨ps, p' + 1, ?_, by omega, fun t ht => by have := hpt t ht; omega, by omega, by omega, d5⟩
        simp -implicitDefEqProofs (disch := omega) only [List.any_cons, List.any_nil, Nat.reduceEqDiff, List.map_cons, List.map_nil, Option.map_some, Option.map_none, List.nil_append, ↓reduceIte, vcu, ↓vcd]
        exact w5
      | true =>
        simp -implicitDefEqProofs (disch := omega) only [List.any_cons, List.any_nil, Nat.reduceEqDiff, List.map_cons, List.map_nil, Option.map_some, Option.map_none, List.nil_append, ↓reduceIte, vcu, ↓vcd, opK_some]
        refine r_lit el27 (out := #[.string (tx []), .string (tx [52]), .string (tx [48, 49, 50, 51]), .string (tx [48]), .string (tx [97])]) (by simp -implicitDefEqProofs (disch := omega) only [List.any_cons, List.any_nil, Nat.reduceEqDiff, List.map_cons, List.map_nil, Option.map_some, Option.map_none, List.nil_append, ↓reduceIte, vcu, ↓vcd]; kernel_rfl) (by kernel_rfl) fun e τ6 ne se ve => ?_
        replace ve : τ6 e = some ⟨texts [[], [52], [48, 49, 50, 51], [48], [97]], false⟩ := ve
        have d6 := d5.new se
        have ge := (d5.fresh ne).2
        have w6 := w5.sub se
        clear se ne d5 w5
        simp -implicitDefEqProofs (disch := omega) only [List.any_cons, List.any_nil, Nat.reduceEqDiff, List.map_cons, List.map_nil, Option.map_some, Option.map_none, List.nil_append, ↓reduceIte, vcu, ↓vcd]
        refine (pick_at β τ6 g h o bs (p' + 1) 5 d6.rd (by omega) (by omega)).mono ?_
        rintro r τ7 ⟨u, rfl, u1, u2, hR, hK⟩
        have d7 := d6.step hR hK
        replace ve := hK.at ve ge
        have w7 := w6.pick hK
        clear hR hK d6 w6
        have hu := lit_text ve u1 (by simpa using u2)
        have hc4 : ([[], [52], [48, 49, 50, 51], [48], [97]].getD u.toNat [] : List UInt8).length ≤ 4 := getD_len (by decide) _
        generalize ([[], [52], [48, 49, 50, 51], [48], [97]].getD u.toNat [] : List UInt8) = c at hu hc4
        simp -implicitDefEqProofs (disch := omega) only [List.any_cons, List.any_nil, Nat.reduceEqDiff, List.map_cons, List.map_nil, Option.map_some, Option.map_none, List.nil_append, ↓reduceIte, vcu, ↓vcd, opK_some, hu]
        refine r_lit el27 (out := #[.string (tx c)]) (by simp -implicitDefEqProofs (disch := omega) only [List.any_cons, List.any_nil, Nat.reduceEqDiff, List.map_cons, List.map_nil, Option.map_some, Option.map_none, List.nil_append, ↓reduceIte, vcu, ↓vcd]; kernel_rfl) (by kernel_rfl) fun e8 τ8 n8 s8 v8 => ?_
        replace v8 : τ8 e8 = some ⟨texts [c], false⟩ := v8
        have d8 := d7.new s8
        have w8 := w7.sub s8
        clear w7 s8
        rcases w8 with ⟨h5, rfl⟩ | ⟨q, h5, vq, nq, gq⟩
        · refine r_pushX_nil (e := e8) (o := 0) (ys := [c]) (m := 1) el27 (by omega) sl27 (by simp -implicitDefEqProofs (disch := omega) only [List.any_cons, List.any_nil, Nat.reduceEqDiff, List.map_cons, List.map_nil, Option.map_some, Option.map_none, List.nil_append, ↓reduceIte, vcu, ↓vcd, h5]) (by simp -implicitDefEqProofs (disch := omega) only [List.any_cons, List.any_nil, Nat.reduceEqDiff, List.map_cons, List.map_nil, Option.map_some, Option.map_none, List.nil_append, ↓reduceIte, vcu, ↓vcd]) (textsAt_own v8) rfl (by omega) fun q9 τ9 n9 s9 v9 => ?_
          simp -implicitDefEqProofs (disch := omega) only [List.any_cons, List.any_nil, Nat.reduceEqDiff, List.map_cons, List.map_nil, Option.map_some, Option.map_none, List.nil_append, ↓reduceIte, vcu, ↓vcd]
          refine fin_one Try.results70 ⟨[c], p' + 1 + 1, .inr ⟨q9, ?_, v9, d8.fresh n9⟩, by simp, fun t ht => by rw [List.mem_singleton.1 ht]; exact hc4, by omega, by omega, d8.new s9⟩
          simp -implicitDefEqProofs (disch := omega) only [List.any_cons, List.any_nil, Nat.reduceEqDiff, List.map_cons, List.map_nil, Option.map_some, Option.map_none, List.nil_append, ↓reduceIte, vcu, ↓vcd]
          rfl
        · refine r_pushX (g := q) (e := e8) (o := 0) (xs := ps) (ys := [c]) (m := 1) (len := ps.length) el27 (by omega) sl27 (by simp -implicitDefEqProofs (disch := omega) only [List.any_cons, List.any_nil, Nat.reduceEqDiff, List.map_cons, List.map_nil, Option.map_some, Option.map_none, List.nil_append, ↓reduceIte, vcu, ↓vcd, h5]) vq rfl (by simp -implicitDefEqProofs (disch := omega) only [List.any_cons, List.any_nil, Nat.reduceEqDiff, List.map_cons, List.map_nil, Option.map_some, Option.map_none, List.nil_append, ↓reduceIte, vcu, ↓vcd]) (textsAt_own v8) rfl (by omega) fun q9 τ9 n9 k9 v9 => ?_
          have d9 := d8.put k9 gq nq
          simp -implicitDefEqProofs (disch := omega) only [List.any_cons, List.any_nil, Nat.reduceEqDiff, List.map_cons, List.map_nil, Option.map_some, Option.map_none, List.nil_append, ↓reduceIte, vcu, ↓vcd]
          refine fin_one Try.results70 ⟨ps ++ [c], p' + 1 + 1, .inr ⟨q9, ?_, v9, d8.fresh n9⟩, by simp; omega, fun t ht => ?_, by omega, by omega, d9⟩
          · simp -implicitDefEqProofs (disch := omega) only [List.any_cons, List.any_nil, Nat.reduceEqDiff, List.map_cons, List.map_nil, Option.map_some, Option.map_none, List.nil_append, ↓reduceIte, vcu, ↓vcd]
            simp
          · rcases List.mem_append.1 ht with hh | hh
            · have := hpt t hh; omega
            · rw [List.mem_singleton.1 hh]; exact hc4
  · have e1 : decide (pfOk xs) = false := decide_eq_false hok
    rw [e1]
    clear w2 hsm
    simp -implicitDefEqProofs (disch := omega) only [List.any_cons, List.any_nil, Nat.reduceEqDiff, List.map_cons, List.map_nil, Option.map_some, Option.map_none, List.nil_append, ↓reduceIte, vcu, ↓vcd, opK_some, Bool.not_false, List.getElem?_toArray, List.getElem?_cons_zero, List.getElem?_cons_succ]
    refine r_lit el27 (out := #[]) (by kernel_rfl) (by kernel_rfl) fun q0 τ4 n0 s0 v0 => ?_
    have d4 := d2.new s0
    have w4 : OYS σ g τ4 (.slice (some ⟨q0, 0, none⟩) 0 1) [] := .inr ⟨q0, rfl, v0, d2.fresh n0⟩
    clear s0 v0 n0
    simp -implicitDefEqProofs (disch := omega) only [List.any_cons, List.any_nil, Nat.reduceEqDiff, List.map_cons, List.map_nil, Option.map_some, Option.map_none, List.nil_append, ↓reduceIte, vcu, ↓vcd]
    refine (pick_at β τ4 g h o bs (p1) 9 d4.rd (by omega) (by omega)).mono ?_
    rintro r τ5 ⟨z9, rfl, a1, a2, hR, hK⟩
    have d5 := d4.step hR hK
    have w5 := w4.pick hK
    clear hR hK d4 w4
    obtain ⟨z0, rfl⟩ : ∃ z0 : Nat, z9 = z0 := ⟨z9.toNat, by omega⟩
    simp -implicitDefEqProofs (disch := omega) only [List.any_cons, List.any_nil, Nat.reduceEqDiff, List.map_cons, List.map_nil, Option.map_some, Option.map_none, List.nil_append, ↓reduceIte, vcu, ↓vcd, opK_some]
    refine vc_loop_c mixed (by kernel_rfl) [0, 1] (fun m a σ' => ∃ (ps : List (List UInt8)) (p' : Int), a 7 = .int .i64 m ∧ OYS σ g σ' (a 5) ps ∧ a 5 ≠ .slice none 0 0 ∧ ps.length + m ≤ 8 ∧ (∀ t ∈ ps, t.length ≤ 3) ∧ p ≤ p' ∧ p' + 5 * m ≤ p + 80 ∧ DS β σ σ' g h o bs p') z0 ⟨[], _, rfl, w5, by simp -implicitDefEqProofs (disch := omega) only [List.any_cons, List.any_nil, Nat.reduceEqDiff, List.map_cons, List.map_nil, Option.map_some, Option.map_none, List.nil_append, ↓reduceIte, vcu, ↓vcd]; simp, by simp; omega, by simp, by omega, by omega, d5⟩ ?_
    clear d5 w5 a1 a2
    rintro m a τ hc ⟨ps, p', h7, w, hne, hl8, hpt, c1, c2, d⟩
    simp -implicitDefEqProofs (disch := omega) only [List.any_cons, List.any_nil, Nat.reduceEqDiff, List.map_cons, List.map_nil, Option.map_some, Option.map_none, List.nil_append, ↓reduceIte, vcu, ↓vcd] at hc
    obtain ⟨h0, h1, -⟩ := hc
    by_cases hlt : 0 < m
    · obtain ⟨q, h5, vq, nq, gq⟩ : ∃ q, a 5 = .slice (some ⟨q, 0, none⟩) ps.length 1 ∧ τ q = some ⟨texts ps, false⟩ ∧ σ q = none ∧ q ≠ g := w.resolve_left fun hh => hne hh.1
      simp -implicitDefEqProofs (disch := omega) only [List.any_cons, List.any_nil, Nat.reduceEqDiff, List.map_cons, List.map_nil, Option.map_some, Option.map_none, List.nil_append, ↓reduceIte, vcu, ↓vcd, h0, h1, h5, h7]
      refine r_lit el27 (out := #[]) (by kernel_rfl) (by kernel_rfl) fun e6 τ6 n6 s6 v6 => ?_
      have d6 := d.new s6
      have f6 := d.fresh n6
      replace v6 : τ6 e6 = some ⟨texts [], false⟩ := v6
      simp -implicitDefEqProofs (disch := omega) only [List.any_cons, List.any_nil, Nat.reduceEqDiff, List.map_cons, List.map_nil, Option.map_some, Option.map_none, List.nil_append, ↓reduceIte, vcu, ↓vcd, h5]
      refine r_pushX (g := e6) (e := q) (o := 0) (xs := []) (ys := ps) (m := ps.length) (len := 0) el27 (by omega) sl27 (by simp -implicitDefEqProofs (disch := omega) only [List.any_cons, List.any_nil, Nat.reduceEqDiff, List.map_cons, List.map_nil, Option.map_some, Option.map_none, List.nil_append, ↓reduceIte, vcu, ↓vcd]) v6 rfl (by simp -implicitDefEqProofs (disch := omega) only [List.any_cons, List.any_nil, Nat.reduceEqDiff, List.map_cons, List.map_nil, Option.map_some, Option.map_none, List.nil_append, ↓reduceIte, vcu, ↓vcd, h5]) (textsAt_own (s6 _ _ vq)) rfl (by omega) fun e7 τ7 n7 k7 v7 => ?_
      rw [List.nil_append] at v7
      have d7 := d6.put k7 f6.2 f6.1
      have f7 := d6.fresh n7
      have vq7 := k7.at (s6 _ _ vq) (ne_of' n6 vq)
      have hqe : q ≠ e7 := ne_of' n7 (s6 _ _ vq)
      clear v6 d6 f6 k7 n7 n6 s6
      simp -implicitDefEqProofs (disch := omega) only [List.any_cons, List.any_nil, Nat.reduceEqDiff, List.map_cons, List.map_nil, Option.map_some, Option.map_none, List.nil_append, ↓reduceIte, vcu, ↓vcd, h0]
      refine (digits_draw β τ7 g h o bs p' 3 d7.rd (by omega) (by omega)).mono ?_
      rintro r τ8 ⟨c, p8, rfl, cl, c3, c4, ds⟩
      have d8 := d7.on ds
      have v8 := ds.kp.at v7 f7.2
      have vq8 := ds.kp.at vq7 gq
      clear ds d7 v7 vq7
      simp -implicitDefEqProofs (disch := omega) only [List.any_cons, List.any_nil, Nat.reduceEqDiff, List.map_cons, List.map_nil, Option.map_some, Option.map_none, List.nil_append, ↓reduceIte, vcu, ↓vcd, opK_some]
      refine r_lit el27 (out := #[.string (tx c)]) (by simp -implicitDefEqProofs (disch := omega) only [List.any_cons, List.any_nil, Nat.reduceEqDiff, List.map_cons, List.map_nil, Option.map_some, Option.map_none, List.nil_append, ↓reduceIte, vcu, ↓vcd]; kernel_rfl) (by kernel_rfl) fun e9 τ9 n9 s9 v9 => ?_
      replace v9 : τ9 e9 = some ⟨texts [c], false⟩ := v9
      have d9 := d8.new s9
      refine r_pushX (g := e7) (e := e9) (o := 0) (xs := ps) (ys := [c]) (m := 1) (len := ps.length) el27 (by omega) sl27 (by simp -implicitDefEqProofs (disch := omega) only [List.any_cons, List.any_nil, Nat.reduceEqDiff, List.map_cons, List.map_nil, Option.map_some, Option.map_none, List.nil_append, ↓reduceIte, vcu, ↓vcd, Nat.zero_add]) (s9 _ _ v8) rfl (by simp -implicitDefEqProofs (disch := omega) only [List.any_cons, List.any_nil, Nat.reduceEqDiff, List.map_cons, List.map_nil, Option.map_some, Option.map_none, List.nil_append, ↓reduceIte, vcu, ↓vcd]) (textsAt_own v9) rfl (by omega) fun eA τA nA kA vA => ?_
      have dA := d9.put kA f7.2 f7.1
      have fA := d9.fresh nA
      have vqA := kA.at (s9 _ _ vq8) hqe
      have tl3 : ∀ t ∈ ps ++ [c], t.length ≤ 3 := fun t ht => by
        rcases List.mem_append.1 ht with hh | hh
        · exact hpt t hh
        · rw [List.mem_singleton.1 hh]; exact cl
      simp -implicitDefEqProofs (disch := omega) only [List.any_cons, List.any_nil, Nat.reduceEqDiff, List.map_cons, List.map_nil, Option.map_some, Option.map_none, List.nil_append, ↓reduceIte, vcu, ↓vcd, h0, h1, h7]
      refine (planValid_calls τA _ (ps ++ [c]) (.inr ⟨eA, 0, by simp, textsAt_own vA⟩) (by simp; omega) (fun x hx => by have := tl3 x hx; omega)).mono ?_
      rintro r _ ⟨rfl, rfl⟩
      rename_i τA
      by_cases hok2 : PlanOk (ps ++ [c])
      · rw [decide_eq_true hok2]
        simp -implicitDefEqProofs (disch := omega) only [List.any_cons, List.any_nil, Nat.reduceEqDiff, List.map_cons, List.map_nil, Option.map_some, Option.map_none, List.nil_append, ↓reduceIte, vcu, ↓vcd, opK_some, h0, h1, h7]
        exact ⟨by simp [h0, h1], m - 1, by omega, ps ++ [c], p8, by congr 1; omega, .inr ⟨eA, by simp, vA, fA⟩, by simp, by simp; omega, tl3, by omega, by omega, dA⟩
      · rw [decide_eq_false hok2]
        simp -implicitDefEqProofs (disch := omega) only [List.any_cons, List.any_nil, Nat.reduceEqDiff, List.map_cons, List.map_nil, Option.map_some, Option.map_none, List.nil_append, ↓reduceIte, vcu, ↓vcd, opK_some, h0, h1, h5, h7]
        exact ⟨by simp [h0, h1], m - 1, by omega, ps, p8, by congr 1; omega, .inr ⟨q, rfl, vqA, nq, gq⟩, by simp, by omega, hpt, by omega, by omega, dA⟩
    · have hl10 : ps.length ≤ 10 := by omega
      simp -implicitDefEqProofs (disch := omega) only [List.any_cons, List.any_nil, Nat.reduceEqDiff, List.map_cons, List.map_nil, Option.map_some, Option.map_none, List.nil_append, ↓reduceIte, vcu, ↓vcd, h0, h1, h7]
      refine (odd_at β τ g h o bs p' n d.rd (by omega) (by omega)).mono ?_
      rintro r τ5 ⟨b, rfl, hR, hK⟩
      have d5 := d.step hR hK
      have w5 := w.pick hK
      clear hR hK d w
      cases b with
      | false =>
        simp -implicitDefEqProofs (disch := omega) only [List.any_cons, List.any_nil, Nat.reduceEqDiff, List.map_cons, List.map_nil, Option.map_some, Option.map_none, List.nil_append, ↓reduceIte, vcu, ↓vcd, opK_some, h0, h1]
        refine fin_one Try.results70 ⟨ps, p' + 1, ?_, by omega, fun t ht => by have := hpt t ht; omega, by omega, by omega, d5⟩
        simp -implicitDefEqProofs (disch := omega) only [List.any_cons, List.any_nil, Nat.reduceEqDiff, List.map_cons, List.map_nil, Option.map_some, Option.map_none, List.nil_append, ↓reduceIte, vcu, ↓vcd, h0, h1]
        exact w5
      | true =>
        simp -implicitDefEqProofs (disch := omega) only [List.any_cons, List.any_nil, Nat.reduceEqDiff, List.map_cons, List.map_nil, Option.map_some, Option.map_none, List.nil_append, ↓reduceIte, vcu, ↓vcd, opK_some, h0, h1]
        refine r_lit el27 (out := #[.string (tx []), .string (tx [52]), .string (tx [48, 49, 50, 51]), .string (tx [48]), .string (tx [97])]) (by simp -implicitDefEqProofs (disch := omega) only [List.any_cons, List.any_nil, Nat.reduceEqDiff, List.map_cons, List.map_nil, Option.map_some, Option.map_none, List.nil_append, ↓reduceIte, vcu, ↓vcd]; kernel_rfl) (by kernel_rfl) fun e τ6 ne se ve => ?_
        replace ve : τ6 e = some ⟨texts [[], [52], [48, 49, 50, 51], [48], [97]], false⟩ := ve
        have d6 := d5.new se
        have ge := (d5.fresh ne).2
        have w6 := w5.sub se
        clear se ne d5 w5
        simp -implicitDefEqProofs (disch := omega) only [List.any_cons, List.any_nil, Nat.reduceEqDiff, List.map_cons, List.map_nil, Option.map_some, Option.map_none, List.nil_append, ↓reduceIte, vcu, ↓vcd, h0, h1]
        refine (pick_at β τ6 g h o bs (p' + 1) 5 d6.rd (by omega) (by omega)).mono ?_
        rintro r τ7 ⟨u, rfl, u1, u2, hR, hK⟩
        have d7 := d6.step hR hK
        replace ve := hK.at ve ge
        have w7 := w6.pick hK
        clear hR hK d6 w6
        have hu := lit_text ve u1 (by simpa using u2)
        have hc4 : ([[], [52], [48, 49, 50, 51], [48], [97]].getD u.toNat [] : List UInt8).length ≤ 4 := getD_len (by decide) _
        generalize ([[], [52], [48, 49, 50, 51], [48], [97]].getD u.toNat [] : List UInt8) = c at hu hc4
        simp -implicitDefEqProofs (disch := omega) only [List.any_cons, List.any_nil, Nat.reduceEqDiff, List.map_cons, List.map_nil, Option.map_some, Option.map_none, List.nil_append, ↓reduceIte, vcu, ↓vcd, opK_some, h0, h1, hu]
        refine r_lit el27 (out := #[.string (tx c)]) (by simp -implicitDefEqProofs (disch := omega) only [List.any_cons, List.any_nil, Nat.reduceEqDiff, List.map_cons, List.map_nil, Option.map_some, Option.map_none, List.nil_append, ↓reduceIte, vcu, ↓vcd]; kernel_rfl) (by kernel_rfl) fun e8 τ8 n8 s8 v8 => ?_
        replace v8 : τ8 e8 = some ⟨texts [c], false⟩ := v8
        have d8 := d7.new s8
        have w8 := w7.sub s8
        clear w7 s8
        rcases w8 with ⟨h5, rfl⟩ | ⟨q, h5, vq, nq, gq⟩
        · refine r_pushX_nil (e := e8) (o := 0) (ys := [c]) (m := 1) el27 (by omega) sl27 (by simp -implicitDefEqProofs (disch := omega) only [List.any_cons, List.any_nil, Nat.reduceEqDiff, List.map_cons, List.map_nil, Option.map_some, Option.map_none, List.nil_append, ↓reduceIte, vcu, ↓vcd, h5]) (by simp -implicitDefEqProofs (disch := omega) only [List.any_cons, List.any_nil, Nat.reduceEqDiff, List.map_cons, List.map_nil, Option.map_some, Option.map_none, List.nil_append, ↓reduceIte, vcu, ↓vcd]) (textsAt_own v8) rfl (by omega) fun q9 τ9 n9 s9 v9 => ?_
          simp -implicitDefEqProofs (disch := omega) only [List.any_cons, List.any_nil, Nat.reduceEqDiff, List.map_cons, List.map_nil, Option.map_some, Option.map_none, List.nil_append, ↓reduceIte, vcu, ↓vcd]
          refine fin_one Try.results70 ⟨[c], p' + 1 + 1, .inr ⟨q9, ?_, v9, d8.fresh n9⟩, by simp, fun t ht => by rw [List.mem_singleton.1 ht]; exact hc4, by omega, by omega, d8.new s9⟩
          simp -implicitDefEqProofs (disch := omega) only [List.any_cons, List.any_nil, Nat.reduceEqDiff, List.map_cons, List.map_nil, Option.map_some, Option.map_none, List.nil_append, ↓reduceIte, vcu, ↓vcd]
          rfl
        · refine r_pushX (g := q) (e := e8) (o := 0) (xs := ps) (ys := [c]) (m := 1) (len := ps.length) el27 (by omega) sl27 (by simp -implicitDefEqProofs (disch := omega) only [List.any_cons, List.any_nil, Nat.reduceEqDiff, List.map_cons, List.map_nil, Option.map_some, Option.map_none, List.nil_append, ↓reduceIte, vcu, ↓vcd, h5]) vq rfl (by simp -implicitDefEqProofs (disch := omega) only [List.any_cons, List.any_nil, Nat.reduceEqDiff, List.map_cons, List.map_nil, Option.map_some, Option.map_none, List.nil_append, ↓reduceIte, vcu, ↓vcd]) (textsAt_own v8) rfl (by omega) fun q9 τ9 n9 k9 v9 => ?_
          have d9 := d8.put k9 gq nq
          simp -implicitDefEqProofs (disch := omega) only [List.any_cons, List.any_nil, Nat.reduceEqDiff, List.map_cons, List.map_nil, Option.map_some, Option.map_none, List.nil_append, ↓reduceIte, vcu, ↓vcd]
          refine fin_one Try.results70 ⟨ps ++ [c], p' + 1 + 1, .inr ⟨q9, ?_, v9, d8.fresh n9⟩, by simp; omega, fun t ht => ?_, by omega, by omega, d9⟩
          · simp -implicitDefEqProofs (disch := omega) only [List.any_cons, List.any_nil, Nat.reduceEqDiff, List.map_cons, List.map_nil, Option.map_some, Option.map_none, List.nil_append, ↓reduceIte, vcu, ↓vcd]
            simp
          · rcases List.mem_append.1 ht with hh | hh
            · have := hpt t hh; omega
            · rw [List.mem_singleton.1 hh]; exact hc4
end Go.Proofs.Ytnenopebfobajaa

namespace Go.Proofs.Ytnenopebfobajaa
open Go Go.Abs Go.RowKit Go.Dial
variable {w0 : World}

theorem rts_app {cs : List Rt} {c : Rt} {M : Nat} (h : ∀ d ∈ cs, d.b.length ≤ M) (hc : c.b.length ≤ M) : ∀ d ∈ cs ++ [c], d.b.length ≤ M := fun d hd => by
  rcases List.mem_append.1 hd with hh | hh
  · exact h d hh
  · rw [List.mem_singleton.1 hh]; exact hc
set_option maxRecDepth 8000 in
set_option maxHeartbeats 1000000 in
set_option maxRecDepth 8000 in
theorem table_draw (β σ : AHeap) (g h o : Nat) (bs : List Int) (p n : Int) (hr : Rd β σ g h o bs p) (hp : 0 ≤ p ∧ p ≤ 5000) (hn : 1 ≤ n ∧ n ≤ 1000) :
    ACall Try.prog w0 83 [.pointer (some ⟨g, 0, none⟩), .int .i64 n] σ fun r σ' => ∃ (q : Nat) (cs : List Rt) (p' : Int), r = .slice (some ⟨q, 0, none⟩) cs.length 2 ∧ σ' q = some ⟨ruts cs, false⟩ ∧ σ q = none ∧ q ≠ g ∧ cs.length ≤ 9 ∧ (∀ c ∈ cs, c.b.length ≤ 3) ∧ p ≤ p' ∧ p' ≤ p + 100 ∧ DS β σ σ' g h o bs p' := by
  refine acall_go mixed Try.func83 rfl good83 fun pr => ?_
  simp -implicitDefEqProofs (disch := omega) only [List.any_cons, List.any_nil, Nat.reduceEqDiff, List.map_cons, List.map_nil, Option.map_some, Option.map_none, List.nil_append, ↓reduceIte, vcu, ↓vcd]
  refine r_lit el48 (out := #[]) (by kernel_rfl) (by kernel_rfl) fun q0 τ1 n0 s0 v0 => ?_
  have d1 := (DS.start hr).new s0
  replace v0 : τ1 q0 = some ⟨ruts [], false⟩ := v0
  obtain ⟨m0, g0⟩ := (DS.start hr).fresh n0
  clear s0 n0
  simp -implicitDefEqProofs (disch := omega) only [List.any_cons, List.any_nil, Nat.reduceEqDiff, List.map_cons, List.map_nil, Option.map_some, Option.map_none, List.nil_append, ↓reduceIte, vcu, ↓vcd]
  refine (pick_at β τ1 g h o bs p 9 d1.rd (by omega) (by omega)).mono ?_
  rintro r τ2 ⟨z9, rfl, a1, a2, hR, hK⟩
  have d2 := d1.step hR hK
  replace v0 := hK.at v0 g0
  clear hR hK d1
  obtain ⟨z0, rfl⟩ : ∃ z0 : Nat, z9 = z0 := ⟨z9.toNat, by omega⟩
  simp -implicitDefEqProofs (disch := omega) only [List.any_cons, List.any_nil, Nat.reduceEqDiff, List.map_cons, List.map_nil, Option.map_some, Option.map_none, List.nil_append, ↓reduceIte, vcu, ↓vcd, opK_some]
  refine vc_loop_c mixed (by kernel_rfl) [0, 1] (fun m a σ' => ∃ (q : Nat) (cs : List Rt) (p' : Int), a 6 = .int .i64 m ∧ a 5 = .slice (some ⟨q, 0, none⟩) cs.length 2 ∧ σ' q = some ⟨ruts cs, false⟩ ∧ σ q = none ∧ q ≠ g ∧ cs.length + m ≤ 8 ∧ (∀ c ∈ cs, c.b.length ≤ 3) ∧ p ≤ p' ∧ p' + 6 * m ≤ p + 80 ∧ DS β σ σ' g h o bs p') z0 ⟨q0, [], _, rfl, rfl, v0, m0, g0, by simp; omega, by simp, by omega, by omega, d2⟩ ?_
  clear d2 v0 m0 g0 a1 a2
  rintro m a τ hc ⟨q, cs, p', h6, h5, vq, nq, gq, hl8, hpt, c1, c2, d⟩
  simp -implicitDefEqProofs (disch := omega) only [List.any_cons, List.any_nil, Nat.reduceEqDiff, List.map_cons, List.map_nil, Option.map_some, Option.map_none, List.nil_append, ↓reduceIte, vcu, ↓vcd] at hc
  obtain ⟨h0, h1, -⟩ := hc
  by_cases hlt : 0 < m
  · simp -implicitDefEqProofs (disch := omega) only [List.any_cons, List.any_nil, Nat.reduceEqDiff, List.map_cons, List.map_nil, Option.map_some, Option.map_none, List.nil_append, ↓reduceIte, vcu, ↓vcd, h0, h1, h5, h6]
    refine r_lit el48 (out := #[]) (by kernel_rfl) (by kernel_rfl) fun e6 τ6 n6 s6 v6 => ?_
    have d6 := d.new s6
    have f6 := d.fresh n6
    replace v6 : τ6 e6 = some ⟨ruts [], false⟩ := v6
    simp -implicitDefEqProofs (disch := omega) only [List.any_cons, List.any_nil, Nat.reduceEqDiff, List.map_cons, List.map_nil, Option.map_some, Option.map_none, List.nil_append, ↓reduceIte, vcu, ↓vcd, h5]
    refine r_pushR (g := e6) (e := q) (o := 0) (cs := []) (ds := cs) (m := cs.length) (len := 0) el48 (by omega) sl48 (by simp -implicitDefEqProofs (disch := omega) only [List.any_cons, List.any_nil, Nat.reduceEqDiff, List.map_cons, List.map_nil, Option.map_some, Option.map_none, List.nil_append, ↓reduceIte, vcu, ↓vcd]) v6 rfl (by simp -implicitDefEqProofs (disch := omega) only [List.any_cons, List.any_nil, Nat.reduceEqDiff, List.map_cons, List.map_nil, Option.map_some, Option.map_none, List.nil_append, ↓reduceIte, vcu, ↓vcd, h5]) (rutsAt_own (s6 _ _ vq)) rfl (by omega) fun e7 τ7 n7 k7 v7 => ?_
    rw [List.nil_append] at v7
    have d7 := d6.put k7 f6.2 f6.1
    have f7 := d6.fresh n7
    have vq7 := k7.at (s6 _ _ vq) (ne_of' n6 vq)
    have hqe : q ≠ e7 := ne_of' n7 (s6 _ _ vq)
    clear v6 d6 f6 k7 n7 n6 s6
    simp -implicitDefEqProofs (disch := omega) only [List.any_cons, List.any_nil, Nat.reduceEqDiff, List.map_cons, List.map_nil, Option.map_some, Option.map_none, List.nil_append, ↓reduceIte, vcu, ↓vcd, h0]
    refine (digits_draw β τ7 g h o bs p' 3 d7.rd (by omega) (by omega)).mono ?_
    rintro r τ8 ⟨c, p8, rfl, cl, c3, c4, ds⟩
    have d8 := d7.on ds
    have v8 := ds.kp.at v7 f7.2
    have vq8 := ds.kp.at vq7 gq
    clear ds d7 v7 vq7
    simp -implicitDefEqProofs (disch := omega) only [List.any_cons, List.any_nil, Nat.reduceEqDiff, List.map_cons, List.map_nil, Option.map_some, Option.map_none, List.nil_append, ↓reduceIte, vcu, ↓vcd, opK_some, h0]
    refine (pick_at β τ8 g h o bs p8 3 d8.rd (by omega) (by omega)).mono ?_
    rintro r τ9 ⟨x, rfl, b1, b2, hR, hK⟩
    have d9 := d8.step hR hK
    have v9 := hK.at v8 f7.2
    have vq9 := hK.at vq8 gq
    clear hR hK d8 v8 vq8
    simp -implicitDefEqProofs (disch := omega) only [List.any_cons, List.any_nil, Nat.reduceEqDiff, List.map_cons, List.map_nil, Option.map_some, Option.map_none, List.nil_append, ↓reduceIte, vcu, ↓vcd, opK_some]
    rw [r_build]
    refine ⟨(_, #[.string (tx c), .int .i64 x]), ⟨ze52, by simp -implicitDefEqProofs (disch := omega) only [List.any_cons, List.any_nil, Nat.reduceEqDiff, List.map_cons, List.map_nil, Option.map_some, Option.map_none, List.nil_append, ↓reduceIte, vcu, ↓vcd]; kernel_rfl⟩, ?_⟩
    simp -implicitDefEqProofs (disch := omega) only [List.any_cons, List.any_nil, Nat.reduceEqDiff, List.map_cons, List.map_nil, Option.map_some, Option.map_none, List.nil_append, ↓reduceIte, vcu, ↓vcd]
    refine r_lit el48 (out := #[.string (tx c), .int .i64 x]) (by simp -implicitDefEqProofs (disch := omega) only [List.any_cons, List.any_nil, Nat.reduceEqDiff, List.map_cons, List.map_nil, Option.map_some, Option.map_none, List.nil_append, ↓reduceIte, vcu, ↓vcd]; kernel_rfl) (by kernel_rfl) fun eL τL nL sL vL => ?_
    replace vL : τL eL = some ⟨ruts [⟨c, x⟩], false⟩ := vL
    have dL := d9.new sL
    refine r_pushR (g := e7) (e := eL) (o := 0) (cs := cs) (ds := [⟨c, x⟩]) (m := 1) (len := cs.length) el48 (by omega) sl48 (by simp -implicitDefEqProofs (disch := omega) only [List.any_cons, List.any_nil, Nat.reduceEqDiff, List.map_cons, List.map_nil, Option.map_some, Option.map_none, List.nil_append, ↓reduceIte, vcu, ↓vcd, Nat.zero_add]) (sL _ _ v9) rfl (by simp -implicitDefEqProofs (disch := omega) only [List.any_cons, List.any_nil, Nat.reduceEqDiff, List.map_cons, List.map_nil, Option.map_some, Option.map_none, List.nil_append, ↓reduceIte, vcu, ↓vcd]) (rutsAt_own vL) rfl (by omega) fun eA τA nA kA vA => ?_
    have dA := dL.put kA f7.2 f7.1
    have fA := dL.fresh nA
    have vqA := kA.at (sL _ _ vq9) hqe
    have tl3 := rts_app (c := ⟨c, x⟩) hpt cl
    simp -implicitDefEqProofs (disch := omega) only [List.any_cons, List.any_nil, Nat.reduceEqDiff, List.map_cons, List.map_nil, Option.map_some, Option.map_none, List.nil_append, ↓reduceIte, vcu, ↓vcd, h0, h1, h6]
    refine (rtValid_calls τA _ (cs ++ [⟨c, x⟩]) (.inr ⟨eA, 0, by simp, rutsAt_own vA⟩) (by simp; omega) (fun y hy => by have := tl3 y hy; omega)).mono ?_
    rintro r _ ⟨rfl, rfl⟩
    rename_i τA
    by_cases hok2 : RtOk (cs ++ [⟨c, x⟩])
    · rw [decide_eq_true hok2]
      simp -implicitDefEqProofs (disch := omega) only [List.any_cons, List.any_nil, Nat.reduceEqDiff, List.map_cons, List.map_nil, Option.map_some, Option.map_none, List.nil_append, ↓reduceIte, vcu, ↓vcd, opK_some, h0, h1, h6]
      exact ⟨by simp [h0, h1], m - 1, by omega, eA, cs ++ [⟨c, x⟩], p8 + 1, by congr 1; omega, by simp, vA, fA.1, fA.2, by simp; omega, tl3, by omega, by omega, dA⟩
    · rw [decide_eq_false hok2]
      simp -implicitDefEqProofs (disch := omega) only [List.any_cons, List.any_nil, Nat.reduceEqDiff, List.map_cons, List.map_nil, Option.map_some, Option.map_none, List.nil_append, ↓reduceIte, vcu, ↓vcd, opK_some, h0, h1, h5, h6]
      exact ⟨by simp [h0, h1], m - 1, by omega, q, cs, p8 + 1, by congr 1; omega, rfl, vqA, nq, gq, by omega, hpt, by omega, by omega, dA⟩
  · simp -implicitDefEqProofs (disch := omega) only [List.any_cons, List.any_nil, Nat.reduceEqDiff, List.map_cons, List.map_nil, Option.map_some, Option.map_none, List.nil_append, ↓reduceIte, vcu, ↓vcd, h0, h1, h5, h6]
    refine (odd_at β τ g h o bs p' n d.rd (by omega) (by omega)).mono ?_
    rintro r τ5 ⟨b, rfl, hR, hK⟩
    have d5 := d.step hR hK
    have vq5 := hK.at vq gq
    clear hR hK d vq
    cases b with
    | false =>
      simp -implicitDefEqProofs (disch := omega) only [List.any_cons, List.any_nil, Nat.reduceEqDiff, List.map_cons, List.map_nil, Option.map_some, Option.map_none, List.nil_append, ↓reduceIte, vcu, ↓vcd, opK_some, h0, h1, h5]
      refine fin_one Try.results83 ⟨q, cs, p' + 1, ?_, vq5, nq, gq, by omega, hpt, by omega, by omega, d5⟩
      simp -implicitDefEqProofs (disch := omega) only [List.any_cons, List.any_nil, Nat.reduceEqDiff, List.map_cons, List.map_nil, Option.map_some, Option.map_none, List.nil_append, ↓reduceIte, vcu, ↓vcd, h5]
    | true =>
      simp -implicitDefEqProofs (disch := omega) only [List.any_cons, List.any_nil, Nat.reduceEqDiff, List.map_cons, List.map_nil, Option.map_some, Option.map_none, List.nil_append, ↓reduceIte, vcu, ↓vcd, opK_some, h0, h1, h5]
      refine (pick_at β τ5 g h o bs (p' + 1) 3 d5.rd (by omega) (by omega)).mono ?_
      rintro r τ6 ⟨u, rfl, u1, u2, hR, hK⟩
      have d6 := d5.step hR hK
      have vq6 := hK.at vq5 gq
      clear hR hK d5 vq5
      have psh : ∀ (B : List UInt8) (N : Int), B.length ≤ 3 → ∀ (eL : Nat) (τL τA : AHeap) (eA : Nat), τL eL = some ⟨ruts [⟨B, N⟩], false⟩ → Sub τ6 τL → τL eA = none → Kept q τL τA → τA eA = some ⟨ruts (cs ++ [⟨B, N⟩]), false⟩ → (∃ (q : Nat) (cs' : List Rt) (p'' : Int), (.slice (some ⟨eA, 0, none⟩) (cs.length + 1) 2 : Value) = .slice (some ⟨q, 0, none⟩) cs'.length 2 ∧ τA q = some ⟨ruts cs', false⟩ ∧ σ q = none ∧ q ≠ g ∧ cs'.length ≤ 9 ∧ (∀ c ∈ cs', c.b.length ≤ 3) ∧ p ≤ p'' ∧ p'' ≤ p + 100 ∧ DS β σ τA g h o bs p'') := by
        intro B N hB eL τL τA eA vL sL nA kA vA
        have dL := d6.new sL
        have dA := dL.put kA gq nq
        have fA := dL.fresh nA
        exact ⟨eA, cs ++ [⟨B, N⟩], p' + 1 + 1, by simp, vA, fA.1, fA.2, by simp; omega, rts_app hpt hB, by omega, by omega, dA⟩
      by_cases hu0 : u = 0
      · simp -implicitDefEqProofs (disch := omega) only [List.any_cons, List.any_nil, Nat.reduceEqDiff, List.map_cons, List.map_nil, Option.map_some, Option.map_none, List.nil_append, ↓reduceIte, vcu, ↓vcd, opK_some, h0, h1, h5, hu0]
        rw [r_build]
        refine ⟨(_, #[.string (tx [52]), .int .i64 0]), ⟨ze52, by simp -implicitDefEqProofs (disch := omega) only [List.any_cons, List.any_nil, Nat.reduceEqDiff, List.map_cons, List.map_nil, Option.map_some, Option.map_none, List.nil_append, ↓reduceIte, vcu, ↓vcd]; kernel_rfl⟩, ?_⟩
        simp -implicitDefEqProofs (disch := omega) only [List.any_cons, List.any_nil, Nat.reduceEqDiff, List.map_cons, List.map_nil, Option.map_some, Option.map_none, List.nil_append, ↓reduceIte, vcu, ↓vcd]
        refine r_lit el48 (out := #[.string (tx [52]), .int .i64 0]) (by simp -implicitDefEqProofs (disch := omega) only [List.any_cons, List.any_nil, Nat.reduceEqDiff, List.map_cons, List.map_nil, Option.map_some, Option.map_none, List.nil_append, ↓reduceIte, vcu, ↓vcd]; kernel_rfl) (by kernel_rfl) fun eL τL nL sL vL => ?_
        replace vL : τL eL = some ⟨ruts [⟨[52], 0⟩], false⟩ := vL
        refine r_pushR (g := q) (e := eL) (o := 0) (cs := cs) (ds := [⟨[52], 0⟩]) (m := 1) (len := cs.length) el48 (by omega) sl48 (by simp -implicitDefEqProofs (disch := omega) only [List.any_cons, List.any_nil, Nat.reduceEqDiff, List.map_cons, List.map_nil, Option.map_some, Option.map_none, List.nil_append, ↓reduceIte, vcu, ↓vcd, h5]) (sL _ _ vq6) rfl (by simp -implicitDefEqProofs (disch := omega) only [List.any_cons, List.any_nil, Nat.reduceEqDiff, List.map_cons, List.map_nil, Option.map_some, Option.map_none, List.nil_append, ↓reduceIte, vcu, ↓vcd]) (rutsAt_own vL) rfl (by omega) fun eA τA nA kA vA => ?_
        simp -implicitDefEqProofs (disch := omega) only [List.any_cons, List.any_nil, Nat.reduceEqDiff, List.map_cons, List.map_nil, Option.map_some, Option.map_none, List.nil_append, ↓reduceIte, vcu, ↓vcd]
        refine fin_one Try.results83 ?_
        simp -implicitDefEqProofs (disch := omega) only [List.any_cons, List.any_nil, Nat.reduceEqDiff, List.map_cons, List.map_nil, Option.map_some, Option.map_none, List.nil_append, ↓reduceIte, vcu, ↓vcd]
        exact psh _ _ (by decide) _ _ _ _ vL sL nA kA vA
      by_cases hu1 : u = 1
      · simp -implicitDefEqProofs (disch := omega) only [List.any_cons, List.any_nil, Nat.reduceEqDiff, List.map_cons, List.map_nil, Option.map_some, Option.map_none, List.nil_append, ↓reduceIte, vcu, ↓vcd, opK_some, h0, h1, h5, hu1]
        rw [r_build]
        refine ⟨(_, #[.string (tx [49]), .int .i64 (-1)]), ⟨ze52, by simp -implicitDefEqProofs (disch := omega) only [List.any_cons, List.any_nil, Nat.reduceEqDiff, List.map_cons, List.map_nil, Option.map_some, Option.map_none, List.nil_append, ↓reduceIte, vcu, ↓vcd]; kernel_rfl⟩, ?_⟩
        simp -implicitDefEqProofs (disch := omega) only [List.any_cons, List.any_nil, Nat.reduceEqDiff, List.map_cons, List.map_nil, Option.map_some, Option.map_none, List.nil_append, ↓reduceIte, vcu, ↓vcd]
        refine r_lit el48 (out := #[.string (tx [49]), .int .i64 (-1)]) (by simp -implicitDefEqProofs (disch := omega) only [List.any_cons, List.any_nil, Nat.reduceEqDiff, List.map_cons, List.map_nil, Option.map_some, Option.map_none, List.nil_append, ↓reduceIte, vcu, ↓vcd]; kernel_rfl) (by kernel_rfl) fun eL τL nL sL vL => ?_
        replace vL : τL eL = some ⟨ruts [⟨[49], -1⟩], false⟩ := vL
        refine r_pushR (g := q) (e := eL) (o := 0) (cs := cs) (ds := [⟨[49], -1⟩]) (m := 1) (len := cs.length) el48 (by omega) sl48 (by simp -implicitDefEqProofs (disch := omega) only [List.any_cons, List.any_nil, Nat.reduceEqDiff, List.map_cons, List.map_nil, Option.map_some, Option.map_none, List.nil_append, ↓reduceIte, vcu, ↓vcd, h5]) (sL _ _ vq6) rfl (by simp -implicitDefEqProofs (disch := omega) only [List.any_cons, List.any_nil, Nat.reduceEqDiff, List.map_cons, List.map_nil, Option.map_some, Option.map_none, List.nil_append, ↓reduceIte, vcu, ↓vcd]) (rutsAt_own vL) rfl (by omega) fun eA τA nA kA vA => ?_
        simp -implicitDefEqProofs (disch := omega) only [List.any_cons, List.any_nil, Nat.reduceEqDiff, List.map_cons, List.map_nil, Option.map_some, Option.map_none, List.nil_append, ↓reduceIte, vcu, ↓vcd]
        refine fin_one Try.results83 ?_
        simp -implicitDefEqProofs (disch := omega) only [List.any_cons, List.any_nil, Nat.reduceEqDiff, List.map_cons, List.map_nil, Option.map_some, Option.map_none, List.nil_append, ↓reduceIte, vcu, ↓vcd]
        exact psh _ _ (by decide) _ _ _ _ vL sL nA kA vA
      · have hu2 : u = 2 := by omega
        simp -implicitDefEqProofs (disch := omega) only [List.any_cons, List.any_nil, Nat.reduceEqDiff, List.map_cons, List.map_nil, Option.map_some, Option.map_none, List.nil_append, ↓reduceIte, vcu, ↓vcd, opK_some, h0, h1, h5, hu2]
        rw [r_build]
        refine ⟨(_, #[.string (tx [50]), .int .i64 0]), ⟨ze52, by simp -implicitDefEqProofs (disch := omega) only [List.any_cons, List.any_nil, Nat.reduceEqDiff, List.map_cons, List.map_nil, Option.map_some, Option.map_none, List.nil_append, ↓reduceIte, vcu, ↓vcd]; kernel_rfl⟩, ?_⟩
        simp -implicitDefEqProofs (disch := omega) only [List.any_cons, List.any_nil, Nat.reduceEqDiff, List.map_cons, List.map_nil, Option.map_some, Option.map_none, List.nil_append, ↓reduceIte, vcu, ↓vcd]
        rw [r_build]
        refine ⟨(_, #[.string (tx [50]), .int .i64 1]), ⟨ze52, by simp -implicitDefEqProofs (disch := omega) only [List.any_cons, List.any_nil, Nat.reduceEqDiff, List.map_cons, List.map_nil, Option.map_some, Option.map_none, List.nil_append, ↓reduceIte, vcu, ↓vcd]; kernel_rfl⟩, ?_⟩
        simp -implicitDefEqProofs (disch := omega) only [List.any_cons, List.any_nil, Nat.reduceEqDiff, List.map_cons, List.map_nil, Option.map_some, Option.map_none, List.nil_append, ↓reduceIte, vcu, ↓vcd]
        refine r_lit el48 (out := #[.string (tx [50]), .int .i64 0, .string (tx [50]), .int .i64 1]) (by simp -implicitDefEqProofs (disch := omega) only [List.any_cons, List.any_nil, Nat.reduceEqDiff, List.map_cons, List.map_nil, Option.map_some, Option.map_none, List.nil_append, ↓reduceIte, vcu, ↓vcd]; kernel_rfl) (by kernel_rfl) fun eL τL nL sL vL => ?_
        replace vL : τL eL = some ⟨ruts [⟨[50], 0⟩, ⟨[50], 1⟩], false⟩ := vL
        have dL := d6.new sL
        have fL := d6.fresh nL
        simp -implicitDefEqProofs (disch := omega) only [List.any_cons, List.any_nil, Nat.reduceEqDiff, List.map_cons, List.map_nil, Option.map_some, Option.map_none, List.nil_append, ↓reduceIte, vcu, ↓vcd]
        refine fin_one Try.results83 ⟨eL, [⟨[50], 0⟩, ⟨[50], 1⟩], p' + 1 + 1, ?_, vL, fL.1, fL.2, by simp, by decide, by omega, by omega, dL⟩
        simp -implicitDefEqProofs (disch := omega) only [List.any_cons, List.any_nil, Nat.reduceEqDiff, List.map_cons, List.map_nil, Option.map_some, Option.map_none, List.nil_append, ↓reduceIte, vcu, ↓vcd]
        rfl
end Go.Proofs.Ytnenopebfobajaa

namespace Go.Proofs.Ytnenopebfobajaa
open Go Go.Abs Go.RowKit Go.Dial
variable {w0 : World}

set_option maxRecDepth 8000 in
theorem drawPlanValid_at (σ : AHeap) (h o : Nat) (bs : List Int) (hv : IntsAt .u8 σ h o bs) (hl : bs.length ≤ 1048576) (hb : ∀ b ∈ bs, 0 ≤ b ∧ b ≤ 255) :
    ACall Try.prog w0 21 [.slice (some ⟨h, o, none⟩) bs.length 1] σ fun r σ' => ∃ ps : List (List UInt8), Texts σ' r ps ∧ ps.length ≤ 11 ∧ (∀ t ∈ ps, t.length ≤ 4) ∧ Sub σ σ' := by
  refine acall_go mixed Try.func21 rfl good21 fun pr => ?_
  simp -implicitDefEqProofs (disch := omega) only [List.any_cons, List.any_nil, Nat.reduceEqDiff, List.map_cons, List.map_nil, Option.map_some, Option.map_none, List.nil_append, ↓reduceIte, vcu, ↓vcd]
  refine (opened σ h o bs hv hl hb).mono ?_
  rintro r τ2 ⟨g, m, rfl, hs2, hR⟩
  simp -implicitDefEqProofs (disch := omega) only [List.any_cons, List.any_nil, Nat.reduceEqDiff, List.map_cons, List.map_nil, Option.map_some, Option.map_none, List.nil_append, ↓reduceIte, vcu, ↓vcd, opK_some]
  refine (numbers_draw σ τ2 g h o _ 0 3 hR (by omega) (by omega)).mono ?_
  rintro r τ3 ⟨ps, p', w, a1, a2, -, -, d⟩
  simp -implicitDefEqProofs (disch := omega) only [List.any_cons, List.any_nil, Nat.reduceEqDiff, List.map_cons, List.map_nil, Option.map_some, Option.map_none, List.nil_append, ↓reduceIte, vcu, ↓vcd, opK_some]
  refine fin_one Try.results21 ⟨ps, ?_, a1, a2, d.rd.sub⟩
  simp -implicitDefEqProofs (disch := omega) only [List.any_cons, List.any_nil, Nat.reduceEqDiff, List.map_cons, List.map_nil, Option.map_some, Option.map_none, List.nil_append, ↓reduceIte, vcu, ↓vcd]
  exact w.texts
set_option maxRecDepth 8000 in
theorem drawPlanLengths_at (σ : AHeap) (h o : Nat) (bs : List Int) (hv : IntsAt .u8 σ h o bs) (hl : bs.length ≤ 1048576) (hb : ∀ b ∈ bs, 0 ≤ b ∧ b ≤ 255) :
    ACall Try.prog w0 36 [.slice (some ⟨h, o, none⟩) bs.length 1] σ fun r σ' => ∃ ps : List (List UInt8), Texts σ' r ps ∧ ps.length ≤ 11 ∧ (∀ t ∈ ps, t.length ≤ 4) ∧ Sub σ σ' := by
  refine acall_go mixed Try.func36 rfl good36 fun pr => ?_
  simp -implicitDefEqProofs (disch := omega) only [List.any_cons, List.any_nil, Nat.reduceEqDiff, List.map_cons, List.map_nil, Option.map_some, Option.map_none, List.nil_append, ↓reduceIte, vcu, ↓vcd]
  refine (opened σ h o bs hv hl hb).mono ?_
  rintro r τ2 ⟨g, m, rfl, hs2, hR⟩
  simp -implicitDefEqProofs (disch := omega) only [List.any_cons, List.any_nil, Nat.reduceEqDiff, List.map_cons, List.map_nil, Option.map_some, Option.map_none, List.nil_append, ↓reduceIte, vcu, ↓vcd, opK_some]
  refine (numbers_draw σ τ2 g h o _ 0 9 hR (by omega) (by omega)).mono ?_
  rintro r τ3 ⟨ps, p', w, a1, a2, -, -, d⟩
  simp -implicitDefEqProofs (disch := omega) only [List.any_cons, List.any_nil, Nat.reduceEqDiff, List.map_cons, List.map_nil, Option.map_some, Option.map_none, List.nil_append, ↓reduceIte, vcu, ↓vcd, opK_some]
  refine fin_one Try.results36 ⟨ps, ?_, a1, a2, d.rd.sub⟩
  simp -implicitDefEqProofs (disch := omega) only [List.any_cons, List.any_nil, Nat.reduceEqDiff, List.map_cons, List.map_nil, Option.map_some, Option.map_none, List.nil_append, ↓reduceIte, vcu, ↓vcd]
  exact w.texts
set_option maxRecDepth 8000 in
theorem drawLengthsValid_at (σ : AHeap) (h o : Nat) (bs : List Int) (hv : IntsAt .u8 σ h o bs) (hl : bs.length ≤ 1048576) (hb : ∀ b ∈ bs, 0 ≤ b ∧ b ≤ 255) :
    ACall Try.prog w0 26 [.slice (some ⟨h, o, none⟩) bs.length 1] σ fun r σ' => ∃ xs : List Int, Ints .i64 σ' r xs ∧ xs.length ≤ 11 ∧ (∀ x ∈ xs, 0 ≤ x ∧ x ≤ 4) ∧ Sub σ σ' := by
  refine acall_go mixed Try.func26 rfl good26 fun pr => ?_
  simp -implicitDefEqProofs (disch := omega) only [List.any_cons, List.any_nil, Nat.reduceEqDiff, List.map_cons, List.map_nil, Option.map_some, Option.map_none, List.nil_append, ↓reduceIte, vcu, ↓vcd]
  refine (opened σ h o bs hv hl hb).mono ?_
  rintro r τ2 ⟨g, m, rfl, hs2, hR⟩
  simp -implicitDefEqProofs (disch := omega) only [List.any_cons, List.any_nil, Nat.reduceEqDiff, List.map_cons, List.map_nil, Option.map_some, Option.map_none, List.nil_append, ↓reduceIte, vcu, ↓vcd, opK_some]
  refine (lengths_draw σ τ2 g h o _ 0 3 hR (by omega) (by omega)).mono ?_
  rintro r τ3 ⟨xs, p', w, a1, a2, -, -, d⟩
  simp -implicitDefEqProofs (disch := omega) only [List.any_cons, List.any_nil, Nat.reduceEqDiff, List.map_cons, List.map_nil, Option.map_some, Option.map_none, List.nil_append, ↓reduceIte, vcu, ↓vcd, opK_some]
  refine fin_one Try.results26 ⟨xs, ?_, a1, a2, d.rd.sub⟩
  simp -implicitDefEqProofs (disch := omega) only [List.any_cons, List.any_nil, Nat.reduceEqDiff, List.map_cons, List.map_nil, Option.map_some, Option.map_none, List.nil_append, ↓reduceIte, vcu, ↓vcd]
  exact w.ints
set_option maxRecDepth 8000 in
theorem drawShareSum_at (σ : AHeap) (h o : Nat) (bs : List Int) (hv : IntsAt .u8 σ h o bs) (hl : bs.length ≤ 1048576) (hb : ∀ b ∈ bs, 0 ≤ b ∧ b ≤ 255) :
    ACall Try.prog w0 29 [.slice (some ⟨h, o, none⟩) bs.length 1] σ fun r σ' => ∃ xs : List Int, Ints .i64 σ' r xs ∧ xs.length ≤ 11 ∧ (∀ x ∈ xs, 0 ≤ x ∧ x ≤ 4) ∧ Sub σ σ' := by
  refine acall_go mixed Try.func29 rfl good29 fun pr => ?_
  simp -implicitDefEqProofs (disch := omega) only [List.any_cons, List.any_nil, Nat.reduceEqDiff, List.map_cons, List.map_nil, Option.map_some, Option.map_none, List.nil_append, ↓reduceIte, vcu, ↓vcd]
  refine (opened σ h o bs hv hl hb).mono ?_
  rintro r τ2 ⟨g, m, rfl, hs2, hR⟩
  simp -implicitDefEqProofs (disch := omega) only [List.any_cons, List.any_nil, Nat.reduceEqDiff, List.map_cons, List.map_nil, Option.map_some, Option.map_none, List.nil_append, ↓reduceIte, vcu, ↓vcd, opK_some]
  refine (lengths_draw σ τ2 g h o _ 0 9 hR (by omega) (by omega)).mono ?_
  rintro r τ3 ⟨xs, p', w, a1, a2, -, -, d⟩
  simp -implicitDefEqProofs (disch := omega) only [List.any_cons, List.any_nil, Nat.reduceEqDiff, List.map_cons, List.map_nil, Option.map_some, Option.map_none, List.nil_append, ↓reduceIte, vcu, ↓vcd, opK_some]
  refine fin_one Try.results29 ⟨xs, ?_, a1, a2, d.rd.sub⟩
  simp -implicitDefEqProofs (disch := omega) only [List.any_cons, List.any_nil, Nat.reduceEqDiff, List.map_cons, List.map_nil, Option.map_some, Option.map_none, List.nil_append, ↓reduceIte, vcu, ↓vcd]
  exact w.ints
set_option maxRecDepth 8000 in
theorem drawPlanFor_at (σ : AHeap) (h o : Nat) (bs : List Int) (hv : IntsAt .u8 σ h o bs) (hl : bs.length ≤ 1048576) (hb : ∀ b ∈ bs, 0 ≤ b ∧ b ≤ 255) :
    ACall Try.prog w0 31 [.slice (some ⟨h, o, none⟩) bs.length 1] σ fun r σ' => ∃ xs : List Int, Ints .i64 σ' r xs ∧ xs.length ≤ 11 ∧ (∀ x ∈ xs, 0 ≤ x ∧ x ≤ 4) ∧ Sub σ σ' := by
  refine acall_go mixed Try.func31 rfl good31 fun pr => ?_
  simp -implicitDefEqProofs (disch := omega) only [List.any_cons, List.any_nil, Nat.reduceEqDiff, List.map_cons, List.map_nil, Option.map_some, Option.map_none, List.nil_append, ↓reduceIte, vcu, ↓vcd]
  refine (opened σ h o bs hv hl hb).mono ?_
  rintro r τ2 ⟨g, m, rfl, hs2, hR⟩
  simp -implicitDefEqProofs (disch := omega) only [List.any_cons, List.any_nil, Nat.reduceEqDiff, List.map_cons, List.map_nil, Option.map_some, Option.map_none, List.nil_append, ↓reduceIte, vcu, ↓vcd, opK_some]
  refine (lengths_draw σ τ2 g h o _ 0 9 hR (by omega) (by omega)).mono ?_
  rintro r τ3 ⟨xs, p', w, a1, a2, -, -, d⟩
  simp -implicitDefEqProofs (disch := omega) only [List.any_cons, List.any_nil, Nat.reduceEqDiff, List.map_cons, List.map_nil, Option.map_some, Option.map_none, List.nil_append, ↓reduceIte, vcu, ↓vcd, opK_some]
  refine fin_one Try.results31 ⟨xs, ?_, a1, a2, d.rd.sub⟩
  simp -implicitDefEqProofs (disch := omega) only [List.any_cons, List.any_nil, Nat.reduceEqDiff, List.map_cons, List.map_nil, Option.map_some, Option.map_none, List.nil_append, ↓reduceIte, vcu, ↓vcd]
  exact w.ints
set_option maxRecDepth 8000 in
theorem drawOftenValid_at (σ : AHeap) (h o : Nat) (bs : List Int) (hv : IntsAt .u8 σ h o bs) (hl : bs.length ≤ 1048576) (hb : ∀ b ∈ bs, 0 ≤ b ∧ b ≤ 255) :
    ACall Try.prog w0 44 [.slice (some ⟨h, o, none⟩) bs.length 1] σ fun r σ' => ∃ xs : List Int, Ints .i64 σ' r xs ∧ xs.length ≤ 11 ∧ (∀ x ∈ xs, -1 ≤ x ∧ x ≤ 100) ∧ Sub σ σ' := by
  refine acall_go mixed Try.func44 rfl good44 fun pr => ?_
  simp -implicitDefEqProofs (disch := omega) only [List.any_cons, List.any_nil, Nat.reduceEqDiff, List.map_cons, List.map_nil, Option.map_some, Option.map_none, List.nil_append, ↓reduceIte, vcu, ↓vcd]
  refine (opened σ h o bs hv hl hb).mono ?_
  rintro r τ2 ⟨g, m, rfl, hs2, hR⟩
  simp -implicitDefEqProofs (disch := omega) only [List.any_cons, List.any_nil, Nat.reduceEqDiff, List.map_cons, List.map_nil, Option.map_some, Option.map_none, List.nil_append, ↓reduceIte, vcu, ↓vcd, opK_some]
  refine (often_draw σ τ2 g h o _ 0 3 hR (by omega) (by omega)).mono ?_
  rintro r τ3 ⟨xs, p', w, a1, a2, -, -, d⟩
  simp -implicitDefEqProofs (disch := omega) only [List.any_cons, List.any_nil, Nat.reduceEqDiff, List.map_cons, List.map_nil, Option.map_some, Option.map_none, List.nil_append, ↓reduceIte, vcu, ↓vcd, opK_some]
  refine fin_one Try.results44 ⟨xs, ?_, a1, a2, d.rd.sub⟩
  simp -implicitDefEqProofs (disch := omega) only [List.any_cons, List.any_nil, Nat.reduceEqDiff, List.map_cons, List.map_nil, Option.map_some, Option.map_none, List.nil_append, ↓reduceIte, vcu, ↓vcd]
  exact w.ints
set_option maxRecDepth 8000 in
theorem drawDialLeast_at (σ : AHeap) (h o : Nat) (bs : List Int) (hv : IntsAt .u8 σ h o bs) (hl : bs.length ≤ 1048576) (hb : ∀ b ∈ bs, 0 ≤ b ∧ b ≤ 255) :
    ACall Try.prog w0 51 [.slice (some ⟨h, o, none⟩) bs.length 1] σ fun r σ' => ∃ xs : List Int, Ints .i64 σ' r xs ∧ xs.length ≤ 11 ∧ (∀ x ∈ xs, -1 ≤ x ∧ x ≤ 100) ∧ Sub σ σ' := by
  refine acall_go mixed Try.func51 rfl good51 fun pr => ?_
  simp -implicitDefEqProofs (disch := omega) only [List.any_cons, List.any_nil, Nat.reduceEqDiff, List.map_cons, List.map_nil, Option.map_some, Option.map_none, List.nil_append, ↓reduceIte, vcu, ↓vcd]
  refine (opened σ h o bs hv hl hb).mono ?_
  rintro r τ2 ⟨g, m, rfl, hs2, hR⟩
  simp -implicitDefEqProofs (disch := omega) only [List.any_cons, List.any_nil, Nat.reduceEqDiff, List.map_cons, List.map_nil, Option.map_some, Option.map_none, List.nil_append, ↓reduceIte, vcu, ↓vcd, opK_some]
  refine (often_draw σ τ2 g h o _ 0 9 hR (by omega) (by omega)).mono ?_
  rintro r τ3 ⟨xs, p', w, a1, a2, -, -, d⟩
  simp -implicitDefEqProofs (disch := omega) only [List.any_cons, List.any_nil, Nat.reduceEqDiff, List.map_cons, List.map_nil, Option.map_some, Option.map_none, List.nil_append, ↓reduceIte, vcu, ↓vcd, opK_some]
  refine fin_one Try.results51 ⟨xs, ?_, a1, a2, d.rd.sub⟩
  simp -implicitDefEqProofs (disch := omega) only [List.any_cons, List.any_nil, Nat.reduceEqDiff, List.map_cons, List.map_nil, Option.map_some, Option.map_none, List.nil_append, ↓reduceIte, vcu, ↓vcd]
  exact w.ints
set_option maxRecDepth 8000 in
theorem drawRoutesValid_at (σ : AHeap) (h o : Nat) (bs : List Int) (hv : IntsAt .u8 σ h o bs) (hl : bs.length ≤ 1048576) (hb : ∀ b ∈ bs, 0 ≤ b ∧ b ≤ 255) :
    ACall Try.prog w0 54 [.slice (some ⟨h, o, none⟩) bs.length 1] σ fun r σ' => ∃ cs : List Rt, Ruts σ' r cs ∧ cs.length ≤ 9 ∧ (∀ c ∈ cs, c.b.length ≤ 3) ∧ Sub σ σ' := by
  refine acall_go mixed Try.func54 rfl good54 fun pr => ?_
  simp -implicitDefEqProofs (disch := omega) only [List.any_cons, List.any_nil, Nat.reduceEqDiff, List.map_cons, List.map_nil, Option.map_some, Option.map_none, List.nil_append, ↓reduceIte, vcu, ↓vcd]
  refine (opened σ h o bs hv hl hb).mono ?_
  rintro r τ2 ⟨g, m, rfl, hs2, hR⟩
  simp -implicitDefEqProofs (disch := omega) only [List.any_cons, List.any_nil, Nat.reduceEqDiff, List.map_cons, List.map_nil, Option.map_some, Option.map_none, List.nil_append, ↓reduceIte, vcu, ↓vcd, opK_some]
  refine (table_draw σ τ2 g h o _ 0 3 hR (by omega) (by omega)).mono ?_
  rintro r τ3 ⟨q, cs, p', rfl, vq, -, -, a1, a2, -, -, d⟩
  simp -implicitDefEqProofs (disch := omega) only [List.any_cons, List.any_nil, Nat.reduceEqDiff, List.map_cons, List.map_nil, Option.map_some, Option.map_none, List.nil_append, ↓reduceIte, vcu, ↓vcd, opK_some]
  refine fin_one Try.results54 ⟨cs, ?_, a1, a2, d.rd.sub⟩
  simp -implicitDefEqProofs (disch := omega) only [List.any_cons, List.any_nil, Nat.reduceEqDiff, List.map_cons, List.map_nil, Option.map_some, Option.map_none, List.nil_append, ↓reduceIte, vcu, ↓vcd]
  exact .inr ⟨q, 0, rfl, rutsAt_own vq⟩
set_option maxRecDepth 8000 in
theorem drawRoutesLess_at (σ : AHeap) (h o : Nat) (bs : List Int) (hv : IntsAt .u8 σ h o bs) (hl : bs.length ≤ 1048576) (hb : ∀ b ∈ bs, 0 ≤ b ∧ b ≤ 255) :
    ACall Try.prog w0 60 [.slice (some ⟨h, o, none⟩) bs.length 1] σ fun r σ' => ∃ cs : List Rt, Ruts σ' r cs ∧ cs.length ≤ 9 ∧ (∀ c ∈ cs, c.b.length ≤ 3) ∧ Sub σ σ' := by
  refine acall_go mixed Try.func60 rfl good60 fun pr => ?_
  simp -implicitDefEqProofs (disch := omega) only [List.any_cons, List.any_nil, Nat.reduceEqDiff, List.map_cons, List.map_nil, Option.map_some, Option.map_none, List.nil_append, ↓reduceIte, vcu, ↓vcd]
  refine (opened σ h o bs hv hl hb).mono ?_
  rintro r τ2 ⟨g, m, rfl, hs2, hR⟩
  simp -implicitDefEqProofs (disch := omega) only [List.any_cons, List.any_nil, Nat.reduceEqDiff, List.map_cons, List.map_nil, Option.map_some, Option.map_none, List.nil_append, ↓reduceIte, vcu, ↓vcd, opK_some]
  refine (table_draw σ τ2 g h o _ 0 9 hR (by omega) (by omega)).mono ?_
  rintro r τ3 ⟨q, cs, p', rfl, vq, -, -, a1, a2, -, -, d⟩
  simp -implicitDefEqProofs (disch := omega) only [List.any_cons, List.any_nil, Nat.reduceEqDiff, List.map_cons, List.map_nil, Option.map_some, Option.map_none, List.nil_append, ↓reduceIte, vcu, ↓vcd, opK_some]
  refine fin_one Try.results60 ⟨cs, ?_, a1, a2, d.rd.sub⟩
  simp -implicitDefEqProofs (disch := omega) only [List.any_cons, List.any_nil, Nat.reduceEqDiff, List.map_cons, List.map_nil, Option.map_some, Option.map_none, List.nil_append, ↓reduceIte, vcu, ↓vcd]
  exact .inr ⟨q, 0, rfl, rutsAt_own vq⟩
set_option maxRecDepth 8000 in
theorem drawDigitsOk_at (σ : AHeap) (h o : Nat) (bs : List Int) (hv : IntsAt .u8 σ h o bs) (hl : bs.length ≤ 1048576) (hb : ∀ b ∈ bs, 0 ≤ b ∧ b ≤ 255) :
    ACall Try.prog w0 17 [.slice (some ⟨h, o, none⟩) bs.length 1] σ fun r σ' => ∃ s : List UInt8, r = .string (tx s) ∧ s.length ≤ 7 ∧ Sub σ σ' := by
  refine acall_go mixed Try.func17 rfl good17 fun pr => ?_
  simp -implicitDefEqProofs (disch := omega) only [List.any_cons, List.any_nil, Nat.reduceEqDiff, List.map_cons, List.map_nil, Option.map_some, Option.map_none, List.nil_append, ↓reduceIte, vcu, ↓vcd]
  refine (opened σ h o bs hv hl hb).mono ?_
  rintro r τ2 ⟨g, m, rfl, hs2, hR⟩
  simp -implicitDefEqProofs (disch := omega) only [List.any_cons, List.any_nil, Nat.reduceEqDiff, List.map_cons, List.map_nil, Option.map_some, Option.map_none, List.nil_append, ↓reduceIte, vcu, ↓vcd, opK_some]
  refine (digits_draw σ τ2 g h o _ 0 6 hR (by omega) (by omega)).mono ?_
  rintro r τ3 ⟨s, p', rfl, a1, a3, a4, d⟩
  simp -implicitDefEqProofs (disch := omega) only [List.any_cons, List.any_nil, Nat.reduceEqDiff, List.map_cons, List.map_nil, Option.map_some, Option.map_none, List.nil_append, ↓reduceIte, vcu, ↓vcd, opK_some]
  refine (pick_at σ τ3 g h o _ p' 3 d.rd (by omega) (by omega)).mono ?_
  rintro r τ4 ⟨z, rfl, b1, b2, hR, hK⟩
  have d4 := d.step hR hK
  clear hR hK d
  by_cases hz : z = 0
  · simp -implicitDefEqProofs (disch := omega) only [List.any_cons, List.any_nil, Nat.reduceEqDiff, List.map_cons, List.map_nil, Option.map_some, Option.map_none, List.nil_append, ↓reduceIte, vcu, ↓vcd, opK_some, hz]
    refine r_lit el27 (out := #[.string (tx [52]), .string (tx [57]), .string (tx [47]), .string (tx [120]), .string (tx [32])]) (by simp -implicitDefEqProofs (disch := omega) only [List.any_cons, List.any_nil, Nat.reduceEqDiff, List.map_cons, List.map_nil, Option.map_some, Option.map_none, List.nil_append, ↓reduceIte, vcu, ↓vcd]; kernel_rfl) (by kernel_rfl) fun e τ6 ne se ve => ?_
    replace ve : τ6 e = some ⟨texts [[52], [57], [47], [120], [32]], false⟩ := ve
    have d6 := d4.new se
    have ge := (d4.fresh ne).2
    simp -implicitDefEqProofs (disch := omega) only [List.any_cons, List.any_nil, Nat.reduceEqDiff, List.map_cons, List.map_nil, Option.map_some, Option.map_none, List.nil_append, ↓reduceIte, vcu, ↓vcd]
    refine (pick_at σ τ6 g h o _ (p' + 1) 5 d6.rd (by omega) (by omega)).mono ?_
    rintro r τ7 ⟨u, rfl, u1, u2, hR, hK⟩
    have d7 := d6.step hR hK
    replace ve := hK.at ve ge
    have hu := lit_text ve u1 (by simpa using u2)
    have hc4 : ([[52], [57], [47], [120], [32]].getD u.toNat [] : List UInt8).length ≤ 1 := getD_len (by decide) _
    generalize ([[52], [57], [47], [120], [32]].getD u.toNat [] : List UInt8) = c at hu hc4
    have ha := abin_sadd (P := Try.prog) (t := 9) (xs := s) (ys := c) (by omega)
    simp -implicitDefEqProofs (disch := omega) only [List.any_cons, List.any_nil, Nat.reduceEqDiff, List.map_cons, List.map_nil, Option.map_some, Option.map_none, List.nil_append, ↓reduceIte, vcu, ↓vcd, opK_some, hu, ha]
    refine fin_one Try.results17 ⟨s ++ c, ?_, by simp; omega, d7.rd.sub⟩
    simp -implicitDefEqProofs (disch := omega) only [List.any_cons, List.any_nil, Nat.reduceEqDiff, List.map_cons, List.map_nil, Option.map_some, Option.map_none, List.nil_append, ↓reduceIte, vcu, ↓vcd]
  · simp -implicitDefEqProofs (disch := omega) only [List.any_cons, List.any_nil, Nat.reduceEqDiff, List.map_cons, List.map_nil, Option.map_some, Option.map_none, List.nil_append, ↓reduceIte, vcu, ↓vcd, opK_some, hz]
    refine fin_one Try.results17 ⟨s, ?_, by omega, d4.rd.sub⟩
    simp -implicitDefEqProofs (disch := omega) only [List.any_cons, List.any_nil, Nat.reduceEqDiff, List.map_cons, List.map_nil, Option.map_some, Option.map_none, List.nil_append, ↓reduceIte, vcu, ↓vcd]
set_option maxRecDepth 8000 in
theorem drawDialCost_at (σ : AHeap) (h o : Nat) (bs : List Int) (hv : IntsAt .u8 σ h o bs) (hl : bs.length ≤ 1048576) (hb : ∀ b ∈ bs, 0 ≤ b ∧ b ≤ 255) :
    ACall Try.prog w0 47 [.slice (some ⟨h, o, none⟩) bs.length 1] σ fun r σ' => ∃ (v u : Value) (fs ls : List Int), r = .tuple #[v, u] ∧ Ints .i64 σ' v fs ∧ Ints .i64 σ' u ls ∧ fs.length ≤ 11 ∧ ls.length ≤ 12 ∧ (∀ x ∈ fs, -1 ≤ x ∧ x ≤ 100) ∧ (∀ x ∈ ls, 1 ≤ x ∧ x ≤ 3) ∧ Sub σ σ' := by
  refine acall_go mixed Try.func47 rfl good47 fun pr => ?_
  simp -implicitDefEqProofs (disch := omega) only [List.any_cons, List.any_nil, Nat.reduceEqDiff, List.map_cons, List.map_nil, Option.map_some, Option.map_none, List.nil_append, ↓reduceIte, vcu, ↓vcd]
  refine (opened σ h o bs hv hl hb).mono ?_
  rintro r τ2 ⟨g, m0_, rfl, hs2, hR⟩
  simp -implicitDefEqProofs (disch := omega) only [List.any_cons, List.any_nil, Nat.reduceEqDiff, List.map_cons, List.map_nil, Option.map_some, Option.map_none, List.nil_append, ↓reduceIte, vcu, ↓vcd, opK_some]
  refine (often_draw σ τ2 g h o _ 0 12 hR (by omega) (by omega)).mono ?_
  rintro r τ3 ⟨fs, p3, ⟨q, rfl, vq, nq, gq⟩, a1, a2, a3, a4, d⟩
  simp -implicitDefEqProofs (disch := omega) only [List.any_cons, List.any_nil, Nat.reduceEqDiff, List.map_cons, List.map_nil, Option.map_some, Option.map_none, List.nil_append, ↓reduceIte, vcu, ↓vcd, opK_some]
  refine r_lit el31 (out := #[]) (by kernel_rfl) (by kernel_rfl) fun q0 τ4 n0 s0 v0 => ?_
  have d4 := d.new s0
  have nq0 : q0 ≠ q := ne_of n0 vq
  replace vq := s0 _ _ vq
  obtain ⟨m0, g0⟩ := d.fresh n0
  replace v0 : τ4 q0 = some ⟨ints .i64 [], false⟩ := v0
  clear d s0 n0
  simp -implicitDefEqProofs (disch := omega) only [List.any_cons, List.any_nil, Nat.reduceEqDiff, List.map_cons, List.map_nil, Option.map_some, Option.map_none, List.nil_append, ↓reduceIte, vcu, ↓vcd]
  refine vc_loop_c mixed (by kernel_rfl) [4, 5] (fun m a σ' => ∃ (k e : Nat) (ls : List Int) (p' : Int), m + k = fs.length ∧ a 7 = .int .i64 k ∧ a 6 = .slice (some ⟨e, 0, none⟩) ls.length 1 ∧ σ' e = some ⟨ints .i64 ls, false⟩ ∧ τ2 e = none ∧ e ≠ g ∧ e ≠ q ∧ σ' q = some ⟨ints .i64 fs, false⟩ ∧ ls.length = k ∧ (∀ x ∈ ls, 1 ≤ x ∧ x ≤ 3) ∧ 0 ≤ p' ∧ p' ≤ 30 + k ∧ DS σ τ2 σ' g h o (bs.take m0_) p') fs.length ⟨0, q0, [], p3, by simp, rfl, rfl, v0, m0, g0, nq0, vq, rfl, by simp, by omega, by omega, d4⟩ ?_
  clear d4 v0 m0 g0 nq0 vq
  rintro m a τ hc ⟨k, e, ls, p', hk, h7, h6, ve, ne, ge, eq, vq, hl, hx, c1, c2, d⟩
  simp -implicitDefEqProofs (disch := omega) only [List.any_cons, List.any_nil, Nat.reduceEqDiff, List.map_cons, List.map_nil, Option.map_some, Option.map_none, List.nil_append, ↓reduceIte, vcu, ↓vcd] at hc
  obtain ⟨h4, h5, -⟩ := hc
  have push : ∀ {x : Int}, 1 ≤ x ∧ x ≤ 3 → ∀ y ∈ ls ++ [x], 1 ≤ y ∧ y ≤ 3 := fun hh y hy => by
    rcases List.mem_append.1 hy with hy | hy
    · exact hx y hy
    · rw [List.mem_singleton] at hy; subst hy; exact hh
  by_cases hlt : k < fs.length
  · simp -implicitDefEqProofs (disch := omega) only [List.any_cons, List.any_nil, Nat.reduceEqDiff, List.map_cons, List.map_nil, Option.map_some, Option.map_none, List.nil_append, ↓reduceIte, vcu, ↓vcd, h4, h5, h6, h7]
    refine (pick_at σ τ g h o _ p' 3 d.rd (by omega) (by omega)).mono ?_
    rintro r τ5 ⟨y, rfl, b1, b2, hR, hK⟩
    have d5 := d.step hR hK
    replace ve := hK.at ve ge
    replace vq := hK.at vq gq
    clear hR hK d
    simp -implicitDefEqProofs (disch := omega) only [List.any_cons, List.any_nil, Nat.reduceEqDiff, List.map_cons, List.map_nil, Option.map_some, Option.map_none, List.nil_append, ↓reduceIte, vcu, ↓vcd, opK_some, h4, h5, h6, h7]
    refine r_lit el31 (out := #[.int .i64 (1 + y)]) (by simp -implicitDefEqProofs (disch := omega) only [List.any_cons, List.any_nil, Nat.reduceEqDiff, List.map_cons, List.map_nil, Option.map_some, Option.map_none, List.nil_append, ↓reduceIte, vcu, ↓vcd]; kernel_rfl) (by kernel_rfl) fun e6 τ6 n6 s6 v6 => ?_
    have d6 := d5.new s6
    refine r_pushI (g := e) (e := e6) (o := 0) (k := .i64) (xs := ls) (ys := [1 + y]) (m := 1) (len := ls.length) el31 (by omega) sl31 (by simp -implicitDefEqProofs (disch := omega) only [List.any_cons, List.any_nil, Nat.reduceEqDiff, List.map_cons, List.map_nil, Option.map_some, Option.map_none, List.nil_append, ↓reduceIte, vcu, ↓vcd, h6]) (s6 _ _ ve) rfl (by simp -implicitDefEqProofs (disch := omega) only [List.any_cons, List.any_nil, Nat.reduceEqDiff, List.map_cons, List.map_nil, Option.map_some, Option.map_none, List.nil_append, ↓reduceIte, vcu, ↓vcd]) (intsAt_own v6) rfl (by omega) fun e7 τ7 n7 k7 v7 => ?_
    have d7 := d6.put k7 ge ne
    have f7 := d6.fresh n7
    simp -implicitDefEqProofs (disch := omega) only [List.any_cons, List.any_nil, Nat.reduceEqDiff, List.map_cons, List.map_nil, Option.map_some, Option.map_none, List.nil_append, ↓reduceIte, vcu, ↓vcd, h4, h5, h7]
    exact ⟨by simp [h4, h5], m - 1, by omega, k + 1, e7, ls ++ [1 + y], p' + 1, by omega, by simp, by simp, v7, f7.1, f7.2, ne_of n7 (s6 _ _ vq), k7.at (s6 _ _ vq) eq.symm, by simp [hl], push (by omega), by omega, by omega, d7⟩
  · simp -implicitDefEqProofs (disch := omega) only [List.any_cons, List.any_nil, Nat.reduceEqDiff, List.map_cons, List.map_nil, Option.map_some, Option.map_none, List.nil_append, ↓reduceIte, vcu, ↓vcd, h4, h5, h6, h7]
    refine (odd_at σ τ g h o _ p' 12 d.rd (by omega) (by omega)).mono ?_
    rintro r τ5 ⟨b, rfl, hR, hK⟩
    have d5 := d.step hR hK
    replace ve := hK.at ve ge
    replace vq := hK.at vq gq
    clear hR hK d
    cases b with
    | false =>
      simp -implicitDefEqProofs (disch := omega) only [List.any_cons, List.any_nil, Nat.reduceEqDiff, List.map_cons, List.map_nil, Option.map_some, Option.map_none, List.nil_append, ↓reduceIte, vcu, ↓vcd, opK_some, h4, h5, h6, h7]
      refine fin_two Try.results47 ⟨_, _, fs, ls, rfl, ?_, ?_, by omega, by omega, a2, hx, d5.rd.sub⟩
      · simp -implicitDefEqProofs (disch := omega) only [List.any_cons, List.any_nil, Nat.reduceEqDiff, List.map_cons, List.map_nil, Option.map_some, Option.map_none, List.nil_append, ↓reduceIte, vcu, ↓vcd, h5]
        exact .inr ⟨q, 0, rfl, intsAt_own vq⟩
      · simp -implicitDefEqProofs (disch := omega) only [List.any_cons, List.any_nil, Nat.reduceEqDiff, List.map_cons, List.map_nil, Option.map_some, Option.map_none, List.nil_append, ↓reduceIte, vcu, ↓vcd, h6]
        exact .inr ⟨e, 0, rfl, intsAt_own ve⟩
    | true =>
      simp -implicitDefEqProofs (disch := omega) only [List.any_cons, List.any_nil, Nat.reduceEqDiff, List.map_cons, List.map_nil, Option.map_some, Option.map_none, List.nil_append, ↓reduceIte, vcu, ↓vcd, opK_some, h4, h5, h6, h7]
      refine r_lit el31 (out := #[.int .i64 1]) (by simp -implicitDefEqProofs (disch := omega) only [List.any_cons, List.any_nil, Nat.reduceEqDiff, List.map_cons, List.map_nil, Option.map_some, Option.map_none, List.nil_append, ↓reduceIte, vcu, ↓vcd]; kernel_rfl) (by kernel_rfl) fun e6 τ6 n6 s6 v6 => ?_
      have d6 := d5.new s6
      refine r_pushI (g := e) (e := e6) (o := 0) (k := .i64) (xs := ls) (ys := [1]) (m := 1) (len := ls.length) el31 (by omega) sl31 (by simp -implicitDefEqProofs (disch := omega) only [List.any_cons, List.any_nil, Nat.reduceEqDiff, List.map_cons, List.map_nil, Option.map_some, Option.map_none, List.nil_append, ↓reduceIte, vcu, ↓vcd, h6]) (s6 _ _ ve) rfl (by simp -implicitDefEqProofs (disch := omega) only [List.any_cons, List.any_nil, Nat.reduceEqDiff, List.map_cons, List.map_nil, Option.map_some, Option.map_none, List.nil_append, ↓reduceIte, vcu, ↓vcd]) (intsAt_own v6) rfl (by omega) fun e7 τ7 n7 k7 v7 => ?_
      have d7 := d6.put k7 ge ne
      have vq7 := k7.at (s6 _ _ vq) eq.symm
      simp -implicitDefEqProofs (disch := omega) only [List.any_cons, List.any_nil, Nat.reduceEqDiff, List.map_cons, List.map_nil, Option.map_some, Option.map_none, List.nil_append, ↓reduceIte, vcu, ↓vcd, h4, h5]
      refine fin_two Try.results47 ⟨_, _, fs, ls ++ [1], rfl, ?_, ?_, by omega, by simp; omega, a2, push (by omega), d7.rd.sub⟩
      · simp -implicitDefEqProofs (disch := omega) only [List.any_cons, List.any_nil, Nat.reduceEqDiff, List.map_cons, List.map_nil, Option.map_some, Option.map_none, List.nil_append, ↓reduceIte, vcu, ↓vcd, h5]
        exact .inr ⟨q, 0, rfl, intsAt_own vq7⟩
      · simp -implicitDefEqProofs (disch := omega) only [List.any_cons, List.any_nil, Nat.reduceEqDiff, List.map_cons, List.map_nil, Option.map_some, Option.map_none, List.nil_append, ↓reduceIte, vcu, ↓vcd]
        exact .inr ⟨e7, 0, by simp, intsAt_own v7⟩
end Go.Proofs.Ytnenopebfobajaa

namespace Go.Proofs.Ytnenopebfobajaa
open Go Go.Abs Go.RowKit Go.Dial
variable {w0 : World}

theorem mem_getD {ts : List (List UInt8)} {M : Nat} (h : ∀ t ∈ ts, t.length ≤ M) (i : Nat) : (ts.getD i []).length ≤ M := getD_len h i
set_option maxRecDepth 8000 in
theorem drawDialAll_at (σ : AHeap) (h o : Nat) (bs : List Int) (hv : IntsAt .u8 σ h o bs) (hl : bs.length ≤ 1048576) (hb : ∀ b ∈ bs, 0 ≤ b ∧ b ≤ 255) :
    ACall Try.prog w0 41 [.slice (some ⟨h, o, none⟩) bs.length 1] σ fun r σ' => ∃ (v : Value) (ps : List (List UInt8)) (s : List UInt8), r = .tuple #[v, .string (tx s)] ∧ Texts σ' v ps ∧ ps.length ≤ 11 ∧ (∀ t ∈ ps, t.length ≤ 4) ∧ s.length ≤ 30 ∧ Sub σ σ' := by
  refine acall_go mixed Try.func41 rfl good41 fun pr => ?_
  simp -implicitDefEqProofs (disch := omega) only [List.any_cons, List.any_nil, Nat.reduceEqDiff, List.map_cons, List.map_nil, Option.map_some, Option.map_none, List.nil_append, ↓reduceIte, vcu, ↓vcd]
  refine (opened σ h o bs hv hl hb).mono ?_
  rintro r τ2 ⟨g, m0, rfl, hs2, hR⟩
  simp -implicitDefEqProofs (disch := omega) only [List.any_cons, List.any_nil, Nat.reduceEqDiff, List.map_cons, List.map_nil, Option.map_some, Option.map_none, List.nil_append, ↓reduceIte, vcu, ↓vcd, opK_some]
  refine (numbers_draw σ τ2 g h o _ 0 9 hR (by omega) (by omega)).mono ?_
  rintro v τ3 ⟨ps, p3, w, a1, a2, a3, a4, d⟩
  simp -implicitDefEqProofs (disch := omega) only [List.any_cons, List.any_nil, Nat.reduceEqDiff, List.map_cons, List.map_nil, Option.map_some, Option.map_none, List.nil_append, ↓reduceIte, vcu, ↓vcd, opK_some]
  refine (pick_at σ τ3 g h o _ p3 6 d.rd (by omega) (by omega)).mono ?_
  rintro r τ4 ⟨z, rfl, z1, z2, hR, hK⟩
  have d4 := d.step hR hK
  have w4 := w.pick hK
  clear hR hK d w
  obtain ⟨z0, rfl⟩ : ∃ z0 : Nat, z = z0 := ⟨z.toNat, by omega⟩
  simp -implicitDefEqProofs (disch := omega) only [List.any_cons, List.any_nil, Nat.reduceEqDiff, List.map_cons, List.map_nil, Option.map_some, Option.map_none, List.nil_append, ↓reduceIte, vcu, ↓vcd, opK_some]
  refine vc_loop_c mixed (by kernel_rfl) [4, 5] (fun m a σ' => ∃ (s : List UInt8) (p' : Int), a 7 = .int .i64 m ∧ a 6 = .string (tx s) ∧ s.length + 4 * m ≤ 20 ∧ OYS τ2 g σ' v ps ∧ 0 ≤ p' ∧ p' + m ≤ 110 ∧ DS σ τ2 σ' g h o (bs.take m0) p') z0 ⟨[], p3 + 1, rfl, rfl, by simp; omega, w4, by omega, by omega, d4⟩ ?_
  clear d4 w4 z1 z2
  rintro m a τ hc ⟨s, p', h7, h6, hsl, w, c1, c2, d⟩
  simp -implicitDefEqProofs (disch := omega) only [List.any_cons, List.any_nil, Nat.reduceEqDiff, List.map_cons, List.map_nil, Option.map_some, Option.map_none, List.nil_append, ↓reduceIte, vcu, ↓vcd] at hc
  obtain ⟨h4, h5, -⟩ := hc
  by_cases hgo : 0 < m ∧ 0 < ps.length
  · obtain ⟨hm, hps⟩ := hgo
    obtain ⟨q, rfl, vq, nq, gq⟩ : ∃ q, v = .slice (some ⟨q, 0, none⟩) ps.length 1 ∧ τ q = some ⟨texts ps, false⟩ ∧ τ2 q = none ∧ q ≠ g := w.resolve_left fun hh => by rw [hh.2] at hps; simp at hps
    simp -implicitDefEqProofs (disch := omega) only [List.any_cons, List.any_nil, Nat.reduceEqDiff, List.map_cons, List.map_nil, Option.map_some, Option.map_none, List.nil_append, ↓reduceIte, vcu, ↓vcd, h4, h5, h6, h7]
    refine (pick_at σ τ g h o _ p' ps.length d.rd (by omega) (by omega)).mono ?_
    rintro r τ5 ⟨y, rfl, b1, b2, hR, hK⟩
    have d5 := d.step hR hK
    replace vq := hK.at vq gq
    clear hR hK d w
    have hx := lit_text vq b1 b2
    have hc4 := getD_len a2 y.toNat
    generalize ps.getD y.toNat [] = c at hx hc4
    have ha := abin_sadd (P := Try.prog) (t := 9) (xs := s) (ys := c) (by omega)
    simp -implicitDefEqProofs (disch := omega) only [List.any_cons, List.any_nil, Nat.reduceEqDiff, List.map_cons, List.map_nil, Option.map_some, Option.map_none, List.nil_append, ↓reduceIte, vcu, ↓vcd, opK_some, h4, h5, h6, h7, hx, ha]
    exact ⟨by simp [h4, h5], m - 1, by omega, s ++ c, p' + 1, by congr 1; omega, by simp, by simp; omega, .inr ⟨q, rfl, vq, nq, gq⟩, by omega, by omega, d5⟩
  have hlen : ∃ ad z, v = .slice ad ps.length z := by
    rcases w with ⟨rfl, rfl⟩ | ⟨q, rfl, _⟩
    · exact ⟨none, 0, rfl⟩
    · exact ⟨_, _, rfl⟩
  obtain ⟨ad, zz, rfl⟩ := hlen
  by_cases hm : 0 < m
  all_goals
    have hps : 0 < m → ps.length = 0 := fun hm => by omega
    simp -implicitDefEqProofs (disch := omega) only [List.any_cons, List.any_nil, Nat.reduceEqDiff, List.map_cons, List.map_nil, Option.map_some, Option.map_none, List.nil_append, ↓reduceIte, vcu, ↓vcd, h4, h5, h6, h7]
    refine (pick_at σ τ g h o _ p' 4 d.rd (by omega) (by omega)).mono ?_
    rintro r τ5 ⟨y, rfl, b1, b2, hR, hK⟩
    have d5 := d.step hR hK
    have w5 := w.pick hK
    clear hR hK d w
    by_cases hy : y = 0
    · simp -implicitDefEqProofs (disch := omega) only [List.any_cons, List.any_nil, Nat.reduceEqDiff, List.map_cons, List.map_nil, Option.map_some, Option.map_none, List.nil_append, ↓reduceIte, vcu, ↓vcd, opK_some, h4, h5, h6, hy]
      refine (digits_draw σ τ5 g h o _ (p' + 1) 2 d5.rd (by omega) (by omega)).mono ?_
      rintro r τ6 ⟨c, p6, rfl, cl, e1, e2, ds⟩
      have d6 := d5.on ds
      have w6 := w5.pick ds.kp
      have ha := abin_sadd (P := Try.prog) (t := 9) (xs := s) (ys := c) (by omega)
      simp -implicitDefEqProofs (disch := omega) only [List.any_cons, List.any_nil, Nat.reduceEqDiff, List.map_cons, List.map_nil, Option.map_some, Option.map_none, List.nil_append, ↓reduceIte, vcu, ↓vcd, opK_some, h5, h6, ha]
      refine fin_two Try.results41 ⟨_, ps, s ++ c, ?_, w6.texts, a1, a2, by simp; omega, d6.rd.sub⟩
      simp -implicitDefEqProofs (disch := omega) only [List.any_cons, List.any_nil, Nat.reduceEqDiff, List.map_cons, List.map_nil, Option.map_some, Option.map_none, List.nil_append, ↓reduceIte, vcu, ↓vcd, h5]
    · simp -implicitDefEqProofs (disch := omega) only [List.any_cons, List.any_nil, Nat.reduceEqDiff, List.map_cons, List.map_nil, Option.map_some, Option.map_none, List.nil_append, ↓reduceIte, vcu, ↓vcd, opK_some, h4, h5, h6, hy]
      refine fin_two Try.results41 ⟨_, ps, s, ?_, w5.texts, a1, a2, by omega, d5.rd.sub⟩
      simp -implicitDefEqProofs (disch := omega) only [List.any_cons, List.any_nil, Nat.reduceEqDiff, List.map_cons, List.map_nil, Option.map_some, Option.map_none, List.nil_append, ↓reduceIte, vcu, ↓vcd, h5, h6]
set_option maxRecDepth 8000 in
set_option maxHeartbeats 1000000 in
set_option maxRecDepth 8000 in
theorem drawDialOne_at (σ : AHeap) (h o : Nat) (bs : List Int) (hv : IntsAt .u8 σ h o bs) (hl : bs.length ≤ 1048576) (hb : ∀ b ∈ bs, 0 ≤ b ∧ b ≤ 255) :
    ACall Try.prog w0 38 [.slice (some ⟨h, o, none⟩) bs.length 1] σ fun r σ' => ∃ (v : Value) (ps : List (List UInt8)) (s : List UInt8), r = .tuple #[v, .string (tx s)] ∧ Texts σ' v ps ∧ ps.length ≤ 11 ∧ (∀ t ∈ ps, t.length ≤ 4) ∧ s.length ≤ 30 ∧ Sub σ σ' := by
  refine acall_go mixed Try.func38 rfl good38 fun pr => ?_
  simp -implicitDefEqProofs (disch := omega) only [List.any_cons, List.any_nil, Nat.reduceEqDiff, List.map_cons, List.map_nil, Option.map_some, Option.map_none, List.nil_append, ↓reduceIte, vcu, ↓vcd]
  refine (opened σ h o bs hv hl hb).mono ?_
  rintro r τ2 ⟨g, m0, rfl, hs2, hR⟩
  simp -implicitDefEqProofs (disch := omega) only [List.any_cons, List.any_nil, Nat.reduceEqDiff, List.map_cons, List.map_nil, Option.map_some, Option.map_none, List.nil_append, ↓reduceIte, vcu, ↓vcd, opK_some]
  refine (numbers_draw σ τ2 g h o _ 0 9 hR (by omega) (by omega)).mono ?_
  rintro v τ3 ⟨ps, p3, w, a1, a2, a3, a4, d⟩
  have hlen : ∃ ad z, v = .slice ad ps.length z := by
    rcases w with ⟨rfl, rfl⟩ | ⟨q, rfl, _⟩
    · exact ⟨none, 0, rfl⟩
    · exact ⟨_, _, rfl⟩
  obtain ⟨ad, zz, rfl⟩ := hlen
  have cont : True := trivial
  by_cases hps : 0 < ps.length
  · simp -implicitDefEqProofs (disch := omega) only [List.any_cons, List.any_nil, Nat.reduceEqDiff, List.map_cons, List.map_nil, Option.map_some, Option.map_none, List.nil_append, ↓reduceIte, vcu, ↓vcd, opK_some]
    refine (pick_at σ τ3 g h o _ p3 2 d.rd (by omega) (by omega)).mono ?_
    rintro r τ5 ⟨z, rfl, z1, z2, hR, hK⟩
    replace d := d.step hR hK
    replace w := w.pick hK
    clear hR hK
    obtain ⟨p5, hp5⟩ : ∃ p5, p5 = p3 + 1 := ⟨_, rfl⟩
    rw [← hp5] at d
    by_cases hz : z = 0
    · obtain ⟨q, hq, vq, nq, gq⟩ : ∃ q, (Value.slice ad ps.length zz) = .slice (some ⟨q, 0, none⟩) ps.length 1 ∧ τ5 q = some ⟨texts ps, false⟩ ∧ τ2 q = none ∧ q ≠ g := w.resolve_left fun hh => by rw [hh.2] at hps; simp at hps
      cases hq
      have vq' : (τ5.upd g none) q = some ⟨texts ps, false⟩ := by rw [AHeap.upd_ne _ _ gq]; exact vq
      simp -implicitDefEqProofs (disch := omega) only [List.any_cons, List.any_nil, Nat.reduceEqDiff, List.map_cons, List.map_nil, Option.map_some, Option.map_none, List.nil_append, ↓reduceIte, vcu, ↓vcd, opK_some, hz]
      refine region_tree mixed (quiets [0, 1, 2, 3, 4, 8] (.one 5 (quiets [6] (quiets [7] (.one 9 (quiets [10, 11, 12] .stop)))))) [([7], Sub (τ5.upd g none))] (by kernel_rfl) (by kernel_rfl) (fun p hp => by simp only [List.mem_singleton] at hp; subst hp; exact sub_erase _ _) ?_
      refine tree_quiets (fun _ => none) _ _ _ (fun _ _ _ _ => fun x ob e => by cases e) (by kernel_rfl) (by kernel_rfl) ?_
      simp -implicitDefEqProofs (disch := omega) only [List.any_cons, List.any_nil, Nat.reduceEqDiff, List.map_cons, List.map_nil, Option.map_some, Option.map_none, List.nil_append, ↓reduceIte, vcu, ↓vcd, pickOps_nil, pickOps_cons, pickO_some, List.getElem?_cons_succ, List.getElem?_cons_zero]
      refine tree_one rfl ?_
      simp -implicitDefEqProofs (disch := omega) only [List.any_cons, List.any_nil, Nat.reduceEqDiff, List.map_cons, List.map_nil, Option.map_some, Option.map_none, List.nil_append, ↓reduceIte, vcu, ↓vcd]
      refine (pick_at σ τ5 g h o _ p5 ps.length d.rd (by omega) (by omega)).mono ?_
      rintro r τ6 ⟨y, rfl, b1, b2, hR, hK⟩
      have d6 := d.step hR hK
      have hx := lit_text vq' b1 b2
      have hc4 := getD_len a2 y.toNat
      generalize ps.getD y.toNat [] = c at hx hc4
      simp -implicitDefEqProofs (disch := omega) only [List.any_cons, List.any_nil, Nat.reduceEqDiff, List.map_cons, List.map_nil, Option.map_some, Option.map_none, List.nil_append, ↓reduceIte, vcu, ↓vcd, opK_some]
      refine ⟨keep_of rfl (fun p hp => by simp only [List.mem_singleton] at hp; subst hp; exact .inr (less_keptY hK)), ?_⟩
      refine tree_quiets (fun _ => none) _ _ _ (fun _ _ _ _ => fun x ob e => by cases e) (by kernel_rfl) (by kernel_rfl) ?_
      simp -implicitDefEqProofs (disch := omega) only [List.any_cons, List.any_nil, Nat.reduceEqDiff, List.map_cons, List.map_nil, Option.map_some, Option.map_none, List.nil_append, ↓reduceIte, vcu, ↓vcd, pickOps_nil, pickOps_cons, pickO_some, List.getElem?_cons_succ, List.getElem?_cons_zero]
      refine tree_quiets (τ5.upd g none) _ _ _ sf1 (by kernel_rfl) (by kernel_rfl) ?_
      simp -implicitDefEqProofs (disch := omega) only [List.any_cons, List.any_nil, Nat.reduceEqDiff, List.map_cons, List.map_nil, Option.map_some, Option.map_none, List.nil_append, ↓reduceIte, vcu, ↓vcd, pickOps_nil, pickOps_cons, pickO_some, List.getElem?_cons_succ, List.getElem?_cons_zero, hx]
      refine tree_one rfl ?_
      simp -implicitDefEqProofs (disch := omega) only [List.any_cons, List.any_nil, Nat.reduceEqDiff, List.map_cons, List.map_nil, Option.map_some, Option.map_none, List.nil_append, ↓reduceIte, vcu, ↓vcd]
      refine (digits_draw σ τ6 g h o _ (p5 + 1) 3 d6.rd (by omega) (by omega)).mono ?_
      rintro r τ7 ⟨c2, p7, rfl, cl, e1, e2, ds⟩
      have d7 := d6.on ds
      have w7 := (w.pick hK).pick ds.kp
      have ha := abin_sadd (P := Try.prog) (t := 9) (xs := c) (ys := c2) (by omega)
      simp -implicitDefEqProofs (disch := omega) only [List.any_cons, List.any_nil, Nat.reduceEqDiff, List.map_cons, List.map_nil, Option.map_some, Option.map_none, List.nil_append, ↓reduceIte, vcu, ↓vcd, opK_some]
      refine ⟨keep_of rfl (fun p hp => by simp only [List.mem_singleton] at hp; subst hp; exact .inr (less_keptY (hK.trans ds.kp))), ?_⟩
      refine tree_quiets (fun _ => none) _ _ _ (fun _ _ _ _ => fun x ob e => by cases e) (by kernel_rfl) (by kernel_rfl) ?_
      simp -implicitDefEqProofs (disch := omega) only [List.any_cons, List.any_nil, Nat.reduceEqDiff, List.map_cons, List.map_nil, Option.map_some, Option.map_none, List.nil_append, ↓reduceIte, vcu, ↓vcd, pickOps_nil, pickOps_cons, pickO_some, List.getElem?_cons_succ, List.getElem?_cons_zero, ha]
      refine tree_stop ?_
      simp -implicitDefEqProofs (disch := omega) only [List.any_cons, List.any_nil, Nat.reduceEqDiff, List.map_cons, List.map_nil, Option.map_some, Option.map_none, List.nil_append, ↓reduceIte, vcu, ↓vcd]
      refine fin_two Try.results38 ⟨_, ps, c ++ c2, ?_, w7.texts, a1, a2, by simp; omega, d7.rd.sub⟩
      simp -implicitDefEqProofs (disch := omega) only [List.any_cons, List.any_nil, Nat.reduceEqDiff, List.map_cons, List.map_nil, Option.map_some, Option.map_none, List.nil_append, ↓reduceIte, vcu, ↓vcd]
    · simp -implicitDefEqProofs (disch := omega) only [List.any_cons, List.any_nil, Nat.reduceEqDiff, List.map_cons, List.map_nil, Option.map_some, Option.map_none, List.nil_append, ↓reduceIte, vcu, ↓vcd, opK_some, hz]
      refine region_tree mixed (quiets [0, 1, 4] (.two 2 (.two 3 (.one 5 (quiets [9] (.one 6 (.one 7 (.one 8 (.one 10 .stop)))))) 5 (quiets [9] (.one 3 (.one 6 (.one 7 (.one 8 (.one 10 .stop))))))) 3 (.one 2 (.one 5 (quiets [9] (.one 6 (.one 7 (.one 8 (.one 10 .stop))))))))) [] (by kernel_rfl) (by kernel_rfl) (fun p hp => by cases hp) ?_
      refine tree_quiets (fun _ => none) _ _ _ (fun _ _ _ _ => fun x ob e => by cases e) (by kernel_rfl) (by kernel_rfl) ?_
      simp -implicitDefEqProofs (disch := omega) only [List.any_cons, List.any_nil, Nat.reduceEqDiff, List.map_cons, List.map_nil, Option.map_some, Option.map_none, List.nil_append, ↓reduceIte, vcu, ↓vcd, pickOps_nil, pickOps_cons, pickO_some, List.getElem?_cons_succ, List.getElem?_cons_zero]
      refine tree_two rfl rfl ?_ ?_
      · skip
        simp -implicitDefEqProofs (disch := omega) only [List.any_cons, List.any_nil, Nat.reduceEqDiff, List.map_cons, List.map_nil, Option.map_some, Option.map_none, List.nil_append, ↓reduceIte, vcu, ↓vcd]
        refine (digits_draw σ τ5 g h o _ p5 5 d.rd (by omega) (by omega)).mono ?_
        rintro r τd ⟨c, pd, rfl, cl, e1, e2, ds⟩
        replace w := w.pick ds.kp
        replace d := d.on ds
        clear ds
        simp -implicitDefEqProofs (disch := omega) only [List.any_cons, List.any_nil, Nat.reduceEqDiff, List.map_cons, List.map_nil, Option.map_some, Option.map_none, List.nil_append, ↓reduceIte, vcu, ↓vcd, opK_some]
        refine ⟨keep_of rfl (fun p hp => by cases hp), tree_two rfl rfl ?_ ?_⟩
        · skip
          refine r_lit el27 (out := #[.string (tx []), .string (tx []), .string (tx []), .string (tx [53])]) (by simp -implicitDefEqProofs (disch := omega) only [List.any_cons, List.any_nil, Nat.reduceEqDiff, List.map_cons, List.map_nil, Option.map_some, Option.map_none, List.nil_append, ↓reduceIte, vcu, ↓vcd]; kernel_rfl) (by kernel_rfl) fun e τe ne se ve => ?_
          replace ve : τe e = some ⟨texts [[], [], [], [53]], false⟩ := ve
          have ge := (d.fresh ne).2
          replace w := w.sub se
          replace d := d.new se
          clear se ne
          simp -implicitDefEqProofs (disch := omega) only [List.any_cons, List.any_nil, Nat.reduceEqDiff, List.map_cons, List.map_nil, Option.map_some, Option.map_none, List.nil_append, ↓reduceIte, vcu, ↓vcd]
          refine ⟨keep_of rfl (fun p hp => by cases hp), tree_one rfl ?_⟩
          simp -implicitDefEqProofs (disch := omega) only [List.any_cons, List.any_nil, Nat.reduceEqDiff, List.map_cons, List.map_nil, Option.map_some, Option.map_none, List.nil_append, ↓reduceIte, vcu, ↓vcd]
          refine (pick_at σ τe g h o _ pd 4 d.rd (by omega) (by omega)).mono ?_
          rintro r τp ⟨u, rfl, u1, u2, hR, hK⟩
          replace w := w.pick hK
          replace ve := hK.at ve ge
          replace d := d.step hR hK
          clear hR hK
          simp -implicitDefEqProofs (disch := omega) only [List.any_cons, List.any_nil, Nat.reduceEqDiff, List.map_cons, List.map_nil, Option.map_some, Option.map_none, List.nil_append, ↓reduceIte, vcu, ↓vcd, opK_some]
          have hu := lit_text ve u1 (by simpa using u2)
          have hc1 : ([[], [], [], [53]].getD u.toNat [] : List UInt8).length ≤ 1 := getD_len (by decide) _
          generalize ([[], [], [], [53]].getD u.toNat [] : List UInt8) = c2 at hu hc1
          have ha := abin_sadd (P := Try.prog) (t := 9) (xs := c) (ys := c2) (by omega)
          refine ⟨keep_of rfl (fun p hp => by cases hp), ?_⟩
          refine tree_quiets (fun _ => none) _ _ _ (fun _ _ _ _ => fun x ob e => by cases e) (by kernel_rfl) (by kernel_rfl) ?_
          simp -implicitDefEqProofs (disch := omega) only [List.any_cons, List.any_nil, Nat.reduceEqDiff, List.map_cons, List.map_nil, Option.map_some, Option.map_none, List.nil_append, ↓reduceIte, vcu, ↓vcd, pickOps_nil, pickOps_cons, pickO_some, List.getElem?_cons_succ, List.getElem?_cons_zero]
          refine tree_one rfl ?_
          simp -implicitDefEqProofs (disch := omega) only [List.any_cons, List.any_nil, Nat.reduceEqDiff, List.map_cons, List.map_nil, Option.map_some, Option.map_none, List.nil_append, ↓reduceIte, vcu, ↓vcd]
          refine ⟨keep_of rfl (fun p hp => by cases hp), tree_one rfl ?_⟩
          simp -implicitDefEqProofs (disch := omega) only [List.any_cons, List.any_nil, Nat.reduceEqDiff, List.map_cons, List.map_nil, Option.map_some, Option.map_none, List.nil_append, ↓reduceIte, vcu, ↓vcd, hu]
          refine ⟨keep_of rfl (fun p hp => by cases hp), tree_one rfl ?_⟩
          simp -implicitDefEqProofs (disch := omega) only [List.any_cons, List.any_nil, Nat.reduceEqDiff, List.map_cons, List.map_nil, Option.map_some, Option.map_none, List.nil_append, ↓reduceIte, vcu, ↓vcd, ha]
          refine ⟨keep_of rfl (fun p hp => by cases hp), tree_one rfl ?_⟩
          simp -implicitDefEqProofs (disch := omega) only [List.any_cons, List.any_nil, Nat.reduceEqDiff, List.map_cons, List.map_nil, Option.map_some, Option.map_none, List.nil_append, ↓reduceIte, vcu, ↓vcd]
          refine ⟨keep_of rfl (fun p hp => by cases hp), tree_stop ?_⟩
          simp -implicitDefEqProofs (disch := omega) only [List.any_cons, List.any_nil, Nat.reduceEqDiff, List.map_cons, List.map_nil, Option.map_some, Option.map_none, List.nil_append, ↓reduceIte, vcu, ↓vcd]
          refine fin_two Try.results38 ⟨_, ps, c ++ c2, ?_, w.texts, a1, a2, by simp; omega, d.rd.sub⟩
          simp -implicitDefEqProofs (disch := omega) only [List.any_cons, List.any_nil, Nat.reduceEqDiff, List.map_cons, List.map_nil, Option.map_some, Option.map_none, List.nil_append, ↓reduceIte, vcu, ↓vcd]
        · skip
          simp -implicitDefEqProofs (disch := omega) only [List.any_cons, List.any_nil, Nat.reduceEqDiff, List.map_cons, List.map_nil, Option.map_some, Option.map_none, List.nil_append, ↓reduceIte, vcu, ↓vcd]
          refine (pick_at σ τd g h o _ pd 4 d.rd (by omega) (by omega)).mono ?_
          rintro r τp ⟨u, rfl, u1, u2, hR, hK⟩
          replace w := w.pick hK
          replace d := d.step hR hK
          clear hR hK
          simp -implicitDefEqProofs (disch := omega) only [List.any_cons, List.any_nil, Nat.reduceEqDiff, List.map_cons, List.map_nil, Option.map_some, Option.map_none, List.nil_append, ↓reduceIte, vcu, ↓vcd, opK_some]
          refine ⟨keep_of rfl (fun p hp => by cases hp), ?_⟩
          refine tree_quiets (fun _ => none) _ _ _ (fun _ _ _ _ => fun x ob e => by cases e) (by kernel_rfl) (by kernel_rfl) ?_
          simp -implicitDefEqProofs (disch := omega) only [List.any_cons, List.any_nil, Nat.reduceEqDiff, List.map_cons, List.map_nil, Option.map_some, Option.map_none, List.nil_append, ↓reduceIte, vcu, ↓vcd, pickOps_nil, pickOps_cons, pickO_some, List.getElem?_cons_succ, List.getElem?_cons_zero]
          refine tree_one rfl ?_
          refine r_lit el27 (out := #[.string (tx []), .string (tx []), .string (tx []), .string (tx [53])]) (by simp -implicitDefEqProofs (disch := omega) only [List.any_cons, List.any_nil, Nat.reduceEqDiff, List.map_cons, List.map_nil, Option.map_some, Option.map_none, List.nil_append, ↓reduceIte, vcu, ↓vcd]; kernel_rfl) (by kernel_rfl) fun e τe ne se ve => ?_
          replace ve : τe e = some ⟨texts [[], [], [], [53]], false⟩ := ve
          have ge := (d.fresh ne).2
          replace w := w.sub se
          replace d := d.new se
          clear se ne
          simp -implicitDefEqProofs (disch := omega) only [List.any_cons, List.any_nil, Nat.reduceEqDiff, List.map_cons, List.map_nil, Option.map_some, Option.map_none, List.nil_append, ↓reduceIte, vcu, ↓vcd]
          have hu := lit_text ve u1 (by simpa using u2)
          have hc1 : ([[], [], [], [53]].getD u.toNat [] : List UInt8).length ≤ 1 := getD_len (by decide) _
          generalize ([[], [], [], [53]].getD u.toNat [] : List UInt8) = c2 at hu hc1
          have ha := abin_sadd (P := Try.prog) (t := 9) (xs := c) (ys := c2) (by omega)
          refine ⟨keep_of rfl (fun p hp => by cases hp), tree_one rfl ?_⟩
          simp -implicitDefEqProofs (disch := omega) only [List.any_cons, List.any_nil, Nat.reduceEqDiff, List.map_cons, List.map_nil, Option.map_some, Option.map_none, List.nil_append, ↓reduceIte, vcu, ↓vcd]
          refine ⟨keep_of rfl (fun p hp => by cases hp), tree_one rfl ?_⟩
          simp -implicitDefEqProofs (disch := omega) only [List.any_cons, List.any_nil, Nat.reduceEqDiff, List.map_cons, List.map_nil, Option.map_some, Option.map_none, List.nil_append, ↓reduceIte, vcu, ↓vcd, hu]
          refine ⟨keep_of rfl (fun p hp => by cases hp), tree_one rfl ?_⟩
          simp -implicitDefEqProofs (disch := omega) only [List.any_cons, List.any_nil, Nat.reduceEqDiff, List.map_cons, List.map_nil, Option.map_some, Option.map_none, List.nil_append, ↓reduceIte, vcu, ↓vcd, ha]
          refine ⟨keep_of rfl (fun p hp => by cases hp), tree_one rfl ?_⟩
          simp -implicitDefEqProofs (disch := omega) only [List.any_cons, List.any_nil, Nat.reduceEqDiff, List.map_cons, List.map_nil, Option.map_some, Option.map_none, List.nil_append, ↓reduceIte, vcu, ↓vcd]
          refine ⟨keep_of rfl (fun p hp => by cases hp), tree_stop ?_⟩
          simp -implicitDefEqProofs (disch := omega) only [List.any_cons, List.any_nil, Nat.reduceEqDiff, List.map_cons, List.map_nil, Option.map_some, Option.map_none, List.nil_append, ↓reduceIte, vcu, ↓vcd]
          refine fin_two Try.results38 ⟨_, ps, c ++ c2, ?_, w.texts, a1, a2, by simp; omega, d.rd.sub⟩
          simp -implicitDefEqProofs (disch := omega) only [List.any_cons, List.any_nil, Nat.reduceEqDiff, List.map_cons, List.map_nil, Option.map_some, Option.map_none, List.nil_append, ↓reduceIte, vcu, ↓vcd]
      · skip
        refine r_lit el27 (out := #[.string (tx []), .string (tx []), .string (tx []), .string (tx [53])]) (by simp -implicitDefEqProofs (disch := omega) only [List.any_cons, List.any_nil, Nat.reduceEqDiff, List.map_cons, List.map_nil, Option.map_some, Option.map_none, List.nil_append, ↓reduceIte, vcu, ↓vcd]; kernel_rfl) (by kernel_rfl) fun e τe ne se ve => ?_
        replace ve : τe e = some ⟨texts [[], [], [], [53]], false⟩ := ve
        have ge := (d.fresh ne).2
        replace w := w.sub se
        replace d := d.new se
        clear se ne
        simp -implicitDefEqProofs (disch := omega) only [List.any_cons, List.any_nil, Nat.reduceEqDiff, List.map_cons, List.map_nil, Option.map_some, Option.map_none, List.nil_append, ↓reduceIte, vcu, ↓vcd]
        refine ⟨keep_of rfl (fun p hp => by cases hp), tree_one rfl ?_⟩
        simp -implicitDefEqProofs (disch := omega) only [List.any_cons, List.any_nil, Nat.reduceEqDiff, List.map_cons, List.map_nil, Option.map_some, Option.map_none, List.nil_append, ↓reduceIte, vcu, ↓vcd]
        refine (digits_draw σ τe g h o _ p5 5 d.rd (by omega) (by omega)).mono ?_
        rintro r τd ⟨c, pd, rfl, cl, e1, e2, ds⟩
        replace w := w.pick ds.kp
        replace ve := ds.kp.at ve ge
        replace d := d.on ds
        clear ds
        simp -implicitDefEqProofs (disch := omega) only [List.any_cons, List.any_nil, Nat.reduceEqDiff, List.map_cons, List.map_nil, Option.map_some, Option.map_none, List.nil_append, ↓reduceIte, vcu, ↓vcd, opK_some]
        refine ⟨keep_of rfl (fun p hp => by cases hp), tree_one rfl ?_⟩
        simp -implicitDefEqProofs (disch := omega) only [List.any_cons, List.any_nil, Nat.reduceEqDiff, List.map_cons, List.map_nil, Option.map_some, Option.map_none, List.nil_append, ↓reduceIte, vcu, ↓vcd]
        refine (pick_at σ τd g h o _ pd 4 d.rd (by omega) (by omega)).mono ?_
        rintro r τp ⟨u, rfl, u1, u2, hR, hK⟩
        replace w := w.pick hK
        replace ve := hK.at ve ge
        replace d := d.step hR hK
        clear hR hK
        simp -implicitDefEqProofs (disch := omega) only [List.any_cons, List.any_nil, Nat.reduceEqDiff, List.map_cons, List.map_nil, Option.map_some, Option.map_none, List.nil_append, ↓reduceIte, vcu, ↓vcd, opK_some]
        have hu := lit_text ve u1 (by simpa using u2)
        have hc1 : ([[], [], [], [53]].getD u.toNat [] : List UInt8).length ≤ 1 := getD_len (by decide) _
        generalize ([[], [], [], [53]].getD u.toNat [] : List UInt8) = c2 at hu hc1
        have ha := abin_sadd (P := Try.prog) (t := 9) (xs := c) (ys := c2) (by omega)
        refine ⟨keep_of rfl (fun p hp => by cases hp), ?_⟩
        refine tree_quiets (fun _ => none) _ _ _ (fun _ _ _ _ => fun x ob e => by cases e) (by kernel_rfl) (by kernel_rfl) ?_
        simp -implicitDefEqProofs (disch := omega) only [List.any_cons, List.any_nil, Nat.reduceEqDiff, List.map_cons, List.map_nil, Option.map_some, Option.map_none, List.nil_append, ↓reduceIte, vcu, ↓vcd, pickOps_nil, pickOps_cons, pickO_some, List.getElem?_cons_succ, List.getElem?_cons_zero]
        refine tree_one rfl ?_
        simp -implicitDefEqProofs (disch := omega) only [List.any_cons, List.any_nil, Nat.reduceEqDiff, List.map_cons, List.map_nil, Option.map_some, Option.map_none, List.nil_append, ↓reduceIte, vcu, ↓vcd]
        refine ⟨keep_of rfl (fun p hp => by cases hp), tree_one rfl ?_⟩
        simp -implicitDefEqProofs (disch := omega) only [List.any_cons, List.any_nil, Nat.reduceEqDiff, List.map_cons, List.map_nil, Option.map_some, Option.map_none, List.nil_append, ↓reduceIte, vcu, ↓vcd, hu]
        refine ⟨keep_of rfl (fun p hp => by cases hp), tree_one rfl ?_⟩
        simp -implicitDefEqProofs (disch := omega) only [List.any_cons, List.any_nil, Nat.reduceEqDiff, List.map_cons, List.map_nil, Option.map_some, Option.map_none, List.nil_append, ↓reduceIte, vcu, ↓vcd, ha]
        refine ⟨keep_of rfl (fun p hp => by cases hp), tree_one rfl ?_⟩
        simp -implicitDefEqProofs (disch := omega) only [List.any_cons, List.any_nil, Nat.reduceEqDiff, List.map_cons, List.map_nil, Option.map_some, Option.map_none, List.nil_append, ↓reduceIte, vcu, ↓vcd]
        refine ⟨keep_of rfl (fun p hp => by cases hp), tree_stop ?_⟩
        simp -implicitDefEqProofs (disch := omega) only [List.any_cons, List.any_nil, Nat.reduceEqDiff, List.map_cons, List.map_nil, Option.map_some, Option.map_none, List.nil_append, ↓reduceIte, vcu, ↓vcd]
        refine fin_two Try.results38 ⟨_, ps, c ++ c2, ?_, w.texts, a1, a2, by simp; omega, d.rd.sub⟩
        simp -implicitDefEqProofs (disch := omega) only [List.any_cons, List.any_nil, Nat.reduceEqDiff, List.map_cons, List.map_nil, Option.map_some, Option.map_none, List.nil_append, ↓reduceIte, vcu, ↓vcd]
  · simp -implicitDefEqProofs (disch := omega) only [List.any_cons, List.any_nil, Nat.reduceEqDiff, List.map_cons, List.map_nil, Option.map_some, Option.map_none, List.nil_append, ↓reduceIte, vcu, ↓vcd, opK_some]
    obtain ⟨p5, hp5⟩ : ∃ p5, p5 = p3 := ⟨_, rfl⟩
    rw [← hp5] at d
    obtain ⟨τ5, hτ⟩ : ∃ τ5, τ5 = τ3 := ⟨_, rfl⟩
    subst hτ
    refine region_tree mixed (quiets [0, 1, 4] (.two 2 (.two 3 (.one 5 (quiets [9] (.one 6 (.one 7 (.one 8 (.one 10 .stop)))))) 5 (quiets [9] (.one 3 (.one 6 (.one 7 (.one 8 (.one 10 .stop))))))) 3 (.one 2 (.one 5 (quiets [9] (.one 6 (.one 7 (.one 8 (.one 10 .stop))))))))) [] (by kernel_rfl) (by kernel_rfl) (fun p hp => by cases hp) ?_
    refine tree_quiets (fun _ => none) _ _ _ (fun _ _ _ _ => fun x ob e => by cases e) (by kernel_rfl) (by kernel_rfl) ?_
    simp -implicitDefEqProofs (disch := omega) only [List.any_cons, List.any_nil, Nat.reduceEqDiff, List.map_cons, List.map_nil, Option.map_some, Option.map_none, List.nil_append, ↓reduceIte, vcu, ↓vcd, pickOps_nil, pickOps_cons, pickO_some, List.getElem?_cons_succ, List.getElem?_cons_zero]
    refine tree_two rfl rfl ?_ ?_
    · skip
      simp -implicitDefEqProofs (disch := omega) only [List.any_cons, List.any_nil, Nat.reduceEqDiff, List.map_cons, List.map_nil, Option.map_some, Option.map_none, List.nil_append, ↓reduceIte, vcu, ↓vcd]
      refine (digits_draw σ τ5 g h o _ p5 5 d.rd (by omega) (by omega)).mono ?_
      rintro r τd ⟨c, pd, rfl, cl, e1, e2, ds⟩
      replace w := w.pick ds.kp
      replace d := d.on ds
      clear ds
      simp -implicitDefEqProofs (disch := omega) only [List.any_cons, List.any_nil, Nat.reduceEqDiff, List.map_cons, List.map_nil, Option.map_some, Option.map_none, List.nil_append, ↓reduceIte, vcu, ↓vcd, opK_some]
      refine ⟨keep_of rfl (fun p hp => by cases hp), tree_two rfl rfl ?_ ?_⟩
      · skip
        refine r_lit el27 (out := #[.string (tx []), .string (tx []), .string (tx []), .string (tx [53])]) (by simp -implicitDefEqProofs (disch := omega) only [List.any_cons, List.any_nil, Nat.reduceEqDiff, List.map_cons, List.map_nil, Option.map_some, Option.map_none, List.nil_append, ↓reduceIte, vcu, ↓vcd]; kernel_rfl) (by kernel_rfl) fun e τe ne se ve => ?_
        replace ve : τe e = some ⟨texts [[], [], [], [53]], false⟩ := ve
        have ge := (d.fresh ne).2
        replace w := w.sub se
        replace d := d.new se
        clear se ne
        simp -implicitDefEqProofs (disch := omega) only [List.any_cons, List.any_nil, Nat.reduceEqDiff, List.map_cons, List.map_nil, Option.map_some, Option.map_none, List.nil_append, ↓reduceIte, vcu, ↓vcd]
        refine ⟨keep_of rfl (fun p hp => by cases hp), tree_one rfl ?_⟩
        simp -implicitDefEqProofs (disch := omega) only [List.any_cons, List.any_nil, Nat.reduceEqDiff, List.map_cons, List.map_nil, Option.map_some, Option.map_none, List.nil_append, ↓reduceIte, vcu, ↓vcd]
        refine (pick_at σ τe g h o _ pd 4 d.rd (by omega) (by omega)).mono ?_
        rintro r τp ⟨u, rfl, u1, u2, hR, hK⟩
        replace w := w.pick hK
        replace ve := hK.at ve ge
        replace d := d.step hR hK
        clear hR hK
        simp -implicitDefEqProofs (disch := omega) only [List.any_cons, List.any_nil, Nat.reduceEqDiff, List.map_cons, List.map_nil, Option.map_some, Option.map_none, List.nil_append, ↓reduceIte, vcu, ↓vcd, opK_some]
        have hu := lit_text ve u1 (by simpa using u2)
        have hc1 : ([[], [], [], [53]].getD u.toNat [] : List UInt8).length ≤ 1 := getD_len (by decide) _
        generalize ([[], [], [], [53]].getD u.toNat [] : List UInt8) = c2 at hu hc1
        have ha := abin_sadd (P := Try.prog) (t := 9) (xs := c) (ys := c2) (by omega)
        refine ⟨keep_of rfl (fun p hp => by cases hp), ?_⟩
        refine tree_quiets (fun _ => none) _ _ _ (fun _ _ _ _ => fun x ob e => by cases e) (by kernel_rfl) (by kernel_rfl) ?_
        simp -implicitDefEqProofs (disch := omega) only [List.any_cons, List.any_nil, Nat.reduceEqDiff, List.map_cons, List.map_nil, Option.map_some, Option.map_none, List.nil_append, ↓reduceIte, vcu, ↓vcd, pickOps_nil, pickOps_cons, pickO_some, List.getElem?_cons_succ, List.getElem?_cons_zero]
        refine tree_one rfl ?_
        simp -implicitDefEqProofs (disch := omega) only [List.any_cons, List.any_nil, Nat.reduceEqDiff, List.map_cons, List.map_nil, Option.map_some, Option.map_none, List.nil_append, ↓reduceIte, vcu, ↓vcd]
        refine ⟨keep_of rfl (fun p hp => by cases hp), tree_one rfl ?_⟩
        simp -implicitDefEqProofs (disch := omega) only [List.any_cons, List.any_nil, Nat.reduceEqDiff, List.map_cons, List.map_nil, Option.map_some, Option.map_none, List.nil_append, ↓reduceIte, vcu, ↓vcd, hu]
        refine ⟨keep_of rfl (fun p hp => by cases hp), tree_one rfl ?_⟩
        simp -implicitDefEqProofs (disch := omega) only [List.any_cons, List.any_nil, Nat.reduceEqDiff, List.map_cons, List.map_nil, Option.map_some, Option.map_none, List.nil_append, ↓reduceIte, vcu, ↓vcd, ha]
        refine ⟨keep_of rfl (fun p hp => by cases hp), tree_one rfl ?_⟩
        simp -implicitDefEqProofs (disch := omega) only [List.any_cons, List.any_nil, Nat.reduceEqDiff, List.map_cons, List.map_nil, Option.map_some, Option.map_none, List.nil_append, ↓reduceIte, vcu, ↓vcd]
        refine ⟨keep_of rfl (fun p hp => by cases hp), tree_stop ?_⟩
        simp -implicitDefEqProofs (disch := omega) only [List.any_cons, List.any_nil, Nat.reduceEqDiff, List.map_cons, List.map_nil, Option.map_some, Option.map_none, List.nil_append, ↓reduceIte, vcu, ↓vcd]
        refine fin_two Try.results38 ⟨_, ps, c ++ c2, ?_, w.texts, a1, a2, by simp; omega, d.rd.sub⟩
        simp -implicitDefEqProofs (disch := omega) only [List.any_cons, List.any_nil, Nat.reduceEqDiff, List.map_cons, List.map_nil, Option.map_some, Option.map_none, List.nil_append, ↓reduceIte, vcu, ↓vcd]
      · skip
        simp -implicitDefEqProofs (disch := omega) only [List.any_cons, List.any_nil, Nat.reduceEqDiff, List.map_cons, List.map_nil, Option.map_some, Option.map_none, List.nil_append, ↓reduceIte, vcu, ↓vcd]
        refine (pick_at σ τd g h o _ pd 4 d.rd (by omega) (by omega)).mono ?_
        rintro r τp ⟨u, rfl, u1, u2, hR, hK⟩
        replace w := w.pick hK
        replace d := d.step hR hK
        clear hR hK
        simp -implicitDefEqProofs (disch := omega) only [List.any_cons, List.any_nil, Nat.reduceEqDiff, List.map_cons, List.map_nil, Option.map_some, Option.map_none, List.nil_append, ↓reduceIte, vcu, ↓vcd, opK_some]
        refine ⟨keep_of rfl (fun p hp => by cases hp), ?_⟩
        refine tree_quiets (fun _ => none) _ _ _ (fun _ _ _ _ => fun x ob e => by cases e) (by kernel_rfl) (by kernel_rfl) ?_
        simp -implicitDefEqProofs (disch := omega) only [List.any_cons, List.any_nil, Nat.reduceEqDiff, List.map_cons, List.map_nil, Option.map_some, Option.map_none, List.nil_append, ↓reduceIte, vcu, ↓vcd, pickOps_nil, pickOps_cons, pickO_some, List.getElem?_cons_succ, List.getElem?_cons_zero]
        refine tree_one rfl ?_
        refine r_lit el27 (out := #[.string (tx []), .string (tx []), .string (tx []), .string (tx [53])]) (by simp -implicitDefEqProofs (disch := omega) only [List.any_cons, List.any_nil, Nat.reduceEqDiff, List.map_cons, List.map_nil, Option.map_some, Option.map_none, List.nil_append, ↓reduceIte, vcu, ↓vcd]; kernel_rfl) (by kernel_rfl) fun e τe ne se ve => ?_
        replace ve : τe e = some ⟨texts [[], [], [], [53]], false⟩ := ve
        have ge := (d.fresh ne).2
        replace w := w.sub se
        replace d := d.new se
        clear se ne
        simp -implicitDefEqProofs (disch := omega) only [List.any_cons, List.any_nil, Nat.reduceEqDiff, List.map_cons, List.map_nil, Option.map_some, Option.map_none, List.nil_append, ↓reduceIte, vcu, ↓vcd]
        have hu := lit_text ve u1 (by simpa using u2)
        have hc1 : ([[], [], [], [53]].getD u.toNat [] : List UInt8).length ≤ 1 := getD_len (by decide) _
        generalize ([[], [], [], [53]].getD u.toNat [] : List UInt8) = c2 at hu hc1
        have ha := abin_sadd (P := Try.prog) (t := 9) (xs := c) (ys := c2) (by omega)
        refine ⟨keep_of rfl (fun p hp => by cases hp), tree_one rfl ?_⟩
        simp -implicitDefEqProofs (disch := omega) only [List.any_cons, List.any_nil, Nat.reduceEqDiff, List.map_cons, List.map_nil, Option.map_some, Option.map_none, List.nil_append, ↓reduceIte, vcu, ↓vcd]
        refine ⟨keep_of rfl (fun p hp => by cases hp), tree_one rfl ?_⟩
        simp -implicitDefEqProofs (disch := omega) only [List.any_cons, List.any_nil, Nat.reduceEqDiff, List.map_cons, List.map_nil, Option.map_some, Option.map_none, List.nil_append, ↓reduceIte, vcu, ↓vcd, hu]
        refine ⟨keep_of rfl (fun p hp => by cases hp), tree_one rfl ?_⟩
        simp -implicitDefEqProofs (disch := omega) only [List.any_cons, List.any_nil, Nat.reduceEqDiff, List.map_cons, List.map_nil, Option.map_some, Option.map_none, List.nil_append, ↓reduceIte, vcu, ↓vcd, ha]
        refine ⟨keep_of rfl (fun p hp => by cases hp), tree_one rfl ?_⟩
        simp -implicitDefEqProofs (disch := omega) only [List.any_cons, List.any_nil, Nat.reduceEqDiff, List.map_cons, List.map_nil, Option.map_some, Option.map_none, List.nil_append, ↓reduceIte, vcu, ↓vcd]
        refine ⟨keep_of rfl (fun p hp => by cases hp), tree_stop ?_⟩
        simp -implicitDefEqProofs (disch := omega) only [List.any_cons, List.any_nil, Nat.reduceEqDiff, List.map_cons, List.map_nil, Option.map_some, Option.map_none, List.nil_append, ↓reduceIte, vcu, ↓vcd]
        refine fin_two Try.results38 ⟨_, ps, c ++ c2, ?_, w.texts, a1, a2, by simp; omega, d.rd.sub⟩
        simp -implicitDefEqProofs (disch := omega) only [List.any_cons, List.any_nil, Nat.reduceEqDiff, List.map_cons, List.map_nil, Option.map_some, Option.map_none, List.nil_append, ↓reduceIte, vcu, ↓vcd]
    · skip
      refine r_lit el27 (out := #[.string (tx []), .string (tx []), .string (tx []), .string (tx [53])]) (by simp -implicitDefEqProofs (disch := omega) only [List.any_cons, List.any_nil, Nat.reduceEqDiff, List.map_cons, List.map_nil, Option.map_some, Option.map_none, List.nil_append, ↓reduceIte, vcu, ↓vcd]; kernel_rfl) (by kernel_rfl) fun e τe ne se ve => ?_
      replace ve : τe e = some ⟨texts [[], [], [], [53]], false⟩ := ve
      have ge := (d.fresh ne).2
      replace w := w.sub se
      replace d := d.new se
      clear se ne
      simp -implicitDefEqProofs (disch := omega) only [List.any_cons, List.any_nil, Nat.reduceEqDiff, List.map_cons, List.map_nil, Option.map_some, Option.map_none, List.nil_append, ↓reduceIte, vcu, ↓vcd]
      refine ⟨keep_of rfl (fun p hp => by cases hp), tree_one rfl ?_⟩
      simp -implicitDefEqProofs (disch := omega) only [List.any_cons, List.any_nil, Nat.reduceEqDiff, List.map_cons, List.map_nil, Option.map_some, Option.map_none, List.nil_append, ↓reduceIte, vcu, ↓vcd]
      refine (digits_draw σ τe g h o _ p5 5 d.rd (by omega) (by omega)).mono ?_
      rintro r τd ⟨c, pd, rfl, cl, e1, e2, ds⟩
      replace w := w.pick ds.kp
      replace ve := ds.kp.at ve ge
      replace d := d.on ds
      clear ds
      simp -implicitDefEqProofs (disch := omega) only [List.any_cons, List.any_nil, Nat.reduceEqDiff, List.map_cons, List.map_nil, Option.map_some, Option.map_none, List.nil_append, ↓reduceIte, vcu, ↓vcd, opK_some]
      refine ⟨keep_of rfl (fun p hp => by cases hp), tree_one rfl ?_⟩
      simp -implicitDefEqProofs (disch := omega) only [List.any_cons, List.any_nil, Nat.reduceEqDiff, List.map_cons, List.map_nil, Option.map_some, Option.map_none, List.nil_append, ↓reduceIte, vcu, ↓vcd]
      refine (pick_at σ τd g h o _ pd 4 d.rd (by omega) (by omega)).mono ?_
      rintro r τp ⟨u, rfl, u1, u2, hR, hK⟩
      replace w := w.pick hK
      replace ve := hK.at ve ge
      replace d := d.step hR hK
      clear hR hK
      simp -implicitDefEqProofs (disch := omega) only [List.any_cons, List.any_nil, Nat.reduceEqDiff, List.map_cons, List.map_nil, Option.map_some, Option.map_none, List.nil_append, ↓reduceIte, vcu, ↓vcd, opK_some]
      have hu := lit_text ve u1 (by simpa using u2)
      have hc1 : ([[], [], [], [53]].getD u.toNat [] : List UInt8).length ≤ 1 := getD_len (by decide) _
      generalize ([[], [], [], [53]].getD u.toNat [] : List UInt8) = c2 at hu hc1
      have ha := abin_sadd (P := Try.prog) (t := 9) (xs := c) (ys := c2) (by omega)
      refine ⟨keep_of rfl (fun p hp => by cases hp), ?_⟩
      refine tree_quiets (fun _ => none) _ _ _ (fun _ _ _ _ => fun x ob e => by cases e) (by kernel_rfl) (by kernel_rfl) ?_
      simp -implicitDefEqProofs (disch := omega) only [List.any_cons, List.any_nil, Nat.reduceEqDiff, List.map_cons, List.map_nil, Option.map_some, Option.map_none, List.nil_append, ↓reduceIte, vcu, ↓vcd, pickOps_nil, pickOps_cons, pickO_some, List.getElem?_cons_succ, List.getElem?_cons_zero]
      refine tree_one rfl ?_
      simp -implicitDefEqProofs (disch := omega) only [List.any_cons, List.any_nil, Nat.reduceEqDiff, List.map_cons, List.map_nil, Option.map_some, Option.map_none, List.nil_append, ↓reduceIte, vcu, ↓vcd]
      refine ⟨keep_of rfl (fun p hp => by cases hp), tree_one rfl ?_⟩
      simp -implicitDefEqProofs (disch := omega) only [List.any_cons, List.any_nil, Nat.reduceEqDiff, List.map_cons, List.map_nil, Option.map_some, Option.map_none, List.nil_append, ↓reduceIte, vcu, ↓vcd, hu]
      refine ⟨keep_of rfl (fun p hp => by cases hp), tree_one rfl ?_⟩
      simp -implicitDefEqProofs (disch := omega) only [List.any_cons, List.any_nil, Nat.reduceEqDiff, List.map_cons, List.map_nil, Option.map_some, Option.map_none, List.nil_append, ↓reduceIte, vcu, ↓vcd, ha]
      refine ⟨keep_of rfl (fun p hp => by cases hp), tree_one rfl ?_⟩
      simp -implicitDefEqProofs (disch := omega) only [List.any_cons, List.any_nil, Nat.reduceEqDiff, List.map_cons, List.map_nil, Option.map_some, Option.map_none, List.nil_append, ↓reduceIte, vcu, ↓vcd]
      refine ⟨keep_of rfl (fun p hp => by cases hp), tree_stop ?_⟩
      simp -implicitDefEqProofs (disch := omega) only [List.any_cons, List.any_nil, Nat.reduceEqDiff, List.map_cons, List.map_nil, Option.map_some, Option.map_none, List.nil_append, ↓reduceIte, vcu, ↓vcd]
      refine fin_two Try.results38 ⟨_, ps, c ++ c2, ?_, w.texts, a1, a2, by simp; omega, d.rd.sub⟩
      simp -implicitDefEqProofs (disch := omega) only [List.any_cons, List.any_nil, Nat.reduceEqDiff, List.map_cons, List.map_nil, Option.map_some, Option.map_none, List.nil_append, ↓reduceIte, vcu, ↓vcd]
end Go.Proofs.Ytnenopebfobajaa

namespace Go.Proofs.Ytnenopebfobajaa
open Go Go.Abs Go.RowKit Go.Dial
variable {w0 : World}

set_option maxRecDepth 8000 in
set_option maxHeartbeats 1000000 in
set_option maxRecDepth 8000 in
theorem drawRouteOf_at (σ : AHeap) (h o : Nat) (bs : List Int) (hv : IntsAt .u8 σ h o bs) (hl : bs.length ≤ 1048576) (hb : ∀ b ∈ bs, 0 ≤ b ∧ b ≤ 255) :
    ACall Try.prog w0 57 [.slice (some ⟨h, o, none⟩) bs.length 1] σ fun r σ' => ∃ (v : Value) (cs : List Rt) (s : List UInt8), r = .tuple #[v, .string (tx s)] ∧ Ruts σ' v cs ∧ cs.length ≤ 9 ∧ (∀ c ∈ cs, c.b.length ≤ 3) ∧ s.length ≤ 30 ∧ Sub σ σ' := by
  refine acall_go mixed Try.func57 rfl good57 fun pr => ?_
  simp -implicitDefEqProofs (disch := omega) only [List.any_cons, List.any_nil, Nat.reduceEqDiff, List.map_cons, List.map_nil, Option.map_some, Option.map_none, List.nil_append, ↓reduceIte, vcu, ↓vcd]
  refine (opened σ h o bs hv hl hb).mono ?_
  rintro r τ2 ⟨g, m0, rfl, hs2, hR⟩
  simp -implicitDefEqProofs (disch := omega) only [List.any_cons, List.any_nil, Nat.reduceEqDiff, List.map_cons, List.map_nil, Option.map_some, Option.map_none, List.nil_append, ↓reduceIte, vcu, ↓vcd, opK_some]
  refine region_tree mixed (quiets [0, 2, 5] (.two 1 (.two 3 (.two 4 (.one 6 (quiets [10] (.one 7 (.one 8 (.one 9 (.one 11 .stop)))))) 6 (quiets [10] (.one 4 (.one 7 (.one 8 (.one 9 (.one 11 .stop))))))) 4 (.one 3 (.one 6 (quiets [10] (.one 7 (.one 8 (.one 9 (.one 11 .stop)))))))) 4 (.one 1 (.one 3 (.one 6 (quiets [10] (.one 7 (.one 8 (.one 9 (.one 11 .stop)))))))))) [] (by kernel_rfl) (by kernel_rfl) (fun p hp => by cases hp) ?_
  refine tree_quiets (fun _ => none) _ _ _ (fun _ _ _ _ => fun x ob e => by cases e) (by kernel_rfl) (by kernel_rfl) ?_
  simp -implicitDefEqProofs (disch := omega) only [List.any_cons, List.any_nil, Nat.reduceEqDiff, List.map_cons, List.map_nil, Option.map_some, Option.map_none, List.nil_append, ↓reduceIte, vcu, ↓vcd, pickOps_nil, pickOps_cons, pickO_some, List.getElem?_cons_succ, List.getElem?_cons_zero]
  have d := DS.start hR
  clear hR
  refine tree_two rfl rfl ?_ ?_
  · skip
    simp -implicitDefEqProofs (disch := omega) only [List.any_cons, List.any_nil, Nat.reduceEqDiff, List.map_cons, List.map_nil, Option.map_some, Option.map_none, List.nil_append, ↓reduceIte, vcu, ↓vcd]
    refine (table_draw σ τ2 g h o _ 0 9 d.rd (by omega) (by omega)).mono ?_
    rintro r τt ⟨q, cs, pt, rfl, vq, nq, gq, a1, a2, t1, t2, ds⟩
    replace d := d.on ds
    clear ds nq
    simp -implicitDefEqProofs (disch := omega) only [List.any_cons, List.any_nil, Nat.reduceEqDiff, List.map_cons, List.map_nil, Option.map_some, Option.map_none, List.nil_append, ↓reduceIte, vcu, ↓vcd, opK_some]
    refine ⟨keep_of rfl (fun p hp => by cases hp), tree_two rfl rfl ?_ ?_⟩
    · skip
      simp -implicitDefEqProofs (disch := omega) only [List.any_cons, List.any_nil, Nat.reduceEqDiff, List.map_cons, List.map_nil, Option.map_some, Option.map_none, List.nil_append, ↓reduceIte, vcu, ↓vcd]
      refine (digits_draw σ τt g h o _ pt 5 d.rd (by omega) (by omega)).mono ?_
      rintro r τd ⟨c, pd, rfl, cl, e1, e2, ds⟩
      replace vq := ds.kp.at vq gq
      replace d := d.on ds
      clear ds
      simp -implicitDefEqProofs (disch := omega) only [List.any_cons, List.any_nil, Nat.reduceEqDiff, List.map_cons, List.map_nil, Option.map_some, Option.map_none, List.nil_append, ↓reduceIte, vcu, ↓vcd, opK_some]
      refine ⟨keep_of rfl (fun p hp => by cases hp), tree_two rfl rfl ?_ ?_⟩
      · skip
        refine r_lit el27 (out := #[.string (tx []), .string (tx []), .string (tx []), .string (tx []), .string (tx []), .string (tx [55])]) (by simp -implicitDefEqProofs (disch := omega) only [List.any_cons, List.any_nil, Nat.reduceEqDiff, List.map_cons, List.map_nil, Option.map_some, Option.map_none, List.nil_append, ↓reduceIte, vcu, ↓vcd]; kernel_rfl) (by kernel_rfl) fun e τe ne se ve => ?_
        replace ve : τe e = some ⟨texts [[], [], [], [], [], [55]], false⟩ := ve
        have ge := (d.fresh ne).2
        replace vq := se _ _ vq
        replace d := d.new se
        clear se ne
        simp -implicitDefEqProofs (disch := omega) only [List.any_cons, List.any_nil, Nat.reduceEqDiff, List.map_cons, List.map_nil, Option.map_some, Option.map_none, List.nil_append, ↓reduceIte, vcu, ↓vcd]
        refine ⟨keep_of rfl (fun p hp => by cases hp), tree_one rfl ?_⟩
        simp -implicitDefEqProofs (disch := omega) only [List.any_cons, List.any_nil, Nat.reduceEqDiff, List.map_cons, List.map_nil, Option.map_some, Option.map_none, List.nil_append, ↓reduceIte, vcu, ↓vcd]
        refine (pick_at σ τe g h o _ pd 6 d.rd (by omega) (by omega)).mono ?_
        rintro r τp ⟨u, rfl, u1, u2, hR, hK⟩
        replace vq := hK.at vq gq
        replace ve := hK.at ve ge
        replace d := d.step hR hK
        clear hR hK
        simp -implicitDefEqProofs (disch := omega) only [List.any_cons, List.any_nil, Nat.reduceEqDiff, List.map_cons, List.map_nil, Option.map_some, Option.map_none, List.nil_append, ↓reduceIte, vcu, ↓vcd, opK_some]
        have hu := lit_text ve u1 (by simpa using u2)
        have hc1 : ([[], [], [], [], [], [55]].getD u.toNat [] : List UInt8).length ≤ 1 := getD_len (by decide) _
        generalize ([[], [], [], [], [], [55]].getD u.toNat [] : List UInt8) = c2 at hu hc1
        have ha := abin_sadd (P := Try.prog) (t := 9) (xs := c) (ys := c2) (by omega)
        refine ⟨keep_of rfl (fun p hp => by cases hp), ?_⟩
        refine tree_quiets (fun _ => none) _ _ _ (fun _ _ _ _ => fun x ob e => by cases e) (by kernel_rfl) (by kernel_rfl) ?_
        simp -implicitDefEqProofs (disch := omega) only [List.any_cons, List.any_nil, Nat.reduceEqDiff, List.map_cons, List.map_nil, Option.map_some, Option.map_none, List.nil_append, ↓reduceIte, vcu, ↓vcd, pickOps_nil, pickOps_cons, pickO_some, List.getElem?_cons_succ, List.getElem?_cons_zero]
        refine tree_one rfl ?_
        simp -implicitDefEqProofs (disch := omega) only [List.any_cons, List.any_nil, Nat.reduceEqDiff, List.map_cons, List.map_nil, Option.map_some, Option.map_none, List.nil_append, ↓reduceIte, vcu, ↓vcd]
        refine ⟨keep_of rfl (fun p hp => by cases hp), tree_one rfl ?_⟩
        simp -implicitDefEqProofs (disch := omega) only [List.any_cons, List.any_nil, Nat.reduceEqDiff, List.map_cons, List.map_nil, Option.map_some, Option.map_none, List.nil_append, ↓reduceIte, vcu, ↓vcd, hu]
        refine ⟨keep_of rfl (fun p hp => by cases hp), tree_one rfl ?_⟩
        simp -implicitDefEqProofs (disch := omega) only [List.any_cons, List.any_nil, Nat.reduceEqDiff, List.map_cons, List.map_nil, Option.map_some, Option.map_none, List.nil_append, ↓reduceIte, vcu, ↓vcd, ha]
        refine ⟨keep_of rfl (fun p hp => by cases hp), tree_one rfl ?_⟩
        simp -implicitDefEqProofs (disch := omega) only [List.any_cons, List.any_nil, Nat.reduceEqDiff, List.map_cons, List.map_nil, Option.map_some, Option.map_none, List.nil_append, ↓reduceIte, vcu, ↓vcd]
        refine ⟨keep_of rfl (fun p hp => by cases hp), tree_stop ?_⟩
        simp -implicitDefEqProofs (disch := omega) only [List.any_cons, List.any_nil, Nat.reduceEqDiff, List.map_cons, List.map_nil, Option.map_some, Option.map_none, List.nil_append, ↓reduceIte, vcu, ↓vcd]
        refine fin_two Try.results57 ⟨_, cs, c ++ c2, ?_, .inr ⟨q, 0, rfl, rutsAt_own vq⟩, a1, a2, by simp; omega, d.rd.sub⟩
        simp -implicitDefEqProofs (disch := omega) only [List.any_cons, List.any_nil, Nat.reduceEqDiff, List.map_cons, List.map_nil, Option.map_some, Option.map_none, List.nil_append, ↓reduceIte, vcu, ↓vcd]
      · skip
        simp -implicitDefEqProofs (disch := omega) only [List.any_cons, List.any_nil, Nat.reduceEqDiff, List.map_cons, List.map_nil, Option.map_some, Option.map_none, List.nil_append, ↓reduceIte, vcu, ↓vcd]
        refine (pick_at σ τd g h o _ pd 6 d.rd (by omega) (by omega)).mono ?_
        rintro r τp ⟨u, rfl, u1, u2, hR, hK⟩
        replace vq := hK.at vq gq
        replace d := d.step hR hK
        clear hR hK
        simp -implicitDefEqProofs (disch := omega) only [List.any_cons, List.any_nil, Nat.reduceEqDiff, List.map_cons, List.map_nil, Option.map_some, Option.map_none, List.nil_append, ↓reduceIte, vcu, ↓vcd, opK_some]
        refine ⟨keep_of rfl (fun p hp => by cases hp), ?_⟩
        refine tree_quiets (fun _ => none) _ _ _ (fun _ _ _ _ => fun x ob e => by cases e) (by kernel_rfl) (by kernel_rfl) ?_
        simp -implicitDefEqProofs (disch := omega) only [List.any_cons, List.any_nil, Nat.reduceEqDiff, List.map_cons, List.map_nil, Option.map_some, Option.map_none, List.nil_append, ↓reduceIte, vcu, ↓vcd, pickOps_nil, pickOps_cons, pickO_some, List.getElem?_cons_succ, List.getElem?_cons_zero]
        refine tree_one rfl ?_
        refine r_lit el27 (out := #[.string (tx []), .string (tx []), .string (tx []), .string (tx []), .string (tx []), .string (tx [55])]) (by simp -implicitDefEqProofs (disch := omega) only [List.any_cons, List.any_nil, Nat.reduceEqDiff, List.map_cons, List.map_nil, Option.map_some, Option.map_none, List.nil_append, ↓reduceIte, vcu, ↓vcd]; kernel_rfl) (by kernel_rfl) fun e τe ne se ve => ?_
        replace ve : τe e = some ⟨texts [[], [], [], [], [], [55]], false⟩ := ve
        have ge := (d.fresh ne).2
        replace vq := se _ _ vq
        replace d := d.new se
        clear se ne
        simp -implicitDefEqProofs (disch := omega) only [List.any_cons, List.any_nil, Nat.reduceEqDiff, List.map_cons, List.map_nil, Option.map_some, Option.map_none, List.nil_append, ↓reduceIte, vcu, ↓vcd]
        have hu := lit_text ve u1 (by simpa using u2)
        have hc1 : ([[], [], [], [], [], [55]].getD u.toNat [] : List UInt8).length ≤ 1 := getD_len (by decide) _
        generalize ([[], [], [], [], [], [55]].getD u.toNat [] : List UInt8) = c2 at hu hc1
        have ha := abin_sadd (P := Try.prog) (t := 9) (xs := c) (ys := c2) (by omega)
        refine ⟨keep_of rfl (fun p hp => by cases hp), tree_one rfl ?_⟩
        simp -implicitDefEqProofs (disch := omega) only [List.any_cons, List.any_nil, Nat.reduceEqDiff, List.map_cons, List.map_nil, Option.map_some, Option.map_none, List.nil_append, ↓reduceIte, vcu, ↓vcd]
        refine ⟨keep_of rfl (fun p hp => by cases hp), tree_one rfl ?_⟩
        simp -implicitDefEqProofs (disch := omega) only [List.any_cons, List.any_nil, Nat.reduceEqDiff, List.map_cons, List.map_nil, Option.map_some, Option.map_none, List.nil_append, ↓reduceIte, vcu, ↓vcd, hu]
        refine ⟨keep_of rfl (fun p hp => by cases hp), tree_one rfl ?_⟩
        simp -implicitDefEqProofs (disch := omega) only [List.any_cons, List.any_nil, Nat.reduceEqDiff, List.map_cons, List.map_nil, Option.map_some, Option.map_none, List.nil_append, ↓reduceIte, vcu, ↓vcd, ha]
        refine ⟨keep_of rfl (fun p hp => by cases hp), tree_one rfl ?_⟩
        simp -implicitDefEqProofs (disch := omega) only [List.any_cons, List.any_nil, Nat.reduceEqDiff, List.map_cons, List.map_nil, Option.map_some, Option.map_none, List.nil_append, ↓reduceIte, vcu, ↓vcd]
        refine ⟨keep_of rfl (fun p hp => by cases hp), tree_stop ?_⟩
        simp -implicitDefEqProofs (disch := omega) only [List.any_cons, List.any_nil, Nat.reduceEqDiff, List.map_cons, List.map_nil, Option.map_some, Option.map_none, List.nil_append, ↓reduceIte, vcu, ↓vcd]
        refine fin_two Try.results57 ⟨_, cs, c ++ c2, ?_, .inr ⟨q, 0, rfl, rutsAt_own vq⟩, a1, a2, by simp; omega, d.rd.sub⟩
        simp -implicitDefEqProofs (disch := omega) only [List.any_cons, List.any_nil, Nat.reduceEqDiff, List.map_cons, List.map_nil, Option.map_some, Option.map_none, List.nil_append, ↓reduceIte, vcu, ↓vcd]
    · skip
      refine r_lit el27 (out := #[.string (tx []), .string (tx []), .string (tx []), .string (tx []), .string (tx []), .string (tx [55])]) (by simp -implicitDefEqProofs (disch := omega) only [List.any_cons, List.any_nil, Nat.reduceEqDiff, List.map_cons, List.map_nil, Option.map_some, Option.map_none, List.nil_append, ↓reduceIte, vcu, ↓vcd]; kernel_rfl) (by kernel_rfl) fun e τe ne se ve => ?_
      replace ve : τe e = some ⟨texts [[], [], [], [], [], [55]], false⟩ := ve
      have ge := (d.fresh ne).2
      replace vq := se _ _ vq
      replace d := d.new se
      clear se ne
      simp -implicitDefEqProofs (disch := omega) only [List.any_cons, List.any_nil, Nat.reduceEqDiff, List.map_cons, List.map_nil, Option.map_some, Option.map_none, List.nil_append, ↓reduceIte, vcu, ↓vcd]
      refine ⟨keep_of rfl (fun p hp => by cases hp), tree_one rfl ?_⟩
      simp -implicitDefEqProofs (disch := omega) only [List.any_cons, List.any_nil, Nat.reduceEqDiff, List.map_cons, List.map_nil, Option.map_some, Option.map_none, List.nil_append, ↓reduceIte, vcu, ↓vcd]
      refine (digits_draw σ τe g h o _ pt 5 d.rd (by omega) (by omega)).mono ?_
      rintro r τd ⟨c, pd, rfl, cl, e1, e2, ds⟩
      replace vq := ds.kp.at vq gq
      replace ve := ds.kp.at ve ge
      replace d := d.on ds
      clear ds
      simp -implicitDefEqProofs (disch := omega) only [List.any_cons, List.any_nil, Nat.reduceEqDiff, List.map_cons, List.map_nil, Option.map_some, Option.map_none, List.nil_append, ↓reduceIte, vcu, ↓vcd, opK_some]
      refine ⟨keep_of rfl (fun p hp => by cases hp), tree_one rfl ?_⟩
      simp -implicitDefEqProofs (disch := omega) only [List.any_cons, List.any_nil, Nat.reduceEqDiff, List.map_cons, List.map_nil, Option.map_some, Option.map_none, List.nil_append, ↓reduceIte, vcu, ↓vcd]
      refine (pick_at σ τd g h o _ pd 6 d.rd (by omega) (by omega)).mono ?_
      rintro r τp ⟨u, rfl, u1, u2, hR, hK⟩
      replace vq := hK.at vq gq
      replace ve := hK.at ve ge
      replace d := d.step hR hK
      clear hR hK
      simp -implicitDefEqProofs (disch := omega) only [List.any_cons, List.any_nil, Nat.reduceEqDiff, List.map_cons, List.map_nil, Option.map_some, Option.map_none, List.nil_append, ↓reduceIte, vcu, ↓vcd, opK_some]
      have hu := lit_text ve u1 (by simpa using u2)
      have hc1 : ([[], [], [], [], [], [55]].getD u.toNat [] : List UInt8).length ≤ 1 := getD_len (by decide) _
      generalize ([[], [], [], [], [], [55]].getD u.toNat [] : List UInt8) = c2 at hu hc1
      have ha := abin_sadd (P := Try.prog) (t := 9) (xs := c) (ys := c2) (by omega)
      refine ⟨keep_of rfl (fun p hp => by cases hp), ?_⟩
      refine tree_quiets (fun _ => none) _ _ _ (fun _ _ _ _ => fun x ob e => by cases e) (by kernel_rfl) (by kernel_rfl) ?_
      simp -implicitDefEqProofs (disch := omega) only [List.any_cons, List.any_nil, Nat.reduceEqDiff, List.map_cons, List.map_nil, Option.map_some, Option.map_none, List.nil_append, ↓reduceIte, vcu, ↓vcd, pickOps_nil, pickOps_cons, pickO_some, List.getElem?_cons_succ, List.getElem?_cons_zero]
      refine tree_one rfl ?_
      simp -implicitDefEqProofs (disch := omega) only [List.any_cons, List.any_nil, Nat.reduceEqDiff, List.map_cons, List.map_nil, Option.map_some, Option.map_none, List.nil_append, ↓reduceIte, vcu, ↓vcd]
      refine ⟨keep_of rfl (fun p hp => by cases hp), tree_one rfl ?_⟩
      simp -implicitDefEqProofs (disch := omega) only [List.any_cons, List.any_nil, Nat.reduceEqDiff, List.map_cons, List.map_nil, Option.map_some, Option.map_none, List.nil_append, ↓reduceIte, vcu, ↓vcd, hu]
      refine ⟨keep_of rfl (fun p hp => by cases hp), tree_one rfl ?_⟩
      simp -implicitDefEqProofs (disch := omega) only [List.any_cons, List.any_nil, Nat.reduceEqDiff, List.map_cons, List.map_nil, Option.map_some, Option.map_none, List.nil_append, ↓reduceIte, vcu, ↓vcd, ha]
      refine ⟨keep_of rfl (fun p hp => by cases hp), tree_one rfl ?_⟩
      simp -implicitDefEqProofs (disch := omega) only [List.any_cons, List.any_nil, Nat.reduceEqDiff, List.map_cons, List.map_nil, Option.map_some, Option.map_none, List.nil_append, ↓reduceIte, vcu, ↓vcd]
      refine ⟨keep_of rfl (fun p hp => by cases hp), tree_stop ?_⟩
      simp -implicitDefEqProofs (disch := omega) only [List.any_cons, List.any_nil, Nat.reduceEqDiff, List.map_cons, List.map_nil, Option.map_some, Option.map_none, List.nil_append, ↓reduceIte, vcu, ↓vcd]
      refine fin_two Try.results57 ⟨_, cs, c ++ c2, ?_, .inr ⟨q, 0, rfl, rutsAt_own vq⟩, a1, a2, by simp; omega, d.rd.sub⟩
      simp -implicitDefEqProofs (disch := omega) only [List.any_cons, List.any_nil, Nat.reduceEqDiff, List.map_cons, List.map_nil, Option.map_some, Option.map_none, List.nil_append, ↓reduceIte, vcu, ↓vcd]
  · skip
    refine r_lit el27 (out := #[.string (tx []), .string (tx []), .string (tx []), .string (tx []), .string (tx []), .string (tx [55])]) (by simp -implicitDefEqProofs (disch := omega) only [List.any_cons, List.any_nil, Nat.reduceEqDiff, List.map_cons, List.map_nil, Option.map_some, Option.map_none, List.nil_append, ↓reduceIte, vcu, ↓vcd]; kernel_rfl) (by kernel_rfl) fun e τe ne se ve => ?_
    replace ve : τe e = some ⟨texts [[], [], [], [], [], [55]], false⟩ := ve
    have ge := (d.fresh ne).2
    replace d := d.new se
    clear se ne
    simp -implicitDefEqProofs (disch := omega) only [List.any_cons, List.any_nil, Nat.reduceEqDiff, List.map_cons, List.map_nil, Option.map_some, Option.map_none, List.nil_append, ↓reduceIte, vcu, ↓vcd]
    refine ⟨keep_of rfl (fun p hp => by cases hp), tree_one rfl ?_⟩
    simp -implicitDefEqProofs (disch := omega) only [List.any_cons, List.any_nil, Nat.reduceEqDiff, List.map_cons, List.map_nil, Option.map_some, Option.map_none, List.nil_append, ↓reduceIte, vcu, ↓vcd]
    refine (table_draw σ τe g h o _ 0 9 d.rd (by omega) (by omega)).mono ?_
    rintro r τt ⟨q, cs, pt, rfl, vq, nq, gq, a1, a2, t1, t2, ds⟩
    replace ve := ds.kp.at ve ge
    replace d := d.on ds
    clear ds nq
    simp -implicitDefEqProofs (disch := omega) only [List.any_cons, List.any_nil, Nat.reduceEqDiff, List.map_cons, List.map_nil, Option.map_some, Option.map_none, List.nil_append, ↓reduceIte, vcu, ↓vcd, opK_some]
    refine ⟨keep_of rfl (fun p hp => by cases hp), tree_one rfl ?_⟩
    simp -implicitDefEqProofs (disch := omega) only [List.any_cons, List.any_nil, Nat.reduceEqDiff, List.map_cons, List.map_nil, Option.map_some, Option.map_none, List.nil_append, ↓reduceIte, vcu, ↓vcd]
    refine (digits_draw σ τt g h o _ pt 5 d.rd (by omega) (by omega)).mono ?_
    rintro r τd ⟨c, pd, rfl, cl, e1, e2, ds⟩
    replace vq := ds.kp.at vq gq
    replace ve := ds.kp.at ve ge
    replace d := d.on ds
    clear ds
    simp -implicitDefEqProofs (disch := omega) only [List.any_cons, List.any_nil, Nat.reduceEqDiff, List.map_cons, List.map_nil, Option.map_some, Option.map_none, List.nil_append, ↓reduceIte, vcu, ↓vcd, opK_some]
    refine ⟨keep_of rfl (fun p hp => by cases hp), tree_one rfl ?_⟩
    simp -implicitDefEqProofs (disch := omega) only [List.any_cons, List.any_nil, Nat.reduceEqDiff, List.map_cons, List.map_nil, Option.map_some, Option.map_none, List.nil_append, ↓reduceIte, vcu, ↓vcd]
    refine (pick_at σ τd g h o _ pd 6 d.rd (by omega) (by omega)).mono ?_
    rintro r τp ⟨u, rfl, u1, u2, hR, hK⟩
    replace vq := hK.at vq gq
    replace ve := hK.at ve ge
    replace d := d.step hR hK
    clear hR hK
    simp -implicitDefEqProofs (disch := omega) only [List.any_cons, List.any_nil, Nat.reduceEqDiff, List.map_cons, List.map_nil, Option.map_some, Option.map_none, List.nil_append, ↓reduceIte, vcu, ↓vcd, opK_some]
    have hu := lit_text ve u1 (by simpa using u2)
    have hc1 : ([[], [], [], [], [], [55]].getD u.toNat [] : List UInt8).length ≤ 1 := getD_len (by decide) _
    generalize ([[], [], [], [], [], [55]].getD u.toNat [] : List UInt8) = c2 at hu hc1
    have ha := abin_sadd (P := Try.prog) (t := 9) (xs := c) (ys := c2) (by omega)
    refine ⟨keep_of rfl (fun p hp => by cases hp), ?_⟩
    refine tree_quiets (fun _ => none) _ _ _ (fun _ _ _ _ => fun x ob e => by cases e) (by kernel_rfl) (by kernel_rfl) ?_
    simp -implicitDefEqProofs (disch := omega) only [List.any_cons, List.any_nil, Nat.reduceEqDiff, List.map_cons, List.map_nil, Option.map_some, Option.map_none, List.nil_append, ↓reduceIte, vcu, ↓vcd, pickOps_nil, pickOps_cons, pickO_some, List.getElem?_cons_succ, List.getElem?_cons_zero]
    refine tree_one rfl ?_
    simp -implicitDefEqProofs (disch := omega) only [List.any_cons, List.any_nil, Nat.reduceEqDiff, List.map_cons, List.map_nil, Option.map_some, Option.map_none, List.nil_append, ↓reduceIte, vcu, ↓vcd]
    refine ⟨keep_of rfl (fun p hp => by cases hp), tree_one rfl ?_⟩
    simp -implicitDefEqProofs (disch := omega) only [List.any_cons, List.any_nil, Nat.reduceEqDiff, List.map_cons, List.map_nil, Option.map_some, Option.map_none, List.nil_append, ↓reduceIte, vcu, ↓vcd, hu]
    refine ⟨keep_of rfl (fun p hp => by cases hp), tree_one rfl ?_⟩
    simp -implicitDefEqProofs (disch := omega) only [List.any_cons, List.any_nil, Nat.reduceEqDiff, List.map_cons, List.map_nil, Option.map_some, Option.map_none, List.nil_append, ↓reduceIte, vcu, ↓vcd, ha]
    refine ⟨keep_of rfl (fun p hp => by cases hp), tree_one rfl ?_⟩
    simp -implicitDefEqProofs (disch := omega) only [List.any_cons, List.any_nil, Nat.reduceEqDiff, List.map_cons, List.map_nil, Option.map_some, Option.map_none, List.nil_append, ↓reduceIte, vcu, ↓vcd]
    refine ⟨keep_of rfl (fun p hp => by cases hp), tree_stop ?_⟩
    simp -implicitDefEqProofs (disch := omega) only [List.any_cons, List.any_nil, Nat.reduceEqDiff, List.map_cons, List.map_nil, Option.map_some, Option.map_none, List.nil_append, ↓reduceIte, vcu, ↓vcd]
    refine fin_two Try.results57 ⟨_, cs, c ++ c2, ?_, .inr ⟨q, 0, rfl, rutsAt_own vq⟩, a1, a2, by simp; omega, d.rd.sub⟩
    simp -implicitDefEqProofs (disch := omega) only [List.any_cons, List.any_nil, Nat.reduceEqDiff, List.map_cons, List.map_nil, Option.map_some, Option.map_none, List.nil_append, ↓reduceIte, vcu, ↓vcd]
end Go.Proofs.Ytnenopebfobajaa
