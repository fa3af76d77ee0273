/- Texts of digits: DigitsOk, prefixes, powers, the text of a value. -/
import Derived.Test.YtnenopebfobajaaXa
set_option linter.unusedSimpArgs false
set_option linter.unusedVariables false
namespace Go.Proofs.Ytnenopebfobajaa
open Go Go.Abs Go.RowKit
variable {w0 : World}

/-- a text of digits -/
def DgT (xs : List UInt8) : Prop := ∀ b ∈ xs, 48 ≤ b.toNat ∧ b.toNat ≤ 51
instance (xs : List UInt8) : Decidable (DgT xs) := inferInstanceAs (Decidable (∀ b ∈ xs, 48 ≤ b.toNat ∧ b.toNat ≤ 51))
theorem DgT.at {xs : List UInt8} (h : DgT xs) {k : Nat} (hk : k < xs.length) : 48 ≤ (xs.getD k 0).toNat ∧ (xs.getD k 0).toNat ≤ 51 := h _ (by simp [List.getD, hk])
theorem dgT_of {xs : List UInt8} (h : ∀ k, k < xs.length → 48 ≤ (xs.getD k 0).toNat ∧ (xs.getD k 0).toNat ≤ 51) : DgT xs := by
  intro b hb
  obtain ⟨k, hk, rfl⟩ := List.mem_iff_getElem.1 hb
  have := h k hk
  simpa [List.getD, hk] using this
theorem conv_u8 {b : Int} (h : 0 ≤ b ∧ b ≤ 255) : aconv Try.prog 5 3 (.int .u8 b) = some (.int .i64 b) := by
  simp only [aconv, Try.underlying5, Try.underlying3]
  rw [wrap_i64_ok (by omega)]
theorem abin_usub {t : TypeId} {a b : Int} : abin Try.prog t .sub (.int .u8 a) (.int .u8 b) = some (.int .u8 ((a - b) % 256)) := by
  simp only [abin, if_true]; congr 2
theorem abin_ulss {t : TypeId} {a b : Int} : abin Try.prog t .lss (.int .u8 a) (.int .u8 b) = some (.bool (decide (a < b))) := by simp [abin]
theorem u8_le (b : UInt8) : b.toNat ≤ 255 := by have := b.toNat_lt; omega

theorem digits_calls (σ : AHeap) (xs : List UInt8) (hl : xs.length ≤ 1048576) : ACall Try.prog w0 19 [.string (tx xs)] σ fun r σ' => r = .bool (decide (DgT xs)) ∧ σ' = σ := by
  refine acall_go mixed Try.func19 rfl good19 fun pr => ?_
  simp -implicitDefEqProofs (disch := omega) only [List.any_cons, List.any_nil, Nat.reduceEqDiff, List.map_cons, List.map_nil, Option.map_some, Option.map_none, List.nil_append, ↓reduceIte, vcu, ↓vcd]
  refine vc_loop_c mixed (by kernel_rfl) [0] (fun m a σ' => ∃ k : Nat, m + k = xs.length ∧ a 3 = .int .i64 k ∧ (∀ j, j < k → 48 ≤ (xs.getD j 0).toNat ∧ (xs.getD j 0).toNat ≤ 51) ∧ σ' = σ) xs.length ⟨0, by simp, rfl, fun j hj => absurd hj (by omega), rfl⟩ ?_
  rintro m a σ' hc ⟨k, hk, h3, hd, rfl⟩
  simp -implicitDefEqProofs (disch := omega) only [List.any_cons, List.any_nil, Nat.reduceEqDiff, List.map_cons, List.map_nil, Option.map_some, Option.map_none, List.nil_append, ↓reduceIte, vcu, ↓vcd] at hc
  obtain ⟨h0, -⟩ := hc
  by_cases hlt : k < xs.length
  · have hb := u8_le (xs.getD k 0)
    by_cases hdg : 48 ≤ (xs.getD k 0).toNat ∧ (xs.getD k 0).toNat ≤ 51
    · have hd1 : decide (0 ≤ (((xs.getD k 0).toNat : Int) - 48) % 256 ∧ (((xs.getD k 0).toNat : Int) - 48) % 256 ≤ 3) = true := decide_eq_true (by omega)
      simp -implicitDefEqProofs (disch := omega) only [List.any_cons, List.any_nil, Nat.reduceEqDiff, List.map_cons, List.map_nil, Option.map_some, Option.map_none, List.nil_append, ↓reduceIte, vcu, ↓vcd, h0, h3, abin_usub, conv_u8]
      refine (in_calls _ _ 0 3).mono ?_
      rintro r τ ⟨rfl, rfl⟩
      simp -implicitDefEqProofs (disch := omega) only [List.any_cons, List.any_nil, Nat.reduceEqDiff, List.map_cons, List.map_nil, Option.map_some, Option.map_none, List.nil_append, ↓reduceIte, vcu, ↓vcd, opK_some, h0, h3, abin_ulss, hd1]
      refine ⟨⟨trivial, trivial⟩, m - 1, by omega, k + 1, by omega, by simp, fun j hj => ?_, trivial⟩
      by_cases hjk : j = k
      · subst hjk; exact hdg
      · exact hd j (by omega)
    · have hn : ¬DgT xs := fun h => hdg (h.at hlt)
      have hd1 : decide (0 ≤ (((xs.getD k 0).toNat : Int) - 48) % 256 ∧ (((xs.getD k 0).toNat : Int) - 48) % 256 ≤ 3) = false := decide_eq_false (by omega)
      simp -implicitDefEqProofs (disch := omega) only [List.any_cons, List.any_nil, Nat.reduceEqDiff, List.map_cons, List.map_nil, Option.map_some, Option.map_none, List.nil_append, ↓reduceIte, vcu, ↓vcd, h0, h3, abin_usub, conv_u8]
      refine (in_calls _ _ 0 3).mono ?_
      rintro r τ ⟨rfl, rfl⟩
      simp -implicitDefEqProofs (disch := omega) only [List.any_cons, List.any_nil, Nat.reduceEqDiff, List.map_cons, List.map_nil, Option.map_some, Option.map_none, List.nil_append, ↓reduceIte, vcu, ↓vcd, opK_some, h0, h3, abin_ulss, hd1]
      refine fin_one Try.results19 ⟨?_, rfl⟩
      simp -implicitDefEqProofs (disch := omega) only [List.any_cons, List.any_nil, Nat.reduceEqDiff, List.map_cons, List.map_nil, Option.map_some, Option.map_none, List.nil_append, ↓reduceIte, vcu, ↓vcd]
      simp [hn]
  · simp -implicitDefEqProofs (disch := omega) only [List.any_cons, List.any_nil, Nat.reduceEqDiff, List.map_cons, List.map_nil, Option.map_some, Option.map_none, List.nil_append, ↓reduceIte, vcu, ↓vcd, h0, h3]
    have e : k = xs.length := by omega
    refine fin_one Try.results19 ⟨?_, rfl⟩
    simp -implicitDefEqProofs (disch := omega) only [List.any_cons, List.any_nil, Nat.reduceEqDiff, List.map_cons, List.map_nil, Option.map_some, Option.map_none, List.nil_append, ↓reduceIte, vcu, ↓vcd]
    subst e
    simp [dgT_of hd]

/-- a text begins with another one -/
def Beg (s t : List UInt8) : Prop := t.length ≤ s.length ∧ s.take t.length = t
instance (s t : List UInt8) : Decidable (Beg s t) := inferInstanceAs (Decidable (_ ∧ _))
theorem begins_calls (σ : AHeap) (s t : List UInt8) : ACall Try.prog w0 72 [.string (tx s), .string (tx t)] σ fun r σ' => r = .bool (decide (Beg s t)) ∧ σ' = σ := by
  refine acall_go mixed Try.func72 rfl good72 fun pr => ?_
  by_cases h : t.length ≤ s.length
  · simp -implicitDefEqProofs (disch := omega) only [List.any_cons, List.any_nil, Nat.reduceEqDiff, List.map_cons, List.map_nil, Option.map_some, Option.map_none, List.nil_append, ↓reduceIte, vcu, ↓vcd]
    refine fin_one Try.results72 ⟨?_, rfl⟩
    simp -implicitDefEqProofs (disch := omega) only [List.any_cons, List.any_nil, Nat.reduceEqDiff, List.map_cons, List.map_nil, Option.map_some, Option.map_none, List.nil_append, ↓reduceIte, vcu, ↓vcd]
    simp [Beg, h]
  · simp -implicitDefEqProofs (disch := omega) only [List.any_cons, List.any_nil, Nat.reduceEqDiff, List.map_cons, List.map_nil, Option.map_some, Option.map_none, List.nil_append, ↓reduceIte, vcu, ↓vcd]
    refine fin_one Try.results72 ⟨?_, rfl⟩
    simp -implicitDefEqProofs (disch := omega) only [List.any_cons, List.any_nil, Nat.reduceEqDiff, List.map_cons, List.map_nil, Option.map_some, Option.map_none, List.nil_append, ↓reduceIte, vcu, ↓vcd]
    simp [Beg, h]

/-- a power of four -/
def pw (n : Nat) : Int := 4 ^ n
theorem pw_pos (n : Nat) : 1 ≤ pw n := by unfold pw; exact Int.le_of_lt_add_one (by have := Int.pow_pos (n := 4) (m := n) (by omega); omega)
theorem pw_succ (n : Nat) : pw (n + 1) = pw n * 4 := rfl
theorem pw_mono {m n : Nat} (h : m ≤ n) : pw m ≤ pw n := by
  induction h with
  | refl => exact Int.le_refl _
  | step _ ih => rw [pw_succ]; have := pw_pos m; omega
theorem power_calls (σ : AHeap) (n : Nat) (hn : n ≤ 3) : ACall Try.prog w0 75 [.int .i64 n] σ fun r σ' => r = .int .i64 (pw n) ∧ σ' = σ := by
  refine acall_go mixed Try.func75 rfl good75 fun pr => ?_
  simp -implicitDefEqProofs (disch := omega) only [List.any_cons, List.any_nil, Nat.reduceEqDiff, List.map_cons, List.map_nil, Option.map_some, Option.map_none, List.nil_append, ↓reduceIte, vcu, ↓vcd]
  refine vc_loop_c mixed (by kernel_rfl) [0] (fun m a σ' => ∃ k : Nat, m + k = n ∧ a 4 = .int .i64 k ∧ a 3 = .int .i64 (pw k) ∧ σ' = σ) n ⟨0, by simp, rfl, rfl, rfl⟩ ?_
  rintro m a σ' hc ⟨k, hk, h4, h3, rfl⟩
  simp -implicitDefEqProofs (disch := omega) only [List.any_cons, List.any_nil, Nat.reduceEqDiff, List.map_cons, List.map_nil, Option.map_some, Option.map_none, List.nil_append, ↓reduceIte, vcu, ↓vcd] at hc
  obtain ⟨h0, -⟩ := hc
  have hb := pw_pos k
  have hb2 : pw k ≤ 64 := pw_mono (n := 3) (by omega)
  by_cases hlt : k < n
  · simp -implicitDefEqProofs (disch := omega) only [List.any_cons, List.any_nil, Nat.reduceEqDiff, List.map_cons, List.map_nil, Option.map_some, Option.map_none, List.nil_append, ↓reduceIte, vcu, ↓vcd, h0, h3, h4]
    exact ⟨⟨trivial, trivial⟩, m - 1, by omega, k + 1, by omega, by simp, by rw [pw_succ], trivial⟩
  · simp -implicitDefEqProofs (disch := omega) only [List.any_cons, List.any_nil, Nat.reduceEqDiff, List.map_cons, List.map_nil, Option.map_some, Option.map_none, List.nil_append, ↓reduceIte, vcu, ↓vcd, h0, h3, h4]
    have e : k = n := by omega
    refine fin_one Try.results75 ⟨?_, rfl⟩
    simp -implicitDefEqProofs (disch := omega) only [List.any_cons, List.any_nil, Nat.reduceEqDiff, List.map_cons, List.map_nil, Option.map_some, Option.map_none, List.nil_append, ↓reduceIte, vcu, ↓vcd, h3]
    rw [e]

/-- the digits of a value -/
def txV : Nat → Nat → List UInt8
  | _, 0 => []
  | v, n + 1 => txV (v / 4) n ++ [UInt8.ofNat (48 + v % 4)]
theorem txV_len : ∀ (n v : Nat), (txV v n).length = n
  | 0, _ => rfl
  | n + 1, v => by simp [txV, txV_len n]
theorem conv_to_u8 {b : Int} (h : 0 ≤ b ∧ b ≤ 255) : aconv Try.prog 3 5 (.int .i64 b) = some (.int .u8 b) := by
  simp only [aconv, Try.underlying5, Try.underlying3]
  congr 2
  show b % 256 = b
  omega
theorem text_calls (σ : AHeap) (v n : Nat) (hn : n ≤ 3) (hv : v ≤ 4096) : ACall Try.prog w0 77 [.int .i64 v, .int .i64 n] σ fun r σ' => r = .string (tx (txV v n)) ∧ σ' = σ := by
  refine acall_go mixed Try.func77 rfl good77 fun pr => ?_
  simp -implicitDefEqProofs (disch := omega) only [List.any_cons, List.any_nil, Nat.reduceEqDiff, List.map_cons, List.map_nil, Option.map_some, Option.map_none, List.nil_append, ↓reduceIte, vcu, ↓vcd]
  refine vc_loop_c mixed (by kernel_rfl) [1] (fun m a σ' => ∃ (k w : Nat) (xs : List UInt8), m + k = n ∧ a 6 = .int .i64 k ∧ a 0 = .int .i64 w ∧ w ≤ 4096 ∧ a 5 = .string (tx xs) ∧ xs.length = k ∧ txV w m ++ xs = txV v n ∧ Sub σ σ') n ⟨0, v, [], by simp, rfl, rfl, hv, rfl, rfl, by simp, Sub.refl _⟩ ?_
  rintro m a σ' hc ⟨k, w, xs, hk, h6, h0, hw, h5, hx, he, hs⟩
  simp -implicitDefEqProofs (disch := omega) only [List.any_cons, List.any_nil, Nat.reduceEqDiff, List.map_cons, List.map_nil, Option.map_some, Option.map_none, List.nil_append, ↓reduceIte, vcu, ↓vcd] at hc
  obtain ⟨h1, -⟩ := hc
  by_cases hlt : k < n
  · obtain ⟨m', rfl⟩ : ∃ m', m = m' + 1 := ⟨m - 1, by omega⟩
    simp -implicitDefEqProofs (disch := omega) only [List.any_cons, List.any_nil, Nat.reduceEqDiff, List.map_cons, List.map_nil, Option.map_some, Option.map_none, List.nil_append, ↓reduceIte, vcu, ↓vcd, h0, h1, h5, h6, conv_to_u8]
    refine r_lit el22 (out := #[.int .u8 (48 + (w % 4 : Nat))]) (by first | kernel_rfl | (simp -implicitDefEqProofs (disch := omega) only [List.any_cons, List.any_nil, Nat.reduceEqDiff, List.map_cons, List.map_nil, Option.map_some, Option.map_none, List.nil_append, ↓reduceIte, vcu, ↓vcd]; kernel_rfl)) (by rfl) fun g τ n1 s1 v1 => ?_
    have l1 : lds τ g 0 1 = some ([((48 + (w % 4 : Nat) : Nat) : Int)].map (.int .u8)) := by
      rw [lds_of v1 (by simp)]; simp
    have hcv := aconvH_bytes (z := 1) Try.underlying22 Try.underlying5 Try.underlying9 l1
    have ha := abin_sadd (P := Try.prog) (t := 9) (xs := [UInt8.ofNat (48 + w % 4)]) (ys := xs) (by rw [List.length_singleton]; omega)
    simp -implicitDefEqProofs (disch := omega) only [List.any_cons, List.any_nil, Nat.reduceEqDiff, List.map_cons, List.map_nil, Option.map_some, Option.map_none, List.nil_append, ↓reduceIte, vcu, ↓vcd, h0, h1, h5, h6, hcv, ha]
    refine ⟨⟨trivial, trivial⟩, m', by omega, k + 1, w / 4, _, by omega, by simp, by simp, by omega, rfl, by simp [hx], ?_, hs.trans s1⟩
    rw [← he, txV]
    simp
  · simp -implicitDefEqProofs (disch := omega) only [List.any_cons, List.any_nil, Nat.reduceEqDiff, List.map_cons, List.map_nil, Option.map_some, Option.map_none, List.nil_append, ↓reduceIte, vcu, ↓vcd, h0, h1, h5, h6]
    have e : m = 0 := by omega
    subst e
    refine fin_drop Try.results77 σ hs ⟨?_, rfl⟩
    simp -implicitDefEqProofs (disch := omega) only [List.any_cons, List.any_nil, Nat.reduceEqDiff, List.map_cons, List.map_nil, Option.map_some, Option.map_none, List.nil_append, ↓reduceIte, vcu, ↓vcd, h5]
    rw [← he]; rfl
end Go.Proofs.Ytnenopebfobajaa

namespace Go.Proofs.Ytnenopebfobajaa
open Go Go.Abs Go.RowKit
variable {w0 : World}

theorem sameS_at (σ : AHeap) (h o g p : Nat) (xs ys : List (List UInt8)) (hv : TextsAt σ h o xs) (hu : TextsAt σ g p ys) (hl : xs.length ≤ 1048576) (hl2 : ys.length ≤ 1048576) :
    ACall Try.prog w0 34 [.slice (some ⟨h, o, none⟩) xs.length 1, .slice (some ⟨g, p, none⟩) ys.length 1] σ fun r σ' => r = .bool (decide (xs = ys)) ∧ σ' = σ := by
  refine acall_go mixed Try.func34 rfl good34 fun pr => ?_
  by_cases hlen : xs.length = ys.length
  · simp -implicitDefEqProofs (disch := omega) only [List.any_cons, List.any_nil, Nat.reduceEqDiff, List.map_cons, List.map_nil, Option.map_some, Option.map_none, List.nil_append, ↓reduceIte, vcu, ↓vcd]
    refine vc_loop_c mixed (by kernel_rfl) [0, 1] (fun m a σ' => ∃ k : Nat, m + k = xs.length ∧ a 5 = .int .i64 k ∧ σ' = σ ∧ ∀ j, j < k → xs.getD j [] = ys.getD j []) xs.length ⟨0, by simp, rfl, rfl, by simp⟩ ?_
    rintro m a σ' hc ⟨k, hk, h5, rfl, he⟩
    simp -implicitDefEqProofs (disch := omega) only [List.any_cons, List.any_nil, Nat.reduceEqDiff, List.map_cons, List.map_nil, Option.map_some, Option.map_none, List.nil_append, ↓reduceIte, vcu, ↓vcd] at hc
    obtain ⟨h0, h1, -⟩ := hc
    by_cases hlt : k < xs.length
    · have hx := hv k hlt
      have hy := hu k (by omega)
      by_cases hxy : xs.getD k [] = ys.getD k []
      · rw [hxy] at hx
        simp -implicitDefEqProofs (disch := omega) only [List.any_cons, List.any_nil, Nat.reduceEqDiff, List.map_cons, List.map_nil, Option.map_some, Option.map_none, List.nil_append, ↓reduceIte, vcu, ↓vcd, h0, h1, h5, hx, hy, eq_self, decide_true, Bool.not_true]
        refine ⟨⟨trivial, trivial, trivial⟩, m - 1, by omega, k + 1, by omega, by simp, trivial, fun j hj => ?_⟩
        by_cases e : j = k
        · subst e; exact hxy
        · exact he j (by omega)
      · have hnb : decide (xs.getD k [] = ys.getD k []) = false := decide_eq_false hxy
        simp -implicitDefEqProofs (disch := omega) only [List.any_cons, List.any_nil, Nat.reduceEqDiff, List.map_cons, List.map_nil, Option.map_some, Option.map_none, List.nil_append, ↓reduceIte, vcu, ↓vcd, h0, h1, h5, hx, hy, hnb, Bool.not_false]
        refine fin_one Try.results34 ⟨?_, rfl⟩
        simp -implicitDefEqProofs (disch := omega) only [List.any_cons, List.any_nil, Nat.reduceEqDiff, List.map_cons, List.map_nil, Option.map_some, Option.map_none, List.nil_append, ↓reduceIte, vcu, ↓vcd]
        have : xs ≠ ys := fun e => hxy (by rw [e])
        simp [this]
    · simp -implicitDefEqProofs (disch := omega) only [List.any_cons, List.any_nil, Nat.reduceEqDiff, List.map_cons, List.map_nil, Option.map_some, Option.map_none, List.nil_append, ↓reduceIte, vcu, ↓vcd, h0, h1, h5]
      refine fin_one Try.results34 ⟨?_, rfl⟩
      simp -implicitDefEqProofs (disch := omega) only [List.any_cons, List.any_nil, Nat.reduceEqDiff, List.map_cons, List.map_nil, Option.map_some, Option.map_none, List.nil_append, ↓reduceIte, vcu, ↓vcd]
      have : xs = ys := by
        apply List.ext_getElem hlen
        intro i h1 h2
        have := he i (by omega)
        simpa [List.getD, h1, h2] using this
      simp [this]
  · simp -implicitDefEqProofs (disch := omega) only [List.any_cons, List.any_nil, Nat.reduceEqDiff, List.map_cons, List.map_nil, Option.map_some, Option.map_none, List.nil_append, ↓reduceIte, vcu, ↓vcd]
    refine fin_one Try.results34 ⟨?_, rfl⟩
    simp -implicitDefEqProofs (disch := omega) only [List.any_cons, List.any_nil, Nat.reduceEqDiff, List.map_cons, List.map_nil, Option.map_some, Option.map_none, List.nil_append, ↓reduceIte, vcu, ↓vcd]
    have : xs ≠ ys := fun e => hlen (by rw [e])
    simp [this]
theorem sameS_calls (σ : AHeap) (v u : Value) (xs ys : List (List UInt8)) (hv : Texts σ v xs) (hu : Texts σ u ys) (hl : xs.length ≤ 1048576) (hl2 : ys.length ≤ 1048576) :
    ACall Try.prog w0 34 [v, u] σ fun r σ' => r = .bool (decide (xs = ys)) ∧ σ' = σ :=
  ACall.texts_quiet (pre := []) (post := [u]) (by kernel_rfl) hv fun σ1 h o hs hg =>
    ACall.texts_quiet (pre := [_]) (post := []) (by kernel_rfl) (hu.sub hs) fun σ2 g p hs2 hg2 => sameS_at σ2 h o g p xs ys (hg.sub hs2) hg2 hl hl2

/-- the text of a number -/
def decT (w : Nat) : List UInt8 := if h : w = 0 then [] else decT (w / 10) ++ [UInt8.ofNat (48 + w % 10)]
theorem decT_zero : decT 0 = [] := by rw [decT]; simp
theorem decT_succ {w : Nat} (h : w ≠ 0) : decT w = decT (w / 10) ++ [UInt8.ofNat (48 + w % 10)] := by rw [decT, dif_neg h]
theorem decT_len (w : Nat) : (decT w).length ≤ w := by
  induction w using Nat.strongRecOn with
  | ind w ih =>
    by_cases h : w = 0
    · subst h; rw [decT_zero]; simp
    · rw [decT_succ h]
      have := ih (w / 10) (by omega)
      rw [List.length_append, List.length_singleton]; omega
def mkT (k : Int) : List UInt8 := if k ≤ 0 then [109, 48] else 109 :: decT k.toNat
def markX (k : Int) (n : Nat) : List (List UInt8) := (List.range n).map fun (i : Nat) => mkT (k + i)
theorem markX_length (k : Int) (n : Nat) : (markX k n).length = n := by simp [markX]
theorem markX_getD {k : Int} {n i : Nat} (h : i < n) : (markX k n).getD i [] = mkT (k + i) := by simp [markX, List.getD, h]
theorem markX_succ (k : Int) (n : Nat) : markX k (n + 1) = markX k n ++ [mkT (k + n)] := by simp [markX, List.range_succ]
theorem set_markX {k : Int} {ys : List (List UInt8)} {i : Nat} (h : i < ys.length) : (markX k i ++ ys.drop i).set i (mkT (k + i)) = markX k (i + 1) ++ ys.drop (i + 1) := by
  rw [List.set_append_right _ _ (by rw [markX_length]; omega), markX_length, Nat.sub_self, markX_succ, List.append_assoc]
  congr 1
  rw [List.drop_eq_getElem_cons h]; rfl
end Go.Proofs.Ytnenopebfobajaa

namespace Go.Proofs.Ytnenopebfobajaa
open Go Go.Abs Go.RowKit
variable {w0 : World}

/-- a number of a plan -/
def PRow (ps : List (List UInt8)) (k : Nat) : Prop := DgT (ps.getD k []) ∧ (1 ≤ (ps.getD k []).length ∧ (ps.getD k []).length ≤ 3) ∧ ∀ j, j < ps.length → j ≠ k → ¬Beg (ps.getD k []) (ps.getD j [])
def PlanOk (ps : List (List UInt8)) : Prop := (∀ k, k < ps.length → PRow ps k) ∧ ps.length ≤ 10
instance (ps : List (List UInt8)) (k : Nat) : Decidable (PRow ps k) := inferInstanceAs (Decidable (_ ∧ _ ∧ _))
instance (ps : List (List UInt8)) : Decidable (PlanOk ps) := inferInstanceAs (Decidable (_ ∧ _))
theorem planValid_at (σ : AHeap) (h o : Nat) (ps : List (List UInt8)) (hv : TextsAt σ h o ps) (hl : ps.length ≤ 1048576) (hp : ∀ x ∈ ps, x.length ≤ 1048576) :
    ACall Try.prog w0 23 [.slice (some ⟨h, o, none⟩) ps.length 1] σ fun r σ' => r = .bool (decide (PlanOk ps)) ∧ σ' = σ := by
  refine acall_go mixed Try.func23 rfl good23 fun pr => ?_
  simp -implicitDefEqProofs (disch := omega) only [List.any_cons, List.any_nil, Nat.reduceEqDiff, List.map_cons, List.map_nil, Option.map_some, Option.map_none, List.nil_append, ↓reduceIte, vcu, ↓vcd]
  refine vc_loop_c mixed (by kernel_rfl) [0] (fun m a σ' => ∃ k : Nat, m + k = ps.length ∧ a 3 = .int .i64 k ∧ (∀ j, j < k → PRow ps j) ∧ σ' = σ) ps.length ⟨0, by simp, rfl, fun j hj => absurd hj (by omega), rfl⟩ ?_
  rintro m a σ' hc ⟨k, hk, h3, hall, rfl⟩
  simp -implicitDefEqProofs (disch := omega) only [List.any_cons, List.any_nil, Nat.reduceEqDiff, List.map_cons, List.map_nil, Option.map_some, Option.map_none, List.nil_append, ↓reduceIte, vcu, ↓vcd] at hc
  obtain ⟨h0, -⟩ := hc
  by_cases hlt : k < ps.length
  · have hx := hv k hlt
    have hmem : ps.getD k [] ∈ ps := by simp [List.getD, hlt]
    have hb := hp _ hmem
    have stop : ∀ {P : Prop}, (PRow ps k → P) → ¬P → ¬PlanOk ps := fun h1 h2 h3 => h2 (h1 (h3.1 k hlt))
    by_cases hd : DgT (ps.getD k [])
    · have hd1 : decide (DgT (ps.getD k [])) = true := decide_eq_true hd
      by_cases hr : 1 ≤ (ps.getD k []).length ∧ (ps.getD k []).length ≤ 3
      · have hr1 : decide ((1 : Int) ≤ ((ps.getD k []).length : Int) ∧ ((ps.getD k []).length : Int) ≤ 3) = true := decide_eq_true (by omega)
        simp -implicitDefEqProofs (disch := omega) only [List.any_cons, List.any_nil, Nat.reduceEqDiff, List.map_cons, List.map_nil, Option.map_some, Option.map_none, List.nil_append, ↓reduceIte, vcu, ↓vcd, h0, h3, hx]
        refine (digits_calls _ _ hb).mono ?_
        rintro r τ ⟨rfl, rfl⟩
        simp -implicitDefEqProofs (disch := omega) only [List.any_cons, List.any_nil, Nat.reduceEqDiff, List.map_cons, List.map_nil, Option.map_some, Option.map_none, List.nil_append, ↓reduceIte, vcu, ↓vcd, opK_some, h0, h3, hx, hd1]
        refine (in_calls _ _ 1 3).mono ?_
        rintro r τ ⟨rfl, rfl⟩
        simp -implicitDefEqProofs (disch := omega) only [List.any_cons, List.any_nil, Nat.reduceEqDiff, List.map_cons, List.map_nil, Option.map_some, Option.map_none, List.nil_append, ↓reduceIte, vcu, ↓vcd, opK_some, h0, h3, hx, hr1]
        refine vc_loop_c mixed (by kernel_rfl) [0, 3] (fun m a σ' => ∃ j : Nat, m + j = ps.length ∧ a 4 = .int .i64 j ∧ (∀ i, i < j → i ≠ k → ¬Beg (ps.getD k []) (ps.getD i [])) ∧ σ' = τ) ps.length ⟨0, by simp, rfl, fun j hj => absurd hj (by omega), rfl⟩ ?_
        rintro m2 a2 σ2 hc2 ⟨j, hj, h4, hin, rfl⟩
        simp -implicitDefEqProofs (disch := omega) only [List.any_cons, List.any_nil, Nat.reduceEqDiff, List.map_cons, List.map_nil, Option.map_some, Option.map_none, List.nil_append, ↓reduceIte, vcu, ↓vcd, h0, h3] at hc2
        obtain ⟨g0, g3, -⟩ := hc2
        by_cases hjl : j < ps.length
        · have hy := hv j hjl
          by_cases hjk : j = k
          · subst hjk
            simp -implicitDefEqProofs (disch := omega) only [List.any_cons, List.any_nil, Nat.reduceEqDiff, List.map_cons, List.map_nil, Option.map_some, Option.map_none, List.nil_append, ↓reduceIte, vcu, ↓vcd, g0, g3, h4, hx, hy]
            exact ⟨⟨h0.symm, h3.symm, trivial⟩, m2 - 1, by omega, j + 1, by omega, by simp, fun i hi hne => hin i (by omega) hne, trivial⟩
          · have hne : decide ((j : Int) ≠ (k : Int)) = true := decide_eq_true (by omega)
            by_cases hbg : Beg (ps.getD k []) (ps.getD j [])
            · have hb1 : decide (Beg (ps.getD k []) (ps.getD j [])) = true := decide_eq_true hbg
              simp -implicitDefEqProofs (disch := omega) only [List.any_cons, List.any_nil, Nat.reduceEqDiff, List.map_cons, List.map_nil, Option.map_some, Option.map_none, List.nil_append, ↓reduceIte, vcu, ↓vcd, g0, g3, h4, hx, hy, hne]
              rw [r_callq]
              refine ⟨_, begins_calls _ _ _, ?_⟩
              simp -implicitDefEqProofs (disch := omega) only [List.any_cons, List.any_nil, Nat.reduceEqDiff, List.map_cons, List.map_nil, Option.map_some, Option.map_none, List.nil_append, ↓reduceIte, vcu, ↓vcd, g0, g3, h4, hx, hy, hne, hb1]
              refine fin_one Try.results23 ⟨?_, rfl⟩
              simp -implicitDefEqProofs (disch := omega) only [List.any_cons, List.any_nil, Nat.reduceEqDiff, List.map_cons, List.map_nil, Option.map_some, Option.map_none, List.nil_append, ↓reduceIte, vcu, ↓vcd]
              simp [stop (fun h => h.2.2 j hjl hjk) (fun h => h hbg)]
            · have hb1 : decide (Beg (ps.getD k []) (ps.getD j [])) = false := decide_eq_false hbg
              simp -implicitDefEqProofs (disch := omega) only [List.any_cons, List.any_nil, Nat.reduceEqDiff, List.map_cons, List.map_nil, Option.map_some, Option.map_none, List.nil_append, ↓reduceIte, vcu, ↓vcd, g0, g3, h4, hx, hy, hne]
              rw [r_callq]
              refine ⟨_, begins_calls _ _ _, ?_⟩
              simp -implicitDefEqProofs (disch := omega) only [List.any_cons, List.any_nil, Nat.reduceEqDiff, List.map_cons, List.map_nil, Option.map_some, Option.map_none, List.nil_append, ↓reduceIte, vcu, ↓vcd, g0, g3, h4, hx, hy, hne, hb1]
              refine ⟨⟨h0.symm, h3.symm, trivial⟩, m2 - 1, by omega, j + 1, by omega, by simp, fun i hi hne' => ?_, trivial⟩
              by_cases e : i = j
              · subst e; exact hbg
              · exact hin i (by omega) hne'
        · simp -implicitDefEqProofs (disch := omega) only [List.any_cons, List.any_nil, Nat.reduceEqDiff, List.map_cons, List.map_nil, Option.map_some, Option.map_none, List.nil_append, ↓reduceIte, vcu, ↓vcd, g0, g3, h4]
          refine ⟨⟨trivial, trivial⟩, m - 1, by omega, k + 1, by omega, by simp, fun i hi => ?_, trivial⟩
          by_cases e : i = k
          · subst e; exact ⟨hd, hr, fun i' h1 h2 => hin i' (by omega) h2⟩
          · exact hall i (by omega)
      · have hr1 : decide ((1 : Int) ≤ ((ps.getD k []).length : Int) ∧ ((ps.getD k []).length : Int) ≤ 3) = false := decide_eq_false (by omega)
        simp -implicitDefEqProofs (disch := omega) only [List.any_cons, List.any_nil, Nat.reduceEqDiff, List.map_cons, List.map_nil, Option.map_some, Option.map_none, List.nil_append, ↓reduceIte, vcu, ↓vcd, h0, h3, hx]
        refine (digits_calls _ _ hb).mono ?_
        rintro r τ ⟨rfl, rfl⟩
        simp -implicitDefEqProofs (disch := omega) only [List.any_cons, List.any_nil, Nat.reduceEqDiff, List.map_cons, List.map_nil, Option.map_some, Option.map_none, List.nil_append, ↓reduceIte, vcu, ↓vcd, opK_some, h0, h3, hx, hd1]
        refine (in_calls _ _ 1 3).mono ?_
        rintro r τ ⟨rfl, rfl⟩
        simp -implicitDefEqProofs (disch := omega) only [List.any_cons, List.any_nil, Nat.reduceEqDiff, List.map_cons, List.map_nil, Option.map_some, Option.map_none, List.nil_append, ↓reduceIte, vcu, ↓vcd, opK_some, h0, h3, hx, hr1]
        refine fin_one Try.results23 ⟨?_, rfl⟩
        simp -implicitDefEqProofs (disch := omega) only [List.any_cons, List.any_nil, Nat.reduceEqDiff, List.map_cons, List.map_nil, Option.map_some, Option.map_none, List.nil_append, ↓reduceIte, vcu, ↓vcd]
        simp [stop (fun h => h.2.1) hr]
    · have hd1 : decide (DgT (ps.getD k [])) = false := decide_eq_false hd
      simp -implicitDefEqProofs (disch := omega) only [List.any_cons, List.any_nil, Nat.reduceEqDiff, List.map_cons, List.map_nil, Option.map_some, Option.map_none, List.nil_append, ↓reduceIte, vcu, ↓vcd, h0, h3, hx]
      refine (digits_calls _ _ hb).mono ?_
      rintro r τ ⟨rfl, rfl⟩
      simp -implicitDefEqProofs (disch := omega) only [List.any_cons, List.any_nil, Nat.reduceEqDiff, List.map_cons, List.map_nil, Option.map_some, Option.map_none, List.nil_append, ↓reduceIte, vcu, ↓vcd, opK_some, h0, h3, hx, hd1]
      refine fin_one Try.results23 ⟨?_, rfl⟩
      simp -implicitDefEqProofs (disch := omega) only [List.any_cons, List.any_nil, Nat.reduceEqDiff, List.map_cons, List.map_nil, Option.map_some, Option.map_none, List.nil_append, ↓reduceIte, vcu, ↓vcd]
      simp [stop (fun h => h.1) hd]
  · simp -implicitDefEqProofs (disch := omega) only [List.any_cons, List.any_nil, Nat.reduceEqDiff, List.map_cons, List.map_nil, Option.map_some, Option.map_none, List.nil_append, ↓reduceIte, vcu, ↓vcd, h0, h3]
    refine fin_one Try.results23 ⟨?_, rfl⟩
    simp -implicitDefEqProofs (disch := omega) only [List.any_cons, List.any_nil, Nat.reduceEqDiff, List.map_cons, List.map_nil, Option.map_some, Option.map_none, List.nil_append, ↓reduceIte, vcu, ↓vcd]
    congr 1
    rw [decide_eq_decide]
    exact ⟨fun h => ⟨fun j hj => hall j (by omega), by omega⟩, fun h => by have := h.2; omega⟩
end Go.Proofs.Ytnenopebfobajaa

namespace Go.Proofs.Ytnenopebfobajaa
open Go Go.Abs Go.RowKit
variable {w0 : World}

/-- valid lengths -/
def LnOk (xs : List Int) : Prop := (∀ k, k < xs.length → 1 ≤ xs.getD k 0 ∧ xs.getD k 0 ≤ 3) ∧ xs.length ≤ 10
instance (xs : List Int) : Decidable (LnOk xs) := inferInstanceAs (Decidable (_ ∧ _))
theorem lnValid_at (σ : AHeap) (h o : Nat) (xs : List Int) (hv : IntsAt .i64 σ h o xs) (hl : xs.length ≤ 1048576) :
    ACall Try.prog w0 28 [.slice (some ⟨h, o, none⟩) xs.length 1] σ fun r σ' => r = .bool (decide (LnOk xs)) ∧ σ' = σ := by
  refine acall_go mixed Try.func28 rfl good28 fun pr => ?_
  simp -implicitDefEqProofs (disch := omega) only [List.any_cons, List.any_nil, Nat.reduceEqDiff, List.map_cons, List.map_nil, Option.map_some, Option.map_none, List.nil_append, ↓reduceIte, vcu, ↓vcd]
  refine vc_loop_c mixed (by kernel_rfl) [0] (fun m a σ' => ∃ k : Nat, m + k = xs.length ∧ a 3 = .int .i64 k ∧ (∀ j, j < k → 1 ≤ xs.getD j 0 ∧ xs.getD j 0 ≤ 3) ∧ σ' = σ) xs.length ⟨0, by simp, rfl, fun j hj => absurd hj (by omega), rfl⟩ ?_
  rintro m a σ' hc ⟨k, hk, h3, hall, rfl⟩
  simp -implicitDefEqProofs (disch := omega) only [List.any_cons, List.any_nil, Nat.reduceEqDiff, List.map_cons, List.map_nil, Option.map_some, Option.map_none, List.nil_append, ↓reduceIte, vcu, ↓vcd] at hc
  obtain ⟨h0, -⟩ := hc
  by_cases hlt : k < xs.length
  · have hx := hv k hlt
    by_cases hin : 1 ≤ xs.getD k 0 ∧ xs.getD k 0 ≤ 3
    · have h1 : decide (1 ≤ xs.getD k 0 ∧ xs.getD k 0 ≤ 3) = true := decide_eq_true hin
      simp -implicitDefEqProofs (disch := omega) only [List.any_cons, List.any_nil, Nat.reduceEqDiff, List.map_cons, List.map_nil, Option.map_some, Option.map_none, List.nil_append, ↓reduceIte, vcu, ↓vcd, h0, h3, hx]
      refine (in_calls _ _ 1 3).mono ?_
      rintro r τ ⟨rfl, rfl⟩
      simp -implicitDefEqProofs (disch := omega) only [List.any_cons, List.any_nil, Nat.reduceEqDiff, List.map_cons, List.map_nil, Option.map_some, Option.map_none, List.nil_append, ↓reduceIte, vcu, ↓vcd, opK_some, h0, h3, hx, h1]
      refine ⟨⟨trivial, trivial⟩, m - 1, by omega, k + 1, by omega, by simp, fun j hj => ?_, trivial⟩
      by_cases e : j = k
      · subst e; exact hin
      · exact hall j (by omega)
    · have h1 : decide (1 ≤ xs.getD k 0 ∧ xs.getD k 0 ≤ 3) = false := decide_eq_false hin
      simp -implicitDefEqProofs (disch := omega) only [List.any_cons, List.any_nil, Nat.reduceEqDiff, List.map_cons, List.map_nil, Option.map_some, Option.map_none, List.nil_append, ↓reduceIte, vcu, ↓vcd, h0, h3, hx]
      refine (in_calls _ _ 1 3).mono ?_
      rintro r τ ⟨rfl, rfl⟩
      simp -implicitDefEqProofs (disch := omega) only [List.any_cons, List.any_nil, Nat.reduceEqDiff, List.map_cons, List.map_nil, Option.map_some, Option.map_none, List.nil_append, ↓reduceIte, vcu, ↓vcd, opK_some, h0, h3, hx, h1]
      refine fin_one Try.results28 ⟨?_, rfl⟩
      simp -implicitDefEqProofs (disch := omega) only [List.any_cons, List.any_nil, Nat.reduceEqDiff, List.map_cons, List.map_nil, Option.map_some, Option.map_none, List.nil_append, ↓reduceIte, vcu, ↓vcd]
      have : ¬LnOk xs := fun h => hin (h.1 k hlt)
      simp [this]
  · simp -implicitDefEqProofs (disch := omega) only [List.any_cons, List.any_nil, Nat.reduceEqDiff, List.map_cons, List.map_nil, Option.map_some, Option.map_none, List.nil_append, ↓reduceIte, vcu, ↓vcd, h0, h3]
    refine fin_one Try.results28 ⟨?_, rfl⟩
    simp -implicitDefEqProofs (disch := omega) only [List.any_cons, List.any_nil, Nat.reduceEqDiff, List.map_cons, List.map_nil, Option.map_some, Option.map_none, List.nil_append, ↓reduceIte, vcu, ↓vcd]
    congr 1
    rw [decide_eq_decide]
    exact ⟨fun h => ⟨fun j hj => hall j (by omega), by omega⟩, fun h => by have := h.2; omega⟩

/-- sums of shares -/
def shS (xs : List Int) : Nat → Int
  | 0 => 0
  | k + 1 => shS xs k + pw (3 - xs.getD k 0).toNat
theorem pw_le {n : Nat} (h : n ≤ 3) : 1 ≤ pw n ∧ pw n ≤ 64 := ⟨pw_pos n, pw_mono (n := 3) h⟩
theorem shS_le {xs : List Int} (h : ∀ j, j < xs.length → 0 ≤ xs.getD j 0) : ∀ k, k ≤ xs.length → 0 ≤ shS xs k ∧ shS xs k ≤ 64 * k
  | 0, _ => by simp [shS]
  | k + 1, hk => by
    have h1 := shS_le h k (by omega)
    have h2 := h k (by omega)
    have h3 := pw_le (n := (3 - xs.getD k 0).toNat) (by omega)
    simp only [shS]; omega
def shareV (xs : List Int) : Int := if LnOk xs then shS xs xs.length else -1
theorem shareV_le (xs : List Int) : -1 ≤ shareV xs ∧ shareV xs ≤ 640 := by
  unfold shareV
  split
  · rename_i h
    have := shS_le (fun j hj => by have := h.1 j hj; omega) xs.length (Nat.le_refl _)
    have := h.2
    omega
  · omega
theorem share_at (σ : AHeap) (h o : Nat) (xs : List Int) (hv : IntsAt .i64 σ h o xs) (hl : xs.length ≤ 1048576) :
    ACall Try.prog w0 30 [.slice (some ⟨h, o, none⟩) xs.length 1] σ fun r σ' => r = .int .i64 (shareV xs) ∧ σ' = σ := by
  refine acall_go mixed Try.func30 rfl good30 fun pr => ?_
  simp -implicitDefEqProofs (disch := omega) only [List.any_cons, List.any_nil, Nat.reduceEqDiff, List.map_cons, List.map_nil, Option.map_some, Option.map_none, List.nil_append, ↓reduceIte, vcu, ↓vcd]
  refine (lnValid_at _ h o xs hv hl).mono ?_
  rintro r τ ⟨rfl, rfl⟩
  by_cases hok : LnOk xs
  · have h1 : decide (LnOk xs) = true := decide_eq_true hok
    simp -implicitDefEqProofs (disch := omega) only [List.any_cons, List.any_nil, Nat.reduceEqDiff, List.map_cons, List.map_nil, Option.map_some, Option.map_none, List.nil_append, ↓reduceIte, vcu, ↓vcd, opK_some, h1]
    refine vc_loop_c mixed (by kernel_rfl) [0] (fun m a σ' => ∃ k : Nat, m + k = xs.length ∧ a 4 = .int .i64 k ∧ a 3 = .int .i64 (shS xs k) ∧ σ' = τ) xs.length ⟨0, by simp, rfl, rfl, rfl⟩ ?_
    rintro m a σ' hc ⟨k, hk, h4, h3, rfl⟩
    simp -implicitDefEqProofs (disch := omega) only [List.any_cons, List.any_nil, Nat.reduceEqDiff, List.map_cons, List.map_nil, Option.map_some, Option.map_none, List.nil_append, ↓reduceIte, vcu, ↓vcd] at hc
    obtain ⟨h0, -⟩ := hc
    have hb := shS_le (fun j hj => by have := hok.1 j hj; omega) k (by omega)
    by_cases hlt : k < xs.length
    · have hx := hv k hlt
      have hin := hok.1 k hlt
      have hp := pw_le (n := (3 - xs.getD k 0).toNat) (by omega)
      simp -implicitDefEqProofs (disch := omega) only [List.any_cons, List.any_nil, Nat.reduceEqDiff, List.map_cons, List.map_nil, Option.map_some, Option.map_none, List.nil_append, ↓reduceIte, vcu, ↓vcd, h0, h3, h4, hx]
      rw [show (3 - xs.getD k 0) = (((3 - xs.getD k 0).toNat : Nat) : Int) by omega]
      refine (power_calls _ _ (by omega)).mono ?_
      rintro r τ ⟨rfl, rfl⟩
      simp -implicitDefEqProofs (disch := omega) only [List.any_cons, List.any_nil, Nat.reduceEqDiff, List.map_cons, List.map_nil, Option.map_some, Option.map_none, List.nil_append, ↓reduceIte, vcu, ↓vcd, opK_some, h0, h3, h4, hx]
      exact ⟨⟨trivial, trivial⟩, m - 1, by omega, k + 1, by omega, by simp, by simp only [shS, Int.toNat_natCast], trivial⟩
    · simp -implicitDefEqProofs (disch := omega) only [List.any_cons, List.any_nil, Nat.reduceEqDiff, List.map_cons, List.map_nil, Option.map_some, Option.map_none, List.nil_append, ↓reduceIte, vcu, ↓vcd, h0, h3, h4]
      have e : k = xs.length := by omega
      refine fin_one Try.results30 ⟨?_, rfl⟩
      simp -implicitDefEqProofs (disch := omega) only [List.any_cons, List.any_nil, Nat.reduceEqDiff, List.map_cons, List.map_nil, Option.map_some, Option.map_none, List.nil_append, ↓reduceIte, vcu, ↓vcd, h3]
      rw [shareV, if_pos hok, e]
  · have h1 : decide (LnOk xs) = false := decide_eq_false hok
    simp -implicitDefEqProofs (disch := omega) only [List.any_cons, List.any_nil, Nat.reduceEqDiff, List.map_cons, List.map_nil, Option.map_some, Option.map_none, List.nil_append, ↓reduceIte, vcu, ↓vcd, opK_some, h1]
    refine fin_one Try.results30 ⟨?_, rfl⟩
    simp -implicitDefEqProofs (disch := omega) only [List.any_cons, List.any_nil, Nat.reduceEqDiff, List.map_cons, List.map_nil, Option.map_some, Option.map_none, List.nil_append, ↓reduceIte, vcu, ↓vcd]
    rw [shareV, if_neg hok]

/-- valid numbers of how often -/
def OfOk (xs : List Int) : Prop := (∀ k, k < xs.length → 0 ≤ xs.getD k 0 ∧ xs.getD k 0 ≤ 99) ∧ 2 ≤ xs.length ∧ xs.length ≤ 10
instance (xs : List Int) : Decidable (OfOk xs) := inferInstanceAs (Decidable (_ ∧ _))
theorem ofValid_at (σ : AHeap) (h o : Nat) (xs : List Int) (hv : IntsAt .i64 σ h o xs) (hl : xs.length ≤ 1048576) :
    ACall Try.prog w0 46 [.slice (some ⟨h, o, none⟩) xs.length 1] σ fun r σ' => r = .bool (decide (OfOk xs)) ∧ σ' = σ := by
  refine acall_go mixed Try.func46 rfl good46 fun pr => ?_
  simp -implicitDefEqProofs (disch := omega) only [List.any_cons, List.any_nil, Nat.reduceEqDiff, List.map_cons, List.map_nil, Option.map_some, Option.map_none, List.nil_append, ↓reduceIte, vcu, ↓vcd]
  refine vc_loop_c mixed (by kernel_rfl) [0] (fun m a σ' => ∃ k : Nat, m + k = xs.length ∧ a 3 = .int .i64 k ∧ (∀ j, j < k → 0 ≤ xs.getD j 0 ∧ xs.getD j 0 ≤ 99) ∧ σ' = σ) xs.length ⟨0, by simp, rfl, fun j hj => absurd hj (by omega), rfl⟩ ?_
  rintro m a σ' hc ⟨k, hk, h3, hall, rfl⟩
  simp -implicitDefEqProofs (disch := omega) only [List.any_cons, List.any_nil, Nat.reduceEqDiff, List.map_cons, List.map_nil, Option.map_some, Option.map_none, List.nil_append, ↓reduceIte, vcu, ↓vcd] at hc
  obtain ⟨h0, -⟩ := hc
  by_cases hlt : k < xs.length
  · have hx := hv k hlt
    by_cases hin : 0 ≤ xs.getD k 0 ∧ xs.getD k 0 ≤ 99
    · have h1 : decide (0 ≤ xs.getD k 0 ∧ xs.getD k 0 ≤ 99) = true := decide_eq_true hin
      simp -implicitDefEqProofs (disch := omega) only [List.any_cons, List.any_nil, Nat.reduceEqDiff, List.map_cons, List.map_nil, Option.map_some, Option.map_none, List.nil_append, ↓reduceIte, vcu, ↓vcd, h0, h3, hx]
      refine (in_calls _ _ 0 99).mono ?_
      rintro r τ ⟨rfl, rfl⟩
      simp -implicitDefEqProofs (disch := omega) only [List.any_cons, List.any_nil, Nat.reduceEqDiff, List.map_cons, List.map_nil, Option.map_some, Option.map_none, List.nil_append, ↓reduceIte, vcu, ↓vcd, opK_some, h0, h3, hx, h1]
      refine ⟨⟨trivial, trivial⟩, m - 1, by omega, k + 1, by omega, by simp, fun j hj => ?_, trivial⟩
      by_cases e : j = k
      · subst e; exact hin
      · exact hall j (by omega)
    · have h1 : decide (0 ≤ xs.getD k 0 ∧ xs.getD k 0 ≤ 99) = false := decide_eq_false hin
      simp -implicitDefEqProofs (disch := omega) only [List.any_cons, List.any_nil, Nat.reduceEqDiff, List.map_cons, List.map_nil, Option.map_some, Option.map_none, List.nil_append, ↓reduceIte, vcu, ↓vcd, h0, h3, hx]
      refine (in_calls _ _ 0 99).mono ?_
      rintro r τ ⟨rfl, rfl⟩
      simp -implicitDefEqProofs (disch := omega) only [List.any_cons, List.any_nil, Nat.reduceEqDiff, List.map_cons, List.map_nil, Option.map_some, Option.map_none, List.nil_append, ↓reduceIte, vcu, ↓vcd, opK_some, h0, h3, hx, h1]
      refine fin_one Try.results46 ⟨?_, rfl⟩
      simp -implicitDefEqProofs (disch := omega) only [List.any_cons, List.any_nil, Nat.reduceEqDiff, List.map_cons, List.map_nil, Option.map_some, Option.map_none, List.nil_append, ↓reduceIte, vcu, ↓vcd]
      have : ¬OfOk xs := fun h => hin (h.1 k hlt)
      simp [this]
  · simp -implicitDefEqProofs (disch := omega) only [List.any_cons, List.any_nil, Nat.reduceEqDiff, List.map_cons, List.map_nil, Option.map_some, Option.map_none, List.nil_append, ↓reduceIte, vcu, ↓vcd, h0, h3]
    refine (in_calls _ _ 2 10).mono ?_
    rintro r τ ⟨rfl, rfl⟩
    simp -implicitDefEqProofs (disch := omega) only [List.any_cons, List.any_nil, Nat.reduceEqDiff, List.map_cons, List.map_nil, Option.map_some, Option.map_none, List.nil_append, ↓reduceIte, vcu, ↓vcd, opK_some]
    refine fin_one Try.results46 ⟨?_, rfl⟩
    simp -implicitDefEqProofs (disch := omega) only [List.any_cons, List.any_nil, Nat.reduceEqDiff, List.map_cons, List.map_nil, Option.map_some, Option.map_none, List.nil_append, ↓reduceIte, vcu, ↓vcd]
    congr 1
    rw [decide_eq_decide]
    exact ⟨fun h => ⟨fun j hj => hall j (by omega), by omega⟩, fun h => by have := h.2; omega⟩

/-- what the numbers cost -/
def coS (fs ls : List Int) : Nat → Int
  | 0 => 0
  | k + 1 => coS fs ls k + fs.getD k 0 * ls.getD k 0
theorem mul3_le {a b : Int} (ha : 0 ≤ a ∧ a ≤ 99) (hb : 1 ≤ b ∧ b ≤ 3) : 0 ≤ a * b ∧ a * b ≤ 297 := by
  refine ⟨Int.mul_nonneg ha.1 (by omega), ?_⟩
  have := Int.mul_le_mul ha.2 hb.2 (by omega) (by omega)
  omega
def CoOk (fs ls : List Int) : Prop := OfOk fs ∧ LnOk ls ∧ ls.length = fs.length
instance (fs ls : List Int) : Decidable (CoOk fs ls) := inferInstanceAs (Decidable (_ ∧ _ ∧ _))
theorem coS_le {fs ls : List Int} (h : CoOk fs ls) : ∀ k, k ≤ fs.length → 0 ≤ coS fs ls k ∧ coS fs ls k ≤ 297 * k
  | 0, _ => by simp [coS]
  | k + 1, hk => by
    have h1 := coS_le h k (by omega)
    have h3 := mul3_le (h.1.1 k (by omega)) (h.2.1.1 k (by rw [h.2.2]; omega))
    simp only [coS]; omega
def costV (fs ls : List Int) : Int := if CoOk fs ls then coS fs ls fs.length else -1
theorem cost_at (σ : AHeap) (h o g p : Nat) (fs ls : List Int) (hv : IntsAt .i64 σ h o fs) (hu : IntsAt .i64 σ g p ls) (hl : fs.length ≤ 1048576) (hl2 : ls.length ≤ 1048576) :
    ACall Try.prog w0 49 [.slice (some ⟨h, o, none⟩) fs.length 1, .slice (some ⟨g, p, none⟩) ls.length 1] σ fun r σ' => r = .int .i64 (costV fs ls) ∧ σ' = σ := by
  refine acall_go mixed Try.func49 rfl good49 fun pr => ?_
  simp -implicitDefEqProofs (disch := omega) only [List.any_cons, List.any_nil, Nat.reduceEqDiff, List.map_cons, List.map_nil, Option.map_some, Option.map_none, List.nil_append, ↓reduceIte, vcu, ↓vcd]
  refine (ofValid_at _ h o fs hv hl).mono ?_
  rintro r τ ⟨rfl, rfl⟩
  by_cases ho : OfOk fs
  · have h1 : decide (OfOk fs) = true := decide_eq_true ho
    simp -implicitDefEqProofs (disch := omega) only [List.any_cons, List.any_nil, Nat.reduceEqDiff, List.map_cons, List.map_nil, Option.map_some, Option.map_none, List.nil_append, ↓reduceIte, vcu, ↓vcd, opK_some, h1]
    refine (lnValid_at _ g p ls hu hl2).mono ?_
    rintro r τ ⟨rfl, rfl⟩
    by_cases hn : LnOk ls
    · have h2 : decide (LnOk ls) = true := decide_eq_true hn
      by_cases hlen : ls.length = fs.length
      · have hok : CoOk fs ls := ⟨ho, hn, hlen⟩
        have h3 : decide ((ls.length : Int) ≠ (fs.length : Int)) = false := decide_eq_false (by omega)
        simp -implicitDefEqProofs (disch := omega) only [List.any_cons, List.any_nil, Nat.reduceEqDiff, List.map_cons, List.map_nil, Option.map_some, Option.map_none, List.nil_append, ↓reduceIte, vcu, ↓vcd, opK_some, h1, h2, h3]
        refine vc_loop_c mixed (by kernel_rfl) [0, 1] (fun m a σ' => ∃ k : Nat, m + k = fs.length ∧ a 6 = .int .i64 k ∧ a 5 = .int .i64 (coS fs ls k) ∧ σ' = τ) fs.length ⟨0, by simp, rfl, rfl, rfl⟩ ?_
        rintro m a σ' hc ⟨k, hk, h6, h5, rfl⟩
        simp -implicitDefEqProofs (disch := omega) only [List.any_cons, List.any_nil, Nat.reduceEqDiff, List.map_cons, List.map_nil, Option.map_some, Option.map_none, List.nil_append, ↓reduceIte, vcu, ↓vcd] at hc
        obtain ⟨g0, g1, -⟩ := hc
        have hb := coS_le hok k (by omega)
        by_cases hlt : k < fs.length
        · have hx := hv k hlt
          have hy := hu k (by omega)
          have hm := mul3_le (ho.1 k hlt) (hn.1 k (by omega))
          simp -implicitDefEqProofs (disch := omega) only [List.any_cons, List.any_nil, Nat.reduceEqDiff, List.map_cons, List.map_nil, Option.map_some, Option.map_none, List.nil_append, ↓reduceIte, vcu, ↓vcd, g0, g1, h5, h6, hx, hy]
          exact ⟨⟨trivial, trivial, trivial⟩, m - 1, by omega, k + 1, by omega, by simp, by simp only [coS], trivial⟩
        · simp -implicitDefEqProofs (disch := omega) only [List.any_cons, List.any_nil, Nat.reduceEqDiff, List.map_cons, List.map_nil, Option.map_some, Option.map_none, List.nil_append, ↓reduceIte, vcu, ↓vcd, g0, g1, h5, h6]
          have e : k = fs.length := by omega
          refine fin_one Try.results49 ⟨?_, rfl⟩
          simp -implicitDefEqProofs (disch := omega) only [List.any_cons, List.any_nil, Nat.reduceEqDiff, List.map_cons, List.map_nil, Option.map_some, Option.map_none, List.nil_append, ↓reduceIte, vcu, ↓vcd, h5]
          rw [costV, if_pos hok, e]
      · have hok : ¬CoOk fs ls := fun h => hlen h.2.2
        have h3 : decide ((ls.length : Int) ≠ (fs.length : Int)) = true := decide_eq_true (by omega)
        simp -implicitDefEqProofs (disch := omega) only [List.any_cons, List.any_nil, Nat.reduceEqDiff, List.map_cons, List.map_nil, Option.map_some, Option.map_none, List.nil_append, ↓reduceIte, vcu, ↓vcd, opK_some, h1, h2, h3]
        refine fin_one Try.results49 ⟨?_, rfl⟩
        simp -implicitDefEqProofs (disch := omega) only [List.any_cons, List.any_nil, Nat.reduceEqDiff, List.map_cons, List.map_nil, Option.map_some, Option.map_none, List.nil_append, ↓reduceIte, vcu, ↓vcd]
        rw [costV, if_neg hok]
    · have hok : ¬CoOk fs ls := fun h => hn h.2.1
      have h2 : decide (LnOk ls) = false := decide_eq_false hn
      simp -implicitDefEqProofs (disch := omega) only [List.any_cons, List.any_nil, Nat.reduceEqDiff, List.map_cons, List.map_nil, Option.map_some, Option.map_none, List.nil_append, ↓reduceIte, vcu, ↓vcd, opK_some, h1, h2]
      refine fin_one Try.results49 ⟨?_, rfl⟩
      simp -implicitDefEqProofs (disch := omega) only [List.any_cons, List.any_nil, Nat.reduceEqDiff, List.map_cons, List.map_nil, Option.map_some, Option.map_none, List.nil_append, ↓reduceIte, vcu, ↓vcd]
      rw [costV, if_neg hok]
  · have hok : ¬CoOk fs ls := fun h => ho h.1
    have h1 : decide (OfOk fs) = false := decide_eq_false ho
    simp -implicitDefEqProofs (disch := omega) only [List.any_cons, List.any_nil, Nat.reduceEqDiff, List.map_cons, List.map_nil, Option.map_some, Option.map_none, List.nil_append, ↓reduceIte, vcu, ↓vcd, opK_some, h1]
    refine fin_one Try.results49 ⟨?_, rfl⟩
    simp -implicitDefEqProofs (disch := omega) only [List.any_cons, List.any_nil, Nat.reduceEqDiff, List.map_cons, List.map_nil, Option.map_some, Option.map_none, List.nil_append, ↓reduceIte, vcu, ↓vcd]
    rw [costV, if_neg hok]
end Go.Proofs.Ytnenopebfobajaa

namespace Go.Proofs.Ytnenopebfobajaa
open Go Go.Abs Go.RowKit
variable {w0 : World}
theorem own_intsI {σ : AHeap} {g : Nat} {xs : List Int} (h : σ g = some ⟨ints .i64 xs, false⟩) : Ints .i64 σ (.slice (some ⟨g, 0, none⟩) xs.length 1) xs := .inr ⟨g, 0, rfl, intsAt_own h⟩
theorem own_textsI {σ : AHeap} {g : Nat} {xs : List (List UInt8)} (h : σ g = some ⟨texts xs, false⟩) : Texts σ (.slice (some ⟨g, 0, none⟩) xs.length 1) xs := .inr ⟨g, 0, rfl, textsAt_own h⟩
theorem lnValid_calls (σ : AHeap) (v : Value) (xs : List Int) (hv : Ints .i64 σ v xs) (hl : xs.length ≤ 1048576) : ACall Try.prog w0 28 [v] σ fun r σ' => r = .bool (decide (LnOk xs)) ∧ σ' = σ :=
  ACall.ints_quiet (pre := []) (post := []) (by kernel_rfl) hv fun σ1 h o _ hg => lnValid_at σ1 h o xs hg hl
theorem share_calls (σ : AHeap) (v : Value) (xs : List Int) (hv : Ints .i64 σ v xs) (hl : xs.length ≤ 1048576) : ACall Try.prog w0 30 [v] σ fun r σ' => r = .int .i64 (shareV xs) ∧ σ' = σ :=
  ACall.ints_quiet (pre := []) (post := []) (by kernel_rfl) hv fun σ1 h o _ hg => share_at σ1 h o xs hg hl
theorem ofValid_calls (σ : AHeap) (v : Value) (xs : List Int) (hv : Ints .i64 σ v xs) (hl : xs.length ≤ 1048576) : ACall Try.prog w0 46 [v] σ fun r σ' => r = .bool (decide (OfOk xs)) ∧ σ' = σ :=
  ACall.ints_quiet (pre := []) (post := []) (by kernel_rfl) hv fun σ1 h o _ hg => ofValid_at σ1 h o xs hg hl
theorem cost_calls (σ : AHeap) (v u : Value) (fs ls : List Int) (hv : Ints .i64 σ v fs) (hu : Ints .i64 σ u ls) (hl : fs.length ≤ 1048576) (hl2 : ls.length ≤ 1048576) : ACall Try.prog w0 49 [v, u] σ fun r σ' => r = .int .i64 (costV fs ls) ∧ σ' = σ :=
  ACall.ints_quiet (pre := []) (post := [u]) (by kernel_rfl) hv fun σ1 h o hs hg => ACall.ints_quiet (pre := [_]) (post := []) (by kernel_rfl) (hu.sub hs) fun σ2 g p hs2 hg2 => cost_at σ2 h o g p fs ls (hg.sub hs2) hg2 hl hl2
theorem planValid_calls (σ : AHeap) (v : Value) (ps : List (List UInt8)) (hv : Texts σ v ps) (hl : ps.length ≤ 1048576) (hp : ∀ x ∈ ps, x.length ≤ 1048576) : ACall Try.prog w0 23 [v] σ fun r σ' => r = .bool (decide (PlanOk ps)) ∧ σ' = σ :=
  ACall.texts_quiet (pre := []) (post := []) (by kernel_rfl) hv fun σ1 h o _ hg => planValid_at σ1 h o ps hg hl hp
end Go.Proofs.Ytnenopebfobajaa

namespace Go.Proofs.Ytnenopebfobajaa
open Go Go.Abs Go.RowKit
variable {w0 : World}

/-- the first from k on of which it holds -/
def fstN (p : Nat → Bool) : Nat → Nat → Option Nat
  | _, 0 => none
  | k, m + 1 => if p k = true then some k else fstN p (k + 1) m
theorem fstN_some {p : Nat → Bool} : ∀ {m k i : Nat}, fstN p k m = some i → k ≤ i ∧ i < k + m ∧ p i = true
  | 0, _, _, h => by cases h
  | m + 1, k, i, h => by
    unfold fstN at h
    split at h
    · rename_i hp; cases h; exact ⟨Nat.le_refl _, by omega, hp⟩
    · have := fstN_some h; exact ⟨by omega, by omega, this.2.2⟩
def begB (ps : List (List UInt8)) (s : List UInt8) (k : Nat) : Bool := decide (Beg s (ps.getD k []))
def dialN (ps : List (List UInt8)) (s : List UInt8) : Option Nat := if PlanOk ps ∧ DgT s then fstN (begB ps s) 0 ps.length else none
def dialK (ps : List (List UInt8)) (s : List UInt8) : Int := match dialN ps s with | some k => k | none => -1
def dialL (ps : List (List UInt8)) (s : List UInt8) : Nat := match dialN ps s with | some k => (ps.getD k []).length | none => 0
theorem dialOne_at (σ : AHeap) (h o : Nat) (ps : List (List UInt8)) (s : List UInt8) (hv : TextsAt σ h o ps) (hl : ps.length ≤ 1048576) (hp : ∀ x ∈ ps, x.length ≤ 1048576) (hs : s.length ≤ 1048576) :
    ACall Try.prog w0 40 [.slice (some ⟨h, o, none⟩) ps.length 1, .string (tx s)] σ fun r σ' => r = .tuple #[.int .i64 (dialK ps s), .int .i64 (dialL ps s : Int)] ∧ σ' = σ := by
  refine acall_go mixed Try.func40 rfl good40 fun pr => ?_
  simp -implicitDefEqProofs (disch := omega) only [List.any_cons, List.any_nil, Nat.reduceEqDiff, List.map_cons, List.map_nil, Option.map_some, Option.map_none, List.nil_append, ↓reduceIte, vcu, ↓vcd]
  refine vc_loop_c mixed (by kernel_rfl) [0, 1] (fun m a σ' => ∃ k : Nat, m + k = ps.length ∧ a 6 = .int .i64 k ∧ dialN ps s = (if PlanOk ps ∧ DgT s then fstN (begB ps s) k m else none) ∧ σ' = σ) ps.length ⟨0, by simp, rfl, rfl, rfl⟩ ?_
  rintro m a σ' hc ⟨k, hk, h6, hd, rfl⟩
  simp -implicitDefEqProofs (disch := omega) only [List.any_cons, List.any_nil, Nat.reduceEqDiff, List.map_cons, List.map_nil, Option.map_some, Option.map_none, List.nil_append, ↓reduceIte, vcu, ↓vcd] at hc
  obtain ⟨h0, h1, -⟩ := hc
  by_cases hlt : k < ps.length
  · have hx := hv k hlt
    by_cases hpo : PlanOk ps
    · have d1 : decide (PlanOk ps) = true := decide_eq_true hpo
      by_cases hsd : DgT s
      · have d2 : decide (DgT s) = true := decide_eq_true hsd
        obtain ⟨m', rfl⟩ : ∃ m', m = m' + 1 := ⟨m - 1, by omega⟩
        rw [if_pos ⟨hpo, hsd⟩, fstN] at hd
        simp -implicitDefEqProofs (disch := omega) only [List.any_cons, List.any_nil, Nat.reduceEqDiff, List.map_cons, List.map_nil, Option.map_some, Option.map_none, List.nil_append, ↓reduceIte, vcu, ↓vcd, h0, h1, h6]
        refine (planValid_at _ h o ps hv hl hp).mono ?_
        rintro r τ ⟨rfl, rfl⟩
        simp -implicitDefEqProofs (disch := omega) only [List.any_cons, List.any_nil, Nat.reduceEqDiff, List.map_cons, List.map_nil, Option.map_some, Option.map_none, List.nil_append, ↓reduceIte, vcu, ↓vcd, opK_some, h0, h1, h6, d1]
        refine (digits_calls _ s hs).mono ?_
        rintro r τ ⟨rfl, rfl⟩
        simp -implicitDefEqProofs (disch := omega) only [List.any_cons, List.any_nil, Nat.reduceEqDiff, List.map_cons, List.map_nil, Option.map_some, Option.map_none, List.nil_append, ↓reduceIte, vcu, ↓vcd, opK_some, h0, h1, h6, d2, hx]
        refine (begins_calls _ _ _).mono ?_
        rintro r τ ⟨rfl, rfl⟩
        by_cases hb : Beg s (ps.getD k [])
        · have d3 : decide (Beg s (ps.getD k [])) = true := decide_eq_true hb
          rw [show begB ps s k = true from d3, if_pos rfl] at hd
          simp -implicitDefEqProofs (disch := omega) only [List.any_cons, List.any_nil, Nat.reduceEqDiff, List.map_cons, List.map_nil, Option.map_some, Option.map_none, List.nil_append, ↓reduceIte, vcu, ↓vcd, opK_some, h0, h1, h6, d3, hx]
          refine fin_two Try.results40 ⟨?_, rfl⟩
          simp -implicitDefEqProofs (disch := omega) only [List.any_cons, List.any_nil, Nat.reduceEqDiff, List.map_cons, List.map_nil, Option.map_some, Option.map_none, List.nil_append, ↓reduceIte, vcu, ↓vcd]
          unfold dialK dialL
          rw [hd]
        · have d3 : decide (Beg s (ps.getD k [])) = false := decide_eq_false hb
          rw [show begB ps s k = false from d3, if_neg (by simp)] at hd
          simp -implicitDefEqProofs (disch := omega) only [List.any_cons, List.any_nil, Nat.reduceEqDiff, List.map_cons, List.map_nil, Option.map_some, Option.map_none, List.nil_append, ↓reduceIte, vcu, ↓vcd, opK_some, h0, h1, h6, d3, hx]
          exact ⟨⟨trivial, trivial, trivial⟩, m', by omega, k + 1, by omega, by simp, by rw [hd, if_pos ⟨hpo, hsd⟩], trivial⟩
      · have d2 : decide (DgT s) = false := decide_eq_false hsd
        rw [if_neg (fun h => hsd h.2)] at hd
        simp -implicitDefEqProofs (disch := omega) only [List.any_cons, List.any_nil, Nat.reduceEqDiff, List.map_cons, List.map_nil, Option.map_some, Option.map_none, List.nil_append, ↓reduceIte, vcu, ↓vcd, h0, h1, h6]
        refine (planValid_at _ h o ps hv hl hp).mono ?_
        rintro r τ ⟨rfl, rfl⟩
        simp -implicitDefEqProofs (disch := omega) only [List.any_cons, List.any_nil, Nat.reduceEqDiff, List.map_cons, List.map_nil, Option.map_some, Option.map_none, List.nil_append, ↓reduceIte, vcu, ↓vcd, opK_some, h0, h1, h6, d1]
        refine (digits_calls _ s hs).mono ?_
        rintro r τ ⟨rfl, rfl⟩
        simp -implicitDefEqProofs (disch := omega) only [List.any_cons, List.any_nil, Nat.reduceEqDiff, List.map_cons, List.map_nil, Option.map_some, Option.map_none, List.nil_append, ↓reduceIte, vcu, ↓vcd, opK_some, h0, h1, h6, d2, hx]
        refine fin_two Try.results40 ⟨?_, rfl⟩
        simp -implicitDefEqProofs (disch := omega) only [List.any_cons, List.any_nil, Nat.reduceEqDiff, List.map_cons, List.map_nil, Option.map_some, Option.map_none, List.nil_append, ↓reduceIte, vcu, ↓vcd]
        unfold dialK dialL
        rw [hd]; rfl
    · have d1 : decide (PlanOk ps) = false := decide_eq_false hpo
      rw [if_neg (fun h => hpo h.1)] at hd
      simp -implicitDefEqProofs (disch := omega) only [List.any_cons, List.any_nil, Nat.reduceEqDiff, List.map_cons, List.map_nil, Option.map_some, Option.map_none, List.nil_append, ↓reduceIte, vcu, ↓vcd, h0, h1, h6]
      refine (planValid_at _ h o ps hv hl hp).mono ?_
      rintro r τ ⟨rfl, rfl⟩
      simp -implicitDefEqProofs (disch := omega) only [List.any_cons, List.any_nil, Nat.reduceEqDiff, List.map_cons, List.map_nil, Option.map_some, Option.map_none, List.nil_append, ↓reduceIte, vcu, ↓vcd, opK_some, h0, h1, h6, d1]
      refine fin_two Try.results40 ⟨?_, rfl⟩
      simp -implicitDefEqProofs (disch := omega) only [List.any_cons, List.any_nil, Nat.reduceEqDiff, List.map_cons, List.map_nil, Option.map_some, Option.map_none, List.nil_append, ↓reduceIte, vcu, ↓vcd]
      unfold dialK dialL
      rw [hd]; rfl
  · simp -implicitDefEqProofs (disch := omega) only [List.any_cons, List.any_nil, Nat.reduceEqDiff, List.map_cons, List.map_nil, Option.map_some, Option.map_none, List.nil_append, ↓reduceIte, vcu, ↓vcd, h0, h1, h6]
    have e : m = 0 := by omega
    subst e
    rw [fstN, ite_self] at hd
    refine fin_two Try.results40 ⟨?_, rfl⟩
    simp -implicitDefEqProofs (disch := omega) only [List.any_cons, List.any_nil, Nat.reduceEqDiff, List.map_cons, List.map_nil, Option.map_some, Option.map_none, List.nil_append, ↓reduceIte, vcu, ↓vcd]
    unfold dialK dialL
    rw [hd]; rfl
theorem dialOne_calls (σ : AHeap) (v : Value) (ps : List (List UInt8)) (s : List UInt8) (hv : Texts σ v ps) (hl : ps.length ≤ 1048576) (hp : ∀ x ∈ ps, x.length ≤ 1048576) (hs : s.length ≤ 1048576) :
    ACall Try.prog w0 40 [v, .string (tx s)] σ fun r σ' => r = .tuple #[.int .i64 (dialK ps s), .int .i64 (dialL ps s : Int)] ∧ σ' = σ :=
  ACall.texts_quiet (pre := []) (post := [_]) (by kernel_rfl) hv fun σ1 h o _ hg => dialOne_at σ1 h o ps s hg hl hp hs
end Go.Proofs.Ytnenopebfobajaa

namespace Go.Proofs.Ytnenopebfobajaa
open Go Go.Abs Go.RowKit
variable {w0 : World}

/-- the lengths of a valid plan -/
def lensV (ps : List (List UInt8)) : List Int := if PlanOk ps then ps.map fun p => (p.length : Int) else []
theorem lensV_len (ps : List (List UInt8)) : (lensV ps).length ≤ ps.length := by unfold lensV; split <;> simp
theorem planLen_at (σ : AHeap) (h o : Nat) (ps : List (List UInt8)) (hv : TextsAt σ h o ps) (hl : ps.length ≤ 1048576) (hp : ∀ x ∈ ps, x.length ≤ 1048576) :
    ACall Try.prog w0 37 [.slice (some ⟨h, o, none⟩) ps.length 1] σ fun r σ' => Sub σ σ' ∧ OwnI σ σ' r (lensV ps) := by
  refine acall_go mixed Try.func37 rfl good37 fun pr => ?_
  simp -implicitDefEqProofs (disch := omega) only [List.any_cons, List.any_nil, Nat.reduceEqDiff, List.map_cons, List.map_nil, Option.map_some, Option.map_none, List.nil_append, ↓reduceIte, vcu, ↓vcd]
  refine r_lit el31 (out := #[]) (by kernel_rfl) (by kernel_rfl) fun e0 τ1 n1 s2 e2 => ?_
  simp -implicitDefEqProofs (disch := omega) only [List.any_cons, List.any_nil, Nat.reduceEqDiff, List.map_cons, List.map_nil, Option.map_some, Option.map_none, List.nil_append, ↓reduceIte, vcu, ↓vcd]
  refine vc_loop_c mixed (by kernel_rfl) [0] (fun m a τ' => ∃ (k g : Nat), m + k = ps.length ∧ a 4 = .int .i64 k ∧ (0 < k → PlanOk ps) ∧ a 3 = .slice (some ⟨g, 0, none⟩) k 1 ∧ Sub σ τ' ∧ τ' g = some ⟨ints .i64 ((ps.take k).map fun p => (p.length : Int)), false⟩ ∧ σ g = none) ps.length ⟨0, e0, by simp, rfl, fun h => absurd h (by omega), rfl, s2, e2, n1⟩ ?_
  rintro m a τ2 hc ⟨k, g, hk, h4, hk0, h3, hs, hg, hn⟩
  simp -implicitDefEqProofs (disch := omega) only [List.any_cons, List.any_nil, Nat.reduceEqDiff, List.map_cons, List.map_nil, Option.map_some, Option.map_none, List.nil_append, ↓reduceIte, vcu, ↓vcd] at hc
  obtain ⟨h0, -⟩ := hc
  by_cases hlt : k < ps.length
  · by_cases hpo : PlanOk ps
    · have d1 : decide (PlanOk ps) = true := decide_eq_true hpo
      have hx := (hv.sub hs) k hlt
      simp -implicitDefEqProofs (disch := omega) only [List.any_cons, List.any_nil, Nat.reduceEqDiff, List.map_cons, List.map_nil, Option.map_some, Option.map_none, List.nil_append, ↓reduceIte, vcu, ↓vcd, h0, h4]
      refine (planValid_at _ h o ps (hv.sub hs) hl hp).mono ?_
      rintro r τ ⟨rfl, rfl⟩
      simp -implicitDefEqProofs (disch := omega) only [List.any_cons, List.any_nil, Nat.reduceEqDiff, List.map_cons, List.map_nil, Option.map_some, Option.map_none, List.nil_append, ↓reduceIte, vcu, ↓vcd, opK_some, h0, h3, h4, d1, hx]
      refine r_lit el31 (out := #[.int .i64 ((ps.getD k []).length : Int)]) (by first | kernel_rfl | (simp -implicitDefEqProofs (disch := omega) only [List.any_cons, List.any_nil, Nat.reduceEqDiff, List.map_cons, List.map_nil, Option.map_some, Option.map_none, List.nil_append, ↓reduceIte, vcu, ↓vcd]; kernel_rfl)) (by rfl) fun e3 τ3 n3 s3 v3 => ?_
      refine r_pushI (g := g) (e := e3) (o := 0) (k := .i64) (xs := (ps.take k).map fun p => (p.length : Int)) (ys := [((ps.getD k []).length : Int)]) (m := 1) (len := k) el31 (by omega) sl31 (by simp -implicitDefEqProofs (disch := omega) only [List.any_cons, List.any_nil, Nat.reduceEqDiff, List.map_cons, List.map_nil, Option.map_some, Option.map_none, List.nil_append, ↓reduceIte, vcu, ↓vcd, h3]) (s3 _ _ hg) (by simp; omega) (by simp -implicitDefEqProofs (disch := omega) only [List.any_cons, List.any_nil, Nat.reduceEqDiff, List.map_cons, List.map_nil, Option.map_some, Option.map_none, List.nil_append, ↓reduceIte, vcu, ↓vcd]) (intsAt_own v3) rfl (by omega) fun g6 τ6 n6 k6 v6 => ?_
      have ht : ((ps.take k).map fun p => (p.length : Int)) ++ [((ps.getD k []).length : Int)] = (ps.take (k + 1)).map fun p => (p.length : Int) := by
        rw [List.take_succ_eq_append_getElem hlt, List.map_append, List.map_singleton]; simp [List.getD, hlt]
      rw [ht] at v6
      simp -implicitDefEqProofs (disch := omega) only [List.any_cons, List.any_nil, Nat.reduceEqDiff, List.map_cons, List.map_nil, Option.map_some, Option.map_none, List.nil_append, ↓reduceIte, vcu, ↓vcd, h0, h4]
      exact ⟨⟨trivial, trivial⟩, m - 1, by omega, k + 1, g6, by omega, by simp, fun _ => hpo, rfl, k6.sub (hs.trans s3) hn, v6, free_sub (hs.trans s3) n6⟩
    · have d1 : decide (PlanOk ps) = false := decide_eq_false hpo
      have hk1 : k = 0 := by
        rcases Nat.eq_zero_or_pos k with h | h
        · exact h
        · exact absurd (hk0 h) hpo
      subst hk1
      simp -implicitDefEqProofs (disch := omega) only [List.any_cons, List.any_nil, Nat.reduceEqDiff, List.map_cons, List.map_nil, Option.map_some, Option.map_none, List.nil_append, ↓reduceIte, vcu, ↓vcd, h0, h4]
      refine (planValid_at _ h o ps (hv.sub hs) hl hp).mono ?_
      rintro r τ ⟨rfl, rfl⟩
      simp -implicitDefEqProofs (disch := omega) only [List.any_cons, List.any_nil, Nat.reduceEqDiff, List.map_cons, List.map_nil, Option.map_some, Option.map_none, List.nil_append, ↓reduceIte, vcu, ↓vcd, opK_some, h0, h3, h4, d1]
      refine fin_one Try.results37 ⟨hs, .inr ⟨g, ?_, by simpa [lensV, hpo] using hg, hn⟩⟩
      simp -implicitDefEqProofs (disch := omega) only [List.any_cons, List.any_nil, Nat.reduceEqDiff, List.map_cons, List.map_nil, Option.map_some, Option.map_none, List.nil_append, ↓reduceIte, vcu, ↓vcd, h3]
      simp [lensV, hpo]
  · simp -implicitDefEqProofs (disch := omega) only [List.any_cons, List.any_nil, Nat.reduceEqDiff, List.map_cons, List.map_nil, Option.map_some, Option.map_none, List.nil_append, ↓reduceIte, vcu, ↓vcd, h0, h3, h4]
    obtain rfl : k = ps.length := by omega
    rw [List.take_length] at hg
    have he : lensV ps = ps.map fun p => (p.length : Int) := by
      unfold lensV
      split
      · rfl
      · rename_i hpo
        have : ps = [] := by
          rcases Nat.eq_zero_or_pos ps.length with h | h
          · exact List.eq_nil_of_length_eq_zero h
          · exact absurd (hk0 h) hpo
        subst this; rfl
    refine fin_one Try.results37 ⟨hs, .inr ⟨g, ?_, by rw [he]; exact hg, hn⟩⟩
    simp -implicitDefEqProofs (disch := omega) only [List.any_cons, List.any_nil, Nat.reduceEqDiff, List.map_cons, List.map_nil, Option.map_some, Option.map_none, List.nil_append, ↓reduceIte, vcu, ↓vcd, h3]
    rw [he, List.length_map]

/-- the numbers of which a text is made -/
def allN (ps : List (List UInt8)) : Nat → List UInt8 → Option (List Int)
  | 0, _ => some []
  | f + 1, t => if t = [] then some [] else match dialN ps t with
    | none => none
    | some k => (allN ps f (t.drop (ps.getD k []).length)).map ((k : Int) :: ·)
def allO (ps : List (List UInt8)) (s : List UInt8) : Option (List Int) := if PlanOk ps ∧ DgT s then allN ps s.length s else none
def allV (ps : List (List UInt8)) (s : List UInt8) : List Int := (allO ps s).getD []
theorem allN_len (ps : List (List UInt8)) : ∀ (f : Nat) (t : List UInt8) (l : List Int), allN ps f t = some l → l.length ≤ f
  | 0, t, l, h => by cases h; simp
  | f + 1, t, l, h => by
    unfold allN at h
    split at h
    · cases h; simp
    · split at h
      · cases h
      · obtain ⟨l', h1, rfl⟩ := Option.map_eq_some_iff.1 h
        have := allN_len ps f _ l' h1
        simp; omega
theorem allV_len (ps : List (List UInt8)) (s : List UInt8) : (allV ps s).length ≤ s.length := by
  unfold allV allO
  split
  · cases h : allN ps s.length s with
    | none => simp
    | some l => exact allN_len ps _ _ _ h
  · simp
theorem DgT.drop {s : List UInt8} (h : DgT s) (n : Nat) : DgT (s.drop n) := fun b hb => h b (List.mem_of_mem_drop hb)
theorem dialN_ok {ps : List (List UInt8)} {t : List UInt8} {k : Nat} (h : dialN ps t = some k) : PlanOk ps ∧ k < ps.length ∧ 1 ≤ (ps.getD k []).length ∧ (ps.getD k []).length ≤ t.length := by
  unfold dialN at h
  split at h
  · rename_i hp
    obtain ⟨-, h1, h2⟩ := fstN_some h
    have := hp.1.1 k (by omega)
    exact ⟨hp.1, by omega, this.2.1.1, (of_decide_eq_true h2).1⟩
  · cases h
theorem dialAll_at (σ : AHeap) (h o : Nat) (ps : List (List UInt8)) (s : List UInt8) (hv : TextsAt σ h o ps) (hl : ps.length ≤ 1048576) (hp : ∀ x ∈ ps, x.length ≤ 1048576) (hs : s.length ≤ 1048576) :
    ACall Try.prog w0 43 [.slice (some ⟨h, o, none⟩) ps.length 1, .string (tx s)] σ fun r σ' => ∃ v, r = .tuple #[v, .bool (allO ps s).isSome] ∧ Sub σ σ' ∧ OwnI σ σ' v (allV ps s) := by
  refine acall_go mixed Try.func43 rfl good43 fun pr => ?_
  simp -implicitDefEqProofs (disch := omega) only [List.any_cons, List.any_nil, Nat.reduceEqDiff, List.map_cons, List.map_nil, Option.map_some, Option.map_none, List.nil_append, ↓reduceIte, vcu, ↓vcd]
  refine r_lit el31 (out := #[]) (by kernel_rfl) (by kernel_rfl) fun e0 τ1 n1 s1 e1 => ?_
  simp -implicitDefEqProofs (disch := omega) only [List.any_cons, List.any_nil, Nat.reduceEqDiff, List.map_cons, List.map_nil, Option.map_some, Option.map_none, List.nil_append, ↓reduceIte, vcu, ↓vcd]
  refine (planValid_at _ h o ps (hv.sub s1) hl hp).mono ?_
  rintro r _ ⟨rfl, rfl⟩
  rename_i τ
  by_cases hpo : PlanOk ps
  case neg =>
    have d1 : decide (PlanOk ps) = false := decide_eq_false hpo
    have hno : allO ps s = none := if_neg fun h => hpo h.1
    simp -implicitDefEqProofs (disch := omega) only [List.any_cons, List.any_nil, Nat.reduceEqDiff, List.map_cons, List.map_nil, Option.map_some, Option.map_none, List.nil_append, ↓reduceIte, vcu, ↓vcd, opK_some, d1]
    have hV : allV ps s = [] := by unfold allV; rw [hno]; rfl
    refine fin_two Try.results43 ⟨.slice (some ⟨e0, 0, none⟩) 0 1, ?_, s1, .inr ⟨e0, by rw [hV]; rfl, by rw [hV]; exact e1, n1⟩⟩
    simp -implicitDefEqProofs (disch := omega) only [List.any_cons, List.any_nil, Nat.reduceEqDiff, List.map_cons, List.map_nil, Option.map_some, Option.map_none, List.nil_append, ↓reduceIte, vcu, ↓vcd]
    rw [hno]; rfl
  have d1 : decide (PlanOk ps) = true := decide_eq_true hpo
  simp -implicitDefEqProofs (disch := omega) only [List.any_cons, List.any_nil, Nat.reduceEqDiff, List.map_cons, List.map_nil, Option.map_some, Option.map_none, List.nil_append, ↓reduceIte, vcu, ↓vcd, opK_some, d1]
  refine (digits_calls _ s hs).mono ?_
  rintro r _ ⟨rfl, rfl⟩
  rename_i τ
  by_cases hsd : DgT s
  case neg =>
    have d2 : decide (DgT s) = false := decide_eq_false hsd
    have hno : allO ps s = none := if_neg fun h => hsd h.2
    simp -implicitDefEqProofs (disch := omega) only [List.any_cons, List.any_nil, Nat.reduceEqDiff, List.map_cons, List.map_nil, Option.map_some, Option.map_none, List.nil_append, ↓reduceIte, vcu, ↓vcd, opK_some, d1, d2]
    have hV : allV ps s = [] := by unfold allV; rw [hno]; rfl
    refine fin_two Try.results43 ⟨.slice (some ⟨e0, 0, none⟩) 0 1, ?_, s1, .inr ⟨e0, by rw [hV]; rfl, by rw [hV]; exact e1, n1⟩⟩
    simp -implicitDefEqProofs (disch := omega) only [List.any_cons, List.any_nil, Nat.reduceEqDiff, List.map_cons, List.map_nil, Option.map_some, Option.map_none, List.nil_append, ↓reduceIte, vcu, ↓vcd]
    rw [hno]; rfl
  have d2 : decide (DgT s) = true := decide_eq_true hsd
  simp -implicitDefEqProofs (disch := omega) only [List.any_cons, List.any_nil, Nat.reduceEqDiff, List.map_cons, List.map_nil, Option.map_some, Option.map_none, List.nil_append, ↓reduceIte, vcu, ↓vcd, opK_some, d1, d2]
  have hO : allO ps s = allN ps s.length s := if_pos ⟨hpo, hsd⟩
  refine vc_loop_c mixed (by kernel_rfl) [0] (fun m a τ' => ∃ (t : List UInt8) (xs : List Int) (g : Nat), a 1 = .string (tx t) ∧ t.length ≤ m ∧ m + xs.length ≤ s.length ∧ DgT t ∧ allO ps s = (allN ps m t).map (xs ++ ·) ∧ a 6 = .slice (some ⟨g, 0, none⟩) xs.length 1 ∧ Sub σ τ' ∧ τ' g = some ⟨ints .i64 xs, false⟩ ∧ σ g = none) s.length
    ⟨s, [], e0, rfl, Nat.le_refl _, by simp, hsd, by rw [hO]; simp, rfl, s1, e1, n1⟩ ?_
  rintro m a τ2 hc ⟨t, xs, g, h1, htm, hxm, htd, hal, h6, hs2, hg, hn⟩
  simp -implicitDefEqProofs (disch := omega) only [List.any_cons, List.any_nil, Nat.reduceEqDiff, List.map_cons, List.map_nil, Option.map_some, Option.map_none, List.nil_append, ↓reduceIte, vcu, ↓vcd] at hc
  obtain ⟨h0, -⟩ := hc
  by_cases hlt : 0 < t.length
  · obtain ⟨m', rfl⟩ : ∃ m', m = m' + 1 := ⟨m - 1, by omega⟩
    have htn : t ≠ [] := fun e => by subst e; simp at hlt
    rw [allN, if_neg htn] at hal
    simp -implicitDefEqProofs (disch := omega) only [List.any_cons, List.any_nil, Nat.reduceEqDiff, List.map_cons, List.map_nil, Option.map_some, Option.map_none, List.nil_append, ↓reduceIte, vcu, ↓vcd, h0, h1]
    refine (dialOne_at _ h o ps t (hv.sub hs2) hl hp (by omega)).mono ?_
    rintro r _ ⟨rfl, rfl⟩
    rename_i τ2
    cases hd : dialN ps t with
    | none =>
      have e1 : dialK ps t = -1 := by unfold dialK; rw [hd]
      rw [hd] at hal
      simp -implicitDefEqProofs (disch := omega) only [List.any_cons, List.any_nil, Nat.reduceEqDiff, List.map_cons, List.map_nil, Option.map_some, Option.map_none, List.nil_append, ↓reduceIte, vcu, ↓vcd, opK_some, List.getElem?_toArray, List.getElem?_cons_zero, List.getElem?_cons_succ, e1]
      refine r_lit el31 (out := #[]) (by kernel_rfl) (by kernel_rfl) fun e5 τ5 n5 s5 v5 => ?_
      simp -implicitDefEqProofs (disch := omega) only [List.any_cons, List.any_nil, Nat.reduceEqDiff, List.map_cons, List.map_nil, Option.map_some, Option.map_none, List.nil_append, ↓reduceIte, vcu, ↓vcd]
      have hno : allO ps s = none := by rw [hal]; rfl
      have hV : allV ps s = [] := by unfold allV; rw [hno]; rfl
      refine fin_two Try.results43 ⟨.slice (some ⟨e5, 0, none⟩) 0 1, ?_, hs2.trans s5, .inr ⟨e5, by rw [hV]; rfl, by rw [hV]; exact v5, free_sub hs2 n5⟩⟩
      simp -implicitDefEqProofs (disch := omega) only [List.any_cons, List.any_nil, Nat.reduceEqDiff, List.map_cons, List.map_nil, Option.map_some, Option.map_none, List.nil_append, ↓reduceIte, vcu, ↓vcd]
      rw [hno]; rfl
    | some k =>
      have e1 : dialK ps t = k := by unfold dialK; rw [hd]
      have e2 : dialL ps t = (ps.getD k []).length := by unfold dialL; rw [hd]
      obtain ⟨-, hk, hk1, hk2⟩ := dialN_ok hd
      rw [hd] at hal
      simp -implicitDefEqProofs (disch := omega) only [List.any_cons, List.any_nil, Nat.reduceEqDiff, List.map_cons, List.map_nil, Option.map_some, Option.map_none, List.nil_append, ↓reduceIte, vcu, ↓vcd, opK_some, List.getElem?_toArray, List.getElem?_cons_zero, List.getElem?_cons_succ, e1, e2]
      refine r_lit el31 (out := #[.int .i64 (k : Int)]) (by first | kernel_rfl | (simp -implicitDefEqProofs (disch := omega) only [List.any_cons, List.any_nil, Nat.reduceEqDiff, List.map_cons, List.map_nil, Option.map_some, Option.map_none, List.nil_append, ↓reduceIte, vcu, ↓vcd]; kernel_rfl)) (by rfl) fun e3 τ3 n3 s3 v3 => ?_
      simp -implicitDefEqProofs (disch := omega) only [List.any_cons, List.any_nil, Nat.reduceEqDiff, List.map_cons, List.map_nil, Option.map_some, Option.map_none, List.nil_append, ↓reduceIte, vcu, ↓vcd, h6]
      refine r_pushI (g := g) (e := e3) (o := 0) (k := .i64) (xs := xs) (ys := [(k : Int)]) (m := 1) (len := xs.length) el31 (by omega) sl31 (by simp -implicitDefEqProofs (disch := omega) only [List.any_cons, List.any_nil, Nat.reduceEqDiff, List.map_cons, List.map_nil, Option.map_some, Option.map_none, List.nil_append, ↓reduceIte, vcu, ↓vcd, h6]) (s3 _ _ hg) rfl (by simp -implicitDefEqProofs (disch := omega) only [List.any_cons, List.any_nil, Nat.reduceEqDiff, List.map_cons, List.map_nil, Option.map_some, Option.map_none, List.nil_append, ↓reduceIte, vcu, ↓vcd]) (intsAt_own v3) rfl (by omega) fun g6 τ6 n6 k6 v6 => ?_
      simp -implicitDefEqProofs (disch := omega) only [List.any_cons, List.any_nil, Nat.reduceEqDiff, List.map_cons, List.map_nil, Option.map_some, Option.map_none, List.nil_append, ↓reduceIte, vcu, ↓vcd, h0, h1]
      refine ⟨⟨trivial, trivial⟩, m', by omega, t.drop (ps.getD k []).length, xs ++ [(k : Int)], g6, rfl, by rw [List.length_drop]; omega, by rw [List.length_append, List.length_singleton]; omega, htd.drop _, ?_, by rw [List.length_append, List.length_singleton], k6.sub (hs2.trans s3) hn, v6, free_sub (hs2.trans s3) n6⟩
      rw [hal]
      simp only [Option.map_map]
      congr 1
      funext l
      simp
  · have ht : t = [] := List.eq_nil_of_length_eq_zero (by omega)
    subst ht
    have hal2 : allO ps s = some xs := by
      rw [hal]
      cases m with
      | zero => simp [allN]
      | succ m => simp [allN]
    simp -implicitDefEqProofs (disch := omega) only [List.any_cons, List.any_nil, Nat.reduceEqDiff, List.map_cons, List.map_nil, Option.map_some, Option.map_none, List.nil_append, ↓reduceIte, vcu, ↓vcd, h0, h1]
    have hV : allV ps s = xs := by unfold allV; rw [hal2]; rfl
    refine fin_two Try.results43 ⟨.slice (some ⟨g, 0, none⟩) xs.length 1, ?_, hs2, .inr ⟨g, by rw [hV], by rw [hV]; exact hg, hn⟩⟩
    simp -implicitDefEqProofs (disch := omega) only [List.any_cons, List.any_nil, Nat.reduceEqDiff, List.map_cons, List.map_nil, Option.map_some, Option.map_none, List.nil_append, ↓reduceIte, vcu, ↓vcd, h6]
    rw [hal2]; rfl
end Go.Proofs.Ytnenopebfobajaa

namespace Go.Proofs.Ytnenopebfobajaa
open Go Go.Abs Go.RowKit
variable {w0 : World}

/-- numbers of one length, in their order -/
def pfK (xs : List Int) (L : Nat) (st : List (List UInt8) × Nat) : Nat → List (List UInt8) × Nat
  | 0 => st
  | k + 1 => if xs.getD k 0 = (L : Int) then ((pfK xs L st k).1.set k (txV ((pfK xs L st k).2 / 4 ^ (3 - L)) L), (pfK xs L st k).2 + 4 ^ (3 - L)) else pfK xs L st k
/-- numbers of the lengths up to one -/
def pfL (xs : List Int) : Nat → List (List UInt8) × Nat
  | 0 => (List.replicate xs.length [], 0)
  | L + 1 => pfK xs (L + 1) (pfL xs L) xs.length
theorem four_le {n : Nat} (h : n ≤ 3) : 1 ≤ 4 ^ n ∧ 4 ^ n ≤ 64 := ⟨Nat.pos_of_ne_zero (by simp), by have := Nat.pow_le_pow_right (n := 4) (by omega) h; simpa using this⟩
theorem pfK_facts (xs : List Int) (L : Nat) (st : List (List UInt8) × Nat) : ∀ k, (pfK xs L st k).1.length = st.1.length ∧ (pfK xs L st k).2 ≤ st.2 + 64 * k
  | 0 => by simp [pfK]
  | k + 1 => by
    have h := pfK_facts xs L st k
    have h2 := four_le (n := 3 - L) (by omega)
    unfold pfK
    split
    · simp only [List.length_set]; exact ⟨h.1, by omega⟩
    · exact ⟨h.1, by omega⟩
theorem pfL_facts (xs : List Int) (hx : xs.length ≤ 10) : ∀ L, (pfL xs L).1.length = xs.length ∧ (pfL xs L).2 ≤ 640 * L
  | 0 => by simp [pfL]
  | L + 1 => by
    have h := pfL_facts xs hx L
    have h2 := pfK_facts xs (L + 1) (pfL xs L) xs.length
    simp only [pfL]
    exact ⟨h2.1.trans h.1, by omega⟩
def pfOk (xs : List Int) : Prop := LnOk xs ∧ shareV xs ≤ 64
instance (xs : List Int) : Decidable (pfOk xs) := inferInstanceAs (Decidable (_ ∧ _))
/-- the plan for valid lengths -/
def planV (xs : List Int) : List (List UInt8) := if pfOk xs then (pfL xs 3).1 else []
theorem pw_nat (n : Nat) : pw n = ((4 ^ n : Nat) : Int) := by simp [pw]
theorem planFor_at (σ : AHeap) (h o : Nat) (xs : List Int) (hv : IntsAt .i64 σ h o xs) (hl : xs.length ≤ 1048576) :
    ACall Try.prog w0 33 [.slice (some ⟨h, o, none⟩) xs.length 1] σ fun r σ' => ∃ v, r = .tuple #[v, .bool (decide (pfOk xs))] ∧ Sub σ σ' ∧ OwnS σ σ' v (planV xs) := by
  refine acall_go mixed Try.func33 rfl good33 fun pr => ?_
  simp -implicitDefEqProofs (disch := omega) only [List.any_cons, List.any_nil, Nat.reduceEqDiff, List.map_cons, List.map_nil, Option.map_some, Option.map_none, List.nil_append, ↓reduceIte, vcu, ↓vcd]
  refine (lnValid_at _ h o xs hv hl).mono ?_
  rintro r τ ⟨rfl, rfl⟩
  by_cases hln : LnOk xs
  case neg =>
    have d1 : decide (LnOk xs) = false := decide_eq_false hln
    have hno : ¬pfOk xs := fun h => hln h.1
    have hV : planV xs = [] := if_neg hno
    simp -implicitDefEqProofs (disch := omega) only [List.any_cons, List.any_nil, Nat.reduceEqDiff, List.map_cons, List.map_nil, Option.map_some, Option.map_none, List.nil_append, ↓reduceIte, vcu, ↓vcd, opK_some, d1]
    refine r_lit el27 (out := #[]) (by kernel_rfl) (by kernel_rfl) fun e5 τ5 n5 s5 v5 => ?_
    simp -implicitDefEqProofs (disch := omega) only [List.any_cons, List.any_nil, Nat.reduceEqDiff, List.map_cons, List.map_nil, Option.map_some, Option.map_none, List.nil_append, ↓reduceIte, vcu, ↓vcd]
    refine fin_two Try.results33 ⟨.slice (some ⟨e5, 0, none⟩) 0 1, ?_, s5, .inr ⟨e5, by rw [hV]; rfl, by rw [hV]; exact v5, n5⟩⟩
    simp -implicitDefEqProofs (disch := omega) only [List.any_cons, List.any_nil, Nat.reduceEqDiff, List.map_cons, List.map_nil, Option.map_some, Option.map_none, List.nil_append, ↓reduceIte, vcu, ↓vcd]
    rw [decide_eq_false hno]
  have d1 : decide (LnOk xs) = true := decide_eq_true hln
  have hsv := shareV_le xs
  have hp3 : pw 3 = 64 := rfl
  simp -implicitDefEqProofs (disch := omega) only [List.any_cons, List.any_nil, Nat.reduceEqDiff, List.map_cons, List.map_nil, Option.map_some, Option.map_none, List.nil_append, ↓reduceIte, vcu, ↓vcd, opK_some, d1]
  refine (share_at _ h o xs hv hl).mono ?_
  rintro r τ ⟨rfl, rfl⟩
  simp -implicitDefEqProofs (disch := omega) only [List.any_cons, List.any_nil, Nat.reduceEqDiff, List.map_cons, List.map_nil, Option.map_some, Option.map_none, List.nil_append, ↓reduceIte, vcu, ↓vcd, opK_some]
  refine (power_calls _ 3 (by omega)).mono ?_
  rintro r τ ⟨rfl, rfl⟩
  by_cases hsh : shareV xs ≤ 64
  case neg =>
    have hno : ¬pfOk xs := fun h => hsh h.2
    have hV : planV xs = [] := if_neg hno
    simp -implicitDefEqProofs (disch := omega) only [List.any_cons, List.any_nil, Nat.reduceEqDiff, List.map_cons, List.map_nil, Option.map_some, Option.map_none, List.nil_append, ↓reduceIte, vcu, ↓vcd, opK_some, hp3]
    refine r_lit el27 (out := #[]) (by kernel_rfl) (by kernel_rfl) fun e5 τ5 n5 s5 v5 => ?_
    simp -implicitDefEqProofs (disch := omega) only [List.any_cons, List.any_nil, Nat.reduceEqDiff, List.map_cons, List.map_nil, Option.map_some, Option.map_none, List.nil_append, ↓reduceIte, vcu, ↓vcd]
    refine fin_two Try.results33 ⟨.slice (some ⟨e5, 0, none⟩) 0 1, ?_, s5, .inr ⟨e5, by rw [hV]; rfl, by rw [hV]; exact v5, n5⟩⟩
    simp -implicitDefEqProofs (disch := omega) only [List.any_cons, List.any_nil, Nat.reduceEqDiff, List.map_cons, List.map_nil, Option.map_some, Option.map_none, List.nil_append, ↓reduceIte, vcu, ↓vcd]
    rw [decide_eq_false hno]
  have hok : pfOk xs := ⟨hln, hsh⟩
  have hx10 := hln.2
  simp -implicitDefEqProofs (disch := omega) only [List.any_cons, List.any_nil, Nat.reduceEqDiff, List.map_cons, List.map_nil, Option.map_some, Option.map_none, List.nil_append, ↓reduceIte, vcu, ↓vcd, opK_some, hp3]
  refine r_makeX (kx := .i64) (ky := .i64) (l := xs.length) (c := xs.length) el27 (by omega) (by simp -implicitDefEqProofs (disch := omega) only [List.any_cons, List.any_nil, Nat.reduceEqDiff, List.map_cons, List.map_nil, Option.map_some, Option.map_none, List.nil_append, ↓reduceIte, vcu, ↓vcd]) (by simp -implicitDefEqProofs (disch := omega) only [List.any_cons, List.any_nil, Nat.reduceEqDiff, List.map_cons, List.map_nil, Option.map_some, Option.map_none, List.nil_append, ↓reduceIte, vcu, ↓vcd]) (by omega) fun g τ1 hg hs he => ?_
  simp -implicitDefEqProofs (disch := omega) only [List.any_cons, List.any_nil, Nat.reduceEqDiff, List.map_cons, List.map_nil, Option.map_some, Option.map_none, List.nil_append, ↓reduceIte, vcu, ↓vcd]
  refine vc_loop_c mixed (by kernel_rfl) [0, 4] (fun m a σ' => ∃ L : Nat, m + L = 3 ∧ a 6 = .int .i64 ((L + 1 : Nat) : Int) ∧ a 5 = .int .i64 ((pfL xs L).2 : Int) ∧ Kept g τ1 σ' ∧ σ' g = some ⟨texts (pfL xs L).1, false⟩) 3 ⟨0, by simp, rfl, rfl, Kept.refl _ _, he⟩ ?_
  rintro m a σ1 hc ⟨L, hL, h6, h5, hkp, hgk⟩
  simp -implicitDefEqProofs (disch := omega) only [List.any_cons, List.any_nil, Nat.reduceEqDiff, List.map_cons, List.map_nil, Option.map_some, Option.map_none, List.nil_append, ↓reduceIte, vcu, ↓vcd] at hc
  obtain ⟨h0, h4, -⟩ := hc
  have hLf := pfL_facts xs hx10 L
  by_cases hlt : L < 3
  · have hq := four_le (n := 3 - (L + 1)) (by omega)
    simp -implicitDefEqProofs (disch := omega) only [List.any_cons, List.any_nil, Nat.reduceEqDiff, List.map_cons, List.map_nil, Option.map_some, Option.map_none, List.nil_append, ↓reduceIte, vcu, ↓vcd, h0, h4, h5, h6]
    refine vc_loop_c mixed (by kernel_rfl) [0, 4, 6] (fun m a σ' => ∃ k : Nat, m + k = xs.length ∧ a 7 = .int .i64 k ∧ a 5 = .int .i64 ((pfK xs (L + 1) (pfL xs L) k).2 : Int) ∧ Kept g τ1 σ' ∧ σ' g = some ⟨texts (pfK xs (L + 1) (pfL xs L) k).1, false⟩) xs.length ⟨0, by simp, rfl, h5, hkp, hgk⟩ ?_
    rintro m2 a2 σ2 hc2 ⟨k, hk, g7, g5, kp2, gk2⟩
    simp -implicitDefEqProofs (disch := omega) only [List.any_cons, List.any_nil, Nat.reduceEqDiff, List.map_cons, List.map_nil, Option.map_some, Option.map_none, List.nil_append, ↓reduceIte, vcu, ↓vcd, h0, h4, h6] at hc2
    obtain ⟨g0, g4, g6, -⟩ := hc2
    have hKf := pfK_facts xs (L + 1) (pfL xs L) k
    have hKs : pfK xs (L + 1) (pfL xs L) (k + 1) = if xs.getD k 0 = ((L + 1 : Nat) : Int) then ((pfK xs (L + 1) (pfL xs L) k).1.set k (txV ((pfK xs (L + 1) (pfL xs L) k).2 / 4 ^ (3 - (L + 1))) (L + 1)), (pfK xs (L + 1) (pfL xs L) k).2 + 4 ^ (3 - (L + 1))) else pfK xs (L + 1) (pfL xs L) k := rfl
    by_cases hkl : k < xs.length
    · have hx := (hv.sub (kp2.sub hs hg)) k hkl
      generalize hst : pfK xs (L + 1) (pfL xs L) k = st at g5 gk2 hKf hKs
      generalize hqd : 4 ^ (3 - (L + 1)) = q at hq hKs
      by_cases hxe : xs.getD k 0 = ((L + 1 : Nat) : Int)
      · rw [if_pos hxe] at hKs
        rw [hxe] at hx
        have hpw : pw (3 - (L + 1)) = (q : Int) := by rw [pw_nat, hqd]
        simp -implicitDefEqProofs (disch := omega) only [List.any_cons, List.any_nil, Nat.reduceEqDiff, List.map_cons, List.map_nil, Option.map_some, Option.map_none, List.nil_append, ↓reduceIte, vcu, ↓vcd, g0, g4, g5, g6, g7, hx]
        rw [show ((3 : Int) - ((L + 1 : Nat) : Int)) = ((3 - (L + 1) : Nat) : Int) by omega]
        refine (power_calls _ (3 - (L + 1)) (by omega)).mono ?_
        rintro r τ ⟨rfl, rfl⟩
        simp -implicitDefEqProofs (disch := omega) only [List.any_cons, List.any_nil, Nat.reduceEqDiff, List.map_cons, List.map_nil, Option.map_some, Option.map_none, List.nil_append, ↓reduceIte, vcu, ↓vcd, opK_some, g0, g4, g5, g6, g7, hx, hpw]
        have hdle : st.2 / q ≤ st.2 := Nat.div_le_self _ _
        rw [← Int.natCast_ediv]
        refine (text_calls _ (st.2 / q) (L + 1) (by omega) (by omega)).mono ?_
        rintro r τ ⟨rfl, rfl⟩
        simp -implicitDefEqProofs (disch := omega) only [List.any_cons, List.any_nil, Nat.reduceEqDiff, List.map_cons, List.map_nil, Option.map_some, Option.map_none, List.nil_append, ↓reduceIte, vcu, ↓vcd, opK_some, g0, g4, g5, g6, g7]
        refine r_setX (g := g) (i := 0 + k) (v := txV (st.2 / q) (L + 1)) (by simp -implicitDefEqProofs (disch := omega) only [List.any_cons, List.any_nil, Nat.reduceEqDiff, List.map_cons, List.map_nil, Option.map_some, Option.map_none, List.nil_append, ↓reduceIte, vcu, ↓vcd, g4]) (by simp -implicitDefEqProofs (disch := omega) only [List.any_cons, List.any_nil, Nat.reduceEqDiff, List.map_cons, List.map_nil, Option.map_some, Option.map_none, List.nil_append, ↓reduceIte, vcu, ↓vcd]) co9 gk2 (by rw [hKf.1, hLf.1]; omega) fun τ3 k3 e3 => ?_
        rw [Nat.zero_add] at e3
        simp -implicitDefEqProofs (disch := omega) only [List.any_cons, List.any_nil, Nat.reduceEqDiff, List.map_cons, List.map_nil, Option.map_some, Option.map_none, List.nil_append, ↓reduceIte, vcu, ↓vcd, g0, g4, g5, g6, g7]
        rw [show ((3 : Int) - ((L + 1 : Nat) : Int)) = ((3 - (L + 1) : Nat) : Int) by omega]
        refine (power_calls _ (3 - (L + 1)) (by omega)).mono ?_
        rintro r τ ⟨rfl, rfl⟩
        simp -implicitDefEqProofs (disch := omega) only [List.any_cons, List.any_nil, Nat.reduceEqDiff, List.map_cons, List.map_nil, Option.map_some, Option.map_none, List.nil_append, ↓reduceIte, vcu, ↓vcd, opK_some, g0, g4, g5, g6, g7, hpw]
        exact ⟨⟨h0.symm, h4.symm, h6.symm, trivial⟩, m2 - 1, by omega, k + 1, by omega, by simp, by rw [hKs]; simp, kp2.trans k3, by rw [hKs]; exact e3⟩
      · rw [if_neg hxe] at hKs
        simp -implicitDefEqProofs (disch := omega) only [List.any_cons, List.any_nil, Nat.reduceEqDiff, List.map_cons, List.map_nil, Option.map_some, Option.map_none, List.nil_append, ↓reduceIte, vcu, ↓vcd, g0, g4, g5, g6, g7, hx]
        exact ⟨⟨h0.symm, h4.symm, h6.symm, trivial⟩, m2 - 1, by omega, k + 1, by omega, by simp, by rw [hKs], kp2, by rw [hKs]; exact gk2⟩
    · obtain rfl : k = xs.length := by omega
      simp -implicitDefEqProofs (disch := omega) only [List.any_cons, List.any_nil, Nat.reduceEqDiff, List.map_cons, List.map_nil, Option.map_some, Option.map_none, List.nil_append, ↓reduceIte, vcu, ↓vcd, g0, g4, g5, g6, g7]
      exact ⟨⟨trivial, trivial, trivial⟩, m - 1, by omega, L + 1, by omega, by simp, rfl, kp2, gk2⟩
  · obtain rfl : L = 3 := by omega
    simp -implicitDefEqProofs (disch := omega) only [List.any_cons, List.any_nil, Nat.reduceEqDiff, List.map_cons, List.map_nil, Option.map_some, Option.map_none, List.nil_append, ↓reduceIte, vcu, ↓vcd, h0, h4, h5, h6]
    have hV : planV xs = (pfL xs 3).1 := if_pos hok
    refine fin_two Try.results33 ⟨.slice (some ⟨g, 0, none⟩) xs.length 1, ?_, hkp.sub hs hg, .inr ⟨g, by rw [hV, hLf.1], by rw [hV]; exact hgk, hg⟩⟩
    simp -implicitDefEqProofs (disch := omega) only [List.any_cons, List.any_nil, Nat.reduceEqDiff, List.map_cons, List.map_nil, Option.map_some, Option.map_none, List.nil_append, ↓reduceIte, vcu, ↓vcd, h4]
    rw [decide_eq_true hok]
end Go.Proofs.Ytnenopebfobajaa

namespace Go.Proofs.Ytnenopebfobajaa
open Go Go.Abs Go.RowKit
variable {w0 : World}
theorem planLen_calls (σ : AHeap) (v : Value) (ps : List (List UInt8)) (hv : Texts σ v ps) (hl : ps.length ≤ 1048576) (hp : ∀ x ∈ ps, x.length ≤ 1048576) :
    ACall Try.prog w0 37 [v] σ fun r σ' => Sub σ σ' ∧ OwnI σ σ' r (lensV ps) :=
  ACall.texts_arg (pre := []) (post := []) (by kernel_rfl) hv fun σ1 h o hs hg => (planLen_at σ1 h o ps hg hl hp).mono fun _ _ ⟨s, O⟩ => ⟨hs.trans s, O.older hs⟩
theorem dialAll_calls (σ : AHeap) (v : Value) (ps : List (List UInt8)) (s : List UInt8) (hv : Texts σ v ps) (hl : ps.length ≤ 1048576) (hp : ∀ x ∈ ps, x.length ≤ 1048576) (hs : s.length ≤ 1048576) :
    ACall Try.prog w0 43 [v, .string (tx s)] σ fun r σ' => ∃ v, r = .tuple #[v, .bool (allO ps s).isSome] ∧ Sub σ σ' ∧ OwnI σ σ' v (allV ps s) :=
  ACall.texts_arg (pre := []) (post := [_]) (by kernel_rfl) hv fun σ1 h o hs1 hg => (dialAll_at σ1 h o ps s hg hl hp hs).mono fun _ _ ⟨v, e, s, O⟩ => ⟨v, e, hs1.trans s, O.older hs1⟩
theorem planFor_calls (σ : AHeap) (v : Value) (xs : List Int) (hv : Ints .i64 σ v xs) (hl : xs.length ≤ 1048576) :
    ACall Try.prog w0 33 [v] σ fun r σ' => ∃ v, r = .tuple #[v, .bool (decide (pfOk xs))] ∧ Sub σ σ' ∧ OwnS σ σ' v (planV xs) :=
  ACall.ints_arg (pre := []) (post := []) (by kernel_rfl) hv fun σ1 h o hs1 hg => (planFor_at σ1 h o xs hg hl).mono fun _ _ ⟨v, e, s, O⟩ => ⟨v, e, hs1.trans s, O.older hs1⟩
theorem planV_len (xs : List Int) : (planV xs).length ≤ xs.length := by
  unfold planV
  split
  · rename_i h; rw [(pfL_facts xs h.1.2 3).1]; exact Nat.le_refl _
  · simp
end Go.Proofs.Ytnenopebfobajaa

namespace Go.Proofs.Ytnenopebfobajaa
open Go Go.Abs Go.RowKit
variable {w0 : World}

/-- the place of the rarest of the first groups -/
def argm (gs : List Int) : Nat → Nat
  | 0 => 0
  | k + 1 => if gs.getD (k + 1) 0 < gs.getD (argm gs k) 0 then k + 1 else argm gs k
theorem argm_le (gs : List Int) : ∀ k, argm gs k ≤ k
  | 0 => Nat.le_refl _
  | k + 1 => by have := argm_le gs k; unfold argm; split <;> omega
def rmv (gs : List Int) : List Int := gs.take (argm gs (gs.length - 1)) ++ gs.drop (argm gs (gs.length - 1) + 1)
def low (gs : List Int) : Int := gs.getD (argm gs (gs.length - 1)) 0
def tak (gs : List Int) : Nat → List Int × Int
  | 0 => (gs, 0)
  | n + 1 => (rmv (tak gs n).1, (tak gs n).2 + low (tak gs n).1)
def joinG (gs : List Int) : List Int := (tak gs 4).1 ++ [(tak gs 4).2]
def padG : Nat → List Int → List Int
  | 0, gs => gs
  | f + 1, gs => if gs.length % 3 ≠ 1 then padG f (gs ++ [0]) else gs
def leastG : Nat → List Int → Int
  | 0, _ => 0
  | f + 1, gs => if 1 < gs.length then (tak gs 4).2 + leastG f (joinG gs) else 0
def leastV (xs : List Int) : Int := if OfOk xs then leastG 4 (padG 2 xs) else -1
/-- within bounds -/
def InB (M : Int) (gs : List Int) : Prop := ∀ x ∈ gs, 0 ≤ x ∧ x ≤ M
theorem rmv_len {gs : List Int} (h : 0 < gs.length) : (rmv gs).length = gs.length - 1 := by
  have := argm_le gs (gs.length - 1)
  unfold rmv
  rw [List.length_append, List.length_take, List.length_drop]; omega
theorem rmv_in {M : Int} {gs : List Int} (h : InB M gs) : InB M (rmv gs) := by
  intro x hx
  rcases List.mem_append.1 hx with hx | hx
  · exact h x (List.mem_of_mem_take hx)
  · exact h x (List.mem_of_mem_drop hx)
theorem low_in {M : Int} {gs : List Int} (h : InB M gs) (hl : 0 < gs.length) : 0 ≤ low gs ∧ low gs ≤ M := by
  have := argm_le gs (gs.length - 1)
  exact h _ (by unfold low; have h2 : argm gs (gs.length - 1) < gs.length := by omega
                simp [List.getD, h2])
theorem tak_facts {M : Int} {gs : List Int} (h : InB M gs) : ∀ n, n ≤ gs.length → (tak gs n).1.length = gs.length - n ∧ InB M (tak gs n).1 ∧ 0 ≤ (tak gs n).2 ∧ (tak gs n).2 ≤ M * n
  | 0, _ => ⟨rfl, h, by simp [tak], by simp [tak]⟩
  | n + 1, hn => by
    obtain ⟨h1, h2, h3, h4⟩ := tak_facts h n (by omega)
    have h5 := low_in h2 (by omega)
    refine ⟨?_, rmv_in h2, ?_, ?_⟩
    · simp only [tak]; rw [rmv_len (by omega)]; omega
    · simp only [tak]; omega
    · simp only [tak]
      have : M * ((n + 1 : Nat) : Int) = M * n + M := by rw [Int.natCast_succ, Int.mul_add, Int.mul_one]
      omega
theorem joinG_facts {M : Int} {gs : List Int} (h : InB M gs) (hl : 4 ≤ gs.length) : (joinG gs).length = gs.length - 3 ∧ InB (4 * M) (joinG gs) := by
  obtain ⟨h1, h2, h3, h4⟩ := tak_facts h 4 hl
  have hM : 0 ≤ M := by
    have := h (gs.getD 0 0) (by simp [List.getD, show 0 < gs.length by omega])
    omega
  refine ⟨by unfold joinG; rw [List.length_append, h1, List.length_singleton]; omega, fun x hx => ?_⟩
  rcases List.mem_append.1 hx with hx | hx
  · have := h2 x hx; omega
  · rw [List.mem_singleton] at hx; subst hx; omega
def bd : Nat → Int
  | 0 => 25344
  | 1 => 6336
  | 2 => 1584
  | 3 => 396
  | _ => 99
theorem bd_step : ∀ {m : Nat}, m < 4 → 4 * bd (m + 1) = bd m
  | 0, _ => rfl
  | 1, _ => rfl
  | 2, _ => rfl
  | 3, _ => rfl
theorem bd_le : ∀ m : Nat, 0 ≤ bd m ∧ bd m ≤ 25344
  | 0 => by simp [bd]
  | 1 => by simp [bd]
  | 2 => by simp [bd]
  | 3 => by simp [bd]
  | _ + 4 => by simp [bd]
theorem padG_facts {xs : List Int} (h : OfOk xs) : (padG 2 xs).length % 3 = 1 ∧ (padG 2 xs).length ≤ 12 ∧ InB 99 (padG 2 xs) := by
  obtain ⟨h1, h2, h3⟩ := h
  have hb : InB 99 xs := by
    intro x hx
    obtain ⟨j, hj, rfl⟩ := List.mem_iff_getElem.1 hx
    have := h1 j hj
    simpa [List.getD, hj] using this
  have hb0 : ∀ ys, InB 99 ys → InB 99 (ys ++ [0]) := by
    intro ys hy x hx
    rcases List.mem_append.1 hx with hx | hx
    · exact hy x hx
    · rw [List.mem_singleton] at hx; subst hx; omega
  unfold padG
  split
  · unfold padG
    split
    · unfold padG
      refine ⟨?_, by simp; omega, hb0 _ (hb0 _ hb)⟩
      rename_i a b
      simp only [List.length_append, List.length_singleton] at b ⊢; omega
    · rename_i a b
      exact ⟨by omega, by simp; omega, hb0 _ hb⟩
  · rename_i a
    exact ⟨by omega, by omega, hb⟩
end Go.Proofs.Ytnenopebfobajaa

namespace Go.Proofs.Ytnenopebfobajaa
open Go Go.Abs Go.RowKit
variable {w0 : World}

theorem acodeB_monoK {P : Program} {b : Base} {n : NR} {c : Code} {a : AFrame} {σ : AHeap} {Q Q' : AQ} (h : ACodeB P b n c a σ Q') (hq : ∀ e a σ, Q' e a σ → Q e a σ) : ACodeB P b n c a σ Q := ACode.mono h hq
set_option maxRecDepth 8000 in
theorem least_at (σ : AHeap) (h o : Nat) (xs : List Int) (hv : IntsAt .i64 σ h o xs) (hl : xs.length ≤ 1048576) :
    ACall Try.prog w0 52 [.slice (some ⟨h, o, none⟩) xs.length 1] σ fun r σ' => r = .int .i64 (leastV xs) ∧ σ' = σ := by
  refine acall_go mixed Try.func52 rfl good52 fun pr => ?_
  simp -implicitDefEqProofs (disch := omega) only [List.any_cons, List.any_nil, Nat.reduceEqDiff, List.map_cons, List.map_nil, Option.map_some, Option.map_none, List.nil_append, ↓reduceIte, vcu, ↓vcd]
  refine (ofValid_at _ h o xs hv hl).mono ?_
  rintro r _ ⟨rfl, rfl⟩
  rename_i σ
  by_cases hof : OfOk xs
  case neg =>
    have d1 : decide (OfOk xs) = false := decide_eq_false hof
    simp -implicitDefEqProofs (disch := omega) only [List.any_cons, List.any_nil, Nat.reduceEqDiff, List.map_cons, List.map_nil, Option.map_some, Option.map_none, List.nil_append, ↓reduceIte, vcu, ↓vcd, opK_some, d1]
    refine fin_one Try.results52 ⟨?_, rfl⟩
    simp -implicitDefEqProofs (disch := omega) only [List.any_cons, List.any_nil, Nat.reduceEqDiff, List.map_cons, List.map_nil, Option.map_some, Option.map_none, List.nil_append, ↓reduceIte, vcu, ↓vcd]
    rw [leastV, if_neg hof]
  have d1 : decide (OfOk xs) = true := decide_eq_true hof
  obtain ⟨pd1, pd2, pd3⟩ := padG_facts hof
  have hx10 := hof.2.2
  simp -implicitDefEqProofs (disch := omega) only [List.any_cons, List.any_nil, Nat.reduceEqDiff, List.map_cons, List.map_nil, Option.map_some, Option.map_none, List.nil_append, ↓reduceIte, vcu, ↓vcd, opK_some, d1]
  refine r_lit el31 (out := #[]) (by kernel_rfl) (by kernel_rfl) fun e0 τ1 n1 s1 v1 => ?_
  simp -implicitDefEqProofs (disch := omega) only [List.any_cons, List.any_nil, Nat.reduceEqDiff, List.map_cons, List.map_nil, Option.map_some, Option.map_none, List.nil_append, ↓reduceIte, vcu, ↓vcd]
  refine r_pushI (g := e0) (e := h) (o := o) (k := .i64) (xs := []) (ys := xs) (m := xs.length) (len := 0) el31 (by omega) sl31 (by simp -implicitDefEqProofs (disch := omega) only [List.any_cons, List.any_nil, Nat.reduceEqDiff, List.map_cons, List.map_nil, Option.map_some, Option.map_none, List.nil_append, ↓reduceIte, vcu, ↓vcd]) v1 rfl (by simp -implicitDefEqProofs (disch := omega) only [List.any_cons, List.any_nil, Nat.reduceEqDiff, List.map_cons, List.map_nil, Option.map_some, Option.map_none, List.nil_append, ↓reduceIte, vcu, ↓vcd]) (hv.sub s1) rfl (by omega) fun ga τ2 n2 k2 v2 => ?_
  rw [List.nil_append] at v2
  have s2 : Sub σ τ2 := k2.sub s1 n1
  have na : σ ga = none := free_sub s1 n2
  simp -implicitDefEqProofs (disch := omega) only [List.any_cons, List.any_nil, Nat.reduceEqDiff, List.map_cons, List.map_nil, Option.map_some, Option.map_none, List.nil_append, ↓reduceIte, vcu, ↓vcd, Nat.zero_add]
  -- the padding
  refine acodeB_monoK (Q' := fun e a' τ => e = .exit 0 ∧ ∃ g, a' 3 = .slice (some ⟨g, 0, none⟩) (padG 2 xs).length 1 ∧ Sub σ τ ∧ τ g = some ⟨ints .i64 (padG 2 xs), false⟩ ∧ σ g = none)
    (vc_loop_c mixed (by kernel_rfl) [] (fun m a σ' => ∃ (gs : List Int) (g : Nat), a 3 = .slice (some ⟨g, 0, none⟩) gs.length 1 ∧ Sub σ σ' ∧ σ' g = some ⟨ints .i64 gs, false⟩ ∧ σ g = none ∧ padG m gs = padG 2 xs ∧ gs.length + m ≤ 12) 2 ⟨xs, ga, rfl, s2, v2, na, rfl, by omega⟩ ?_) ?_
  · rintro m a σ' hc ⟨gs, g, h3, hs, hg, hn, hp, hgl⟩
    clear hc
    cases m with
    | zero =>
      have hgp : gs = padG 2 xs := hp
      have hr : (gs.length : Int) % 3 = 1 := by rw [hgp]; omega
      simp -implicitDefEqProofs (disch := omega) only [List.any_cons, List.any_nil, Nat.reduceEqDiff, List.map_cons, List.map_nil, Option.map_some, Option.map_none, List.nil_append, ↓reduceIte, vcu, ↓vcd, h3, hr]
      exact ⟨trivial, g, by rw [← hgp], hs, by rw [← hgp]; exact hg, hn⟩
    | succ m =>
      by_cases hr : gs.length % 3 ≠ 1
      · have hp2 : padG m (gs ++ [0]) = padG 2 xs := by rw [← hp]; simp only [padG]; rw [if_pos hr]
        simp -implicitDefEqProofs (disch := omega) only [List.any_cons, List.any_nil, Nat.reduceEqDiff, List.map_cons, List.map_nil, Option.map_some, Option.map_none, List.nil_append, ↓reduceIte, vcu, ↓vcd, h3]
        refine r_lit el31 (out := #[.int .i64 0]) (by first | kernel_rfl | (simp -implicitDefEqProofs (disch := omega) only [List.any_cons, List.any_nil, Nat.reduceEqDiff, List.map_cons, List.map_nil, Option.map_some, Option.map_none, List.nil_append, ↓reduceIte, vcu, ↓vcd]; kernel_rfl)) (by rfl) fun e3 τ3 n3 s3 v3 => ?_
        refine r_pushI (g := g) (e := e3) (o := 0) (k := .i64) (xs := gs) (ys := [0]) (m := 1) (len := gs.length) el31 (by omega) sl31 (by simp -implicitDefEqProofs (disch := omega) only [List.any_cons, List.any_nil, Nat.reduceEqDiff, List.map_cons, List.map_nil, Option.map_some, Option.map_none, List.nil_append, ↓reduceIte, vcu, ↓vcd, h3]) (s3 _ _ hg) rfl (by simp -implicitDefEqProofs (disch := omega) only [List.any_cons, List.any_nil, Nat.reduceEqDiff, List.map_cons, List.map_nil, Option.map_some, Option.map_none, List.nil_append, ↓reduceIte, vcu, ↓vcd]) (intsAt_own v3) rfl (by omega) fun g6 τ6 n6 k6 v6 => ?_
        simp -implicitDefEqProofs (disch := omega) only [List.any_cons, List.any_nil, Nat.reduceEqDiff, List.map_cons, List.map_nil, Option.map_some, Option.map_none, List.nil_append, ↓reduceIte, vcu, ↓vcd]
        have hlen : (gs ++ [0]).length + m ≤ 12 := by rw [List.length_append, List.length_singleton]; omega
        exact ⟨trivial, m, by omega, gs ++ [0], g6, by rw [List.length_append, List.length_singleton], k6.sub (hs.trans s3) hn, v6, free_sub (hs.trans s3) n6, hp2, hlen⟩
      · have hp2 : gs = padG 2 xs := by rw [← hp]; simp only [padG]; rw [if_neg hr]
        have hr2 : (gs.length : Int) % 3 = 1 := by omega
        simp -implicitDefEqProofs (disch := omega) only [List.any_cons, List.any_nil, Nat.reduceEqDiff, List.map_cons, List.map_nil, Option.map_some, Option.map_none, List.nil_append, ↓reduceIte, vcu, ↓vcd, h3, hr2]
        exact ⟨trivial, g, by rw [← hp2], hs, by rw [← hp2]; exact hg, hn⟩
  rintro e a1 τ3 ⟨rfl, g1, h3, hs3, hg3, hn3⟩
  simp -implicitDefEqProofs (disch := omega) only [List.any_cons, List.any_nil, Nat.reduceEqDiff, List.map_cons, List.map_nil, Option.map_some, Option.map_none, List.nil_append, ↓reduceIte, vcu, ↓vcd, h3]
  have hlv : leastV xs = leastG 4 (padG 2 xs) := if_pos hof
  refine vc_loop_c mixed (by kernel_rfl) [] (fun m a σ' => ∃ (gs : List Int) (g : Nat) (s : Int), m ≤ 4 ∧ a 3 = .slice (some ⟨g, 0, none⟩) gs.length 1 ∧ a 4 = .int .i64 s ∧ Sub σ σ' ∧ σ' g = some ⟨ints .i64 gs, false⟩ ∧ σ g = none ∧ s + leastG m gs = leastV xs ∧ gs.length % 3 = 1 ∧ gs.length ≤ 3 * m + 1 ∧ InB (bd m) gs ∧ 0 ≤ s ∧ s ≤ 101376 * (4 - (m : Int))) 4
    ⟨padG 2 xs, g1, 0, by omega, h3, rfl, hs3, hg3, hn3, by rw [hlv]; omega, pd1, by omega, pd3, by omega, by omega⟩ ?_
  rintro m a σ' hc ⟨gs, g, s, hm4, h3, h4, hs, hg, hn, hval, hmod, hglen, hin, hs0, hsb⟩
  clear hc
  by_cases hbig : 1 < gs.length
  case neg =>
    have hG : leastG m gs = 0 := by
      cases m with
      | zero => rfl
      | succ m => simp only [leastG]; rw [if_neg hbig]
    simp -implicitDefEqProofs (disch := omega) only [List.any_cons, List.any_nil, Nat.reduceEqDiff, List.map_cons, List.map_nil, Option.map_some, Option.map_none, List.nil_append, ↓reduceIte, vcu, ↓vcd, h3, h4]
    refine fin_drop Try.results52 σ hs ⟨?_, rfl⟩
    simp -implicitDefEqProofs (disch := omega) only [List.any_cons, List.any_nil, Nat.reduceEqDiff, List.map_cons, List.map_nil, Option.map_some, Option.map_none, List.nil_append, ↓reduceIte, vcu, ↓vcd, h4]
    rw [← hval, hG, Int.add_zero]
  obtain ⟨m', rfl⟩ : ∃ m', m = m' + 1 := ⟨m - 1, by omega⟩
  have hg4 : 4 ≤ gs.length := by omega
  have hG : leastG (m' + 1) gs = (tak gs 4).2 + leastG m' (joinG gs) := by simp only [leastG]; rw [if_pos hbig]
  have hbd := bd_le (m' + 1)
  have hbs := bd_step (m := m') (by omega)
  have hJ := joinG_facts hin hg4
  simp -implicitDefEqProofs (disch := omega) only [List.any_cons, List.any_nil, Nat.reduceEqDiff, List.map_cons, List.map_nil, Option.map_some, Option.map_none, List.nil_append, ↓reduceIte, vcu, ↓vcd, h3, h4]
  -- four groups are joined
  refine acodeB_monoK (Q' := fun e a' τ => e = .exit 4 ∧ a' 4 = .int .i64 s ∧ a' 5 = .int .i64 (tak gs 4).2 ∧ ∃ g, a' 3 = .slice (some ⟨g, 0, none⟩) (tak gs 4).1.length 1 ∧ Sub σ τ ∧ τ g = some ⟨ints .i64 (tak gs 4).1, false⟩ ∧ σ g = none)
    (vc_loop_c mixed (by kernel_rfl) [4] (fun m a σ' => ∃ (n g : Nat), m + n = 4 ∧ a 6 = .int .i64 n ∧ a 5 = .int .i64 (tak gs n).2 ∧ a 3 = .slice (some ⟨g, 0, none⟩) (tak gs n).1.length 1 ∧ Sub σ σ' ∧ σ' g = some ⟨ints .i64 (tak gs n).1, false⟩ ∧ σ g = none) 4 ⟨0, g, by omega, rfl, rfl, h3, hs, hg, hn⟩ ?_) ?_
  · rintro m2 a2 σ2 hc2 ⟨n, g2, hmn, q6, q5, q3, hs2, hg2, hn2⟩
    simp -implicitDefEqProofs (disch := omega) only [List.any_cons, List.any_nil, Nat.reduceEqDiff, List.map_cons, List.map_nil, Option.map_some, Option.map_none, List.nil_append, ↓reduceIte, vcu, ↓vcd, h4] at hc2
    obtain ⟨q4, -⟩ := hc2
    obtain ⟨t1, t2, t3, t4⟩ := tak_facts hin n (by omega)
    have hT : tak gs (n + 1) = (rmv (tak gs n).1, (tak gs n).2 + low (tak gs n).1) := rfl
    have hfb : bd (m' + 1) * n ≤ 25344 * 4 := Int.mul_le_mul hbd.2 (by omega) (by omega) (by omega)
    by_cases hlt : n < 4
    case neg =>
      obtain rfl : n = 4 := by omega
      simp -implicitDefEqProofs (disch := omega) only [List.any_cons, List.any_nil, Nat.reduceEqDiff, List.map_cons, List.map_nil, Option.map_some, Option.map_none, List.nil_append, ↓reduceIte, vcu, ↓vcd, q3, q4, q5, q6]
      exact ⟨by first | trivial | rfl, by first | trivial | exact q4, by first | trivial | exact q5, g2, by first | rfl | exact q3, hs2, hg2, hn2⟩
    generalize hst : (tak gs n).1 = ls at *
    generalize hjn : (tak gs n).2 = jn at *
    have hlp : 0 < ls.length := by omega
    have hlow := low_in t2 hlp
    have hai := argm_le ls (ls.length - 1)
    simp -implicitDefEqProofs (disch := omega) only [List.any_cons, List.any_nil, Nat.reduceEqDiff, List.map_cons, List.map_nil, Option.map_some, Option.map_none, List.nil_append, ↓reduceIte, vcu, ↓vcd, q3, q4, q5, q6]
    refine acodeB_monoK (Q' := fun e a' τ => e = .exit 6 ∧ τ = σ2 ∧ a' 3 = .slice (some ⟨g2, 0, none⟩) ls.length 1 ∧ a' 4 = .int .i64 s ∧ a' 5 = .int .i64 jn ∧ a' 6 = .int .i64 n ∧ a' 7 = .int .i64 (argm ls (ls.length - 1)))
      (vc_loop_c mixed (by kernel_rfl) [3, 4, 5, 6] (fun m a σ' => ∃ k : Nat, m + (k + 1) = ls.length ∧ a 8 = .int .i64 ((k + 1 : Nat) : Int) ∧ a 7 = .int .i64 (argm ls k) ∧ σ' = σ2) (ls.length - 1) ⟨0, by omega, rfl, rfl, rfl⟩ ?_) ?_
    · rintro m3 a3 σ3 hc3 ⟨k, hmk, p8, p7, rfl⟩
      simp -implicitDefEqProofs (disch := omega) only [List.any_cons, List.any_nil, Nat.reduceEqDiff, List.map_cons, List.map_nil, Option.map_some, Option.map_none, List.nil_append, ↓reduceIte, vcu, ↓vcd, q3, q4, q5, q6] at hc3
      obtain ⟨p3, p4, p5, p6, -⟩ := hc3
      have hak := argm_le ls k
      by_cases hkl : k + 1 < ls.length
      case neg =>
        obtain rfl : k = ls.length - 1 := by omega
        simp -implicitDefEqProofs (disch := omega) only [List.any_cons, List.any_nil, Nat.reduceEqDiff, List.map_cons, List.map_nil, Option.map_some, Option.map_none, List.nil_append, ↓reduceIte, vcu, ↓vcd, p3, p4, p5, p6, p7, p8]
        refine ⟨?_, ?_, ?_, ?_, ?_, ?_, ?_⟩ <;> first | trivial | rfl | assumption
      have hstep : argm ls (k + 1) = if ls.getD (k + 1) 0 < ls.getD (argm ls k) 0 then k + 1 else argm ls k := rfl
      have l1 := own_at hg2 (i := k + 1) (by omega)
      have l2 := own_at hg2 (i := argm ls k) (by omega)
      by_cases hx : ls.getD (k + 1) 0 < ls.getD (argm ls k) 0
      · rw [if_pos hx] at hstep
        simp -implicitDefEqProofs (disch := omega) only [List.any_cons, List.any_nil, Nat.reduceEqDiff, List.map_cons, List.map_nil, Option.map_some, Option.map_none, List.nil_append, ↓reduceIte, vcu, ↓vcd, p3, p4, p5, p6, p7, p8, l1, l2]
        exact ⟨⟨by first | trivial | exact q3.symm, by first | trivial | exact q4.symm, by first | trivial | exact q5.symm, by first | trivial | exact q6.symm, trivial⟩, m3 - 1, by omega, k + 1, by omega, by simp, by rw [hstep], trivial⟩
      · rw [if_neg hx] at hstep
        simp -implicitDefEqProofs (disch := omega) only [List.any_cons, List.any_nil, Nat.reduceEqDiff, List.map_cons, List.map_nil, Option.map_some, Option.map_none, List.nil_append, ↓reduceIte, vcu, ↓vcd, p3, p4, p5, p6, p7, p8, l1, l2]
        exact ⟨⟨by first | trivial | exact q3.symm, by first | trivial | exact q4.symm, by first | trivial | exact q5.symm, by first | trivial | exact q6.symm, trivial⟩, m3 - 1, by omega, k + 1, by omega, by simp, by rw [hstep], trivial⟩
    · rintro e a3 τ ⟨rfl, rfl, b3, b4, b5, b6, b7⟩
      have hb1 : ((argm ls (ls.length - 1) : Int) + 1).toNat = argm ls (ls.length - 1) + 1 := by omega
      generalize hB : argm ls (ls.length - 1) = b at hai b7 hb1
      have hlb : low ls = ls.getD b 0 := by unfold low; rw [hB]
      have hrm : rmv ls = ls.take b ++ ls.drop (b + 1) := by unfold rmv; rw [hB]
      rw [hlb] at hT hlow
      rw [hrm] at hT
      have l1 := own_at hg2 (i := b) (by omega)
      simp -implicitDefEqProofs (disch := omega) only [List.any_cons, List.any_nil, Nat.reduceEqDiff, List.map_cons, List.map_nil, Option.map_some, Option.map_none, List.nil_append, ↓reduceIte, vcu, ↓vcd, b3, b4, b5, b6, b7, l1]
      refine region_tree mixed (quiets [1, 2, 3, 5, 6, 7, 8] (.one 0 (.one 4 (.one 9 (quiets [10] .stop))))) [] (by kernel_rfl) (by kernel_rfl) (fun p hp => by cases hp) ?_
      refine tree_quiets _ _ _ _ sf0 (by kernel_rfl) (by kernel_rfl) ?_
      simp -implicitDefEqProofs (disch := omega) only [List.any_cons, List.any_nil, Nat.reduceEqDiff, List.map_cons, List.map_nil, Option.map_some, Option.map_none, List.nil_append, ↓reduceIte, vcu, ↓vcd, pickOps_nil, pickOps_cons, pickO_some, List.getElem?_cons_succ, List.getElem?_cons_zero, b3, b7, Int.toNat_natCast, hb1]
      refine tree_one rfl ?_
      refine r_lit el31 (out := #[]) (by kernel_rfl) (by kernel_rfl) fun ea τ5 n5 s5 v5 => ?_
      simp -implicitDefEqProofs (disch := omega) only [List.any_cons, List.any_nil, Nat.reduceEqDiff, List.map_cons, List.map_nil, Option.map_some, Option.map_none, List.nil_append, ↓reduceIte, vcu, ↓vcd]
      refine ⟨keep_of rfl (fun p hp => by cases hp), tree_one rfl ?_⟩
      have hl5 : IntsAt .i64 τ5 g2 0 ls := intsAt_own (s5 _ _ hg2)
      refine r_pushI (g := ea) (e := g2) (o := 0) (k := .i64) (xs := []) (ys := ls.take b) (m := b) (len := 0) el31 (by omega) sl31 (by simp -implicitDefEqProofs (disch := omega) only [List.any_cons, List.any_nil, Nat.reduceEqDiff, List.map_cons, List.map_nil, Option.map_some, Option.map_none, List.nil_append, ↓reduceIte, vcu, ↓vcd]) v5 rfl (by simp -implicitDefEqProofs (disch := omega) only [List.any_cons, List.any_nil, Nat.reduceEqDiff, List.map_cons, List.map_nil, Option.map_some, Option.map_none, List.nil_append, ↓reduceIte, vcu, ↓vcd, Int.toNat_natCast]) (hl5.take _) (by rw [List.length_take]; omega) (by omega) fun gb τ6 n6 k6 v6 => ?_
      rw [List.nil_append] at v6
      have hgl6 := k6.at (s5 _ _ hg2) (ne_of' n5 hg2)
      have hs6 : Sub σ τ6 := k6.sub (hs2.trans s5) (free_sub hs2 n5)
      have nb := free_sub (hs2.trans s5) n6
      simp -implicitDefEqProofs (disch := omega) only [List.any_cons, List.any_nil, Nat.reduceEqDiff, List.map_cons, List.map_nil, Option.map_some, Option.map_none, List.nil_append, ↓reduceIte, vcu, ↓vcd, Nat.zero_add]
      refine ⟨keep_of rfl (fun p hp => by cases hp), tree_one rfl ?_⟩
      have hl6 : IntsAt .i64 τ6 g2 0 ls := intsAt_own hgl6
      have hdr := hl6.drop (b + 1)
      rw [Nat.zero_add] at hdr
      refine r_pushI (g := gb) (e := g2) (o := b + 1) (k := .i64) (xs := ls.take b) (ys := ls.drop (b + 1)) (m := ls.length - (b + 1)) (len := b) el31 (by omega) sl31 (by simp -implicitDefEqProofs (disch := omega) only [List.any_cons, List.any_nil, Nat.reduceEqDiff, List.map_cons, List.map_nil, Option.map_some, Option.map_none, List.nil_append, ↓reduceIte, vcu, ↓vcd]) v6 (by rw [List.length_take]; omega) (by simp -implicitDefEqProofs (disch := omega) only [List.any_cons, List.any_nil, Nat.reduceEqDiff, List.map_cons, List.map_nil, Option.map_some, Option.map_none, List.nil_append, ↓reduceIte, vcu, ↓vcd, Int.toNat_natCast, hb1]) hdr (by rw [List.length_drop]) (by omega) fun gc τ7 n7 k7 v7 => ?_
      have hs7 : Sub σ τ7 := k7.sub hs6 nb
      have nc := free_sub hs6 n7
      simp -implicitDefEqProofs (disch := omega) only [List.any_cons, List.any_nil, Nat.reduceEqDiff, List.map_cons, List.map_nil, Option.map_some, Option.map_none, List.nil_append, ↓reduceIte, vcu, ↓vcd]
      refine ⟨keep_of rfl (fun p hp => by cases hp), ?_⟩
      refine tree_quiets _ _ _ _ sf0 (by kernel_rfl) (by kernel_rfl) ?_
      simp -implicitDefEqProofs (disch := omega) only [List.any_cons, List.any_nil, Nat.reduceEqDiff, List.map_cons, List.map_nil, Option.map_some, Option.map_none, List.nil_append, ↓reduceIte, vcu, ↓vcd, pickOps_nil, pickOps_cons, pickO_some, List.getElem?_cons_succ, List.getElem?_cons_zero]
      refine tree_stop ?_
      simp -implicitDefEqProofs (disch := omega) only [List.any_cons, List.any_nil, Nat.reduceEqDiff, List.map_cons, List.map_nil, Option.map_some, Option.map_none, List.nil_append, ↓reduceIte, vcu, ↓vcd, b3, b4, b5, b6, b7]
      have hlen2 : (ls.take b ++ ls.drop (b + 1)).length = b + (ls.length - (b + 1)) := by rw [List.length_append, List.length_take, List.length_drop]; omega
      exact ⟨⟨by first | trivial | exact h4.symm, trivial⟩, m2 - 1, by omega, n + 1, gc, by omega, by simp, by rw [hT], by rw [hT, hlen2], hs7, by rw [hT]; exact v7, nc⟩
  · rintro e a3 τ ⟨rfl, b4, b5, g2, b3, hs2, hg2, hn2⟩
    obtain ⟨t1, t2, t3, t4⟩ := tak_facts hin 4 hg4
    have hjl : (tak gs 4).1.length + 1 = (joinG gs).length := by unfold joinG; rw [List.length_append, List.length_singleton]
    have hjg : (tak gs 4).1 ++ [(tak gs 4).2] = joinG gs := rfl
    generalize (tak gs 4).1 = ls at *
    generalize (tak gs 4).2 = jn at *
    simp -implicitDefEqProofs (disch := omega) only [List.any_cons, List.any_nil, Nat.reduceEqDiff, List.map_cons, List.map_nil, Option.map_some, Option.map_none, List.nil_append, ↓reduceIte, vcu, ↓vcd, b3, b4, b5]
    refine r_lit el31 (out := #[.int .i64 jn]) (by first | kernel_rfl | (simp -implicitDefEqProofs (disch := omega) only [List.any_cons, List.any_nil, Nat.reduceEqDiff, List.map_cons, List.map_nil, Option.map_some, Option.map_none, List.nil_append, ↓reduceIte, vcu, ↓vcd]; kernel_rfl)) (by rfl) fun e3 τ4 n4 s4 v4 => ?_
    refine r_pushI (g := g2) (e := e3) (o := 0) (k := .i64) (xs := ls) (ys := [jn]) (m := 1) (len := ls.length) el31 (by omega) sl31 (by simp -implicitDefEqProofs (disch := omega) only [List.any_cons, List.any_nil, Nat.reduceEqDiff, List.map_cons, List.map_nil, Option.map_some, Option.map_none, List.nil_append, ↓reduceIte, vcu, ↓vcd, b3]) (s4 _ _ hg2) rfl (by simp -implicitDefEqProofs (disch := omega) only [List.any_cons, List.any_nil, Nat.reduceEqDiff, List.map_cons, List.map_nil, Option.map_some, Option.map_none, List.nil_append, ↓reduceIte, vcu, ↓vcd]) (intsAt_own v4) rfl (by omega) fun g6 τ6 n6 k6 v6 => ?_
    rw [hjg] at v6
    simp -implicitDefEqProofs (disch := omega) only [List.any_cons, List.any_nil, Nat.reduceEqDiff, List.map_cons, List.map_nil, Option.map_some, Option.map_none, List.nil_append, ↓reduceIte, vcu, ↓vcd, b4, hjl]
    refine ⟨trivial, m', by omega, joinG gs, g6, s + jn, by omega, rfl, rfl, k6.sub (hs2.trans s4) hn2, v6, free_sub (hs2.trans s4) n6, by omega, by omega, by omega, by rw [← hbs]; exact hJ.2, by omega, ?_⟩
    have := hbd.2
    omega
theorem least_calls (σ : AHeap) (v : Value) (xs : List Int) (hv : Ints .i64 σ v xs) (hl : xs.length ≤ 1048576) : ACall Try.prog w0 52 [v] σ fun r σ' => r = .int .i64 (leastV xs) ∧ σ' = σ :=
  ACall.ints_quiet (pre := []) (post := []) (by kernel_rfl) hv fun σ1 h o _ hg => least_at σ1 h o xs hg hl
end Go.Proofs.Ytnenopebfobajaa

namespace Go.Proofs.Ytnenopebfobajaa
open Go Go.Abs Go.RowKit Go.Dial
variable {w0 : World}

/-- a route of a valid table -/
def RRow (cs : List Rt) (k : Nat) : Prop := DgT (cs.getD k rt0).b ∧ (cs.getD k rt0).b.length ≤ 3 ∧ (0 ≤ (cs.getD k rt0).n ∧ (cs.getD k rt0).n ≤ 99) ∧ ∀ j, j < k → (cs.getD j rt0).b ≠ (cs.getD k rt0).b
def RtOk (cs : List Rt) : Prop := (∀ k, k < cs.length → RRow cs k) ∧ cs.length ≤ 8
instance (cs : List Rt) (k : Nat) : Decidable (RRow cs k) := inferInstanceAs (Decidable (_ ∧ _ ∧ _ ∧ _))
instance (cs : List Rt) : Decidable (RtOk cs) := inferInstanceAs (Decidable (_ ∧ _))
theorem rtValid_at (σ : AHeap) (h o : Nat) (cs : List Rt) (hv : RutsAt σ h o cs) (hl : cs.length ≤ 1048576) (hp : ∀ c ∈ cs, c.b.length ≤ 1048576) :
    ACall Try.prog w0 56 [.slice (some ⟨h, o, none⟩) cs.length 2] σ fun r σ' => r = .bool (decide (RtOk cs)) ∧ σ' = σ := by
  refine acall_go mixed Try.func56 rfl good56 fun pr => ?_
  simp -implicitDefEqProofs (disch := omega) only [List.any_cons, List.any_nil, Nat.reduceEqDiff, List.map_cons, List.map_nil, Option.map_some, Option.map_none, List.nil_append, ↓reduceIte, vcu, ↓vcd]
  refine vc_loop_c mixed (by kernel_rfl) [0] (fun m a σ' => ∃ k : Nat, m + k = cs.length ∧ a 3 = .int .i64 k ∧ (∀ j, j < k → RRow cs j) ∧ σ' = σ) cs.length ⟨0, by simp, rfl, fun j hj => absurd hj (by omega), rfl⟩ ?_
  rintro m a σ' hc ⟨k, hk, h3, hall, rfl⟩
  simp -implicitDefEqProofs (disch := omega) only [List.any_cons, List.any_nil, Nat.reduceEqDiff, List.map_cons, List.map_nil, Option.map_some, Option.map_none, List.nil_append, ↓reduceIte, vcu, ↓vcd] at hc
  obtain ⟨h0, -⟩ := hc
  by_cases hlt : k < cs.length
  case neg =>
    simp -implicitDefEqProofs (disch := omega) only [List.any_cons, List.any_nil, Nat.reduceEqDiff, List.map_cons, List.map_nil, Option.map_some, Option.map_none, List.nil_append, ↓reduceIte, vcu, ↓vcd, h0, h3]
    refine fin_one Try.results56 ⟨?_, rfl⟩
    simp -implicitDefEqProofs (disch := omega) only [List.any_cons, List.any_nil, Nat.reduceEqDiff, List.map_cons, List.map_nil, Option.map_some, Option.map_none, List.nil_append, ↓reduceIte, vcu, ↓vcd]
    congr 1
    rw [decide_eq_decide]
    exact ⟨fun h => ⟨fun j hj => hall j (by omega), by omega⟩, fun h => by have := h.2; omega⟩
  obtain ⟨x1, x2⟩ := hv k hlt
  have hmem : cs.getD k rt0 ∈ cs := by simp [List.getD, hlt]
  have hb := hp _ hmem
  have stop : ∀ {P : Prop}, (RRow cs k → P) → ¬P → ¬RtOk cs := fun h1 h2 h3 => h2 (h1 (h3.1 k hlt))
  by_cases hd : DgT (cs.getD k rt0).b
  case neg =>
    have d1 : decide (DgT (cs.getD k rt0).b) = false := decide_eq_false hd
    simp -implicitDefEqProofs (disch := omega) only [List.any_cons, List.any_nil, Nat.reduceEqDiff, List.map_cons, List.map_nil, Option.map_some, Option.map_none, List.nil_append, ↓reduceIte, vcu, ↓vcd, h0, h3, x1, Nat.add_zero]
    refine (digits_calls _ _ hb).mono ?_
    rintro r τ ⟨rfl, rfl⟩
    simp -implicitDefEqProofs (disch := omega) only [List.any_cons, List.any_nil, Nat.reduceEqDiff, List.map_cons, List.map_nil, Option.map_some, Option.map_none, List.nil_append, ↓reduceIte, vcu, ↓vcd, opK_some, h0, h3, d1]
    refine fin_one Try.results56 ⟨?_, rfl⟩
    simp -implicitDefEqProofs (disch := omega) only [List.any_cons, List.any_nil, Nat.reduceEqDiff, List.map_cons, List.map_nil, Option.map_some, Option.map_none, List.nil_append, ↓reduceIte, vcu, ↓vcd]
    simp [stop (fun h => h.1) hd]
  have d1 : decide (DgT (cs.getD k rt0).b) = true := decide_eq_true hd
  by_cases hln : (cs.getD k rt0).b.length ≤ 3
  case neg =>
    simp -implicitDefEqProofs (disch := omega) only [List.any_cons, List.any_nil, Nat.reduceEqDiff, List.map_cons, List.map_nil, Option.map_some, Option.map_none, List.nil_append, ↓reduceIte, vcu, ↓vcd, h0, h3, x1, Nat.add_zero]
    refine (digits_calls _ _ hb).mono ?_
    rintro r τ ⟨rfl, rfl⟩
    simp -implicitDefEqProofs (disch := omega) only [List.any_cons, List.any_nil, Nat.reduceEqDiff, List.map_cons, List.map_nil, Option.map_some, Option.map_none, List.nil_append, ↓reduceIte, vcu, ↓vcd, opK_some, h0, h3, d1, x1, Nat.add_zero]
    refine fin_one Try.results56 ⟨?_, rfl⟩
    simp -implicitDefEqProofs (disch := omega) only [List.any_cons, List.any_nil, Nat.reduceEqDiff, List.map_cons, List.map_nil, Option.map_some, Option.map_none, List.nil_append, ↓reduceIte, vcu, ↓vcd]
    simp [stop (fun h => h.2.1) hln]
  by_cases hn : 0 ≤ (cs.getD k rt0).n ∧ (cs.getD k rt0).n ≤ 99
  case neg =>
    have d2 : decide (0 ≤ (cs.getD k rt0).n ∧ (cs.getD k rt0).n ≤ 99) = false := decide_eq_false hn
    simp -implicitDefEqProofs (disch := omega) only [List.any_cons, List.any_nil, Nat.reduceEqDiff, List.map_cons, List.map_nil, Option.map_some, Option.map_none, List.nil_append, ↓reduceIte, vcu, ↓vcd, h0, h3, x1, Nat.add_zero]
    refine (digits_calls _ _ hb).mono ?_
    rintro r τ ⟨rfl, rfl⟩
    simp -implicitDefEqProofs (disch := omega) only [List.any_cons, List.any_nil, Nat.reduceEqDiff, List.map_cons, List.map_nil, Option.map_some, Option.map_none, List.nil_append, ↓reduceIte, vcu, ↓vcd, opK_some, h0, h3, d1, x1, x2, Nat.add_zero]
    refine (in_calls _ _ 0 99).mono ?_
    rintro r τ ⟨rfl, rfl⟩
    simp -implicitDefEqProofs (disch := omega) only [List.any_cons, List.any_nil, Nat.reduceEqDiff, List.map_cons, List.map_nil, Option.map_some, Option.map_none, List.nil_append, ↓reduceIte, vcu, ↓vcd, opK_some, h0, h3, d2]
    refine fin_one Try.results56 ⟨?_, rfl⟩
    simp -implicitDefEqProofs (disch := omega) only [List.any_cons, List.any_nil, Nat.reduceEqDiff, List.map_cons, List.map_nil, Option.map_some, Option.map_none, List.nil_append, ↓reduceIte, vcu, ↓vcd]
    simp [stop (fun h => h.2.2.1) hn]
  have d2 : decide (0 ≤ (cs.getD k rt0).n ∧ (cs.getD k rt0).n ≤ 99) = true := decide_eq_true hn
  simp -implicitDefEqProofs (disch := omega) only [List.any_cons, List.any_nil, Nat.reduceEqDiff, List.map_cons, List.map_nil, Option.map_some, Option.map_none, List.nil_append, ↓reduceIte, vcu, ↓vcd, h0, h3, x1, Nat.add_zero]
  refine (digits_calls _ _ hb).mono ?_
  rintro r τ ⟨rfl, rfl⟩
  simp -implicitDefEqProofs (disch := omega) only [List.any_cons, List.any_nil, Nat.reduceEqDiff, List.map_cons, List.map_nil, Option.map_some, Option.map_none, List.nil_append, ↓reduceIte, vcu, ↓vcd, opK_some, h0, h3, d1, x1, x2, Nat.add_zero]
  refine (in_calls _ _ 0 99).mono ?_
  rintro r τ ⟨rfl, rfl⟩
  simp -implicitDefEqProofs (disch := omega) only [List.any_cons, List.any_nil, Nat.reduceEqDiff, List.map_cons, List.map_nil, Option.map_some, Option.map_none, List.nil_append, ↓reduceIte, vcu, ↓vcd, opK_some, h0, h3, d2]
  refine vc_loop_c mixed (by kernel_rfl) [0, 3] (fun m a σ' => ∃ j : Nat, m + j = k ∧ a 4 = .int .i64 j ∧ (∀ i, i < j → (cs.getD i rt0).b ≠ (cs.getD k rt0).b) ∧ σ' = τ) k ⟨0, by simp, rfl, fun j hj => absurd hj (by omega), rfl⟩ ?_
  rintro m2 a2 σ2 hc2 ⟨j, hj, h4, hin, rfl⟩
  simp -implicitDefEqProofs (disch := omega) only [List.any_cons, List.any_nil, Nat.reduceEqDiff, List.map_cons, List.map_nil, Option.map_some, Option.map_none, List.nil_append, ↓reduceIte, vcu, ↓vcd, h0, h3] at hc2
  obtain ⟨g0, g3, -⟩ := hc2
  by_cases hjl : j < k
  case neg =>
    simp -implicitDefEqProofs (disch := omega) only [List.any_cons, List.any_nil, Nat.reduceEqDiff, List.map_cons, List.map_nil, Option.map_some, Option.map_none, List.nil_append, ↓reduceIte, vcu, ↓vcd, g0, g3, h4]
    refine ⟨⟨trivial, trivial⟩, m - 1, by omega, k + 1, by omega, by simp, fun i hi => ?_, trivial⟩
    by_cases e : i = k
    · subst e; exact ⟨hd, hln, hn, fun i' h1 => hin i' (by omega)⟩
    · exact hall i (by omega)
  obtain ⟨y1, y2⟩ := hv j (by omega)
  by_cases heq : (cs.getD j rt0).b = (cs.getD k rt0).b
  · have d3 : decide ((cs.getD j rt0).b = (cs.getD k rt0).b) = true := decide_eq_true heq
    simp -implicitDefEqProofs (disch := omega) only [List.any_cons, List.any_nil, Nat.reduceEqDiff, List.map_cons, List.map_nil, Option.map_some, Option.map_none, List.nil_append, ↓reduceIte, vcu, ↓vcd, g0, g3, h4, x1, y1, Nat.add_zero, d3]
    refine fin_one Try.results56 ⟨?_, rfl⟩
    simp -implicitDefEqProofs (disch := omega) only [List.any_cons, List.any_nil, Nat.reduceEqDiff, List.map_cons, List.map_nil, Option.map_some, Option.map_none, List.nil_append, ↓reduceIte, vcu, ↓vcd]
    simp [stop (fun h => h.2.2.2 j hjl) (fun h => h heq)]
  · have d3 : decide ((cs.getD j rt0).b = (cs.getD k rt0).b) = false := decide_eq_false heq
    simp -implicitDefEqProofs (disch := omega) only [List.any_cons, List.any_nil, Nat.reduceEqDiff, List.map_cons, List.map_nil, Option.map_some, Option.map_none, List.nil_append, ↓reduceIte, vcu, ↓vcd, g0, g3, h4, x1, y1, Nat.add_zero, d3]
    refine ⟨⟨h0.symm, h3.symm, trivial⟩, m2 - 1, by omega, j + 1, by omega, by simp, fun i hi => ?_, trivial⟩
    by_cases e : i = j
    · subst e; exact heq
    · exact hin i (by omega)
end Go.Proofs.Ytnenopebfobajaa

namespace Go.Proofs.Ytnenopebfobajaa
open Go Go.Abs Go.RowKit Go.Dial
variable {w0 : World}

/-- the outlet and the length of the longest beginning among the first routes -/
def rtF (cs : List Rt) (s : List UInt8) : Nat → Int × Int
  | 0 => (-1, -1)
  | k + 1 => if Beg s (cs.getD k rt0).b ∧ (rtF cs s k).2 < (cs.getD k rt0).b.length then ((cs.getD k rt0).n, (cs.getD k rt0).b.length) else rtF cs s k
def routeV (cs : List Rt) (s : List UInt8) : Int := if RtOk cs ∧ DgT s then (rtF cs s cs.length).1 else -1
theorem rtF_long (cs : List Rt) (s : List UInt8) : ∀ k, -1 ≤ (rtF cs s k).2
  | 0 => by simp [rtF]
  | k + 1 => by
    have := rtF_long cs s k
    unfold rtF
    split
    · simp only; omega
    · exact this
theorem routeOf_at (σ : AHeap) (h o : Nat) (cs : List Rt) (s : List UInt8) (hv : RutsAt σ h o cs) (hl : cs.length ≤ 1048576) (hp : ∀ c ∈ cs, c.b.length ≤ 1048576) (hs : s.length ≤ 1048576) :
    ACall Try.prog w0 59 [.slice (some ⟨h, o, none⟩) cs.length 2, .string (tx s)] σ fun r σ' => r = .int .i64 (routeV cs s) ∧ σ' = σ := by
  refine acall_go mixed Try.func59 rfl good59 fun pr => ?_
  simp -implicitDefEqProofs (disch := omega) only [List.any_cons, List.any_nil, Nat.reduceEqDiff, List.map_cons, List.map_nil, Option.map_some, Option.map_none, List.nil_append, ↓reduceIte, vcu, ↓vcd]
  refine vc_loop_c mixed (by kernel_rfl) [0, 1] (fun m a σ' => ∃ k : Nat, m + k = cs.length ∧ a 7 = .int .i64 k ∧ (0 < k → RtOk cs ∧ DgT s) ∧ a 5 = .int .i64 (rtF cs s k).1 ∧ a 6 = .int .i64 (rtF cs s k).2 ∧ σ' = σ) cs.length ⟨0, by simp, rfl, fun h => absurd h (by omega), rfl, rfl, rfl⟩ ?_
  rintro m a σ' hc ⟨k, hk, h7, hk0, h5, h6, rfl⟩
  simp -implicitDefEqProofs (disch := omega) only [List.any_cons, List.any_nil, Nat.reduceEqDiff, List.map_cons, List.map_nil, Option.map_some, Option.map_none, List.nil_append, ↓reduceIte, vcu, ↓vcd] at hc
  obtain ⟨h0, h1, -⟩ := hc
  have hlong := rtF_long cs s k
  by_cases hlt : k < cs.length
  case neg =>
    obtain rfl : k = cs.length := by omega
    simp -implicitDefEqProofs (disch := omega) only [List.any_cons, List.any_nil, Nat.reduceEqDiff, List.map_cons, List.map_nil, Option.map_some, Option.map_none, List.nil_append, ↓reduceIte, vcu, ↓vcd, h0, h1, h5, h6, h7]
    refine fin_one Try.results59 ⟨?_, rfl⟩
    simp -implicitDefEqProofs (disch := omega) only [List.any_cons, List.any_nil, Nat.reduceEqDiff, List.map_cons, List.map_nil, Option.map_some, Option.map_none, List.nil_append, ↓reduceIte, vcu, ↓vcd, h5]
    unfold routeV
    split
    · rfl
    · rename_i hno
      have h0' : cs.length = 0 := by
        rcases Nat.eq_zero_or_pos cs.length with h | h
        · exact h
        · exact absurd (hk0 h) hno
      rw [h0']; rfl
  obtain ⟨x1, x2⟩ := hv k hlt
  have hmem : cs.getD k rt0 ∈ cs := by simp [List.getD, hlt]
  have hb := hp _ hmem
  by_cases hok : RtOk cs
  case neg =>
    have d1 : decide (RtOk cs) = false := decide_eq_false hok
    have hk1 : k = 0 := by
      rcases Nat.eq_zero_or_pos k with h | h
      · exact h
      · exact absurd (hk0 h).1 hok
    simp -implicitDefEqProofs (disch := omega) only [List.any_cons, List.any_nil, Nat.reduceEqDiff, List.map_cons, List.map_nil, Option.map_some, Option.map_none, List.nil_append, ↓reduceIte, vcu, ↓vcd, h0, h1, h5, h6, h7]
    refine (rtValid_at _ h o cs hv hl hp).mono ?_
    rintro r τ ⟨rfl, rfl⟩
    simp -implicitDefEqProofs (disch := omega) only [List.any_cons, List.any_nil, Nat.reduceEqDiff, List.map_cons, List.map_nil, Option.map_some, Option.map_none, List.nil_append, ↓reduceIte, vcu, ↓vcd, opK_some, h0, h1, h5, h6, h7, d1]
    refine fin_one Try.results59 ⟨?_, rfl⟩
    simp -implicitDefEqProofs (disch := omega) only [List.any_cons, List.any_nil, Nat.reduceEqDiff, List.map_cons, List.map_nil, Option.map_some, Option.map_none, List.nil_append, ↓reduceIte, vcu, ↓vcd, h5]
    rw [routeV, if_neg (fun h => hok h.1), hk1]; rfl
  have d1 : decide (RtOk cs) = true := decide_eq_true hok
  by_cases hsd : DgT s
  case neg =>
    have d2 : decide (DgT s) = false := decide_eq_false hsd
    have hk1 : k = 0 := by
      rcases Nat.eq_zero_or_pos k with h | h
      · exact h
      · exact absurd (hk0 h).2 hsd
    simp -implicitDefEqProofs (disch := omega) only [List.any_cons, List.any_nil, Nat.reduceEqDiff, List.map_cons, List.map_nil, Option.map_some, Option.map_none, List.nil_append, ↓reduceIte, vcu, ↓vcd, h0, h1, h5, h6, h7]
    refine (rtValid_at _ h o cs hv hl hp).mono ?_
    rintro r τ ⟨rfl, rfl⟩
    simp -implicitDefEqProofs (disch := omega) only [List.any_cons, List.any_nil, Nat.reduceEqDiff, List.map_cons, List.map_nil, Option.map_some, Option.map_none, List.nil_append, ↓reduceIte, vcu, ↓vcd, opK_some, h0, h1, h5, h6, h7, d1]
    refine (digits_calls _ s hs).mono ?_
    rintro r τ ⟨rfl, rfl⟩
    simp -implicitDefEqProofs (disch := omega) only [List.any_cons, List.any_nil, Nat.reduceEqDiff, List.map_cons, List.map_nil, Option.map_some, Option.map_none, List.nil_append, ↓reduceIte, vcu, ↓vcd, opK_some, h0, h1, h5, h6, h7, d2]
    refine fin_one Try.results59 ⟨?_, rfl⟩
    simp -implicitDefEqProofs (disch := omega) only [List.any_cons, List.any_nil, Nat.reduceEqDiff, List.map_cons, List.map_nil, Option.map_some, Option.map_none, List.nil_append, ↓reduceIte, vcu, ↓vcd, h5]
    rw [routeV, if_neg (fun h => hsd h.2), hk1]; rfl
  have d2 : decide (DgT s) = true := decide_eq_true hsd
  have hstep : rtF cs s (k + 1) = if Beg s (cs.getD k rt0).b ∧ (rtF cs s k).2 < (cs.getD k rt0).b.length then ((cs.getD k rt0).n, ((cs.getD k rt0).b.length : Int)) else rtF cs s k := rfl
  simp -implicitDefEqProofs (disch := omega) only [List.any_cons, List.any_nil, Nat.reduceEqDiff, List.map_cons, List.map_nil, Option.map_some, Option.map_none, List.nil_append, ↓reduceIte, vcu, ↓vcd, h0, h1, h5, h6, h7]
  refine (rtValid_at _ h o cs hv hl hp).mono ?_
  rintro r τ ⟨rfl, rfl⟩
  simp -implicitDefEqProofs (disch := omega) only [List.any_cons, List.any_nil, Nat.reduceEqDiff, List.map_cons, List.map_nil, Option.map_some, Option.map_none, List.nil_append, ↓reduceIte, vcu, ↓vcd, opK_some, h0, h1, h5, h6, h7, d1]
  refine (digits_calls _ s hs).mono ?_
  rintro r τ ⟨rfl, rfl⟩
  simp -implicitDefEqProofs (disch := omega) only [List.any_cons, List.any_nil, Nat.reduceEqDiff, List.map_cons, List.map_nil, Option.map_some, Option.map_none, List.nil_append, ↓reduceIte, vcu, ↓vcd, opK_some, h0, h1, h5, h6, h7, d2, x1, Nat.add_zero]
  refine (begins_calls _ _ _).mono ?_
  rintro r τ ⟨rfl, rfl⟩
  by_cases hbg : Beg s (cs.getD k rt0).b
  · have d3 : decide (Beg s (cs.getD k rt0).b) = true := decide_eq_true hbg
    by_cases hlo : (rtF cs s k).2 < (cs.getD k rt0).b.length
    · rw [if_pos ⟨hbg, hlo⟩] at hstep
      simp -implicitDefEqProofs (disch := omega) only [List.any_cons, List.any_nil, Nat.reduceEqDiff, List.map_cons, List.map_nil, Option.map_some, Option.map_none, List.nil_append, ↓reduceIte, vcu, ↓vcd, opK_some, h0, h1, h5, h6, h7, d3, x1, x2, Nat.add_zero]
      exact ⟨⟨trivial, trivial, trivial⟩, m - 1, by omega, k + 1, by omega, by simp, fun _ => ⟨hok, hsd⟩, by rw [hstep], by rw [hstep], trivial⟩
    · rw [if_neg (fun h => hlo h.2)] at hstep
      simp -implicitDefEqProofs (disch := omega) only [List.any_cons, List.any_nil, Nat.reduceEqDiff, List.map_cons, List.map_nil, Option.map_some, Option.map_none, List.nil_append, ↓reduceIte, vcu, ↓vcd, opK_some, h0, h1, h5, h6, h7, d3, x1, x2, Nat.add_zero]
      exact ⟨⟨trivial, trivial, trivial⟩, m - 1, by omega, k + 1, by omega, by simp, fun _ => ⟨hok, hsd⟩, by rw [hstep], by rw [hstep], trivial⟩
  · have d3 : decide (Beg s (cs.getD k rt0).b) = false := decide_eq_false hbg
    rw [if_neg (fun h => hbg h.1)] at hstep
    simp -implicitDefEqProofs (disch := omega) only [List.any_cons, List.any_nil, Nat.reduceEqDiff, List.map_cons, List.map_nil, Option.map_some, Option.map_none, List.nil_append, ↓reduceIte, vcu, ↓vcd, opK_some, h0, h1, h5, h6, h7, d3, x1, x2, Nat.add_zero]
    exact ⟨⟨trivial, trivial, trivial⟩, m - 1, by omega, k + 1, by omega, by simp, fun _ => ⟨hok, hsd⟩, by rw [hstep], by rw [hstep], trivial⟩
end Go.Proofs.Ytnenopebfobajaa

namespace Go.Proofs.Ytnenopebfobajaa
open Go Go.Abs Go.RowKit Go.Dial
variable {w0 : World}

end Go.Proofs.Ytnenopebfobajaa

namespace Go.Proofs.Ytnenopebfobajaa
open Go Go.Abs Go.RowKit Go.Dial
variable {w0 : World}

theorem azeros_ruts (l : Nat) : azeros (.agg #[.string (tx []), .int .i64 0]) (l * 2) = ruts (List.replicate l rt0) := by
  apply List.ext_getElem?
  intro j
  by_cases hj : j < l * 2
  · obtain ⟨q, r, rfl, hr⟩ : ∃ q r, j = q * 2 + r ∧ r < 2 := ⟨j / 2, j % 2, by omega, by omega⟩
    have hq : q < l := by omega
    have g := ruts_get (List.replicate l rt0) q (by simpa using hq)
    have e : (List.replicate l rt0).getD q rt0 = rt0 := by simp [List.getD, hq]
    rw [e] at g
    have hr' : r = 0 ∨ r = 1 := by omega
    rcases hr' with rfl | rfl
    · rw [Nat.add_zero, g.1]
      have : q * 2 % 2 = 0 := by omega
      simp [azeros, madeCells, Value.cells, this, hq, rt0]
    · rw [g.2]
      have h1 : q * 2 + 1 < l * 2 := by omega
      have : (q * 2 + 1) % 2 = 1 := by omega
      simp [azeros, madeCells, Value.cells, this, h1, rt0]
  · rw [List.getElem?_eq_none (by rw [azeros_length]; omega), List.getElem?_eq_none (by rw [ruts_length]; simp; omega)]
theorem ruts_write (cs : List Rt) (i : Nat) (h : i < cs.length) (c : Rt) : lwrite (ruts cs) (i * 2) [.string (tx c.b), .int .i64 c.n] = ruts (cs.set i c) := by
  have hl := ruts_length cs
  apply List.ext_getElem?
  intro j
  rw [lwrite_get _ _ _ (by simp; omega)]
  by_cases hj : j < cs.length * 2
  · obtain ⟨q, r, rfl, hr⟩ : ∃ q r, j = q * 2 + r ∧ r < 2 := ⟨j / 2, j % 2, by omega, by omega⟩
    have hq : q < cs.length := by omega
    have g := ruts_get (cs.set i c) q (by simpa using hq)
    have g0 := ruts_get cs q hq
    have hget : (cs.set i c).getD q rt0 = if i = q then c else cs.getD q rt0 := by
      simp only [List.getD, List.getElem?_set]
      by_cases e : i = q
      · subst e; simp [h]
      · simp [e]
    rw [hget] at g
    have hr' : r = 0 ∨ r = 1 := by omega
    rcases hr' with rfl | rfl
    · rw [Nat.add_zero, g.1]
      by_cases e : i = q
      · subst e; rw [if_pos ⟨Nat.le_refl _, by simp⟩, if_pos rfl]; simp
      · rw [if_neg (by simp; omega), if_neg e]; exact g0.1
    · rw [g.2]
      by_cases e : i = q
      · subst e; rw [if_pos ⟨by omega, by simp⟩, if_pos rfl]; simp
      · rw [if_neg (by simp; omega), if_neg e]; exact g0.2
  · rw [if_neg (by simp; omega), List.getElem?_eq_none (by omega), List.getElem?_eq_none (by rw [ruts_length]; simp; omega)]
theorem listR_eq {xs ys : List Rt} (hlen : xs.length = ys.length) (he : ∀ j, j < xs.length → xs.getD j rt0 = ys.getD j rt0) : xs = ys := by
  apply List.ext_getElem hlen
  intro i h1 h2
  have := he i h1
  simpa [List.getD, h1, h2] using this
end Go.Proofs.Ytnenopebfobajaa

namespace Go.Proofs.Ytnenopebfobajaa
open Go Go.Abs Go.RowKit Go.Dial
variable {w0 : World}
theorem own_rutsI {σ : AHeap} {g : Nat} {cs : List Rt} (h : σ g = some ⟨ruts cs, false⟩) : Ruts σ (.slice (some ⟨g, 0, none⟩) cs.length 2) cs := .inr ⟨g, 0, rfl, rutsAt_own h⟩
theorem rtValid_calls (σ : AHeap) (v : Value) (cs : List Rt) (hv : Ruts σ v cs) (hl : cs.length ≤ 1048576) (hp : ∀ c ∈ cs, c.b.length ≤ 1048576) :
    ACall Try.prog w0 56 [v] σ fun r σ' => r = .bool (decide (RtOk cs)) ∧ σ' = σ :=
  ACall.ruts_quiet (pre := []) (post := []) (by kernel_rfl) hv fun σ1 h o _ hg => rtValid_at σ1 h o cs hg hl hp
theorem routeOf_calls (σ : AHeap) (v : Value) (cs : List Rt) (s : List UInt8) (hv : Ruts σ v cs) (hl : cs.length ≤ 1048576) (hp : ∀ c ∈ cs, c.b.length ≤ 1048576) (hs : s.length ≤ 1048576) :
    ACall Try.prog w0 59 [v, .string (tx s)] σ fun r σ' => r = .int .i64 (routeV cs s) ∧ σ' = σ :=
  ACall.ruts_quiet (pre := []) (post := [_]) (by kernel_rfl) hv fun σ1 h o _ hg => routeOf_at σ1 h o cs s hg hl hp hs
end Go.Proofs.Ytnenopebfobajaa

namespace Go.Proofs.Ytnenopebfobajaa
open Go Go.Abs Go.RowKit Go.Dial
variable {w0 : World}

def markW (k : Int) (n : Nat) : List Rt := (List.range n).map fun (i : Nat) => ⟨mkT (k + 2 * i), k + 2 * i + 1⟩
theorem markW_length (k : Int) (n : Nat) : (markW k n).length = n := by simp [markW]
theorem markW_getD {n i : Nat} {k : Int} (h : i < n) : (markW k n).getD i rt0 = ⟨mkT (k + 2 * i), k + 2 * i + 1⟩ := by simp [markW, List.getD, h]
theorem markW_succ (n : Nat) (k : Int) : markW k (n + 1) = markW k n ++ [⟨mkT (k + 2 * n), k + 2 * n + 1⟩] := by simp [markW, List.range_succ]
theorem setR_drop (A xs : List Rt) (v : Rt) {i : Nat} (hA : A.length = i) (h : i < xs.length) : (A ++ xs.drop i).set i v = A ++ [v] ++ xs.drop (i + 1) := by
  rw [List.set_append_right _ _ (by omega), hA, Nat.sub_self, List.drop_eq_getElem_cons h, List.set_cons_zero, List.append_assoc]; rfl
theorem setR_mid (A D : List Rt) (u v : Rt) {i : Nat} (hA : A.length = i) : (A ++ [u] ++ D).set i v = A ++ [v] ++ D ∧ (A ++ [u] ++ D).getD i rt0 = u := by
  subst hA
  refine ⟨?_, by simp [List.getD]⟩
  rw [List.append_assoc, List.set_append_right _ _ (Nat.le_refl _), Nat.sub_self, List.singleton_append, List.set_cons_zero, List.append_assoc]; rfl
end Go.Proofs.Ytnenopebfobajaa

namespace Go.Proofs.Ytnenopebfobajaa
open Go Go.Abs Go.RowKit Go.Dial
variable {w0 : World}

def rmvR (cs : List Rt) (k : Nat) : List Rt := cs.take k ++ cs.drop (k + 1)
/-- a route that does not matter -/
def idle (L : Nat) (cs : List Rt) (k : Nat) : Prop := (cs.getD k rt0).b.length = L ∧ routeV (rmvR cs k) (cs.getD k rt0).b = (cs.getD k rt0).n
instance (L : Nat) (cs : List Rt) (k : Nat) : Decidable (idle L cs k) := inferInstanceAs (Decidable (_ ∧ _))
def lsK (L : Nat) : Nat → Nat → List Rt → List Rt
  | 0, _, cs => cs
  | m + 1, k, cs => if idle L cs k then lsK L m k (rmvR cs k) else lsK L m (k + 1) cs
def lsL : Nat → List Rt → List Rt
  | 0, cs => cs
  | f + 1, cs => lsL f (lsK f cs.length 0 cs)
def lessV (cs : List Rt) : List Rt := if RtOk cs then lsL 4 cs else []
theorem rmvR_len {cs : List Rt} {k : Nat} (h : k < cs.length) : (rmvR cs k).length = cs.length - 1 := by
  unfold rmvR
  rw [List.length_append, List.length_take, List.length_drop]; omega
theorem rmvR_mem {cs : List Rt} {k : Nat} {c : Rt} (h : c ∈ rmvR cs k) : c ∈ cs := by
  rcases List.mem_append.1 h with h | h
  · exact List.mem_of_mem_take h
  · exact List.mem_of_mem_drop h
theorem acodeB_monoL {P : Program} {b : Base} {n : NR} {c : Code} {a : AFrame} {σ : AHeap} {Q Q' : AQ} (h : ACodeB P b n c a σ Q') (hq : ∀ e a σ, Q' e a σ → Q e a σ) : ACodeB P b n c a σ Q := ACode.mono h hq
set_option maxRecDepth 8000 in
theorem less_at (σ : AHeap) (h o : Nat) (cs : List Rt) (hv : RutsAt σ h o cs) (hl : cs.length ≤ 1048576) (hp : ∀ c ∈ cs, c.b.length ≤ 1048576) :
    ACall Try.prog w0 63 [.slice (some ⟨h, o, none⟩) cs.length 2] σ fun r σ' => Sub σ σ' ∧ OwnR σ σ' r (lessV cs) := by
  refine acall_go mixed Try.func63 rfl good63 fun pr => ?_
  simp -implicitDefEqProofs (disch := omega) only [List.any_cons, List.any_nil, Nat.reduceEqDiff, List.map_cons, List.map_nil, Option.map_some, Option.map_none, List.nil_append, ↓reduceIte, vcu, ↓vcd]
  refine r_lit el48 (out := #[]) (by kernel_rfl) (by kernel_rfl) fun e0 τ1 n1 s1 v1 => ?_
  simp -implicitDefEqProofs (disch := omega) only [List.any_cons, List.any_nil, Nat.reduceEqDiff, List.map_cons, List.map_nil, Option.map_some, Option.map_none, List.nil_append, ↓reduceIte, vcu, ↓vcd]
  refine (rtValid_at _ h o cs (hv.sub s1) hl hp).mono ?_
  rintro r _ ⟨rfl, rfl⟩
  rename_i τ1
  by_cases hok : RtOk cs
  case neg =>
    have d1 : decide (RtOk cs) = false := decide_eq_false hok
    have hV : lessV cs = [] := if_neg hok
    simp -implicitDefEqProofs (disch := omega) only [List.any_cons, List.any_nil, Nat.reduceEqDiff, List.map_cons, List.map_nil, Option.map_some, Option.map_none, List.nil_append, ↓reduceIte, vcu, ↓vcd, opK_some, d1]
    refine fin_one Try.results63 ⟨s1, .inr ⟨e0, ?_, by rw [hV]; exact v1, n1⟩⟩
    simp -implicitDefEqProofs (disch := omega) only [List.any_cons, List.any_nil, Nat.reduceEqDiff, List.map_cons, List.map_nil, Option.map_some, Option.map_none, List.nil_append, ↓reduceIte, vcu, ↓vcd]
    rw [hV]; rfl
  have d1 : decide (RtOk cs) = true := decide_eq_true hok
  have hV : lessV cs = lsL 4 cs := if_pos hok
  have h8 := hok.2
  simp -implicitDefEqProofs (disch := omega) only [List.any_cons, List.any_nil, Nat.reduceEqDiff, List.map_cons, List.map_nil, Option.map_some, Option.map_none, List.nil_append, ↓reduceIte, vcu, ↓vcd, opK_some, d1]
  refine r_lit el48 (out := #[]) (by kernel_rfl) (by kernel_rfl) fun e2 τ2 n2 s2 v2 => ?_
  simp -implicitDefEqProofs (disch := omega) only [List.any_cons, List.any_nil, Nat.reduceEqDiff, List.map_cons, List.map_nil, Option.map_some, Option.map_none, List.nil_append, ↓reduceIte, vcu, ↓vcd]
  refine r_pushR (g := e2) (e := h) (o := o) (cs := []) (ds := cs) (m := cs.length) (len := 0) el48 (by omega) sl48 (by simp -implicitDefEqProofs (disch := omega) only [List.any_cons, List.any_nil, Nat.reduceEqDiff, List.map_cons, List.map_nil, Option.map_some, Option.map_none, List.nil_append, ↓reduceIte, vcu, ↓vcd]) v2 rfl (by simp -implicitDefEqProofs (disch := omega) only [List.any_cons, List.any_nil, Nat.reduceEqDiff, List.map_cons, List.map_nil, Option.map_some, Option.map_none, List.nil_append, ↓reduceIte, vcu, ↓vcd]) ((hv.sub s1).sub s2) rfl (by omega) fun ga τ3 n3 k3 v3 => ?_
  rw [List.nil_append] at v3
  have t3 : Sub τ1 τ3 := k3.sub s2 n2
  have na : τ1 ga = none := free_sub s2 n3
  simp -implicitDefEqProofs (disch := omega) only [List.any_cons, List.any_nil, Nat.reduceEqDiff, List.map_cons, List.map_nil, Option.map_some, Option.map_none, List.nil_append, ↓reduceIte, vcu, ↓vcd, Nat.zero_add]
  refine vc_loop_c mixed (by kernel_rfl) [3] (fun m a σ' => ∃ (now : List Rt) (g : Nat), m ≤ 4 ∧ a 5 = .int .i64 ((m : Int) - 1) ∧ a 4 = .slice (some ⟨g, 0, none⟩) now.length 2 ∧ Sub τ1 σ' ∧ σ' g = some ⟨ruts now, false⟩ ∧ τ1 g = none ∧ now.length ≤ 8 ∧ (∀ c ∈ now, c ∈ cs) ∧ lsL m now = lessV cs) 4
    ⟨cs, ga, by omega, rfl, rfl, t3, v3, na, h8, fun _ h => h, by rw [hV]⟩ ?_
  rintro m a σ2 hc ⟨now, g, hm4, h5, h4, hs, hg, hn, h8', hmem, hval⟩
  simp -implicitDefEqProofs (disch := omega) only [List.any_cons, List.any_nil, Nat.reduceEqDiff, List.map_cons, List.map_nil, Option.map_some, Option.map_none, List.nil_append, ↓reduceIte, vcu, ↓vcd] at hc
  obtain ⟨h3, -⟩ := hc
  cases m with
  | zero =>
    have hval' : now = lessV cs := hval
    simp -implicitDefEqProofs (disch := omega) only [List.any_cons, List.any_nil, Nat.reduceEqDiff, List.map_cons, List.map_nil, Option.map_some, Option.map_none, List.nil_append, ↓reduceIte, vcu, ↓vcd, h3, h4, h5]
    refine r_pushR (g := e0) (e := g) (o := 0) (cs := []) (ds := now) (m := now.length) (len := 0) el48 (by omega) sl48 (by simp -implicitDefEqProofs (disch := omega) only [List.any_cons, List.any_nil, Nat.reduceEqDiff, List.map_cons, List.map_nil, Option.map_some, Option.map_none, List.nil_append, ↓reduceIte, vcu, ↓vcd, h3]) (hs _ _ v1) rfl (by simp -implicitDefEqProofs (disch := omega) only [List.any_cons, List.any_nil, Nat.reduceEqDiff, List.map_cons, List.map_nil, Option.map_some, Option.map_none, List.nil_append, ↓reduceIte, vcu, ↓vcd, h4]) (rutsAt_own hg) rfl (by omega) fun gb τ5 n5 k5 v5 => ?_
    rw [List.nil_append] at v5
    simp -implicitDefEqProofs (disch := omega) only [List.any_cons, List.any_nil, Nat.reduceEqDiff, List.map_cons, List.map_nil, Option.map_some, Option.map_none, List.nil_append, ↓reduceIte, vcu, ↓vcd, Nat.zero_add]
    refine fin_one Try.results63 ⟨k5.sub (s1.trans hs) n1, .inr ⟨gb, ?_, by rw [← hval']; exact v5, free_sub (s1.trans hs) n5⟩⟩
    simp -implicitDefEqProofs (disch := omega) only [List.any_cons, List.any_nil, Nat.reduceEqDiff, List.map_cons, List.map_nil, Option.map_some, Option.map_none, List.nil_append, ↓reduceIte, vcu, ↓vcd]
    rw [← hval']
  | succ f =>
    have hval2 : lsL f (lsK f now.length 0 now) = lessV cs := hval
    have hf : (((f + 1 : Nat) : Int) - 1) = (f : Int) := by omega
    rw [hf] at h5
    generalize hX : lsK f now.length 0 now = X at hval2
    simp -implicitDefEqProofs (disch := omega) only [List.any_cons, List.any_nil, Nat.reduceEqDiff, List.map_cons, List.map_nil, Option.map_some, Option.map_none, List.nil_append, ↓reduceIte, vcu, ↓vcd, h3, h4, h5]
    refine vc_loop_c mixed (by kernel_rfl) [3, 5] (fun m a σ' => ∃ (k : Nat) (ls : List Rt) (g : Nat), m + k = ls.length ∧ a 6 = .int .i64 k ∧ a 4 = .slice (some ⟨g, 0, none⟩) ls.length 2 ∧ Sub τ1 σ' ∧ σ' g = some ⟨ruts ls, false⟩ ∧ τ1 g = none ∧ ls.length ≤ 8 ∧ (∀ c ∈ ls, c ∈ cs) ∧ lsK f m k ls = X) now.length
      ⟨0, now, g, by omega, rfl, h4, hs, hg, hn, h8', hmem, hX⟩ ?_
    rintro m2 a2 σ3 hc2 ⟨k, ls, g2, hk, q6, q4, hs2, hg2, hn2, l8, lmem, hls⟩
    simp -implicitDefEqProofs (disch := omega) only [List.any_cons, List.any_nil, Nat.reduceEqDiff, List.map_cons, List.map_nil, Option.map_some, Option.map_none, List.nil_append, ↓reduceIte, vcu, ↓vcd, h3, h5] at hc2
    obtain ⟨q3, q5, -⟩ := hc2
    by_cases hlt : k < ls.length
    case neg =>
      have hm0 : m2 = 0 := by omega
      subst hm0
      have hX2 : ls = X := hls
      simp -implicitDefEqProofs (disch := omega) only [List.any_cons, List.any_nil, Nat.reduceEqDiff, List.map_cons, List.map_nil, Option.map_some, Option.map_none, List.nil_append, ↓reduceIte, vcu, ↓vcd, q3, q4, q5, q6]
      exact ⟨⟨trivial, trivial⟩, f, by omega, ls, g2, by omega, rfl, rfl, hs2, hg2, hn2, l8, lmem, by rw [hX2]; exact hval2⟩
    obtain ⟨m3, rfl⟩ : ∃ m3, m2 = m3 + 1 := ⟨m2 - 1, by omega⟩
    have hstep : lsK f (m3 + 1) k ls = if idle f ls k then lsK f m3 k (rmvR ls k) else lsK f m3 (k + 1) ls := rfl
    rw [hstep] at hls
    have hb1 : ((k : Int) + 1).toNat = k + 1 := by omega
    simp -implicitDefEqProofs (disch := omega) only [List.any_cons, List.any_nil, Nat.reduceEqDiff, List.map_cons, List.map_nil, Option.map_some, Option.map_none, List.nil_append, ↓reduceIte, vcu, ↓vcd, q3, q4, q5, q6]
    refine region_tree mixed (quiets [1, 2, 3, 5, 6, 7, 8] (.one 0 (.one 4 (.one 9 (quiets [10] .stop))))) [] (by kernel_rfl) (by kernel_rfl) (fun p hp => by cases hp) ?_
    refine tree_quiets _ _ _ _ sf0 (by kernel_rfl) (by kernel_rfl) ?_
    simp -implicitDefEqProofs (disch := omega) only [List.any_cons, List.any_nil, Nat.reduceEqDiff, List.map_cons, List.map_nil, Option.map_some, Option.map_none, List.nil_append, ↓reduceIte, vcu, ↓vcd, pickOps_nil, pickOps_cons, pickO_some, List.getElem?_cons_succ, List.getElem?_cons_zero, q4, q6, Int.toNat_natCast, hb1]
    refine tree_one rfl ?_
    refine r_lit el48 (out := #[]) (by kernel_rfl) (by kernel_rfl) fun ea τ5 n5 s5 v5 => ?_
    simp -implicitDefEqProofs (disch := omega) only [List.any_cons, List.any_nil, Nat.reduceEqDiff, List.map_cons, List.map_nil, Option.map_some, Option.map_none, List.nil_append, ↓reduceIte, vcu, ↓vcd]
    refine ⟨keep_of rfl (fun p hp => by cases hp), tree_one rfl ?_⟩
    have hl5 : RutsAt τ5 g2 0 ls := rutsAt_own (s5 _ _ hg2)
    refine r_pushR (g := ea) (e := g2) (o := 0) (cs := []) (ds := ls.take k) (m := k) (len := 0) el48 (by omega) sl48 (by simp -implicitDefEqProofs (disch := omega) only [List.any_cons, List.any_nil, Nat.reduceEqDiff, List.map_cons, List.map_nil, Option.map_some, Option.map_none, List.nil_append, ↓reduceIte, vcu, ↓vcd]) v5 rfl (by simp -implicitDefEqProofs (disch := omega) only [List.any_cons, List.any_nil, Nat.reduceEqDiff, List.map_cons, List.map_nil, Option.map_some, Option.map_none, List.nil_append, ↓reduceIte, vcu, ↓vcd, Int.toNat_natCast]) (hl5.take _) (by rw [List.length_take]; omega) (by omega) fun gb τ6 n6 k6 v6 => ?_
    rw [List.nil_append] at v6
    have hgl6 := k6.at (s5 _ _ hg2) (ne_of' n5 hg2)
    have hs6 : Sub τ1 τ6 := k6.sub (hs2.trans s5) (free_sub hs2 n5)
    have nb := free_sub (hs2.trans s5) n6
    simp -implicitDefEqProofs (disch := omega) only [List.any_cons, List.any_nil, Nat.reduceEqDiff, List.map_cons, List.map_nil, Option.map_some, Option.map_none, List.nil_append, ↓reduceIte, vcu, ↓vcd, Nat.zero_add]
    refine ⟨keep_of rfl (fun p hp => by cases hp), tree_one rfl ?_⟩
    have hl6 : RutsAt τ6 g2 0 ls := rutsAt_own hgl6
    have hdr := hl6.drop (k + 1)
    rw [Nat.zero_add] at hdr
    refine r_pushR (g := gb) (e := g2) (o := (k + 1) * 2) (cs := ls.take k) (ds := ls.drop (k + 1)) (m := ls.length - (k + 1)) (len := k) el48 (by omega) sl48 (by simp -implicitDefEqProofs (disch := omega) only [List.any_cons, List.any_nil, Nat.reduceEqDiff, List.map_cons, List.map_nil, Option.map_some, Option.map_none, List.nil_append, ↓reduceIte, vcu, ↓vcd]) v6 (by rw [List.length_take]; omega) (by simp -implicitDefEqProofs (disch := omega) only [List.any_cons, List.any_nil, Nat.reduceEqDiff, List.map_cons, List.map_nil, Option.map_some, Option.map_none, List.nil_append, ↓reduceIte, vcu, ↓vcd, Int.toNat_natCast, hb1, Nat.zero_add]) hdr (by rw [List.length_drop]) (by omega) fun gc τ7 n7 k7 v7 => ?_
    have hs7 : Sub τ1 τ7 := k7.sub hs6 nb
    have nc := free_sub hs6 n7
    have hgl7 := k7.at hgl6 (ne_of' n6 (s5 _ _ hg2))
    have hrl := rmvR_len hlt
    have hrl2 : k + (ls.length - (k + 1)) = (rmvR ls k).length := by omega
    have v7' : τ7 gc = some ⟨ruts (rmvR ls k), false⟩ := v7
    simp -implicitDefEqProofs (disch := omega) only [List.any_cons, List.any_nil, Nat.reduceEqDiff, List.map_cons, List.map_nil, Option.map_some, Option.map_none, List.nil_append, ↓reduceIte, vcu, ↓vcd, hrl2]
    refine ⟨keep_of rfl (fun p hp => by cases hp), ?_⟩
    refine tree_quiets _ _ _ _ sf0 (by kernel_rfl) (by kernel_rfl) ?_
    simp -implicitDefEqProofs (disch := omega) only [List.any_cons, List.any_nil, Nat.reduceEqDiff, List.map_cons, List.map_nil, Option.map_some, Option.map_none, List.nil_append, ↓reduceIte, vcu, ↓vcd, pickOps_nil, pickOps_cons, pickO_some, List.getElem?_cons_succ, List.getElem?_cons_zero]
    refine tree_stop ?_
    obtain ⟨x1, x2⟩ := rutsAt_own hgl7 k hlt
    rw [Nat.zero_add] at x1 x2
    have hck : ls.getD k rt0 ∈ cs := lmem _ (by simp [List.getD, hlt])
    have hbk := hp _ hck
    have hpr : ∀ c ∈ rmvR ls k, c.b.length ≤ 1048576 := fun c hc => hp _ (lmem _ (rmvR_mem hc))
    by_cases hlen : (ls.getD k rt0).b.length = f
    · have d2 : decide (((ls.getD k rt0).b.length : Int) = (f : Int)) = true := decide_eq_true (by omega)
      simp -implicitDefEqProofs (disch := omega) only [List.any_cons, List.any_nil, Nat.reduceEqDiff, List.map_cons, List.map_nil, Option.map_some, Option.map_none, List.nil_append, ↓reduceIte, vcu, ↓vcd, q3, q4, q5, q6, x1, x2, Nat.zero_add, Nat.add_zero, d2]
      rw [r_callq]
      refine ⟨_, routeOf_at _ gc 0 (rmvR ls k) (ls.getD k rt0).b (rutsAt_own v7') (by omega) hpr hbk, ?_⟩
      by_cases hr : routeV (rmvR ls k) (ls.getD k rt0).b = (ls.getD k rt0).n
      · rw [if_pos ⟨hlen, hr⟩] at hls
        have d3 : decide (routeV (rmvR ls k) (ls.getD k rt0).b = (ls.getD k rt0).n) = true := decide_eq_true hr
        simp -implicitDefEqProofs (disch := omega) only [List.any_cons, List.any_nil, Nat.reduceEqDiff, List.map_cons, List.map_nil, Option.map_some, Option.map_none, List.nil_append, ↓reduceIte, vcu, ↓vcd, q3, q4, q5, q6, x1, x2, Nat.zero_add, Nat.add_zero, d2, d3]
        refine ⟨⟨?_, ?_, trivial⟩, m3, by omega, k, rmvR ls k, gc, by omega, ?_, rfl, hs7, v7', nc, by omega, fun c hc => lmem _ (rmvR_mem hc), hls⟩
        · first | trivial | exact h3.symm
        · first | trivial | exact h5.symm
        · congr 1; omega
      · rw [if_neg (fun h => hr h.2)] at hls
        have d3 : decide (routeV (rmvR ls k) (ls.getD k rt0).b = (ls.getD k rt0).n) = false := decide_eq_false hr
        simp -implicitDefEqProofs (disch := omega) only [List.any_cons, List.any_nil, Nat.reduceEqDiff, List.map_cons, List.map_nil, Option.map_some, Option.map_none, List.nil_append, ↓reduceIte, vcu, ↓vcd, q3, q4, q5, q6, x1, x2, Nat.zero_add, Nat.add_zero, d2, d3]
        refine ⟨⟨?_, ?_, trivial⟩, m3, by omega, k + 1, ls, g2, by omega, by simp, rfl, hs7, hgl7, hn2, l8, lmem, hls⟩
        · first | trivial | exact h3.symm
        · first | trivial | exact h5.symm
    · rw [if_neg (fun h => hlen h.1)] at hls
      have d2 : decide (((ls.getD k rt0).b.length : Int) = (f : Int)) = false := decide_eq_false (by omega)
      simp -implicitDefEqProofs (disch := omega) only [List.any_cons, List.any_nil, Nat.reduceEqDiff, List.map_cons, List.map_nil, Option.map_some, Option.map_none, List.nil_append, ↓reduceIte, vcu, ↓vcd, q3, q4, q5, q6, x1, x2, Nat.zero_add, Nat.add_zero, d2]
      refine ⟨⟨?_, ?_, trivial⟩, m3, by omega, k + 1, ls, g2, by omega, by simp, rfl, hs7, hgl7, hn2, l8, lmem, hls⟩
      · first | trivial | exact h3.symm
      · first | trivial | exact h5.symm
theorem lsK_len (L : Nat) : ∀ (m k : Nat) (cs : List Rt), m + k = cs.length → (lsK L m k cs).length ≤ cs.length
  | 0, _, _, _ => Nat.le_refl _
  | m + 1, k, cs, h => by
    unfold lsK
    split
    · have h1 := rmvR_len (cs := cs) (k := k) (by omega)
      have := lsK_len L m k (rmvR cs k) (by omega)
      omega
    · exact lsK_len L m (k + 1) cs (by omega)
theorem lsL_len : ∀ (f : Nat) (cs : List Rt), (lsL f cs).length ≤ cs.length
  | 0, _ => Nat.le_refl _
  | f + 1, cs => Nat.le_trans (lsL_len f _) (lsK_len f _ 0 cs rfl)
theorem lessV_len (cs : List Rt) : (lessV cs).length ≤ cs.length := by
  unfold lessV
  split
  · exact lsL_len 4 cs
  · simp
theorem less_calls (σ : AHeap) (v : Value) (cs : List Rt) (hv : Ruts σ v cs) (hl : cs.length ≤ 1048576) (hp : ∀ c ∈ cs, c.b.length ≤ 1048576) :
    ACall Try.prog w0 63 [v] σ fun r σ' => Sub σ σ' ∧ OwnR σ σ' r (lessV cs) :=
  ACall.ruts_arg (pre := []) (post := []) (by kernel_rfl) hv fun σ1 h o hs hg => (less_at σ1 h o cs hg hl hp).mono fun _ _ ⟨s, O⟩ => ⟨hs.trans s, O.older hs⟩
end Go.Proofs.Ytnenopebfobajaa
