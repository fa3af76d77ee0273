/- Parts. -/
import Derived.Test.YtafkndnmhhjdhaaDoorSHd
import Derived.Shelf.Strings.Builder1
import Derived.Shelf.Strings.BuilderF
import Derived.Shelf.Strconv.Atoi
import Derived.Shelf.Strconv.Itoa0
import Derived.Shelf.Strconv.Itoa1
import Derived.Shelf.LaysM
import Derived.Shelf.Strconv.Itoa2
import Derived.Shelf.Strconv.Itoa3
import Derived.Shelf.Strconv.AtoiErrFast
import Derived.Shelf.Strconv.ParseIntEmpty
import Derived.Shelf.Strconv.AtoiFail
import Derived.Shelf.Strconv.Clone
import Derived.Shelf.Strconv.SyntaxError
import Derived.Shelf.LaysC
import Derived.Shelf.Strconv.ToError
import Derived.Shelf.Strconv.Lower
import Derived.Shelf.Strconv.ParseUint10
import Derived.Shelf.Strconv.ParseUint10Empty
import Derived.Shelf.Strconv.ParseUint10Any
import Derived.Shelf.Strconv.ParseInt10
import Derived.Shelf.Strconv.AtoiLong
import Derived.Shelf.Strconv.AtoiInnerAll
import Derived.Shelf.Strconv.RangeError
import Derived.Shelf.Strconv.ToErrorRange
import Derived.Shelf.Strconv.AtoiAll
import Derived.Shelf.Strconv.ErrVarAll
import Derived.Shelf.Strings.Search1
import Derived.Shelf.Strings.Search2
import Derived.Shelf.Strings.Cut
import Derived.Shelf.Strings.Shaped
import Derived.Test.YtafkndnmhhjdhaaDoorProg
set_option linter.unusedSimpArgs false
set_option linter.unusedVariables false
set_option linter.unusedSectionVars false
namespace Go.Proofs
open Go.Shelf
def Tryd.lays171_ren : Go.Shelf.Ren := ⟨fun | 171 => 26 | 243 => 35 | 246 => 41 | 283 => 49 | 284 => 50 | 285 => 51 | 286 => 52 | 129 => 61 | 317 => 60 | 318 => 62 | 319 => 63 | 320 => 64 | 337 => 69 | 338 => 70 | n => n, fun | 3 => 3 | 9 => 9 | 2 => 2 | 4 => 4 | 171 => 72 | 0 => 0 | 53 => 73 | 37 => 56 | 5 => 5 | 173 => 76 | 212 => 88 | 51 => 89 | 20 => 20 | 213 => 90 | 46 => 80 | 232 => 100 | 233 => 101 | n => n, fun | 17 => 3 | 18 => 4 | 19 => 5 | n => n⟩
theorem Tryd.lays171 : Go.Proofs.Lays.n171 Tryd.prog Tryd.lays171_ren := {
 mixed := by kernel_rfl
 f129 := Tryd.func61.trans (congrArg some (by kernel_rfl))
 f171 := Tryd.func26.trans (congrArg some (by kernel_rfl))
 f243 := Tryd.func35.trans (congrArg some (by kernel_rfl))
 f246 := Tryd.func41.trans (congrArg some (by kernel_rfl))
 f283 := Tryd.func49.trans (congrArg some (by kernel_rfl))
 f284 := Tryd.func50.trans (congrArg some (by kernel_rfl))
 f285 := Tryd.func51.trans (congrArg some (by kernel_rfl))
 f286 := Tryd.func52.trans (congrArg some (by kernel_rfl))
 f317 := Tryd.func60.trans (congrArg some (by kernel_rfl))
 f318 := Tryd.func62.trans (congrArg some (by kernel_rfl))
 f319 := Tryd.func63.trans (congrArg some (by kernel_rfl))
 f320 := Tryd.func64.trans (congrArg some (by kernel_rfl))
 f337 := Tryd.func69.trans (congrArg some (by kernel_rfl))
 f338 := Tryd.func70.trans (congrArg some (by kernel_rfl))
 t0 := Tryd.underlying0
 a0 := Tryd.isAgg0
 z0 := Tryd.sizeOf0
 v0 := Tryd.zeroValue0
 t2 := Tryd.underlying2
 a2 := Tryd.isAgg2
 z2 := Tryd.sizeOf2
 v2 := Tryd.zeroValue2
 t3 := Tryd.underlying3
 a3 := Tryd.isAgg3
 z3 := Tryd.sizeOf3
 v3 := Tryd.zeroValue3
 t4 := Tryd.underlying4
 a4 := Tryd.isAgg4
 z4 := Tryd.sizeOf4
 v4 := Tryd.zeroValue4
 t5 := Tryd.underlying5
 a5 := Tryd.isAgg5
 z5 := Tryd.sizeOf5
 v5 := Tryd.zeroValue5
 t9 := Tryd.underlying9
 a9 := Tryd.isAgg9
 z9 := Tryd.sizeOf9
 v9 := Tryd.zeroValue9
 t20 := Tryd.underlying20
 a20 := Tryd.isAgg20
 z20 := Tryd.sizeOf20
 v20 := Tryd.zeroValue20
 t37 := Tryd.underlying56
 a37 := Tryd.isAgg56
 z37 := Tryd.sizeOf56
 v37 := Tryd.zeroValue56
 t46 := Tryd.underlying80
 a46 := Tryd.isAgg80
 z46 := Tryd.sizeOf80
 v46 := Tryd.zeroValue80
 t51 := Tryd.underlying89
 a51 := Tryd.isAgg89
 z51 := Tryd.sizeOf89
 v51 := Tryd.zeroValue89
 t53 := Tryd.underlying73
 a53 := Tryd.isAgg73
 z53 := Tryd.sizeOf73
 v53 := Tryd.zeroValue73
 t171 := Tryd.underlying72
 a171 := Tryd.isAgg72
 z171 := Tryd.sizeOf72
 v171 := Tryd.zeroValue72
 t173 := Tryd.underlying76
 a173 := Tryd.isAgg76
 z173 := Tryd.sizeOf76
 v173 := Tryd.zeroValue76
 t212 := Tryd.underlying88
 a212 := Tryd.isAgg88
 z212 := Tryd.sizeOf88
 v212 := Tryd.zeroValue88
 t213 := Tryd.underlying90
 a213 := Tryd.isAgg90
 z213 := Tryd.sizeOf90
 t232 := Tryd.underlying100
 a232 := Tryd.isAgg100
 z232 := Tryd.sizeOf100
 v232 := Tryd.zeroValue100
 t233 := Tryd.underlying101
 a233 := Tryd.isAgg101
 z233 := Tryd.sizeOf101
 v233 := Tryd.zeroValue101
 g17 := by kernel_rfl
 g18 := by kernel_rfl
 g19 := by kernel_rfl }
def Tryd.laysM145_ren : Go.Shelf.Ren := ⟨fun | 145 => 30 | 220 => 37 | 219 => 42 | 217 => 53 | 225 => 54 | 224 => 55 | 267 => 56 | 266 => 65 | 314 => 66 | n => n, fun | 9 => 9 | 4 => 4 | 59 => 48 | 3 => 3 | 5 => 5 | 46 => 80 | 146 => 93 | 51 => 89 | n => n, fun | 1 => 0 | n => n⟩
theorem Tryd.laysM145 : Go.Proofs.LaysM.n145 Tryd.prog Tryd.laysM145_ren := {
 mixed := by kernel_rfl
 f145 := Tryd.func30.trans (congrArg some (by kernel_rfl))
 f217 := Tryd.func53.trans (congrArg some (by kernel_rfl))
 f219 := Tryd.func42.trans (congrArg some (by kernel_rfl))
 f220 := Tryd.func37.trans (congrArg some (by kernel_rfl))
 f224 := Tryd.func55.trans (congrArg some (by kernel_rfl))
 f225 := Tryd.func54.trans (congrArg some (by kernel_rfl))
 f266 := Tryd.func65.trans (congrArg some (by kernel_rfl))
 f267 := Tryd.func56.trans (congrArg some (by kernel_rfl))
 f314 := Tryd.func66.trans (congrArg some (by kernel_rfl))
 t3 := Tryd.underlying3
 a3 := Tryd.isAgg3
 z3 := Tryd.sizeOf3
 v3 := Tryd.zeroValue3
 t4 := Tryd.underlying4
 a4 := Tryd.isAgg4
 z4 := Tryd.sizeOf4
 v4 := Tryd.zeroValue4
 t5 := Tryd.underlying5
 a5 := Tryd.isAgg5
 z5 := Tryd.sizeOf5
 v5 := Tryd.zeroValue5
 t9 := Tryd.underlying9
 a9 := Tryd.isAgg9
 z9 := Tryd.sizeOf9
 v9 := Tryd.zeroValue9
 t46 := Tryd.underlying80
 a46 := Tryd.isAgg80
 z46 := Tryd.sizeOf80
 v46 := Tryd.zeroValue80
 t51 := Tryd.underlying89
 a51 := Tryd.isAgg89
 z51 := Tryd.sizeOf89
 v51 := Tryd.zeroValue89
 t59 := Tryd.underlying48
 a59 := Tryd.isAgg48
 z59 := Tryd.sizeOf48
 v59 := Tryd.zeroValue48
 t146 := Tryd.underlying93
 a146 := Tryd.isAgg93
 z146 := Tryd.sizeOf93
 v146 := Tryd.zeroValue93
 g1 := by kernel_rfl
 i3 := by kernel_rfl
 i4 := by kernel_rfl
 i5 := by kernel_rfl
 i9 := by kernel_rfl
 i46 := by kernel_rfl
 i51 := by kernel_rfl
 i59 := by kernel_rfl
 i146 := by kernel_rfl
 m1 := by kernel_rfl
 s1_3 := fun w h => Go.Proofs.cell_of_shapedOpen_int (zero := #[.int .i64 0]) (t := 3) h (of_decide_eq_true (by kernel_rfl)) (by kernel_rfl) rfl (by kernel_rfl) (by kernel_rfl) Tryd.underlying3 }
open Go.RowKit Go.Sort Go.Lib in
theorem Tryd.strconv_Itoa_small (i : Nat) (hi : i < 100) (w : World) :
  Calls Tryd.prog 26 #[.int .i64 i] w fun e w' => e = .returned (.string ⟨(Lib.decDigits i).toArray⟩) ∧ w' = w := Any.strconv_Itoa_small Tryd.lays171 i hi w
end Go.Proofs
namespace Go.Proofs.YtafkndnmhhjdhaaDoor
open Go Go.Abs Go.RowKit Go.Dial Go.Clos
variable {w0 : World}
/-- what is asked of the library's variables where a text is cut -/
class GlobM (w0 : World) : Prop where
 cell : ∃ m, w0.cell? ⟨Tryd.laysM145_ren.g 1, 0, none⟩ = some (.int .i64 m)
theorem decN_lib : ∀ n : Nat, Lib.decDigits n = decN n := by
 intro n
 induction n using Nat.strongRecOn with
 | _ n ih =>
  unfold Lib.decDigits decN
  by_cases h : n < 10
  ·rw [dif_pos h, dif_pos h]
  ·rw [dif_neg h, dif_neg h, ih (n / 10) (by omega)]
theorem itoaS_calls (σ : AHeap) (n : Nat) (hn : n < 100) : ACall Tryd.prog w0 26 [.int .i64 n] σ fun r σ' => r = .string (tx (decN n)) ∧ σ' = σ :=
 ACall.shelf (R := fun r => r = .string (tx (decN n))) (by kernel_rfl) rfl fun w _ => (Tryd.strconv_Itoa_small n hn w).mono fun e w' ⟨he, hw⟩ => by
  subst hw
  exact ⟨_, _, he, fun β => .string _, Below.refl _ _, by rw [decN_lib]; rfl⟩
/-- is a text the number of a line? -/
def NumT (s : List UInt8) : Prop := DgT s ∧ 1 ≤ s.length ∧ s.length ≤ 3
instance (s : List UInt8) : Decidable (NumT s) := inferInstanceAs (Decidable (_ ∧ _ ∧ _))
set_option maxRecDepth 8000 in
theorem isNumber_calls (σ : AHeap) (s : List UInt8) (hl : s.length ≤ 1048576) : ACall Tryd.prog w0 27 [.string (tx s)] σ fun r σ' => r = .bool (decide (NumT s)) ∧ σ' = σ := by
 refine acall_go mixed Tryd.func27 rfl good27 fun pr => ?_
 have hne : abin Tryd.prog 9 .neq (.string (tx s)) (.string { data := #[] }) = some (.bool (!decide (s = []))) := abin_sneq (ys := [])
 by_cases h0 : s = []
 ·have d0 : decide (s = []) = true := decide_eq_true h0
  simp -implicitDefEqProofs (disch := omega) only [Nat.reduceEqDiff, ↓reduceIte, vcu, ↓vcd, hne, d0, Bool.not_true]
  refine fin_one Tryd.results27 ⟨?_, rfl⟩
  simp -implicitDefEqProofs (disch := omega) only [Nat.reduceEqDiff, ↓reduceIte, vcu, ↓vcd]
  rw [decide_eq_false fun h : NumT s => by have := h.2.1; rw [h0] at this; simp at this]
 have d0 : decide (s = []) = false := decide_eq_false h0
 have hp : 1 ≤ s.length := List.length_pos_iff.2 h0
 by_cases h3 : s.length ≤ 3
 case neg =>
  have d3 : decide ((s.length : Int) ≤ 3) = false := decide_eq_false (by omega)
  simp -implicitDefEqProofs (disch := omega) only [Nat.reduceEqDiff, ↓reduceIte, vcu, ↓vcd, hne, d0, Bool.not_false, d3]
  refine fin_one Tryd.results27 ⟨?_, rfl⟩
  simp -implicitDefEqProofs (disch := omega) only [Nat.reduceEqDiff, ↓reduceIte, vcu, ↓vcd]
  rw [decide_eq_false fun h : NumT s => h3 h.2.2]
 have d3 : decide ((s.length : Int) ≤ 3) = true := decide_eq_true (by omega)
 simp -implicitDefEqProofs (disch := omega) only [Nat.reduceEqDiff, ↓reduceIte, vcu, ↓vcd, hne, d0, Bool.not_false, d3]
 refine (implDg_calls σ s hl).mono ?_
 rintro _ _ ⟨rfl, rfl⟩
 simp -implicitDefEqProofs (disch := omega) only [Nat.reduceEqDiff, ↓reduceIte, vcu, ↓vcd, opK_some]
 refine fin_one Tryd.results27 ⟨?_, rfl⟩
 simp -implicitDefEqProofs (disch := omega) only [Nat.reduceEqDiff, ↓reduceIte, vcu, ↓vcd]
 congr 1
 exact decide_eq_decide.2 ⟨fun h => ⟨h, hp, h3⟩, fun h => h.1⟩
set_option maxRecDepth 8000 in
theorem implDT_calls (σ : AHeap) (d : Dd) (ht : d.t.length ≤ 1048576) : ACall Tryd.prog w0 10 [ddA d] σ fun r σ' => r = .string (tx (deedT d)) ∧ σ' = σ := by
 obtain ⟨K, L, t⟩ := d
 have htl : t.length ≤ 1048576 := ht
 unfold ddA
 dsimp only
 refine acall_go mixed Tryd.func10 rfl good10 fun pr => ?_
 simp -implicitDefEqProofs (disch := omega) only [Nat.reduceEqDiff, ↓reduceIte, vcu, ↓vcd]
 refine r_boxed fun b τ nb s1 e1 => ?_
 replace e1 : τ b = some ⟨[.int .i64 K, .int .i64 L, .string (tx t)], false⟩ := e1
 have x0 : ld τ b (0 + 0) = some (.int .i64 K) := ld_of e1 rfl
 have x1 : ld τ b (0 + 1) = some (.int .i64 L) := ld_of e1 rfl
 have x2 : ld τ b (0 + 2) = some (.string (tx t)) := ld_of e1 rfl
 by_cases hl0 : L < 0
 ·have d1 : decide (L < 0) = true := decide_eq_true hl0
  simp -implicitDefEqProofs (disch := omega) only [Nat.reduceEqDiff, ↓reduceIte, vcu, ↓vcd, x1, d1]
  refine fin_drop Tryd.results10 σ s1 ⟨?_, rfl⟩
  simp -implicitDefEqProofs (disch := omega) only [Nat.reduceEqDiff, ↓reduceIte, vcu, ↓vcd]
  rw [deedT, if_neg fun h => by have := h.2.1.1; dsimp only at this; omega]
 have d1 : decide (L < 0) = false := decide_eq_false hl0
 by_cases hl9 : L > 99
 ·have d2 : decide (L > 99) = true := decide_eq_true hl9
  simp -implicitDefEqProofs (disch := omega) only [Nat.reduceEqDiff, ↓reduceIte, vcu, ↓vcd, x1, d1, d2]
  refine fin_drop Tryd.results10 σ s1 ⟨?_, rfl⟩
  simp -implicitDefEqProofs (disch := omega) only [Nat.reduceEqDiff, ↓reduceIte, vcu, ↓vcd]
  rw [deedT, if_neg fun h => by have := h.2.1.2; dsimp only at this; omega]
 have d2 : decide (L > 99) = false := decide_eq_false hl9
 obtain ⟨n, hn, rfl⟩ : ∃ n : Nat, n < 100 ∧ L = n := ⟨L.toNat, by omega, by omega⟩
 have hnl := decN_len n
 simp -implicitDefEqProofs (disch := omega) only [Nat.reduceEqDiff, ↓reduceIte, vcu, ↓vcd, x1, d1, d2]
 refine (itoaS_calls τ n hn).mono ?_
 rintro _ _ ⟨rfl, rfl⟩
 rename_i τ
 have add : ∀ (xs ys : List UInt8) (x y : ByteArray), x = tx xs → y = tx ys → xs.length + ys.length ≤ 2 ^ 40 → abin Tryd.prog 9 .add (.string x) (.string y) = some (.string (tx (xs ++ ys))) := fun xs ys x y e1 e2 h => by subst e1 e2; exact abin_sadd h
 have g0 : abin Tryd.prog 9 .add (.string { data := #[32] }) (.string (tx (decN n))) = some (.string (tx (32 :: decN n))) := add [32] (decN n) _ _ rfl rfl (by simp; omega)
 have gc : abin Tryd.prog 9 .add (.string { data := #[99, 97, 108, 108] }) (.string (tx (32 :: decN n))) = some (.string (tx (kwT 0 ++ 32 :: decN n))) := add (kwT 0) (32 :: decN n) _ _ rfl rfl (by simp [kwT]; omega)
 have gd : abin Tryd.prog 9 .add (.string { data := #[100, 114, 111, 112] }) (.string (tx (32 :: decN n))) = some (.string (tx (kwT 1 ++ 32 :: decN n))) := add (kwT 1) (32 :: decN n) _ _ rfl rfl (by simp [kwT]; omega)
 have gn : abin Tryd.prog 9 .add (.string { data := #[110, 117, 109, 98, 101, 114] }) (.string (tx (32 :: decN n))) = some (.string (tx (kwT 2 ++ 32 :: decN n))) := add (kwT 2) (32 :: decN n) _ _ rfl rfl (by simp [kwT]; omega)
 have g1 : ∀ xs : List UInt8, xs.length ≤ 1000 → abin Tryd.prog 9 .add (.string (tx xs)) (.string { data := #[32] }) = some (.string (tx (xs ++ [32]))) := fun xs h => add xs [32] _ _ rfl rfl (by simp; omega)
 have g2 : ∀ xs : List UInt8, xs.length ≤ 1001 → abin Tryd.prog 9 .add (.string (tx xs)) (.string (tx t)) = some (.string (tx (xs ++ t))) := fun xs h => add xs t _ _ rfl rfl (by omega)
 have hc1 := g1 (kwT 0 ++ 32 :: decN n) (by simp [kwT]; omega)
 have hc2 := g2 (kwT 0 ++ 32 :: decN n ++ [32]) (by simp [kwT]; omega)
 have hn1 := g1 (kwT 2 ++ 32 :: decN n) (by simp [kwT]; omega)
 have hn2 := g2 (kwT 2 ++ 32 :: decN n ++ [32]) (by simp [kwT]; omega)
 have hne : abin Tryd.prog 9 .eql (.string (tx t)) (.string { data := #[] }) = some (.bool (decide (t = []))) := abin_seql (ys := [])
 have hnum := isNumber_calls (w0 := w0) τ t htl
 have hl : 0 ≤ (n : Int) ∧ (n : Int) ≤ 99 := by omega
 clear g1 g2 add
 by_cases hK0 : K = 0
 ·subst hK0
  have k0 : decide ((0 : Int) = 0) = true := rfl
  simp -implicitDefEqProofs (disch := omega) only [Nat.reduceEqDiff, ↓reduceIte, vcu, ↓vcd, opK_some, g0, x0, x2, k0]
  refine hnum.mono ?_
  rintro _ _ ⟨rfl, rfl⟩
  rename_i τ
  by_cases hN : NumT t
  ·rw [decide_eq_true hN]
   have hT : deedT ⟨0, n, t⟩ = kwT 0 ++ 32 :: decN n ++ [32] ++ t := by
    rw [deedT, if_pos ⟨by simp, hl, .inr ⟨by simp, hN.1, hN.2⟩⟩]; simp
   simp -implicitDefEqProofs (disch := omega) only [Nat.reduceEqDiff, ↓reduceIte, vcu, ↓vcd, opK_some, gc, hc1, hc2, x2]
   refine fin_drop Tryd.results10 σ s1 ⟨?_, rfl⟩
   simp -implicitDefEqProofs (disch := omega) only [Nat.reduceEqDiff, ↓reduceIte, vcu, ↓vcd]
   rw [hT]
  ·rw [decide_eq_false hN]
   have hT : deedT ⟨0, n, t⟩ = [] := by
    rw [deedT, if_neg fun h => h.2.2.elim (fun q => by simp at q) fun q => hN q.2]
   simp -implicitDefEqProofs (disch := omega) only [Nat.reduceEqDiff, ↓reduceIte, vcu, ↓vcd, opK_some, x0]
   refine fin_drop Tryd.results10 σ s1 ⟨?_, rfl⟩
   simp -implicitDefEqProofs (disch := omega) only [Nat.reduceEqDiff, ↓reduceIte, vcu, ↓vcd]
   rw [hT]
 have k0 : decide (K = 0) = false := decide_eq_false hK0
 by_cases hK1 : K = 1
 ·subst hK1
  have k1 : decide ((1 : Int) = 1) = true := rfl
  by_cases hN : t = []
  ·have dN : decide (t = []) = true := decide_eq_true hN
   have hT : deedT ⟨1, n, t⟩ = kwT 1 ++ 32 :: decN n := by
    rw [deedT, if_pos ⟨by simp, hl, .inl ⟨rfl, hN⟩⟩]; simp
   simp -implicitDefEqProofs (disch := omega) only [Nat.reduceEqDiff, ↓reduceIte, vcu, ↓vcd, opK_some, g0, x0, x2, k0, k1, hne, dN, gd]
   refine fin_drop Tryd.results10 σ s1 ⟨?_, rfl⟩
   simp -implicitDefEqProofs (disch := omega) only [Nat.reduceEqDiff, ↓reduceIte, vcu, ↓vcd]
   rw [hT]
  ·have dN : decide (t = []) = false := decide_eq_false hN
   have hT : deedT ⟨1, n, t⟩ = [] := by
    rw [deedT, if_neg fun h => h.2.2.elim (fun q => hN q.2) fun q => q.1 rfl]
   simp -implicitDefEqProofs (disch := omega) only [Nat.reduceEqDiff, ↓reduceIte, vcu, ↓vcd, opK_some, g0, x0, x2, k0, k1, hne, dN]
   refine fin_drop Tryd.results10 σ s1 ⟨?_, rfl⟩
   simp -implicitDefEqProofs (disch := omega) only [Nat.reduceEqDiff, ↓reduceIte, vcu, ↓vcd]
   rw [hT]
 have k1 : decide (K = 1) = false := decide_eq_false hK1
 by_cases hK2 : K = 2
 ·subst hK2
  have k2 : decide ((2 : Int) = 2) = true := rfl
  simp -implicitDefEqProofs (disch := omega) only [Nat.reduceEqDiff, ↓reduceIte, vcu, ↓vcd, opK_some, g0, x0, x2, k0, k1, k2]
  refine hnum.mono ?_
  rintro _ _ ⟨rfl, rfl⟩
  rename_i τ
  by_cases hN : NumT t
  ·rw [decide_eq_true hN]
   have hT : deedT ⟨2, n, t⟩ = kwT 2 ++ 32 :: decN n ++ [32] ++ t := by
    rw [deedT, if_pos ⟨by simp, hl, .inr ⟨by simp, hN.1, hN.2⟩⟩]; simp
   simp -implicitDefEqProofs (disch := omega) only [Nat.reduceEqDiff, ↓reduceIte, vcu, ↓vcd, opK_some, gn, hn1, hn2, x2]
   refine fin_drop Tryd.results10 σ s1 ⟨?_, rfl⟩
   simp -implicitDefEqProofs (disch := omega) only [Nat.reduceEqDiff, ↓reduceIte, vcu, ↓vcd]
   rw [hT]
  ·rw [decide_eq_false hN]
   have hT : deedT ⟨2, n, t⟩ = [] := by
    rw [deedT, if_neg fun h => h.2.2.elim (fun q => by simp at q) fun q => hN q.2]
   simp -implicitDefEqProofs (disch := omega) only [Nat.reduceEqDiff, ↓reduceIte, vcu, ↓vcd, opK_some, x0]
   refine fin_drop Tryd.results10 σ s1 ⟨?_, rfl⟩
   simp -implicitDefEqProofs (disch := omega) only [Nat.reduceEqDiff, ↓reduceIte, vcu, ↓vcd]
   rw [hT]
 have k2 : decide (K = 2) = false := decide_eq_false hK2
 have hT : deedT ⟨K, n, t⟩ = [] := by
  rw [deedT, if_neg fun h => by have := h.1; dsimp only at this; omega]
 simp -implicitDefEqProofs (disch := omega) only [Nat.reduceEqDiff, ↓reduceIte, vcu, ↓vcd, opK_some, g0, x0, x2, k0, k1, k2]
 refine fin_drop Tryd.results10 σ s1 ⟨?_, rfl⟩
 simp -implicitDefEqProofs (disch := omega) only [Nat.reduceEqDiff, ↓reduceIte, vcu, ↓vcd]
 rw [hT]
end Go.Proofs.YtafkndnmhhjdhaaDoor
