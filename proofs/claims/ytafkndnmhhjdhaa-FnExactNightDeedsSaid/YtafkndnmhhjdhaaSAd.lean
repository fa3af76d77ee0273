/- Parts. -/
import Derived.Test.YtafkndnmhhjdhaaSAc
import Derived.Test.YtafkndnmhhjdhaaRows
import Derived.KernelRfl
set_option linter.unusedSimpArgs false
set_option linter.unusedVariables false
set_option linter.unusedSectionVars false
namespace Go.Proofs.Ytafkndnmhhjdhaa
open Go Go.Abs
theorem mixed : Try.prog.follows .mixedOrders = true := by kernel_rfl
theorem own : ownKnob Try.prog.godebug = none := by kernel_rfl
theorem laidOut : laidOutB Try.prog = true := by kernel_rfl
theorem pt0 : isPtr Try.prog 0 = false := by kernel_rfl
theorem sc0 : isSlc Try.prog 0 = false := by kernel_rfl
theorem ag1 : aisAgg Try.prog 1 = false := by kernel_rfl
theorem pt1 : isPtr Try.prog 1 = false := by kernel_rfl
theorem sc1 : isSlc Try.prog 1 = false := by kernel_rfl
theorem ag2 : aisAgg Try.prog 2 = false := by kernel_rfl
theorem pt2 : isPtr Try.prog 2 = false := by kernel_rfl
theorem sc2 : isSlc Try.prog 2 = false := by kernel_rfl
theorem co3 : Try.prog.cellsOf 3 = 1 := by kernel_rfl
theorem ag3 : aisAgg Try.prog 3 = false := by kernel_rfl
theorem pt3 : isPtr Try.prog 3 = false := by kernel_rfl
theorem sc3 : isSlc Try.prog 3 = false := by kernel_rfl
theorem ze3 : azero Try.prog 3 = some (Value.int IntKind.i64 0) := by kernel_rfl
theorem ag4 : aisAgg Try.prog 4 = false := by kernel_rfl
theorem pt4 : isPtr Try.prog 4 = false := by kernel_rfl
theorem sc4 : isSlc Try.prog 4 = false := by kernel_rfl
theorem bo4 : isBool Try.prog 4 = true := by kernel_rfl
theorem co5 : Try.prog.cellsOf 5 = 1 := by kernel_rfl
theorem ag5 : aisAgg Try.prog 5 = false := by kernel_rfl
theorem pt5 : isPtr Try.prog 5 = false := by kernel_rfl
theorem sc5 : isSlc Try.prog 5 = false := by kernel_rfl
theorem ag6 : aisAgg Try.prog 6 = false := by kernel_rfl
theorem pt6 : isPtr Try.prog 6 = false := by kernel_rfl
theorem sc6 : isSlc Try.prog 6 = false := by kernel_rfl
theorem co9 : Try.prog.cellsOf 9 = 1 := by kernel_rfl
theorem ag9 : aisAgg Try.prog 9 = false := by kernel_rfl
theorem pt9 : isPtr Try.prog 9 = false := by kernel_rfl
theorem sc9 : isSlc Try.prog 9 = false := by kernel_rfl
theorem ag10 : aisAgg Try.prog 10 = false := by kernel_rfl
theorem pt10 : isPtr Try.prog 10 = false := by kernel_rfl
theorem sc10 : isSlc Try.prog 10 = false := by kernel_rfl
theorem ag11 : aisAgg Try.prog 11 = false := by kernel_rfl
theorem pt11 : isPtr Try.prog 11 = false := by kernel_rfl
theorem sc11 : isSlc Try.prog 11 = false := by kernel_rfl
theorem ag12 : aisAgg Try.prog 12 = false := by kernel_rfl
theorem pt12 : isPtr Try.prog 12 = false := by kernel_rfl
theorem sc12 : isSlc Try.prog 12 = false := by kernel_rfl
theorem ag15 : aisAgg Try.prog 15 = false := by kernel_rfl
theorem pt15 : isPtr Try.prog 15 = true := by kernel_rfl
theorem sc15 : isSlc Try.prog 15 = false := by kernel_rfl
theorem co16 : Try.prog.cellsOf 16 = 1 := by kernel_rfl
theorem ag16 : aisAgg Try.prog 16 = false := by kernel_rfl
theorem pt16 : isPtr Try.prog 16 = true := by kernel_rfl
theorem sc16 : isSlc Try.prog 16 = false := by kernel_rfl
theorem ag17 : aisAgg Try.prog 17 = false := by kernel_rfl
theorem pt17 : isPtr Try.prog 17 = true := by kernel_rfl
theorem sc17 : isSlc Try.prog 17 = false := by kernel_rfl
theorem pt20 : isPtr Try.prog 20 = false := by kernel_rfl
theorem sc20 : isSlc Try.prog 20 = false := by kernel_rfl
theorem ag21 : aisAgg Try.prog 21 = false := by kernel_rfl
theorem pt21 : isPtr Try.prog 21 = false := by kernel_rfl
theorem sc21 : isSlc Try.prog 21 = false := by kernel_rfl
theorem ag22 : aisAgg Try.prog 22 = true := by kernel_rfl
theorem pt22 : isPtr Try.prog 22 = false := by kernel_rfl
theorem sc22 : isSlc Try.prog 22 = false := by kernel_rfl
theorem fv22_0 {x0 x1 x2 : Value} : afieldV Try.prog 22 0 (.agg #[x0, x1, x2]) = some x0 := by simp [afieldV, Try.underlying22, apart, Try.underlying3, ag3, co3, aisAgg]
theorem fl22_0 {h b : Nat} : afield Try.prog 22 0 (.pointer (some ⟨h, b, none⟩)) = some (.pointer (some ⟨h, b + 0, none⟩)) := by simp [afield, Try.underlying22]
theorem fv22_1 {x0 x1 x2 : Value} : afieldV Try.prog 22 1 (.agg #[x0, x1, x2]) = some x1 := by simp [afieldV, Try.underlying22, apart, Try.underlying3, ag3, co3, aisAgg]
theorem fl22_1 {h b : Nat} : afield Try.prog 22 1 (.pointer (some ⟨h, b, none⟩)) = some (.pointer (some ⟨h, b + 1, none⟩)) := by simp [afield, Try.underlying22]
theorem fv22_2 {x0 x1 x2 : Value} : afieldV Try.prog 22 2 (.agg #[x0, x1, x2]) = some x2 := by simp [afieldV, Try.underlying22, apart, Try.underlying3, ag3, co3, aisAgg]
theorem fl22_2 {h b : Nat} : afield Try.prog 22 2 (.pointer (some ⟨h, b, none⟩)) = some (.pointer (some ⟨h, b + 2, none⟩)) := by simp [afield, Try.underlying22]
theorem co23 : Try.prog.cellsOf 23 = 3 := by kernel_rfl
theorem ag23 : aisAgg Try.prog 23 = true := by kernel_rfl
theorem pt23 : isPtr Try.prog 23 = false := by kernel_rfl
theorem sc23 : isSlc Try.prog 23 = false := by kernel_rfl
theorem fv23_0 {x0 x1 x2 : Value} : afieldV Try.prog 23 0 (.agg #[x0, x1, x2]) = some x0 := by simp [afieldV, Try.underlying23, apart, Try.underlying3, ag3, co3, aisAgg]
theorem fl23_0 {h b : Nat} : afield Try.prog 23 0 (.pointer (some ⟨h, b, none⟩)) = some (.pointer (some ⟨h, b + 0, none⟩)) := by simp [afield, Try.underlying23]
theorem fv23_1 {x0 x1 x2 : Value} : afieldV Try.prog 23 1 (.agg #[x0, x1, x2]) = some x1 := by simp [afieldV, Try.underlying23, apart, Try.underlying3, ag3, co3, aisAgg]
theorem fl23_1 {h b : Nat} : afield Try.prog 23 1 (.pointer (some ⟨h, b, none⟩)) = some (.pointer (some ⟨h, b + 1, none⟩)) := by simp [afield, Try.underlying23]
theorem fv23_2 {x0 x1 x2 : Value} : afieldV Try.prog 23 2 (.agg #[x0, x1, x2]) = some x2 := by simp [afieldV, Try.underlying23, apart, Try.underlying3, ag3, co3, aisAgg]
theorem fl23_2 {h b : Nat} : afield Try.prog 23 2 (.pointer (some ⟨h, b, none⟩)) = some (.pointer (some ⟨h, b + 2, none⟩)) := by simp [afield, Try.underlying23]
theorem co24 : Try.prog.cellsOf 24 = 1 := by kernel_rfl
theorem ag24 : aisAgg Try.prog 24 = false := by kernel_rfl
theorem pt24 : isPtr Try.prog 24 = false := by kernel_rfl
theorem sc24 : isSlc Try.prog 24 = true := by kernel_rfl
theorem esz24 : aesz Try.prog 24 = 1 := by kernel_rfl
theorem el24 : Elems Try.prog 24 1 (Value.string { data := #[] }) 16 := ⟨⟨9, Try.t9, Try.underlying24, by kernel_rfl, rfl, rfl, rfl⟩, ⟨9, Try.underlying24, by kernel_rfl, by kernel_rfl⟩⟩
theorem sl24 : ∃ e, Try.prog.underlying 24 = some (.slice e) := ⟨9, Try.underlying24⟩
theorem co25 : Try.prog.cellsOf 25 = 1 := by kernel_rfl
theorem ag25 : aisAgg Try.prog 25 = false := by kernel_rfl
theorem pt25 : isPtr Try.prog 25 = false := by kernel_rfl
theorem sc25 : isSlc Try.prog 25 = true := by kernel_rfl
theorem esz25 : aesz Try.prog 25 = 3 := by kernel_rfl
theorem ag26 : aisAgg Try.prog 26 = true := by kernel_rfl
theorem pt26 : isPtr Try.prog 26 = false := by kernel_rfl
theorem sc26 : isSlc Try.prog 26 = true := by kernel_rfl
theorem fl26_0 {h b : Nat} : afield Try.prog 26 0 (.pointer (some ⟨h, b, none⟩)) = some (.pointer (some ⟨h, b + 0, none⟩)) := by simp [afield, Try.underlying26]
theorem fv26_1 {x0 x1 x2 x3 x4 : Value} : afieldV Try.prog 26 1 (.agg #[x0, x1, x2, x3, x4]) = some x3 := by simp [afieldV, Try.underlying26, apart, Try.underlying24, ag24, co24, aisAgg]
theorem fl26_1 {h b : Nat} : afield Try.prog 26 1 (.pointer (some ⟨h, b, none⟩)) = some (.pointer (some ⟨h, b + 3, none⟩)) := by simp [afield, Try.underlying26]
theorem fv26_2 {x0 x1 x2 x3 x4 : Value} : afieldV Try.prog 26 2 (.agg #[x0, x1, x2, x3, x4]) = some x4 := by simp [afieldV, Try.underlying26, apart, Try.underlying25, ag25, co25, aisAgg]
theorem fl26_2 {h b : Nat} : afield Try.prog 26 2 (.pointer (some ⟨h, b, none⟩)) = some (.pointer (some ⟨h, b + 4, none⟩)) := by simp [afield, Try.underlying26]
theorem co27 : Try.prog.cellsOf 27 = 5 := by kernel_rfl
theorem ag27 : aisAgg Try.prog 27 = true := by kernel_rfl
theorem pt27 : isPtr Try.prog 27 = false := by kernel_rfl
theorem sc27 : isSlc Try.prog 27 = true := by kernel_rfl
theorem fl27_0 {h b : Nat} : afield Try.prog 27 0 (.pointer (some ⟨h, b, none⟩)) = some (.pointer (some ⟨h, b + 0, none⟩)) := by simp [afield, Try.underlying27]
theorem fv27_1 {x0 x1 x2 x3 x4 : Value} : afieldV Try.prog 27 1 (.agg #[x0, x1, x2, x3, x4]) = some x3 := by simp [afieldV, Try.underlying27, apart, Try.underlying24, ag24, co24, aisAgg]
theorem fl27_1 {h b : Nat} : afield Try.prog 27 1 (.pointer (some ⟨h, b, none⟩)) = some (.pointer (some ⟨h, b + 3, none⟩)) := by simp [afield, Try.underlying27]
theorem fv27_2 {x0 x1 x2 x3 x4 : Value} : afieldV Try.prog 27 2 (.agg #[x0, x1, x2, x3, x4]) = some x4 := by simp [afieldV, Try.underlying27, apart, Try.underlying25, ag25, co25, aisAgg]
theorem fl27_2 {h b : Nat} : afield Try.prog 27 2 (.pointer (some ⟨h, b, none⟩)) = some (.pointer (some ⟨h, b + 4, none⟩)) := by simp [afield, Try.underlying27]
theorem ag28 : aisAgg Try.prog 28 = false := by kernel_rfl
theorem pt28 : isPtr Try.prog 28 = false := by kernel_rfl
theorem sc28 : isSlc Try.prog 28 = false := by kernel_rfl
theorem ag29 : aisAgg Try.prog 29 = false := by kernel_rfl
theorem pt29 : isPtr Try.prog 29 = false := by kernel_rfl
theorem sc29 : isSlc Try.prog 29 = false := by kernel_rfl
theorem co30 : Try.prog.cellsOf 30 = 3 := by kernel_rfl
theorem ag30 : aisAgg Try.prog 30 = true := by kernel_rfl
theorem pt30 : isPtr Try.prog 30 = false := by kernel_rfl
theorem sc30 : isSlc Try.prog 30 = false := by kernel_rfl
theorem ze30 : azero Try.prog 30 = some (Value.agg #[Value.int IntKind.i64 0, Value.int IntKind.i64 0, Value.int IntKind.i64 0]) := by kernel_rfl
theorem fv30_0 {x0 x1 x2 : Value} : afieldV Try.prog 30 0 (.agg #[x0, x1, x2]) = some x0 := by simp [afieldV, Try.underlying30, apart, Try.underlying3, ag3, co3, aisAgg]
theorem fl30_0 {h b : Nat} : afield Try.prog 30 0 (.pointer (some ⟨h, b, none⟩)) = some (.pointer (some ⟨h, b + 0, none⟩)) := by simp [afield, Try.underlying30]
theorem fv30_1 {x0 x1 x2 : Value} : afieldV Try.prog 30 1 (.agg #[x0, x1, x2]) = some x1 := by simp [afieldV, Try.underlying30, apart, Try.underlying3, ag3, co3, aisAgg]
theorem fl30_1 {h b : Nat} : afield Try.prog 30 1 (.pointer (some ⟨h, b, none⟩)) = some (.pointer (some ⟨h, b + 1, none⟩)) := by simp [afield, Try.underlying30]
theorem fv30_2 {x0 x1 x2 : Value} : afieldV Try.prog 30 2 (.agg #[x0, x1, x2]) = some x2 := by simp [afieldV, Try.underlying30, apart, Try.underlying3, ag3, co3, aisAgg]
theorem fl30_2 {h b : Nat} : afield Try.prog 30 2 (.pointer (some ⟨h, b, none⟩)) = some (.pointer (some ⟨h, b + 2, none⟩)) := by simp [afield, Try.underlying30]
theorem co31 : Try.prog.cellsOf 31 = 1 := by kernel_rfl
theorem ag31 : aisAgg Try.prog 31 = false := by kernel_rfl
theorem pt31 : isPtr Try.prog 31 = false := by kernel_rfl
theorem sc31 : isSlc Try.prog 31 = true := by kernel_rfl
theorem esz31 : aesz Try.prog 31 = 3 := by kernel_rfl
theorem el31 : Elems Try.prog 31 3 (Value.agg #[Value.int IntKind.i64 0, Value.int IntKind.i64 0, Value.int IntKind.i64 0]) 24 := ⟨⟨71, Try.t71, Try.underlying31, by kernel_rfl, rfl, rfl, rfl⟩, ⟨71, Try.underlying31, by kernel_rfl, by kernel_rfl⟩⟩
theorem sl31 : ∃ e, Try.prog.underlying 31 = some (.slice e) := ⟨71, Try.underlying31⟩
theorem ag32 : aisAgg Try.prog 32 = true := by kernel_rfl
theorem pt32 : isPtr Try.prog 32 = false := by kernel_rfl
theorem sc32 : isSlc Try.prog 32 = true := by kernel_rfl
theorem fl32_0 {h b : Nat} : afield Try.prog 32 0 (.pointer (some ⟨h, b, none⟩)) = some (.pointer (some ⟨h, b + 0, none⟩)) := by simp [afield, Try.underlying32]
theorem fv32_1 {x0 x1 x2 x3 x4 : Value} : afieldV Try.prog 32 1 (.agg #[x0, x1, x2, x3, x4]) = some x3 := by simp [afieldV, Try.underlying32, apart, Try.underlying24, ag24, co24, aisAgg]
theorem fl32_1 {h b : Nat} : afield Try.prog 32 1 (.pointer (some ⟨h, b, none⟩)) = some (.pointer (some ⟨h, b + 3, none⟩)) := by simp [afield, Try.underlying32]
theorem fv32_2 {x0 x1 x2 x3 x4 : Value} : afieldV Try.prog 32 2 (.agg #[x0, x1, x2, x3, x4]) = some x4 := by simp [afieldV, Try.underlying32, apart, Try.underlying31, ag31, co31, aisAgg]
theorem fl32_2 {h b : Nat} : afield Try.prog 32 2 (.pointer (some ⟨h, b, none⟩)) = some (.pointer (some ⟨h, b + 4, none⟩)) := by simp [afield, Try.underlying32]
theorem co33 : Try.prog.cellsOf 33 = 5 := by kernel_rfl
theorem ag33 : aisAgg Try.prog 33 = true := by kernel_rfl
theorem pt33 : isPtr Try.prog 33 = false := by kernel_rfl
theorem sc33 : isSlc Try.prog 33 = true := by kernel_rfl
theorem ze33 : azero Try.prog 33 = some (Value.agg #[Value.int IntKind.i64 0, Value.int IntKind.i64 0, Value.int IntKind.i64 0, Value.slice none 0 0, Value.slice none 0 0]) := by kernel_rfl
theorem fl33_0 {h b : Nat} : afield Try.prog 33 0 (.pointer (some ⟨h, b, none⟩)) = some (.pointer (some ⟨h, b + 0, none⟩)) := by simp [afield, Try.underlying33]
theorem fv33_1 {x0 x1 x2 x3 x4 : Value} : afieldV Try.prog 33 1 (.agg #[x0, x1, x2, x3, x4]) = some x3 := by simp [afieldV, Try.underlying33, apart, Try.underlying24, ag24, co24, aisAgg]
theorem fl33_1 {h b : Nat} : afield Try.prog 33 1 (.pointer (some ⟨h, b, none⟩)) = some (.pointer (some ⟨h, b + 3, none⟩)) := by simp [afield, Try.underlying33]
theorem fv33_2 {x0 x1 x2 x3 x4 : Value} : afieldV Try.prog 33 2 (.agg #[x0, x1, x2, x3, x4]) = some x4 := by simp [afieldV, Try.underlying33, apart, Try.underlying31, ag31, co31, aisAgg]
theorem fl33_2 {h b : Nat} : afield Try.prog 33 2 (.pointer (some ⟨h, b, none⟩)) = some (.pointer (some ⟨h, b + 4, none⟩)) := by simp [afield, Try.underlying33]
theorem ag34 : aisAgg Try.prog 34 = false := by kernel_rfl
theorem pt34 : isPtr Try.prog 34 = false := by kernel_rfl
theorem sc34 : isSlc Try.prog 34 = false := by kernel_rfl
theorem ag35 : aisAgg Try.prog 35 = false := by kernel_rfl
theorem pt35 : isPtr Try.prog 35 = false := by kernel_rfl
theorem sc35 : isSlc Try.prog 35 = false := by kernel_rfl
theorem ag36 : aisAgg Try.prog 36 = false := by kernel_rfl
theorem pt36 : isPtr Try.prog 36 = false := by kernel_rfl
theorem sc36 : isSlc Try.prog 36 = false := by kernel_rfl
theorem ag37 : aisAgg Try.prog 37 = false := by kernel_rfl
theorem pt37 : isPtr Try.prog 37 = false := by kernel_rfl
theorem sc37 : isSlc Try.prog 37 = false := by kernel_rfl
theorem ag38 : aisAgg Try.prog 38 = false := by kernel_rfl
theorem pt38 : isPtr Try.prog 38 = false := by kernel_rfl
theorem sc38 : isSlc Try.prog 38 = false := by kernel_rfl
theorem ag39 : aisAgg Try.prog 39 = false := by kernel_rfl
theorem pt39 : isPtr Try.prog 39 = false := by kernel_rfl
theorem sc39 : isSlc Try.prog 39 = false := by kernel_rfl
theorem ag40 : aisAgg Try.prog 40 = false := by kernel_rfl
theorem pt40 : isPtr Try.prog 40 = false := by kernel_rfl
theorem sc40 : isSlc Try.prog 40 = false := by kernel_rfl
theorem ag41 : aisAgg Try.prog 41 = false := by kernel_rfl
theorem pt41 : isPtr Try.prog 41 = false := by kernel_rfl
theorem sc41 : isSlc Try.prog 41 = false := by kernel_rfl
theorem ag42 : aisAgg Try.prog 42 = false := by kernel_rfl
theorem pt42 : isPtr Try.prog 42 = false := by kernel_rfl
theorem sc42 : isSlc Try.prog 42 = false := by kernel_rfl
theorem ag43 : aisAgg Try.prog 43 = false := by kernel_rfl
theorem pt43 : isPtr Try.prog 43 = false := by kernel_rfl
theorem sc43 : isSlc Try.prog 43 = false := by kernel_rfl
theorem ag44 : aisAgg Try.prog 44 = false := by kernel_rfl
theorem pt44 : isPtr Try.prog 44 = false := by kernel_rfl
theorem sc44 : isSlc Try.prog 44 = false := by kernel_rfl
theorem ag45 : aisAgg Try.prog 45 = false := by kernel_rfl
theorem pt45 : isPtr Try.prog 45 = false := by kernel_rfl
theorem sc45 : isSlc Try.prog 45 = false := by kernel_rfl
theorem ag46 : aisAgg Try.prog 46 = false := by kernel_rfl
theorem pt46 : isPtr Try.prog 46 = false := by kernel_rfl
theorem sc46 : isSlc Try.prog 46 = false := by kernel_rfl
theorem ag47 : aisAgg Try.prog 47 = true := by kernel_rfl
theorem pt47 : isPtr Try.prog 47 = false := by kernel_rfl
theorem sc47 : isSlc Try.prog 47 = false := by kernel_rfl
theorem fv47_0 {x0 x1 x2 : Value} : afieldV Try.prog 47 0 (.agg #[x0, x1, x2]) = some x0 := by simp [afieldV, Try.underlying47, apart, Try.underlying3, ag3, co3, aisAgg]
theorem fl47_0 {h b : Nat} : afield Try.prog 47 0 (.pointer (some ⟨h, b, none⟩)) = some (.pointer (some ⟨h, b + 0, none⟩)) := by simp [afield, Try.underlying47]
theorem fv47_1 {x0 x1 x2 : Value} : afieldV Try.prog 47 1 (.agg #[x0, x1, x2]) = some x1 := by simp [afieldV, Try.underlying47, apart, Try.underlying3, ag3, co3, aisAgg]
theorem fl47_1 {h b : Nat} : afield Try.prog 47 1 (.pointer (some ⟨h, b, none⟩)) = some (.pointer (some ⟨h, b + 1, none⟩)) := by simp [afield, Try.underlying47]
theorem fv47_2 {x0 x1 x2 : Value} : afieldV Try.prog 47 2 (.agg #[x0, x1, x2]) = some x2 := by simp [afieldV, Try.underlying47, apart, Try.underlying9, ag9, co9, aisAgg]
theorem fl47_2 {h b : Nat} : afield Try.prog 47 2 (.pointer (some ⟨h, b, none⟩)) = some (.pointer (some ⟨h, b + 2, none⟩)) := by simp [afield, Try.underlying47]
theorem co48 : Try.prog.cellsOf 48 = 3 := by kernel_rfl
theorem ag48 : aisAgg Try.prog 48 = true := by kernel_rfl
theorem pt48 : isPtr Try.prog 48 = false := by kernel_rfl
theorem sc48 : isSlc Try.prog 48 = false := by kernel_rfl
theorem fv48_0 {x0 x1 x2 : Value} : afieldV Try.prog 48 0 (.agg #[x0, x1, x2]) = some x0 := by simp [afieldV, Try.underlying48, apart, Try.underlying3, ag3, co3, aisAgg]
theorem fl48_0 {h b : Nat} : afield Try.prog 48 0 (.pointer (some ⟨h, b, none⟩)) = some (.pointer (some ⟨h, b + 0, none⟩)) := by simp [afield, Try.underlying48]
theorem fv48_1 {x0 x1 x2 : Value} : afieldV Try.prog 48 1 (.agg #[x0, x1, x2]) = some x1 := by simp [afieldV, Try.underlying48, apart, Try.underlying3, ag3, co3, aisAgg]
theorem fl48_1 {h b : Nat} : afield Try.prog 48 1 (.pointer (some ⟨h, b, none⟩)) = some (.pointer (some ⟨h, b + 1, none⟩)) := by simp [afield, Try.underlying48]
theorem fv48_2 {x0 x1 x2 : Value} : afieldV Try.prog 48 2 (.agg #[x0, x1, x2]) = some x2 := by simp [afieldV, Try.underlying48, apart, Try.underlying9, ag9, co9, aisAgg]
theorem fl48_2 {h b : Nat} : afield Try.prog 48 2 (.pointer (some ⟨h, b, none⟩)) = some (.pointer (some ⟨h, b + 2, none⟩)) := by simp [afield, Try.underlying48]
theorem ag49 : aisAgg Try.prog 49 = false := by kernel_rfl
theorem pt49 : isPtr Try.prog 49 = false := by kernel_rfl
theorem sc49 : isSlc Try.prog 49 = false := by kernel_rfl
theorem pt50 : isPtr Try.prog 50 = false := by kernel_rfl
theorem sc50 : isSlc Try.prog 50 = true := by kernel_rfl
theorem ag51 : aisAgg Try.prog 51 = false := by kernel_rfl
theorem pt51 : isPtr Try.prog 51 = false := by kernel_rfl
theorem sc51 : isSlc Try.prog 51 = false := by kernel_rfl
theorem co52 : Try.prog.cellsOf 52 = 3 := by kernel_rfl
theorem ag52 : aisAgg Try.prog 52 = true := by kernel_rfl
theorem pt52 : isPtr Try.prog 52 = false := by kernel_rfl
theorem sc52 : isSlc Try.prog 52 = false := by kernel_rfl
theorem ze52 : azero Try.prog 52 = some (Value.agg #[Value.int IntKind.i64 0, Value.int IntKind.i64 0, Value.string { data := #[] }]) := by kernel_rfl
theorem fv52_0 {x0 x1 x2 : Value} : afieldV Try.prog 52 0 (.agg #[x0, x1, x2]) = some x0 := by simp [afieldV, Try.underlying52, apart, Try.underlying3, ag3, co3, aisAgg]
theorem fl52_0 {h b : Nat} : afield Try.prog 52 0 (.pointer (some ⟨h, b, none⟩)) = some (.pointer (some ⟨h, b + 0, none⟩)) := by simp [afield, Try.underlying52]
theorem fv52_1 {x0 x1 x2 : Value} : afieldV Try.prog 52 1 (.agg #[x0, x1, x2]) = some x1 := by simp [afieldV, Try.underlying52, apart, Try.underlying3, ag3, co3, aisAgg]
theorem fl52_1 {h b : Nat} : afield Try.prog 52 1 (.pointer (some ⟨h, b, none⟩)) = some (.pointer (some ⟨h, b + 1, none⟩)) := by simp [afield, Try.underlying52]
theorem fv52_2 {x0 x1 x2 : Value} : afieldV Try.prog 52 2 (.agg #[x0, x1, x2]) = some x2 := by simp [afieldV, Try.underlying52, apart, Try.underlying9, ag9, co9, aisAgg]
theorem fl52_2 {h b : Nat} : afield Try.prog 52 2 (.pointer (some ⟨h, b, none⟩)) = some (.pointer (some ⟨h, b + 2, none⟩)) := by simp [afield, Try.underlying52]
theorem ag53 : aisAgg Try.prog 53 = false := by kernel_rfl
theorem pt53 : isPtr Try.prog 53 = false := by kernel_rfl
theorem sc53 : isSlc Try.prog 53 = false := by kernel_rfl
theorem ag54 : aisAgg Try.prog 54 = false := by kernel_rfl
theorem pt54 : isPtr Try.prog 54 = false := by kernel_rfl
theorem sc54 : isSlc Try.prog 54 = false := by kernel_rfl
theorem ag55 : aisAgg Try.prog 55 = false := by kernel_rfl
theorem pt55 : isPtr Try.prog 55 = false := by kernel_rfl
theorem sc55 : isSlc Try.prog 55 = true := by kernel_rfl
theorem esz55 : aesz Try.prog 55 = 3 := by kernel_rfl
theorem ag56 : aisAgg Try.prog 56 = false := by kernel_rfl
theorem pt56 : isPtr Try.prog 56 = false := by kernel_rfl
theorem sc56 : isSlc Try.prog 56 = false := by kernel_rfl
theorem pt57 : isPtr Try.prog 57 = false := by kernel_rfl
theorem sc57 : isSlc Try.prog 57 = true := by kernel_rfl
theorem ag58 : aisAgg Try.prog 58 = false := by kernel_rfl
theorem pt58 : isPtr Try.prog 58 = false := by kernel_rfl
theorem sc58 : isSlc Try.prog 58 = false := by kernel_rfl
theorem ag59 : aisAgg Try.prog 59 = false := by kernel_rfl
theorem pt59 : isPtr Try.prog 59 = false := by kernel_rfl
theorem sc59 : isSlc Try.prog 59 = true := by kernel_rfl
theorem esz59 : aesz Try.prog 59 = 3 := by kernel_rfl
theorem el59 : Elems Try.prog 59 3 (Value.agg #[Value.int IntKind.i64 0, Value.int IntKind.i64 0, Value.string { data := #[] }]) 32 := ⟨⟨52, Try.t52, Try.underlying59, by kernel_rfl, rfl, rfl, rfl⟩, ⟨52, Try.underlying59, by kernel_rfl, by kernel_rfl⟩⟩
theorem sl59 : ∃ e, Try.prog.underlying 59 = some (.slice e) := ⟨52, Try.underlying59⟩
theorem ag60 : aisAgg Try.prog 60 = false := by kernel_rfl
theorem pt60 : isPtr Try.prog 60 = false := by kernel_rfl
theorem sc60 : isSlc Try.prog 60 = false := by kernel_rfl
theorem ag61 : aisAgg Try.prog 61 = false := by kernel_rfl
theorem pt61 : isPtr Try.prog 61 = false := by kernel_rfl
theorem sc61 : isSlc Try.prog 61 = false := by kernel_rfl
theorem ag62 : aisAgg Try.prog 62 = false := by kernel_rfl
theorem pt62 : isPtr Try.prog 62 = false := by kernel_rfl
theorem sc62 : isSlc Try.prog 62 = false := by kernel_rfl
theorem ag63 : aisAgg Try.prog 63 = false := by kernel_rfl
theorem pt63 : isPtr Try.prog 63 = false := by kernel_rfl
theorem sc63 : isSlc Try.prog 63 = false := by kernel_rfl
theorem ag64 : aisAgg Try.prog 64 = false := by kernel_rfl
theorem pt64 : isPtr Try.prog 64 = false := by kernel_rfl
theorem sc64 : isSlc Try.prog 64 = false := by kernel_rfl
theorem ag65 : aisAgg Try.prog 65 = false := by kernel_rfl
theorem pt65 : isPtr Try.prog 65 = false := by kernel_rfl
theorem sc65 : isSlc Try.prog 65 = false := by kernel_rfl
theorem ag66 : aisAgg Try.prog 66 = false := by kernel_rfl
theorem pt66 : isPtr Try.prog 66 = false := by kernel_rfl
theorem sc66 : isSlc Try.prog 66 = false := by kernel_rfl
theorem ag67 : aisAgg Try.prog 67 = false := by kernel_rfl
theorem pt67 : isPtr Try.prog 67 = false := by kernel_rfl
theorem sc67 : isSlc Try.prog 67 = false := by kernel_rfl
theorem ag68 : aisAgg Try.prog 68 = false := by kernel_rfl
theorem pt68 : isPtr Try.prog 68 = false := by kernel_rfl
theorem sc68 : isSlc Try.prog 68 = false := by kernel_rfl
theorem ag69 : aisAgg Try.prog 69 = false := by kernel_rfl
theorem pt69 : isPtr Try.prog 69 = false := by kernel_rfl
theorem sc69 : isSlc Try.prog 69 = false := by kernel_rfl
theorem ag70 : aisAgg Try.prog 70 = true := by kernel_rfl
theorem pt70 : isPtr Try.prog 70 = false := by kernel_rfl
theorem sc70 : isSlc Try.prog 70 = false := by kernel_rfl
theorem fv70_0 {x0 x1 x2 : Value} : afieldV Try.prog 70 0 (.agg #[x0, x1, x2]) = some x0 := by simp [afieldV, Try.underlying70, apart, Try.underlying3, ag3, co3, aisAgg]
theorem fl70_0 {h b : Nat} : afield Try.prog 70 0 (.pointer (some ⟨h, b, none⟩)) = some (.pointer (some ⟨h, b + 0, none⟩)) := by simp [afield, Try.underlying70]
theorem fv70_1 {x0 x1 x2 : Value} : afieldV Try.prog 70 1 (.agg #[x0, x1, x2]) = some x1 := by simp [afieldV, Try.underlying70, apart, Try.underlying3, ag3, co3, aisAgg]
theorem fl70_1 {h b : Nat} : afield Try.prog 70 1 (.pointer (some ⟨h, b, none⟩)) = some (.pointer (some ⟨h, b + 1, none⟩)) := by simp [afield, Try.underlying70]
theorem fv70_2 {x0 x1 x2 : Value} : afieldV Try.prog 70 2 (.agg #[x0, x1, x2]) = some x2 := by simp [afieldV, Try.underlying70, apart, Try.underlying3, ag3, co3, aisAgg]
theorem fl70_2 {h b : Nat} : afield Try.prog 70 2 (.pointer (some ⟨h, b, none⟩)) = some (.pointer (some ⟨h, b + 2, none⟩)) := by simp [afield, Try.underlying70]
theorem co71 : Try.prog.cellsOf 71 = 3 := by kernel_rfl
theorem ag71 : aisAgg Try.prog 71 = true := by kernel_rfl
theorem pt71 : isPtr Try.prog 71 = false := by kernel_rfl
theorem sc71 : isSlc Try.prog 71 = false := by kernel_rfl
theorem ze71 : azero Try.prog 71 = some (Value.agg #[Value.int IntKind.i64 0, Value.int IntKind.i64 0, Value.int IntKind.i64 0]) := by kernel_rfl
theorem fv71_0 {x0 x1 x2 : Value} : afieldV Try.prog 71 0 (.agg #[x0, x1, x2]) = some x0 := by simp [afieldV, Try.underlying71, apart, Try.underlying3, ag3, co3, aisAgg]
theorem fl71_0 {h b : Nat} : afield Try.prog 71 0 (.pointer (some ⟨h, b, none⟩)) = some (.pointer (some ⟨h, b + 0, none⟩)) := by simp [afield, Try.underlying71]
theorem fv71_1 {x0 x1 x2 : Value} : afieldV Try.prog 71 1 (.agg #[x0, x1, x2]) = some x1 := by simp [afieldV, Try.underlying71, apart, Try.underlying3, ag3, co3, aisAgg]
theorem fl71_1 {h b : Nat} : afield Try.prog 71 1 (.pointer (some ⟨h, b, none⟩)) = some (.pointer (some ⟨h, b + 1, none⟩)) := by simp [afield, Try.underlying71]
theorem fv71_2 {x0 x1 x2 : Value} : afieldV Try.prog 71 2 (.agg #[x0, x1, x2]) = some x2 := by simp [afieldV, Try.underlying71, apart, Try.underlying3, ag3, co3, aisAgg]
theorem fl71_2 {h b : Nat} : afield Try.prog 71 2 (.pointer (some ⟨h, b, none⟩)) = some (.pointer (some ⟨h, b + 2, none⟩)) := by simp [afield, Try.underlying71]
theorem ag72 : aisAgg Try.prog 72 = false := by kernel_rfl
theorem pt72 : isPtr Try.prog 72 = false := by kernel_rfl
theorem sc72 : isSlc Try.prog 72 = false := by kernel_rfl
theorem ag73 : aisAgg Try.prog 73 = false := by kernel_rfl
theorem pt73 : isPtr Try.prog 73 = false := by kernel_rfl
theorem sc73 : isSlc Try.prog 73 = false := by kernel_rfl
theorem ag74 : aisAgg Try.prog 74 = false := by kernel_rfl
theorem pt74 : isPtr Try.prog 74 = false := by kernel_rfl
theorem sc74 : isSlc Try.prog 74 = false := by kernel_rfl
theorem ag75 : aisAgg Try.prog 75 = false := by kernel_rfl
theorem pt75 : isPtr Try.prog 75 = false := by kernel_rfl
theorem sc75 : isSlc Try.prog 75 = false := by kernel_rfl
theorem ag76 : aisAgg Try.prog 76 = false := by kernel_rfl
theorem pt76 : isPtr Try.prog 76 = false := by kernel_rfl
theorem sc76 : isSlc Try.prog 76 = false := by kernel_rfl
theorem ag77 : aisAgg Try.prog 77 = false := by kernel_rfl
theorem pt77 : isPtr Try.prog 77 = false := by kernel_rfl
theorem sc77 : isSlc Try.prog 77 = false := by kernel_rfl
theorem ag78 : aisAgg Try.prog 78 = false := by kernel_rfl
theorem pt78 : isPtr Try.prog 78 = false := by kernel_rfl
theorem sc78 : isSlc Try.prog 78 = false := by kernel_rfl
theorem ag79 : aisAgg Try.prog 79 = false := by kernel_rfl
theorem pt79 : isPtr Try.prog 79 = true := by kernel_rfl
theorem sc79 : isSlc Try.prog 79 = false := by kernel_rfl
theorem ag80 : aisAgg Try.prog 80 = false := by kernel_rfl
theorem pt80 : isPtr Try.prog 80 = false := by kernel_rfl
theorem sc80 : isSlc Try.prog 80 = false := by kernel_rfl
theorem ag81 : aisAgg Try.prog 81 = false := by kernel_rfl
theorem pt81 : isPtr Try.prog 81 = false := by kernel_rfl
theorem sc81 : isSlc Try.prog 81 = false := by kernel_rfl
theorem ag82 : aisAgg Try.prog 82 = true := by kernel_rfl
theorem pt82 : isPtr Try.prog 82 = false := by kernel_rfl
theorem sc82 : isSlc Try.prog 82 = true := by kernel_rfl
theorem fl82_0 {h b : Nat} : afield Try.prog 82 0 (.pointer (some ⟨h, b, none⟩)) = some (.pointer (some ⟨h, b + 0, none⟩)) := by simp [afield, Try.underlying82]
theorem fv82_1 {x0 x1 x2 x3 : Value} : afieldV Try.prog 82 1 (.agg #[x0, x1, x2, x3]) = some x3 := by simp [afieldV, Try.underlying82, apart, Try.underlying31, ag31, co31, aisAgg]
theorem fl82_1 {h b : Nat} : afield Try.prog 82 1 (.pointer (some ⟨h, b, none⟩)) = some (.pointer (some ⟨h, b + 3, none⟩)) := by simp [afield, Try.underlying82]
theorem ag83 : aisAgg Try.prog 83 = true := by kernel_rfl
theorem pt83 : isPtr Try.prog 83 = false := by kernel_rfl
theorem sc83 : isSlc Try.prog 83 = true := by kernel_rfl
theorem ze83 : azero Try.prog 83 = some (Value.agg #[Value.int IntKind.i64 0, Value.int IntKind.i64 0, Value.int IntKind.i64 0, Value.slice none 0 0]) := by kernel_rfl
theorem fl83_0 {h b : Nat} : afield Try.prog 83 0 (.pointer (some ⟨h, b, none⟩)) = some (.pointer (some ⟨h, b + 0, none⟩)) := by simp [afield, Try.underlying83]
theorem fv83_1 {x0 x1 x2 x3 : Value} : afieldV Try.prog 83 1 (.agg #[x0, x1, x2, x3]) = some x3 := by simp [afieldV, Try.underlying83, apart, Try.underlying31, ag31, co31, aisAgg]
theorem fl83_1 {h b : Nat} : afield Try.prog 83 1 (.pointer (some ⟨h, b, none⟩)) = some (.pointer (some ⟨h, b + 3, none⟩)) := by simp [afield, Try.underlying83]
theorem co84 : Try.prog.cellsOf 84 = 1 := by kernel_rfl
theorem ag84 : aisAgg Try.prog 84 = false := by kernel_rfl
theorem pt84 : isPtr Try.prog 84 = true := by kernel_rfl
theorem sc84 : isSlc Try.prog 84 = true := by kernel_rfl
theorem esz84 : aesz Try.prog 84 = 1 := by kernel_rfl
theorem ag85 : aisAgg Try.prog 85 = true := by kernel_rfl
theorem pt85 : isPtr Try.prog 85 = false := by kernel_rfl
theorem sc85 : isSlc Try.prog 85 = true := by kernel_rfl
theorem fl85_0 {h b : Nat} : afield Try.prog 85 0 (.pointer (some ⟨h, b, none⟩)) = some (.pointer (some ⟨h, b + 0, none⟩)) := by simp [afield, Try.underlying85]
theorem fv85_1 {x0 x1 x2 x3 x4 : Value} : afieldV Try.prog 85 1 (.agg #[x0, x1, x2, x3, x4]) = some x4 := by simp [afieldV, Try.underlying85, apart, Try.underlying84, ag84, co84, aisAgg]
theorem fl85_1 {h b : Nat} : afield Try.prog 85 1 (.pointer (some ⟨h, b, none⟩)) = some (.pointer (some ⟨h, b + 4, none⟩)) := by simp [afield, Try.underlying85]
theorem ag86 : aisAgg Try.prog 86 = true := by kernel_rfl
theorem pt86 : isPtr Try.prog 86 = false := by kernel_rfl
theorem sc86 : isSlc Try.prog 86 = true := by kernel_rfl
theorem ze86 : azero Try.prog 86 = some (Value.agg #[Value.int IntKind.i64 0, Value.int IntKind.i64 0, Value.int IntKind.i64 0, Value.slice none 0 0, Value.slice none 0 0]) := by kernel_rfl
theorem fl86_0 {h b : Nat} : afield Try.prog 86 0 (.pointer (some ⟨h, b, none⟩)) = some (.pointer (some ⟨h, b + 0, none⟩)) := by simp [afield, Try.underlying86]
theorem fv86_1 {x0 x1 x2 x3 x4 : Value} : afieldV Try.prog 86 1 (.agg #[x0, x1, x2, x3, x4]) = some x4 := by simp [afieldV, Try.underlying86, apart, Try.underlying84, ag84, co84, aisAgg]
theorem fl86_1 {h b : Nat} : afield Try.prog 86 1 (.pointer (some ⟨h, b, none⟩)) = some (.pointer (some ⟨h, b + 4, none⟩)) := by simp [afield, Try.underlying86]
theorem ag87 : aisAgg Try.prog 87 = false := by kernel_rfl
theorem pt87 : isPtr Try.prog 87 = false := by kernel_rfl
theorem sc87 : isSlc Try.prog 87 = false := by kernel_rfl
theorem ag88 : aisAgg Try.prog 88 = false := by kernel_rfl
theorem pt88 : isPtr Try.prog 88 = false := by kernel_rfl
theorem sc88 : isSlc Try.prog 88 = false := by kernel_rfl
theorem ag89 : aisAgg Try.prog 89 = false := by kernel_rfl
theorem pt89 : isPtr Try.prog 89 = false := by kernel_rfl
theorem sc89 : isSlc Try.prog 89 = false := by kernel_rfl
theorem pt90 : isPtr Try.prog 90 = false := by kernel_rfl
theorem sc90 : isSlc Try.prog 90 = true := by kernel_rfl
theorem ag91 : aisAgg Try.prog 91 = false := by kernel_rfl
theorem pt91 : isPtr Try.prog 91 = false := by kernel_rfl
theorem sc91 : isSlc Try.prog 91 = false := by kernel_rfl
theorem ag92 : aisAgg Try.prog 92 = false := by kernel_rfl
theorem pt92 : isPtr Try.prog 92 = false := by kernel_rfl
theorem sc92 : isSlc Try.prog 92 = false := by kernel_rfl
theorem ag93 : aisAgg Try.prog 93 = false := by kernel_rfl
theorem pt93 : isPtr Try.prog 93 = false := by kernel_rfl
theorem sc93 : isSlc Try.prog 93 = false := by kernel_rfl
theorem ag94 : aisAgg Try.prog 94 = false := by kernel_rfl
theorem pt94 : isPtr Try.prog 94 = false := by kernel_rfl
theorem sc94 : isSlc Try.prog 94 = false := by kernel_rfl
theorem ag95 : aisAgg Try.prog 95 = false := by kernel_rfl
theorem pt95 : isPtr Try.prog 95 = false := by kernel_rfl
theorem sc95 : isSlc Try.prog 95 = false := by kernel_rfl
theorem ag96 : aisAgg Try.prog 96 = false := by kernel_rfl
theorem pt96 : isPtr Try.prog 96 = false := by kernel_rfl
theorem sc96 : isSlc Try.prog 96 = false := by kernel_rfl
theorem ag97 : aisAgg Try.prog 97 = false := by kernel_rfl
theorem pt97 : isPtr Try.prog 97 = false := by kernel_rfl
theorem sc97 : isSlc Try.prog 97 = false := by kernel_rfl
theorem ag98 : aisAgg Try.prog 98 = false := by kernel_rfl
theorem pt98 : isPtr Try.prog 98 = false := by kernel_rfl
theorem sc98 : isSlc Try.prog 98 = false := by kernel_rfl
theorem co99 : Try.prog.cellsOf 99 = 3 := by kernel_rfl
theorem ag99 : aisAgg Try.prog 99 = true := by kernel_rfl
theorem pt99 : isPtr Try.prog 99 = false := by kernel_rfl
theorem sc99 : isSlc Try.prog 99 = false := by kernel_rfl
theorem fv99_0 {x0 x1 x2 : Value} : afieldV Try.prog 99 0 (.agg #[x0, x1, x2]) = some x0 := by simp [afieldV, Try.underlying99, apart, Try.underlying3, ag3, co3, aisAgg]
theorem fl99_0 {h b : Nat} : afield Try.prog 99 0 (.pointer (some ⟨h, b, none⟩)) = some (.pointer (some ⟨h, b + 0, none⟩)) := by simp [afield, Try.underlying99]
theorem fv99_1 {x0 x1 x2 : Value} : afieldV Try.prog 99 1 (.agg #[x0, x1, x2]) = some x1 := by simp [afieldV, Try.underlying99, apart, Try.underlying3, ag3, co3, aisAgg]
theorem fl99_1 {h b : Nat} : afield Try.prog 99 1 (.pointer (some ⟨h, b, none⟩)) = some (.pointer (some ⟨h, b + 1, none⟩)) := by simp [afield, Try.underlying99]
theorem fv99_2 {x0 x1 x2 : Value} : afieldV Try.prog 99 2 (.agg #[x0, x1, x2]) = some x2 := by simp [afieldV, Try.underlying99, apart, Try.underlying3, ag3, co3, aisAgg]
theorem fl99_2 {h b : Nat} : afield Try.prog 99 2 (.pointer (some ⟨h, b, none⟩)) = some (.pointer (some ⟨h, b + 2, none⟩)) := by simp [afield, Try.underlying99]
theorem ag100 : aisAgg Try.prog 100 = false := by kernel_rfl
theorem pt100 : isPtr Try.prog 100 = false := by kernel_rfl
theorem sc100 : isSlc Try.prog 100 = false := by kernel_rfl
theorem ag101 : aisAgg Try.prog 101 = false := by kernel_rfl
theorem pt101 : isPtr Try.prog 101 = false := by kernel_rfl
theorem sc101 : isSlc Try.prog 101 = false := by kernel_rfl
theorem ag102 : aisAgg Try.prog 102 = false := by kernel_rfl
theorem pt102 : isPtr Try.prog 102 = false := by kernel_rfl
theorem sc102 : isSlc Try.prog 102 = false := by kernel_rfl
theorem ag103 : aisAgg Try.prog 103 = false := by kernel_rfl
theorem pt103 : isPtr Try.prog 103 = false := by kernel_rfl
theorem sc103 : isSlc Try.prog 103 = true := by kernel_rfl
theorem esz103 : aesz Try.prog 103 = 1 := by kernel_rfl
theorem el103 : Elems Try.prog 103 1 (Value.int IntKind.u8 0) 1 := ⟨⟨5, Try.t5, Try.underlying103, by kernel_rfl, rfl, rfl, rfl⟩, ⟨5, Try.underlying103, by kernel_rfl, by kernel_rfl⟩⟩
theorem ag104 : aisAgg Try.prog 104 = false := by kernel_rfl
theorem pt104 : isPtr Try.prog 104 = false := by kernel_rfl
theorem sc104 : isSlc Try.prog 104 = false := by kernel_rfl
theorem ag105 : aisAgg Try.prog 105 = false := by kernel_rfl
theorem pt105 : isPtr Try.prog 105 = true := by kernel_rfl
theorem sc105 : isSlc Try.prog 105 = false := by kernel_rfl
theorem ag106 : aisAgg Try.prog 106 = false := by kernel_rfl
theorem pt106 : isPtr Try.prog 106 = false := by kernel_rfl
theorem sc106 : isSlc Try.prog 106 = false := by kernel_rfl
theorem ag107 : aisAgg Try.prog 107 = false := by kernel_rfl
theorem pt107 : isPtr Try.prog 107 = false := by kernel_rfl
theorem sc107 : isSlc Try.prog 107 = false := by kernel_rfl
theorem ag108 : aisAgg Try.prog 108 = false := by kernel_rfl
theorem pt108 : isPtr Try.prog 108 = false := by kernel_rfl
theorem sc108 : isSlc Try.prog 108 = true := by kernel_rfl
theorem esz108 : aesz Try.prog 108 = 1 := by kernel_rfl
theorem el108 : Elems Try.prog 108 1 (Value.int IntKind.i64 0) 8 := ⟨⟨3, Try.t3, Try.underlying108, by kernel_rfl, rfl, rfl, rfl⟩, ⟨3, Try.underlying108, by kernel_rfl, by kernel_rfl⟩⟩
theorem sl108 : ∃ e, Try.prog.underlying 108 = some (.slice e) := ⟨3, Try.underlying108⟩
theorem ag109 : aisAgg Try.prog 109 = false := by kernel_rfl
theorem pt109 : isPtr Try.prog 109 = false := by kernel_rfl
theorem sc109 : isSlc Try.prog 109 = false := by kernel_rfl
theorem ag110 : aisAgg Try.prog 110 = false := by kernel_rfl
theorem pt110 : isPtr Try.prog 110 = false := by kernel_rfl
theorem sc110 : isSlc Try.prog 110 = false := by kernel_rfl
theorem ag111 : aisAgg Try.prog 111 = false := by kernel_rfl
theorem pt111 : isPtr Try.prog 111 = false := by kernel_rfl
theorem sc111 : isSlc Try.prog 111 = false := by kernel_rfl
theorem ag112 : aisAgg Try.prog 112 = false := by kernel_rfl
theorem pt112 : isPtr Try.prog 112 = false := by kernel_rfl
theorem sc112 : isSlc Try.prog 112 = false := by kernel_rfl
theorem ag113 : aisAgg Try.prog 113 = false := by kernel_rfl
theorem pt113 : isPtr Try.prog 113 = false := by kernel_rfl
theorem sc113 : isSlc Try.prog 113 = false := by kernel_rfl
theorem ag114 : aisAgg Try.prog 114 = false := by kernel_rfl
theorem pt114 : isPtr Try.prog 114 = false := by kernel_rfl
theorem sc114 : isSlc Try.prog 114 = false := by kernel_rfl
theorem ag115 : aisAgg Try.prog 115 = false := by kernel_rfl
theorem pt115 : isPtr Try.prog 115 = false := by kernel_rfl
theorem sc115 : isSlc Try.prog 115 = false := by kernel_rfl
theorem ag116 : aisAgg Try.prog 116 = false := by kernel_rfl
theorem pt116 : isPtr Try.prog 116 = false := by kernel_rfl
theorem sc116 : isSlc Try.prog 116 = false := by kernel_rfl
theorem ag117 : aisAgg Try.prog 117 = false := by kernel_rfl
theorem pt117 : isPtr Try.prog 117 = false := by kernel_rfl
theorem sc117 : isSlc Try.prog 117 = false := by kernel_rfl
theorem ag118 : aisAgg Try.prog 118 = false := by kernel_rfl
theorem pt118 : isPtr Try.prog 118 = false := by kernel_rfl
theorem sc118 : isSlc Try.prog 118 = false := by kernel_rfl
theorem ag119 : aisAgg Try.prog 119 = false := by kernel_rfl
theorem pt119 : isPtr Try.prog 119 = false := by kernel_rfl
theorem sc119 : isSlc Try.prog 119 = false := by kernel_rfl
theorem ag120 : aisAgg Try.prog 120 = false := by kernel_rfl
theorem pt120 : isPtr Try.prog 120 = false := by kernel_rfl
theorem sc120 : isSlc Try.prog 120 = false := by kernel_rfl
theorem pt123 : isPtr Try.prog 123 = false := by kernel_rfl
theorem sc123 : isSlc Try.prog 123 = false := by kernel_rfl
theorem esz123 : aesz Try.prog 123 = 1 := by kernel_rfl
theorem ag126 : aisAgg Try.prog 126 = false := by kernel_rfl
theorem pt126 : isPtr Try.prog 126 = false := by kernel_rfl
theorem sc126 : isSlc Try.prog 126 = false := by kernel_rfl
theorem ag127 : aisAgg Try.prog 127 = false := by kernel_rfl
theorem pt127 : isPtr Try.prog 127 = false := by kernel_rfl
theorem sc127 : isSlc Try.prog 127 = false := by kernel_rfl
theorem ag128 : aisAgg Try.prog 128 = false := by kernel_rfl
theorem pt128 : isPtr Try.prog 128 = false := by kernel_rfl
theorem sc128 : isSlc Try.prog 128 = false := by kernel_rfl
theorem ag129 : aisAgg Try.prog 129 = false := by kernel_rfl
theorem pt129 : isPtr Try.prog 129 = false := by kernel_rfl
theorem sc129 : isSlc Try.prog 129 = false := by kernel_rfl
theorem ag130 : aisAgg Try.prog 130 = false := by kernel_rfl
theorem pt130 : isPtr Try.prog 130 = false := by kernel_rfl
theorem sc130 : isSlc Try.prog 130 = false := by kernel_rfl
theorem ag131 : aisAgg Try.prog 131 = false := by kernel_rfl
theorem pt131 : isPtr Try.prog 131 = true := by kernel_rfl
theorem sc131 : isSlc Try.prog 131 = false := by kernel_rfl
theorem ag132 : aisAgg Try.prog 132 = false := by kernel_rfl
theorem pt132 : isPtr Try.prog 132 = false := by kernel_rfl
theorem sc132 : isSlc Try.prog 132 = false := by kernel_rfl
theorem ag133 : aisAgg Try.prog 133 = false := by kernel_rfl
theorem pt133 : isPtr Try.prog 133 = false := by kernel_rfl
theorem sc133 : isSlc Try.prog 133 = false := by kernel_rfl
theorem ag136 : aisAgg Try.prog 136 = false := by kernel_rfl
theorem pt136 : isPtr Try.prog 136 = false := by kernel_rfl
theorem sc136 : isSlc Try.prog 136 = false := by kernel_rfl
theorem pt137 : isPtr Try.prog 137 = false := by kernel_rfl
theorem sc137 : isSlc Try.prog 137 = false := by kernel_rfl
theorem nf3 : noisyF Try.prog 3 = false := by kernel_rfl
theorem nf4 : noisyF Try.prog 4 = false := by kernel_rfl
theorem nf5 : noisyF Try.prog 5 = false := by kernel_rfl
theorem nf6 : noisyF Try.prog 6 = false := by kernel_rfl
theorem nf7 : noisyF Try.prog 7 = false := by kernel_rfl
theorem nf8 : noisyF Try.prog 8 = false := by kernel_rfl
theorem nf9 : noisyF Try.prog 9 = false := by kernel_rfl
theorem nf10 : noisyF Try.prog 10 = false := by kernel_rfl
theorem nf11 : noisyF Try.prog 11 = false := by kernel_rfl
theorem nf12 : noisyF Try.prog 12 = false := by kernel_rfl
theorem nf13 : noisyF Try.prog 13 = false := by kernel_rfl
theorem nf14 : noisyF Try.prog 14 = false := by kernel_rfl
theorem nf15 : noisyF Try.prog 15 = false := by kernel_rfl
theorem nf16 : noisyF Try.prog 16 = false := by kernel_rfl
theorem nf17 : noisyF Try.prog 17 = false := by kernel_rfl
theorem nf18 : noisyF Try.prog 18 = false := by kernel_rfl
theorem nf19 : noisyF Try.prog 19 = false := by kernel_rfl
theorem nf20 : noisyF Try.prog 20 = false := by kernel_rfl
theorem nf21 : noisyF Try.prog 21 = false := by kernel_rfl
theorem nf22 : noisyF Try.prog 22 = false := by kernel_rfl
theorem nf23 : noisyF Try.prog 23 = false := by kernel_rfl
theorem nf24 : noisyF Try.prog 24 = false := by kernel_rfl
theorem nf25 : noisyF Try.prog 25 = false := by kernel_rfl
theorem nf26 : noisyF Try.prog 26 = false := by kernel_rfl
theorem nf27 : noisyF Try.prog 27 = false := by kernel_rfl
theorem nf28 : noisyF Try.prog 28 = false := by kernel_rfl
theorem nf29 : noisyF Try.prog 29 = false := by kernel_rfl
theorem nf30 : noisyF Try.prog 30 = false := by kernel_rfl
theorem nf31 : noisyF Try.prog 31 = false := by kernel_rfl
theorem nf32 : noisyF Try.prog 32 = false := by kernel_rfl
theorem nf33 : noisyF Try.prog 33 = false := by kernel_rfl
theorem nf34 : noisyF Try.prog 34 = false := by kernel_rfl
theorem nf35 : noisyF Try.prog 35 = false := by kernel_rfl
theorem nf36 : noisyF Try.prog 36 = false := by kernel_rfl
theorem nf37 : noisyF Try.prog 37 = false := by kernel_rfl
theorem nf38 : noisyF Try.prog 38 = false := by kernel_rfl
theorem nf39 : noisyF Try.prog 39 = false := by kernel_rfl
theorem nf40 : noisyF Try.prog 40 = false := by kernel_rfl
theorem nf41 : noisyF Try.prog 41 = false := by kernel_rfl
theorem nf42 : noisyF Try.prog 42 = false := by kernel_rfl
theorem nf43 : noisyF Try.prog 43 = false := by kernel_rfl
theorem nf44 : noisyF Try.prog 44 = false := by kernel_rfl
theorem nf45 : noisyF Try.prog 45 = false := by kernel_rfl
theorem nf46 : noisyF Try.prog 46 = false := by kernel_rfl
theorem nf47 : noisyF Try.prog 47 = false := by kernel_rfl
theorem nf48 : noisyF Try.prog 48 = false := by kernel_rfl
theorem nf49 : noisyF Try.prog 49 = false := by kernel_rfl
theorem nf50 : noisyF Try.prog 50 = false := by kernel_rfl
theorem nf51 : noisyF Try.prog 51 = false := by kernel_rfl
theorem nf52 : noisyF Try.prog 52 = false := by kernel_rfl
theorem nf53 : noisyF Try.prog 53 = false := by kernel_rfl
theorem nf54 : noisyF Try.prog 54 = false := by kernel_rfl
theorem nf55 : noisyF Try.prog 55 = false := by kernel_rfl
theorem nf56 : noisyF Try.prog 56 = false := by kernel_rfl
theorem nf57 : noisyF Try.prog 57 = false := by kernel_rfl
theorem nf58 : noisyF Try.prog 58 = false := by kernel_rfl
theorem nf59 : noisyF Try.prog 59 = false := by kernel_rfl
theorem nf60 : noisyF Try.prog 60 = true := by kernel_rfl
theorem nf61 : noisyF Try.prog 61 = true := by kernel_rfl
theorem nf62 : noisyF Try.prog 62 = false := by kernel_rfl
theorem nf63 : noisyF Try.prog 63 = false := by kernel_rfl
theorem nf64 : noisyF Try.prog 64 = false := by kernel_rfl
theorem nf65 : noisyF Try.prog 65 = false := by kernel_rfl
theorem nf66 : noisyF Try.prog 66 = true := by kernel_rfl
theorem nf67 : noisyF Try.prog 67 = true := by kernel_rfl
theorem nf68 : noisyF Try.prog 68 = false := by kernel_rfl
theorem nf69 : noisyF Try.prog 69 = false := by kernel_rfl
theorem nf70 : noisyF Try.prog 70 = false := by kernel_rfl
theorem nf71 : noisyF Try.prog 71 = false := by kernel_rfl
theorem nf72 : noisyF Try.prog 72 = false := by kernel_rfl
theorem nf73 : noisyF Try.prog 73 = false := by kernel_rfl
theorem nf74 : noisyF Try.prog 74 = false := by kernel_rfl
theorem nf75 : noisyF Try.prog 75 = false := by kernel_rfl
theorem nf76 : noisyF Try.prog 76 = false := by kernel_rfl
theorem nf77 : noisyF Try.prog 77 = false := by kernel_rfl
theorem nf78 : noisyF Try.prog 78 = false := by kernel_rfl
theorem nf79 : noisyF Try.prog 79 = false := by kernel_rfl
theorem nf80 : noisyF Try.prog 80 = true := by kernel_rfl
theorem nf81 : noisyF Try.prog 81 = true := by kernel_rfl
theorem nf82 : noisyF Try.prog 82 = false := by kernel_rfl
theorem nf83 : noisyF Try.prog 83 = false := by kernel_rfl
theorem nf84 : noisyF Try.prog 84 = false := by kernel_rfl
theorem nf85 : noisyF Try.prog 85 = false := by kernel_rfl
theorem nf86 : noisyF Try.prog 86 = false := by kernel_rfl
theorem nf87 : noisyF Try.prog 87 = false := by kernel_rfl
theorem nf88 : noisyF Try.prog 88 = true := by kernel_rfl
theorem nf89 : noisyF Try.prog 89 = true := by kernel_rfl
theorem nf90 : noisyF Try.prog 90 = true := by kernel_rfl
theorem nf91 : noisyF Try.prog 91 = false := by kernel_rfl
theorem nf92 : noisyF Try.prog 92 = false := by kernel_rfl
theorem nf93 : noisyF Try.prog 93 = false := by kernel_rfl
theorem nf94 : noisyF Try.prog 94 = false := by kernel_rfl
theorem nf95 : noisyF Try.prog 95 = false := by kernel_rfl
theorem nf96 : noisyF Try.prog 96 = false := by kernel_rfl
theorem nf97 : noisyF Try.prog 97 = false := by kernel_rfl
theorem nf98 : noisyF Try.prog 98 = false := by kernel_rfl
theorem nf99 : noisyF Try.prog 99 = false := by kernel_rfl
theorem nf100 : noisyF Try.prog 100 = false := by kernel_rfl
theorem nf101 : noisyF Try.prog 101 = false := by kernel_rfl
theorem nf102 : noisyF Try.prog 102 = false := by kernel_rfl
theorem nf103 : noisyF Try.prog 103 = false := by kernel_rfl
theorem nf104 : noisyF Try.prog 104 = false := by kernel_rfl
theorem nf105 : noisyF Try.prog 105 = false := by kernel_rfl
theorem nf106 : noisyF Try.prog 106 = false := by kernel_rfl
theorem nf107 : noisyF Try.prog 107 = false := by kernel_rfl
theorem nf108 : noisyF Try.prog 108 = false := by kernel_rfl
theorem nf124 : noisyF Try.prog 124 = true := by kernel_rfl
theorem good3 : (callable Try.prog 3 && tmpsOnly Try.f3 && decide (1 ≤ Try.f3.ntmps) && (match Try.f3.body with | some c => goodC Try.prog Try.f3.ntmps c | none => false)) = true := by kernel_rfl
theorem good4 : (callable Try.prog 4 && tmpsOnly Try.f4 && decide (2 ≤ Try.f4.ntmps) && (match Try.f4.body with | some c => goodC Try.prog Try.f4.ntmps c | none => false)) = true := by kernel_rfl
theorem good5 : (callable Try.prog 5 && tmpsOnly Try.f5 && decide (2 ≤ Try.f5.ntmps) && (match Try.f5.body with | some c => goodC Try.prog Try.f5.ntmps c | none => false)) = true := by kernel_rfl
theorem good6 : (callable Try.prog 6 && tmpsOnly Try.f6 && decide (2 ≤ Try.f6.ntmps) && (match Try.f6.body with | some c => goodC Try.prog Try.f6.ntmps c | none => false)) = true := by kernel_rfl
theorem good7 : (callable Try.prog 7 && tmpsOnly Try.f7 && decide (2 ≤ Try.f7.ntmps) && (match Try.f7.body with | some c => goodC Try.prog Try.f7.ntmps c | none => false)) = true := by kernel_rfl
theorem good8 : (callable Try.prog 8 && tmpsOnly Try.f8 && decide (2 ≤ Try.f8.ntmps) && (match Try.f8.body with | some c => goodC Try.prog Try.f8.ntmps c | none => false)) = true := by kernel_rfl
theorem good9 : (callable Try.prog 9 && tmpsOnly Try.f9 && decide (1 ≤ Try.f9.ntmps) && (match Try.f9.body with | some c => goodC Try.prog Try.f9.ntmps c | none => false)) = true := by kernel_rfl
theorem good10 : (callable Try.prog 10 && tmpsOnly Try.f10 && decide (2 ≤ Try.f10.ntmps) && (match Try.f10.body with | some c => goodC Try.prog Try.f10.ntmps c | none => false)) = true := by kernel_rfl
theorem good11 : (callable Try.prog 11 && tmpsOnly Try.f11 && decide (1 ≤ Try.f11.ntmps) && (match Try.f11.body with | some c => goodC Try.prog Try.f11.ntmps c | none => false)) = true := by kernel_rfl
theorem goodc12 : (callable Try.prog 12 && Try.f12.results.toList.all (rok Try.prog) && decide (1 ≤ Try.f12.ntmps) && (match Try.f12.body with | some c => goodC Try.prog Try.f12.ntmps c | none => false)) = true := by kernel_rfl
theorem good13 : (callable Try.prog 13 && tmpsOnly Try.f13 && decide (1 ≤ Try.f13.ntmps) && (match Try.f13.body with | some c => goodC Try.prog Try.f13.ntmps c | none => false)) = true := by kernel_rfl
theorem good14 : (callable Try.prog 14 && tmpsOnly Try.f14 && decide (2 ≤ Try.f14.ntmps) && (match Try.f14.body with | some c => goodC Try.prog Try.f14.ntmps c | none => false)) = true := by kernel_rfl
theorem good15 : (callable Try.prog 15 && tmpsOnly Try.f15 && decide (2 ≤ Try.f15.ntmps) && (match Try.f15.body with | some c => goodC Try.prog Try.f15.ntmps c | none => false)) = true := by kernel_rfl
theorem goodc16 : (callable Try.prog 16 && Try.f16.results.toList.all (rok Try.prog) && decide (2 ≤ Try.f16.ntmps) && (match Try.f16.body with | some c => goodC Try.prog Try.f16.ntmps c | none => false)) = true := by kernel_rfl
theorem goodc17 : (callable Try.prog 17 && Try.f17.results.toList.all (rok Try.prog) && decide (1 ≤ Try.f17.ntmps) && (match Try.f17.body with | some c => goodC Try.prog Try.f17.ntmps c | none => false)) = true := by kernel_rfl
theorem good18 : (callable Try.prog 18 && tmpsOnly Try.f18 && decide (1 ≤ Try.f18.ntmps) && (match Try.f18.body with | some c => goodC Try.prog Try.f18.ntmps c | none => false)) = true := by kernel_rfl
theorem goodc19 : (callable Try.prog 19 && Try.f19.results.toList.all (rok Try.prog) && decide (2 ≤ Try.f19.ntmps) && (match Try.f19.body with | some c => goodC Try.prog Try.f19.ntmps c | none => false)) = true := by kernel_rfl
theorem good20 : (callable Try.prog 20 && tmpsOnly Try.f20 && decide (2 ≤ Try.f20.ntmps) && (match Try.f20.body with | some c => goodC Try.prog Try.f20.ntmps c | none => false)) = true := by kernel_rfl
theorem good21 : (callable Try.prog 21 && tmpsOnly Try.f21 && decide (2 ≤ Try.f21.ntmps) && (match Try.f21.body with | some c => goodC Try.prog Try.f21.ntmps c | none => false)) = true := by kernel_rfl
theorem good22 : (callable Try.prog 22 && tmpsOnly Try.f22 && decide (2 ≤ Try.f22.ntmps) && (match Try.f22.body with | some c => goodC Try.prog Try.f22.ntmps c | none => false)) = true := by kernel_rfl
theorem good23 : (callable Try.prog 23 && tmpsOnly Try.f23 && decide (2 ≤ Try.f23.ntmps) && (match Try.f23.body with | some c => goodC Try.prog Try.f23.ntmps c | none => false)) = true := by kernel_rfl
theorem good24 : (callable Try.prog 24 && tmpsOnly Try.f24 && decide (2 ≤ Try.f24.ntmps) && (match Try.f24.body with | some c => goodC Try.prog Try.f24.ntmps c | none => false)) = true := by kernel_rfl
theorem good25 : (callable Try.prog 25 && tmpsOnly Try.f25 && decide (2 ≤ Try.f25.ntmps) && (match Try.f25.body with | some c => goodC Try.prog Try.f25.ntmps c | none => false)) = true := by kernel_rfl
theorem good26 : (callable Try.prog 26 && tmpsOnly Try.f26 && decide (2 ≤ Try.f26.ntmps) && (match Try.f26.body with | some c => goodC Try.prog Try.f26.ntmps c | none => false)) = true := by kernel_rfl
theorem good27 : (callable Try.prog 27 && tmpsOnly Try.f27 && decide (2 ≤ Try.f27.ntmps) && (match Try.f27.body with | some c => goodC Try.prog Try.f27.ntmps c | none => false)) = true := by kernel_rfl
theorem good28 : (callable Try.prog 28 && tmpsOnly Try.f28 && decide (2 ≤ Try.f28.ntmps) && (match Try.f28.body with | some c => goodC Try.prog Try.f28.ntmps c | none => false)) = true := by kernel_rfl
theorem goodc29 : (callable Try.prog 29 && Try.f29.results.toList.all (rok Try.prog) && decide (2 ≤ Try.f29.ntmps) && (match Try.f29.body with | some c => goodC Try.prog Try.f29.ntmps c | none => false)) = true := by kernel_rfl
theorem goodc30 : (callable Try.prog 30 && Try.f30.results.toList.all (rok Try.prog) && decide (1 ≤ Try.f30.ntmps) && (match Try.f30.body with | some c => goodC Try.prog Try.f30.ntmps c | none => false)) = true := by kernel_rfl
theorem goodc31 : (callable Try.prog 31 && Try.f31.results.toList.all (rok Try.prog) && decide (2 ≤ Try.f31.ntmps) && (match Try.f31.body with | some c => goodC Try.prog Try.f31.ntmps c | none => false)) = true := by kernel_rfl
theorem good32 : (callable Try.prog 32 && tmpsOnly Try.f32 && decide (2 ≤ Try.f32.ntmps) && (match Try.f32.body with | some c => goodC Try.prog Try.f32.ntmps c | none => false)) = true := by kernel_rfl
theorem goodc33 : (callable Try.prog 33 && Try.f33.results.toList.all (rok Try.prog) && decide (2 ≤ Try.f33.ntmps) && (match Try.f33.body with | some c => goodC Try.prog Try.f33.ntmps c | none => false)) = true := by kernel_rfl
theorem good34 : (callable Try.prog 34 && tmpsOnly Try.f34 && decide (1 ≤ Try.f34.ntmps) && (match Try.f34.body with | some c => goodC Try.prog Try.f34.ntmps c | none => false)) = true := by kernel_rfl
theorem goodc35 : (callable Try.prog 35 && Try.f35.results.toList.all (rok Try.prog) && decide (2 ≤ Try.f35.ntmps) && (match Try.f35.body with | some c => goodC Try.prog Try.f35.ntmps c | none => false)) = true := by kernel_rfl
theorem good36 : (callable Try.prog 36 && tmpsOnly Try.f36 && decide (2 ≤ Try.f36.ntmps) && (match Try.f36.body with | some c => goodC Try.prog Try.f36.ntmps c | none => false)) = true := by kernel_rfl
theorem good37 : (callable Try.prog 37 && tmpsOnly Try.f37 && decide (2 ≤ Try.f37.ntmps) && (match Try.f37.body with | some c => goodC Try.prog Try.f37.ntmps c | none => false)) = true := by kernel_rfl
theorem good38 : (callable Try.prog 38 && tmpsOnly Try.f38 && decide (1 ≤ Try.f38.ntmps) && (match Try.f38.body with | some c => goodC Try.prog Try.f38.ntmps c | none => false)) = true := by kernel_rfl
theorem good39 : (callable Try.prog 39 && tmpsOnly Try.f39 && decide (1 ≤ Try.f39.ntmps) && (match Try.f39.body with | some c => goodC Try.prog Try.f39.ntmps c | none => false)) = true := by kernel_rfl
theorem good40 : (callable Try.prog 40 && tmpsOnly Try.f40 && decide (2 ≤ Try.f40.ntmps) && (match Try.f40.body with | some c => goodC Try.prog Try.f40.ntmps c | none => false)) = true := by kernel_rfl
theorem good41 : (callable Try.prog 41 && tmpsOnly Try.f41 && decide (2 ≤ Try.f41.ntmps) && (match Try.f41.body with | some c => goodC Try.prog Try.f41.ntmps c | none => false)) = true := by kernel_rfl
theorem good42 : (callable Try.prog 42 && tmpsOnly Try.f42 && decide (1 ≤ Try.f42.ntmps) && (match Try.f42.body with | some c => goodC Try.prog Try.f42.ntmps c | none => false)) = true := by kernel_rfl
theorem good43 : (callable Try.prog 43 && tmpsOnly Try.f43 && decide (1 ≤ Try.f43.ntmps) && (match Try.f43.body with | some c => goodC Try.prog Try.f43.ntmps c | none => false)) = true := by kernel_rfl
theorem good44 : (callable Try.prog 44 && tmpsOnly Try.f44 && decide (1 ≤ Try.f44.ntmps) && (match Try.f44.body with | some c => goodC Try.prog Try.f44.ntmps c | none => false)) = true := by kernel_rfl
theorem good45 : (callable Try.prog 45 && tmpsOnly Try.f45 && decide (2 ≤ Try.f45.ntmps) && (match Try.f45.body with | some c => goodC Try.prog Try.f45.ntmps c | none => false)) = true := by kernel_rfl
theorem good46 : (callable Try.prog 46 && tmpsOnly Try.f46 && decide (1 ≤ Try.f46.ntmps) && (match Try.f46.body with | some c => goodC Try.prog Try.f46.ntmps c | none => false)) = true := by kernel_rfl
theorem good47 : (callable Try.prog 47 && tmpsOnly Try.f47 && decide (1 ≤ Try.f47.ntmps) && (match Try.f47.body with | some c => goodC Try.prog Try.f47.ntmps c | none => false)) = true := by kernel_rfl
theorem good48 : (callable Try.prog 48 && tmpsOnly Try.f48 && decide (1 ≤ Try.f48.ntmps) && (match Try.f48.body with | some c => goodC Try.prog Try.f48.ntmps c | none => false)) = true := by kernel_rfl
theorem good49 : (callable Try.prog 49 && tmpsOnly Try.f49 && decide (2 ≤ Try.f49.ntmps) && (match Try.f49.body with | some c => goodC Try.prog Try.f49.ntmps c | none => false)) = true := by kernel_rfl
theorem good50 : (callable Try.prog 50 && tmpsOnly Try.f50 && decide (2 ≤ Try.f50.ntmps) && (match Try.f50.body with | some c => goodC Try.prog Try.f50.ntmps c | none => false)) = true := by kernel_rfl
theorem good51 : (callable Try.prog 51 && tmpsOnly Try.f51 && decide (2 ≤ Try.f51.ntmps) && (match Try.f51.body with | some c => goodC Try.prog Try.f51.ntmps c | none => false)) = true := by kernel_rfl
theorem good52 : (callable Try.prog 52 && tmpsOnly Try.f52 && decide (2 ≤ Try.f52.ntmps) && (match Try.f52.body with | some c => goodC Try.prog Try.f52.ntmps c | none => false)) = true := by kernel_rfl
theorem good53 : (callable Try.prog 53 && tmpsOnly Try.f53 && decide (2 ≤ Try.f53.ntmps) && (match Try.f53.body with | some c => goodC Try.prog Try.f53.ntmps c | none => false)) = true := by kernel_rfl
theorem good54 : (callable Try.prog 54 && tmpsOnly Try.f54 && decide (1 ≤ Try.f54.ntmps) && (match Try.f54.body with | some c => goodC Try.prog Try.f54.ntmps c | none => false)) = true := by kernel_rfl
theorem good55 : (callable Try.prog 55 && tmpsOnly Try.f55 && decide (1 ≤ Try.f55.ntmps) && (match Try.f55.body with | some c => goodC Try.prog Try.f55.ntmps c | none => false)) = true := by kernel_rfl
theorem good56 : (callable Try.prog 56 && tmpsOnly Try.f56 && decide (2 ≤ Try.f56.ntmps) && (match Try.f56.body with | some c => goodC Try.prog Try.f56.ntmps c | none => false)) = true := by kernel_rfl
theorem good57 : (callable Try.prog 57 && tmpsOnly Try.f57 && decide (2 ≤ Try.f57.ntmps) && (match Try.f57.body with | some c => goodC Try.prog Try.f57.ntmps c | none => false)) = true := by kernel_rfl
theorem good58 : (callable Try.prog 58 && tmpsOnly Try.f58 && decide (2 ≤ Try.f58.ntmps) && (match Try.f58.body with | some c => goodC Try.prog Try.f58.ntmps c | none => false)) = true := by kernel_rfl
theorem good59 : (callable Try.prog 59 && tmpsOnly Try.f59 && decide (1 ≤ Try.f59.ntmps) && (match Try.f59.body with | some c => goodC Try.prog Try.f59.ntmps c | none => false)) = true := by kernel_rfl
theorem good60 : (callable Try.prog 60 && tmpsOnly Try.f60 && decide (2 ≤ Try.f60.ntmps) && (match Try.f60.body with | some c => goodC Try.prog Try.f60.ntmps c | none => false)) = true := by kernel_rfl
theorem good61 : (callable Try.prog 61 && tmpsOnly Try.f61 && decide (2 ≤ Try.f61.ntmps) && (match Try.f61.body with | some c => goodC Try.prog Try.f61.ntmps c | none => false)) = true := by kernel_rfl
theorem goodc62 : (callable Try.prog 62 && Try.f62.results.toList.all (rok Try.prog) && decide (1 ≤ Try.f62.ntmps) && (match Try.f62.body with | some c => goodC Try.prog Try.f62.ntmps c | none => false)) = true := by kernel_rfl
theorem good63 : (callable Try.prog 63 && tmpsOnly Try.f63 && decide (3 ≤ Try.f63.ntmps) && (match Try.f63.body with | some c => goodC Try.prog Try.f63.ntmps c | none => false)) = true := by kernel_rfl
theorem good64 : (callable Try.prog 64 && tmpsOnly Try.f64 && decide (4 ≤ Try.f64.ntmps) && (match Try.f64.body with | some c => goodC Try.prog Try.f64.ntmps c | none => false)) = true := by kernel_rfl
theorem good65 : (callable Try.prog 65 && tmpsOnly Try.f65 && decide (3 ≤ Try.f65.ntmps) && (match Try.f65.body with | some c => goodC Try.prog Try.f65.ntmps c | none => false)) = true := by kernel_rfl
theorem good66 : (callable Try.prog 66 && tmpsOnly Try.f66 && decide (2 ≤ Try.f66.ntmps) && (match Try.f66.body with | some c => goodC Try.prog Try.f66.ntmps c | none => false)) = true := by kernel_rfl
theorem goodc67 : (callable Try.prog 67 && Try.f67.results.toList.all (rok Try.prog) && decide (1 ≤ Try.f67.ntmps) && (match Try.f67.body with | some c => goodC Try.prog Try.f67.ntmps c | none => false)) = true := by kernel_rfl
theorem good68 : (callable Try.prog 68 && tmpsOnly Try.f68 && decide (2 ≤ Try.f68.ntmps) && (match Try.f68.body with | some c => goodC Try.prog Try.f68.ntmps c | none => false)) = true := by kernel_rfl
theorem good69 : (callable Try.prog 69 && tmpsOnly Try.f69 && decide (1 ≤ Try.f69.ntmps) && (match Try.f69.body with | some c => goodC Try.prog Try.f69.ntmps c | none => false)) = true := by kernel_rfl
theorem good70 : (callable Try.prog 70 && tmpsOnly Try.f70 && decide (1 ≤ Try.f70.ntmps) && (match Try.f70.body with | some c => goodC Try.prog Try.f70.ntmps c | none => false)) = true := by kernel_rfl
theorem good71 : (callable Try.prog 71 && tmpsOnly Try.f71 && decide (2 ≤ Try.f71.ntmps) && (match Try.f71.body with | some c => goodC Try.prog Try.f71.ntmps c | none => false)) = true := by kernel_rfl
theorem goodc72 : (callable Try.prog 72 && Try.f72.results.toList.all (rok Try.prog) && decide (1 ≤ Try.f72.ntmps) && (match Try.f72.body with | some c => goodC Try.prog Try.f72.ntmps c | none => false)) = true := by kernel_rfl
theorem good73 : (callable Try.prog 73 && tmpsOnly Try.f73 && decide (1 ≤ Try.f73.ntmps) && (match Try.f73.body with | some c => goodC Try.prog Try.f73.ntmps c | none => false)) = true := by kernel_rfl
theorem good74 : (callable Try.prog 74 && tmpsOnly Try.f74 && decide (1 ≤ Try.f74.ntmps) && (match Try.f74.body with | some c => goodC Try.prog Try.f74.ntmps c | none => false)) = true := by kernel_rfl
theorem good75 : (callable Try.prog 75 && tmpsOnly Try.f75 && decide (2 ≤ Try.f75.ntmps) && (match Try.f75.body with | some c => goodC Try.prog Try.f75.ntmps c | none => false)) = true := by kernel_rfl
theorem good76 : (callable Try.prog 76 && tmpsOnly Try.f76 && decide (3 ≤ Try.f76.ntmps) && (match Try.f76.body with | some c => goodC Try.prog Try.f76.ntmps c | none => false)) = true := by kernel_rfl
theorem good77 : (callable Try.prog 77 && tmpsOnly Try.f77 && decide (2 ≤ Try.f77.ntmps) && (match Try.f77.body with | some c => goodC Try.prog Try.f77.ntmps c | none => false)) = true := by kernel_rfl
theorem good78 : (callable Try.prog 78 && tmpsOnly Try.f78 && decide (2 ≤ Try.f78.ntmps) && (match Try.f78.body with | some c => goodC Try.prog Try.f78.ntmps c | none => false)) = true := by kernel_rfl
theorem good79 : (callable Try.prog 79 && tmpsOnly Try.f79 && decide (1 ≤ Try.f79.ntmps) && (match Try.f79.body with | some c => goodC Try.prog Try.f79.ntmps c | none => false)) = true := by kernel_rfl
theorem good80 : (callable Try.prog 80 && tmpsOnly Try.f80 && decide (2 ≤ Try.f80.ntmps) && (match Try.f80.body with | some c => goodC Try.prog Try.f80.ntmps c | none => false)) = true := by kernel_rfl
theorem good81 : (callable Try.prog 81 && tmpsOnly Try.f81 && decide (2 ≤ Try.f81.ntmps) && (match Try.f81.body with | some c => goodC Try.prog Try.f81.ntmps c | none => false)) = true := by kernel_rfl
theorem good82 : (callable Try.prog 82 && tmpsOnly Try.f82 && decide (3 ≤ Try.f82.ntmps) && (match Try.f82.body with | some c => goodC Try.prog Try.f82.ntmps c | none => false)) = true := by kernel_rfl
theorem good83 : (callable Try.prog 83 && tmpsOnly Try.f83 && decide (4 ≤ Try.f83.ntmps) && (match Try.f83.body with | some c => goodC Try.prog Try.f83.ntmps c | none => false)) = true := by kernel_rfl
theorem good84 : (callable Try.prog 84 && tmpsOnly Try.f84 && decide (2 ≤ Try.f84.ntmps) && (match Try.f84.body with | some c => goodC Try.prog Try.f84.ntmps c | none => false)) = true := by kernel_rfl
theorem good85 : (callable Try.prog 85 && tmpsOnly Try.f85 && decide (4 ≤ Try.f85.ntmps) && (match Try.f85.body with | some c => goodC Try.prog Try.f85.ntmps c | none => false)) = true := by kernel_rfl
theorem good86 : (callable Try.prog 86 && tmpsOnly Try.f86 && decide (2 ≤ Try.f86.ntmps) && (match Try.f86.body with | some c => goodC Try.prog Try.f86.ntmps c | none => false)) = true := by kernel_rfl
theorem good87 : (callable Try.prog 87 && tmpsOnly Try.f87 && decide (2 ≤ Try.f87.ntmps) && (match Try.f87.body with | some c => goodC Try.prog Try.f87.ntmps c | none => false)) = true := by kernel_rfl
theorem good88 : (callable Try.prog 88 && tmpsOnly Try.f88 && decide (3 ≤ Try.f88.ntmps) && (match Try.f88.body with | some c => goodC Try.prog Try.f88.ntmps c | none => false)) = true := by kernel_rfl
theorem good89 : (callable Try.prog 89 && tmpsOnly Try.f89 && decide (2 ≤ Try.f89.ntmps) && (match Try.f89.body with | some c => goodC Try.prog Try.f89.ntmps c | none => false)) = true := by kernel_rfl
theorem good90 : (callable Try.prog 90 && tmpsOnly Try.f90 && decide (3 ≤ Try.f90.ntmps) && (match Try.f90.body with | some c => goodC Try.prog Try.f90.ntmps c | none => false)) = true := by kernel_rfl
theorem good91 : (callable Try.prog 91 && tmpsOnly Try.f91 && decide (2 ≤ Try.f91.ntmps) && (match Try.f91.body with | some c => goodC Try.prog Try.f91.ntmps c | none => false)) = true := by kernel_rfl
theorem good92 : (callable Try.prog 92 && tmpsOnly Try.f92 && decide (2 ≤ Try.f92.ntmps) && (match Try.f92.body with | some c => goodC Try.prog Try.f92.ntmps c | none => false)) = true := by kernel_rfl
theorem good93 : (callable Try.prog 93 && tmpsOnly Try.f93 && decide (3 ≤ Try.f93.ntmps) && (match Try.f93.body with | some c => goodC Try.prog Try.f93.ntmps c | none => false)) = true := by kernel_rfl
theorem good94 : (callable Try.prog 94 && tmpsOnly Try.f94 && decide (3 ≤ Try.f94.ntmps) && (match Try.f94.body with | some c => goodC Try.prog Try.f94.ntmps c | none => false)) = true := by kernel_rfl
theorem good95 : (callable Try.prog 95 && tmpsOnly Try.f95 && decide (2 ≤ Try.f95.ntmps) && (match Try.f95.body with | some c => goodC Try.prog Try.f95.ntmps c | none => false)) = true := by kernel_rfl
theorem good96 : (callable Try.prog 96 && tmpsOnly Try.f96 && decide (4 ≤ Try.f96.ntmps) && (match Try.f96.body with | some c => goodC Try.prog Try.f96.ntmps c | none => false)) = true := by kernel_rfl
theorem good97 : (callable Try.prog 97 && tmpsOnly Try.f97 && decide (3 ≤ Try.f97.ntmps) && (match Try.f97.body with | some c => goodC Try.prog Try.f97.ntmps c | none => false)) = true := by kernel_rfl
theorem good98 : (callable Try.prog 98 && tmpsOnly Try.f98 && decide (4 ≤ Try.f98.ntmps) && (match Try.f98.body with | some c => goodC Try.prog Try.f98.ntmps c | none => false)) = true := by kernel_rfl
theorem good99 : (callable Try.prog 99 && tmpsOnly Try.f99 && decide (4 ≤ Try.f99.ntmps) && (match Try.f99.body with | some c => goodC Try.prog Try.f99.ntmps c | none => false)) = true := by kernel_rfl
theorem good100 : (callable Try.prog 100 && tmpsOnly Try.f100 && decide (2 ≤ Try.f100.ntmps) && (match Try.f100.body with | some c => goodC Try.prog Try.f100.ntmps c | none => false)) = true := by kernel_rfl
theorem good101 : (callable Try.prog 101 && tmpsOnly Try.f101 && decide (3 ≤ Try.f101.ntmps) && (match Try.f101.body with | some c => goodC Try.prog Try.f101.ntmps c | none => false)) = true := by kernel_rfl
theorem good102 : (callable Try.prog 102 && tmpsOnly Try.f102 && decide (3 ≤ Try.f102.ntmps) && (match Try.f102.body with | some c => goodC Try.prog Try.f102.ntmps c | none => false)) = true := by kernel_rfl
theorem good103 : (callable Try.prog 103 && tmpsOnly Try.f103 && decide (3 ≤ Try.f103.ntmps) && (match Try.f103.body with | some c => goodC Try.prog Try.f103.ntmps c | none => false)) = true := by kernel_rfl
theorem good104 : (callable Try.prog 104 && tmpsOnly Try.f104 && decide (2 ≤ Try.f104.ntmps) && (match Try.f104.body with | some c => goodC Try.prog Try.f104.ntmps c | none => false)) = true := by kernel_rfl
theorem good105 : (callable Try.prog 105 && tmpsOnly Try.f105 && decide (2 ≤ Try.f105.ntmps) && (match Try.f105.body with | some c => goodC Try.prog Try.f105.ntmps c | none => false)) = true := by kernel_rfl
theorem good106 : (callable Try.prog 106 && tmpsOnly Try.f106 && decide (4 ≤ Try.f106.ntmps) && (match Try.f106.body with | some c => goodC Try.prog Try.f106.ntmps c | none => false)) = true := by kernel_rfl
theorem good107 : (callable Try.prog 107 && tmpsOnly Try.f107 && decide (3 ≤ Try.f107.ntmps) && (match Try.f107.body with | some c => goodC Try.prog Try.f107.ntmps c | none => false)) = true := by kernel_rfl
theorem good108 : (callable Try.prog 108 && tmpsOnly Try.f108 && decide (3 ≤ Try.f108.ntmps) && (match Try.f108.body with | some c => goodC Try.prog Try.f108.ntmps c | none => false)) = true := by kernel_rfl
abbrev chr (n : Nat) : Char := Char.ofNat n
set_option maxRecDepth 20000 in
theorem initS : Try.prog.initOrder.toList = [chr 104, chr 97, chr 114, chr 110, chr 101, chr 115, chr 115, chr 32, chr 55, chr 100, chr 55, chr 101, chr 48, chr 48, chr 49, chr 97, chr 99, chr 48, chr 102, chr 100, chr 53, chr 98, chr 102, chr 102, chr 56, chr 52, chr 97, chr 53, chr 56, chr 97, chr 50, chr 55, chr 102, chr 98, chr 53, chr 55, chr 102, chr 56, chr 57, chr 57, chr 49, chr 98, chr 56, chr 100, chr 56, chr 49, chr 97, chr 54, chr 57, chr 57, chr 51, chr 56, chr 50, chr 57, chr 52, chr 99, chr 101, chr 51, chr 101, chr 101, chr 57, chr 98, chr 48, chr 48, chr 52, chr 101, chr 101, chr 56, chr 50, chr 56, chr 51, chr 101, chr 32, chr 99, chr 117, chr 116, chr 32, chr 97, chr 116, chr 32, chr 108, chr 111, chr 111, chr 112, chr 46, chr 101, chr 120, chr 97, chr 109, chr 112, chr 108, chr 101, chr 47, chr 99, chr 105, chr 114, chr 99, chr 117, chr 105, chr 116, chr 115, chr 119, chr 105, chr 116, chr 99, chr 104, chr 105, chr 110, chr 103, chr 47, chr 108, chr 97, chr 119, chr 115, chr 46, chr 70, chr 110, chr 69, chr 120, chr 97, chr 99, chr 116, chr 69, chr 120, chr 99, chr 104, chr 97, chr 110, chr 103, chr 101, chr 86, chr 97, chr 108, chr 105, chr 100, chr 32, chr 108, chr 111, chr 111, chr 112, chr 46, chr 101, chr 120, chr 97, chr 109, chr 112, chr 108, chr 101, chr 47, chr 99, chr 105, chr 114, chr 99, chr 117, chr 105, chr 116, chr 115, chr 119, chr 105, chr 116, chr 99, chr 104, chr 105, chr 110, chr 103, chr 47, chr 108, chr 97, chr 119, chr 115, chr 46, chr 70, chr 110, chr 69, chr 120, chr 97, chr 99, chr 116, chr 69, chr 120, chr 99, chr 104, chr 97, chr 110, chr 103, chr 101, chr 78, chr 101, chr 119, chr 32, chr 108, chr 111, chr 111, chr 112, chr 46, chr 101, chr 120, chr 97, chr 109, chr 112, chr 108, chr 101, chr 47, chr 99, chr 105, chr 114, chr 99, chr 117, chr 105, chr 116, chr 115, chr 119, chr 105, chr 116, chr 99, chr 104, chr 105, chr 110, chr 103, chr 47, chr 108, chr 97, chr 119, chr 115, chr 46, chr 70, chr 110, chr 69, chr 120, chr 97, chr 99, chr 116, chr 80, chr 101, chr 101, chr 114, chr 79, chr 102, chr 32, chr 108, chr 111, chr 111, chr 112, chr 46, chr 101, chr 120, chr 97, chr 109, chr 112, chr 108, chr 101, chr 47, chr 99, chr 105, chr 114, chr 99, chr 117, chr 105, chr 116, chr 115, chr 119, chr 105, chr 116, chr 99, chr 104, chr 105, chr 110, chr 103, chr 47, chr 108, chr 97, chr 119, chr 115, chr 46, chr 70, chr 110, chr 69, chr 120, chr 97, chr 99, chr 116, chr 76, chr 105, chr 110, chr 101, chr 79, chr 102, chr 32, chr 108, chr 111, chr 111, chr 112, chr 46, chr 101, chr 120, chr 97, chr 109, chr 112, chr 108, chr 101, chr 47, chr 99, chr 105, chr 114, chr 99, chr 117, chr 105, chr 116, chr 115, chr 119, chr 105, chr 116, chr 99, chr 104, chr 105, chr 110, chr 103, chr 47, chr 108, chr 97, chr 119, chr 115, chr 46, chr 70, chr 110, chr 69, chr 120, chr 97, chr 99, chr 116, chr 69, chr 120, chr 68, chr 111, chr 32, chr 108, chr 111, chr 111, chr 112, chr 46, chr 101, chr 120, chr 97, chr 109, chr 112, chr 108, chr 101, chr 47, chr 99, chr 105, chr 114, chr 99, chr 117, chr 105, chr 116, chr 115, chr 119, chr 105, chr 116, chr 99, chr 104, chr 105, chr 110, chr 103, chr 47, chr 108, chr 97, chr 119, chr 115, chr 46, chr 70, chr 110, chr 69, chr 120, chr 97, chr 99, chr 116, chr 69, chr 120, chr 82, chr 117, chr 110, chr 32, chr 108, chr 111, chr 111, chr 112, chr 46, chr 101, chr 120, chr 97, chr 109, chr 112, chr 108, chr 101, chr 47, chr 99, chr 105, chr 114, chr 99, chr 117, chr 105, chr 116, chr 115, chr 119, chr 105, chr 116, chr 99, chr 104, chr 105, chr 110, chr 103, chr 47, chr 108, chr 97, chr 119, chr 115, chr 46, chr 70, chr 110, chr 69, chr 120, chr 97, chr 99, chr 116, chr 78, chr 105, chr 103, chr 104, chr 116, chr 68, chr 101, chr 101, chr 100, chr 115] := by
  rw [show Try.prog.initOrder = String.ofList [chr 104, chr 97, chr 114, chr 110, chr 101, chr 115, chr 115, chr 32, chr 55, chr 100, chr 55, chr 101, chr 48, chr 48, chr 49, chr 97, chr 99, chr 48, chr 102, chr 100, chr 53, chr 98, chr 102, chr 102, chr 56, chr 52, chr 97, chr 53, chr 56, chr 97, chr 50, chr 55, chr 102, chr 98, chr 53, chr 55, chr 102, chr 56, chr 57, chr 57, chr 49, chr 98, chr 56, chr 100, chr 56, chr 49, chr 97, chr 54, chr 57, chr 57, chr 51, chr 56, chr 50, chr 57, chr 52, chr 99, chr 101, chr 51, chr 101, chr 101, chr 57, chr 98, chr 48, chr 48, chr 52, chr 101, chr 101, chr 56, chr 50, chr 56, chr 51, chr 101, chr 32, chr 99, chr 117, chr 116, chr 32, chr 97, chr 116, chr 32, chr 108, chr 111, chr 111, chr 112, chr 46, chr 101, chr 120, chr 97, chr 109, chr 112, chr 108, chr 101, chr 47, chr 99, chr 105, chr 114, chr 99, chr 117, chr 105, chr 116, chr 115, chr 119, chr 105, chr 116, chr 99, chr 104, chr 105, chr 110, chr 103, chr 47, chr 108, chr 97, chr 119, chr 115, chr 46, chr 70, chr 110, chr 69, chr 120, chr 97, chr 99, chr 116, chr 69, chr 120, chr 99, chr 104, chr 97, chr 110, chr 103, chr 101, chr 86, chr 97, chr 108, chr 105, chr 100, chr 32, chr 108, chr 111, chr 111, chr 112, chr 46, chr 101, chr 120, chr 97, chr 109, chr 112, chr 108, chr 101, chr 47, chr 99, chr 105, chr 114, chr 99, chr 117, chr 105, chr 116, chr 115, chr 119, chr 105, chr 116, chr 99, chr 104, chr 105, chr 110, chr 103, chr 47, chr 108, chr 97, chr 119, chr 115, chr 46, chr 70, chr 110, chr 69, chr 120, chr 97, chr 99, chr 116, chr 69, chr 120, chr 99, chr 104, chr 97, chr 110, chr 103, chr 101, chr 78, chr 101, chr 119, chr 32, chr 108, chr 111, chr 111, chr 112, chr 46, chr 101, chr 120, chr 97, chr 109, chr 112, chr 108, chr 101, chr 47, chr 99, chr 105, chr 114, chr 99, chr 117, chr 105, chr 116, chr 115, chr 119, chr 105, chr 116, chr 99, chr 104, chr 105, chr 110, chr 103, chr 47, chr 108, chr 97, chr 119, chr 115, chr 46, chr 70, chr 110, chr 69, chr 120, chr 97, chr 99, chr 116, chr 80, chr 101, chr 101, chr 114, chr 79, chr 102, chr 32, chr 108, chr 111, chr 111, chr 112, chr 46, chr 101, chr 120, chr 97, chr 109, chr 112, chr 108, chr 101, chr 47, chr 99, chr 105, chr 114, chr 99, chr 117, chr 105, chr 116, chr 115, chr 119, chr 105, chr 116, chr 99, chr 104, chr 105, chr 110, chr 103, chr 47, chr 108, chr 97, chr 119, chr 115, chr 46, chr 70, chr 110, chr 69, chr 120, chr 97, chr 99, chr 116, chr 76, chr 105, chr 110, chr 101, chr 79, chr 102, chr 32, chr 108, chr 111, chr 111, chr 112, chr 46, chr 101, chr 120, chr 97, chr 109, chr 112, chr 108, chr 101, chr 47, chr 99, chr 105, chr 114, chr 99, chr 117, chr 105, chr 116, chr 115, chr 119, chr 105, chr 116, chr 99, chr 104, chr 105, chr 110, chr 103, chr 47, chr 108, chr 97, chr 119, chr 115, chr 46, chr 70, chr 110, chr 69, chr 120, chr 97, chr 99, chr 116, chr 69, chr 120, chr 68, chr 111, chr 32, chr 108, chr 111, chr 111, chr 112, chr 46, chr 101, chr 120, chr 97, chr 109, chr 112, chr 108, chr 101, chr 47, chr 99, chr 105, chr 114, chr 99, chr 117, chr 105, chr 116, chr 115, chr 119, chr 105, chr 116, chr 99, chr 104, chr 105, chr 110, chr 103, chr 47, chr 108, chr 97, chr 119, chr 115, chr 46, chr 70, chr 110, chr 69, chr 120, chr 97, chr 99, chr 116, chr 69, chr 120, chr 82, chr 117, chr 110, chr 32, chr 108, chr 111, chr 111, chr 112, chr 46, chr 101, chr 120, chr 97, chr 109, chr 112, chr 108, chr 101, chr 47, chr 99, chr 105, chr 114, chr 99, chr 117, chr 105, chr 116, chr 115, chr 119, chr 105, chr 116, chr 99, chr 104, chr 105, chr 110, chr 103, chr 47, chr 108, chr 97, chr 119, chr 115, chr 46, chr 70, chr 110, chr 69, chr 120, chr 97, chr 99, chr 116, chr 78, chr 105, chr 103, chr 104, chr 116, chr 68, chr 101, chr 101, chr 100, chr 115] from by kernel_rfl, String.toList_ofList]
set_option maxRecDepth 20000 in
theorem behind : behindMainWord (wordsSigns Try.prog.initOrder.toList) = cutW :: [[chr 97, chr 116], [chr 108, chr 111, chr 111, chr 112, chr 46, chr 101, chr 120, chr 97, chr 109, chr 112, chr 108, chr 101, chr 47, chr 99, chr 105, chr 114, chr 99, chr 117, chr 105, chr 116, chr 115, chr 119, chr 105, chr 116, chr 99, chr 104, chr 105, chr 110, chr 103, chr 47, chr 108, chr 97, chr 119, chr 115, chr 46, chr 70, chr 110, chr 69, chr 120, chr 97, chr 99, chr 116, chr 69, chr 120, chr 99, chr 104, chr 97, chr 110, chr 103, chr 101, chr 86, chr 97, chr 108, chr 105, chr 100], [chr 108, chr 111, chr 111, chr 112, chr 46, chr 101, chr 120, chr 97, chr 109, chr 112, chr 108, chr 101, chr 47, chr 99, chr 105, chr 114, chr 99, chr 117, chr 105, chr 116, chr 115, chr 119, chr 105, chr 116, chr 99, chr 104, chr 105, chr 110, chr 103, chr 47, chr 108, chr 97, chr 119, chr 115, chr 46, chr 70, chr 110, chr 69, chr 120, chr 97, chr 99, chr 116, chr 69, chr 120, chr 99, chr 104, chr 97, chr 110, chr 103, chr 101, chr 78, chr 101, chr 119], [chr 108, chr 111, chr 111, chr 112, chr 46, chr 101, chr 120, chr 97, chr 109, chr 112, chr 108, chr 101, chr 47, chr 99, chr 105, chr 114, chr 99, chr 117, chr 105, chr 116, chr 115, chr 119, chr 105, chr 116, chr 99, chr 104, chr 105, chr 110, chr 103, chr 47, chr 108, chr 97, chr 119, chr 115, chr 46, chr 70, chr 110, chr 69, chr 120, chr 97, chr 99, chr 116, chr 80, chr 101, chr 101, chr 114, chr 79, chr 102], [chr 108, chr 111, chr 111, chr 112, chr 46, chr 101, chr 120, chr 97, chr 109, chr 112, chr 108, chr 101, chr 47, chr 99, chr 105, chr 114, chr 99, chr 117, chr 105, chr 116, chr 115, chr 119, chr 105, chr 116, chr 99, chr 104, chr 105, chr 110, chr 103, chr 47, chr 108, chr 97, chr 119, chr 115, chr 46, chr 70, chr 110, chr 69, chr 120, chr 97, chr 99, chr 116, chr 76, chr 105, chr 110, chr 101, chr 79, chr 102], [chr 108, chr 111, chr 111, chr 112, chr 46, chr 101, chr 120, chr 97, chr 109, chr 112, chr 108, chr 101, chr 47, chr 99, chr 105, chr 114, chr 99, chr 117, chr 105, chr 116, chr 115, chr 119, chr 105, chr 116, chr 99, chr 104, chr 105, chr 110, chr 103, chr 47, chr 108, chr 97, chr 119, chr 115, chr 46, chr 70, chr 110, chr 69, chr 120, chr 97, chr 99, chr 116, chr 69, chr 120, chr 68, chr 111], [chr 108, chr 111, chr 111, chr 112, chr 46, chr 101, chr 120, chr 97, chr 109, chr 112, chr 108, chr 101, chr 47, chr 99, chr 105, chr 114, chr 99, chr 117, chr 105, chr 116, chr 115, chr 119, chr 105, chr 116, chr 99, chr 104, chr 105, chr 110, chr 103, chr 47, chr 108, chr 97, chr 119, chr 115, chr 46, chr 70, chr 110, chr 69, chr 120, chr 97, chr 99, chr 116, chr 69, chr 120, chr 82, chr 117, chr 110], [chr 108, chr 111, chr 111, chr 112, chr 46, chr 101, chr 120, chr 97, chr 109, chr 112, chr 108, chr 101, chr 47, chr 99, chr 105, chr 114, chr 99, chr 117, chr 105, chr 116, chr 115, chr 119, chr 105, chr 116, chr 99, chr 104, chr 105, chr 110, chr 103, chr 47, chr 108, chr 97, chr 119, chr 115, chr 46, chr 70, chr 110, chr 69, chr 120, chr 97, chr 99, chr 116, chr 78, chr 105, chr 103, chr 104, chr 116, chr 68, chr 101, chr 101, chr 100, chr 115]] := by
  rw [initS]; kernel_rfl
theorem mayE : Try.prog.mayEnter = true := may_of behind (by kernel_rfl) (by kernel_rfl) (by kernel_rfl)
theorem liftsE : Try.prog.liftsFinal = false := lifts_of behind
theorem makeE : Try.prog.make = some .cut := mk_of behind
theorem vcu0 : type_of% (And.intro (And.intro (And.intro (And.intro (@decide_true) (@decide_false)) (And.intro (@Bool.or_false) (@Bool.or_true))) (And.intro (And.intro (@Bool.false_or) (@Bool.true_or)) (And.intro (@noisy_nil) (@nq_move)))) (And.intro (And.intro (And.intro (@nq_assign) (@nq_pick)) (And.intro (@nq_binOp) (@nq_unOp))) (And.intro (And.intro (@nq_convert) (@nq_nilCheck)) (And.intro (@nq_indexAddr) (@nq_index))))) := (And.intro (And.intro (And.intro (And.intro (@decide_true) (@decide_false)) (And.intro (@Bool.or_false) (@Bool.or_true))) (And.intro (And.intro (@Bool.false_or) (@Bool.true_or)) (And.intro (@noisy_nil) (@nq_move)))) (And.intro (And.intro (And.intro (@nq_assign) (@nq_pick)) (And.intro (@nq_binOp) (@nq_unOp))) (And.intro (And.intro (@nq_convert) (@nq_nilCheck)) (And.intro (@nq_indexAddr) (@nq_index)))))
theorem vcu1 : type_of% (And.intro (And.intro (And.intro (And.intro (@nq_load) (@nq_field)) (And.intro (@nq_fieldAddr) (@nq_extract))) (And.intro (And.intro (@nq_build) (@nq_makeFunc)) (And.intro (@nq_slice) (@nq_len)))) (And.intro (And.intro (And.intro (@nq_min) (@nq_max)) (And.intro (@nq_call) (@nl_callv))) (And.intro (And.intro (@nl_append) (@nl_copy)) (And.intro (@nl_clear) (@nl_alloc))))) := (And.intro (And.intro (And.intro (And.intro (@nq_load) (@nq_field)) (And.intro (@nq_fieldAddr) (@nq_extract))) (And.intro (And.intro (@nq_build) (@nq_makeFunc)) (And.intro (@nq_slice) (@nq_len)))) (And.intro (And.intro (And.intro (@nq_min) (@nq_max)) (And.intro (@nq_call) (@nl_callv))) (And.intro (And.intro (@nl_append) (@nl_copy)) (And.intro (@nl_clear) (@nl_alloc)))))
theorem vcu2 : type_of% (And.intro (And.intro (And.intro (And.intro (@nl_box) (@nl_store)) (And.intro (@nl_makeSlice) (@nl_buildSlice))) (And.intro (And.intro (@nl_slice3) (@bindO_some)) (And.intro (@bindI_some) (@bindS_some)))) (And.intro (And.intro (And.intro (@pickR_yes) (@pickR_no)) (And.intro (@pickR_tt) (@pickR_ff))) (And.intro (And.intro (@gvb_some) (@vb_bool)) (And.intro (@vb_undef) (@gslot_zero))))) := (And.intro (And.intro (And.intro (And.intro (@nl_box) (@nl_store)) (And.intro (@nl_makeSlice) (@nl_buildSlice))) (And.intro (And.intro (@nl_slice3) (@bindO_some)) (And.intro (@bindI_some) (@bindS_some)))) (And.intro (And.intro (And.intro (@pickR_yes) (@pickR_no)) (And.intro (@pickR_tt) (@pickR_ff))) (And.intro (And.intro (@gvb_some) (@vb_bool)) (And.intro (@vb_undef) (@gslot_zero)))))
theorem vcu3 : type_of% (And.intro (And.intro (And.intro (And.intro (@gslot_succ) (@guardR_tt)) (And.intro (@guardR_ff) (@guardR_tf))) (And.intro (And.intro (@guardR_ft) (@guardR_nt)) (And.intro (@guardR_pt) (@guardR_pf)))) (And.intro (And.intro (And.intro (@guardR_nT) (@guardR_nF)) (And.intro (@aput_some) (@aput_none))) (And.intro (And.intro (@condR_true) (@condR_false)) (And.intro (@condR_yes) (@condR_no))))) := (And.intro (And.intro (And.intro (And.intro (@gslot_succ) (@guardR_tt)) (And.intro (@guardR_ff) (@guardR_tf))) (And.intro (And.intro (@guardR_ft) (@guardR_nt)) (And.intro (@guardR_pt) (@guardR_pf)))) (And.intro (And.intro (And.intro (@guardR_nT) (@guardR_nF)) (And.intro (@aput_some) (@aput_none))) (And.intro (And.intro (@condR_true) (@condR_false)) (And.intro (@condR_yes) (@condR_no)))))
theorem vcu4 : type_of% (And.intro (And.intro (And.intro (And.intro (@condR_not) (@Bool.not_true)) (And.intro (@Bool.not_false) (@ev_const))) (And.intro (And.intro (@ev_tmp) (@ev_func)) (And.intro (@fset_app) (@abin_add)))) (And.intro (And.intro (And.intro (@abin_sub) (@abin_mul)) (And.intro (@abin_quo) (@abin_rem))) (And.intro (And.intro (@abin_eql) (@abin_neq)) (And.intro (@abin_lss) (@abin_leq))))) := (And.intro (And.intro (And.intro (And.intro (@condR_not) (@Bool.not_true)) (And.intro (@Bool.not_false) (@ev_const))) (And.intro (And.intro (@ev_tmp) (@ev_func)) (And.intro (@fset_app) (@abin_add)))) (And.intro (And.intro (And.intro (@abin_sub) (@abin_mul)) (And.intro (@abin_quo) (@abin_rem))) (And.intro (And.intro (@abin_eql) (@abin_neq)) (And.intro (@abin_lss) (@abin_leq)))))
theorem vcu5 : type_of% (And.intro (And.intro (And.intro (And.intro (@abin_gtr) (@abin_geq)) (And.intro (@abin_seql) (@abin_sneq))) (And.intro (And.intro (@abin_sadd) (@bindX_some)) (And.intro (@tx_nil) (@tx_empty)))) (And.intro (And.intro (And.intro (@aun_not) (@aun_neg)) (And.intro (@aconvH_int) (@amin_two))) (And.intro (And.intro (@amax_two) (@anil_ptr)) (And.intro (@aextract_tuple) (@dec_true))))) := (And.intro (And.intro (And.intro (And.intro (@abin_gtr) (@abin_geq)) (And.intro (@abin_seql) (@abin_sneq))) (And.intro (And.intro (@abin_sadd) (@bindX_some)) (And.intro (@tx_nil) (@tx_empty)))) (And.intro (And.intro (And.intro (@aun_not) (@aun_neg)) (And.intro (@aconvH_int) (@amin_two))) (And.intro (And.intro (@amax_two) (@anil_ptr)) (And.intro (@aextract_tuple) (@dec_true)))))
theorem vcu6 : type_of% (And.intro (And.intro (And.intro (And.intro (@dec_false) (@Nat.mul_one)) (And.intro (@Int.toNat_natCast) (@not_not_p))) (And.intro (And.intro (@aenter_zero) (@aenter_succ)) (And.intro (abin_beql' bo4) (abin_bneq' bo4)))) (And.intro (And.intro (And.intro (alenV_tx' Try.underlying9) (aslice_thi' Try.underlying9)) (And.intro (aslice_tlo' Try.underlying9) (aslice_tlohi' Try.underlying9))) (And.intro (And.intro (alenV_tx' Try.underlying10) (aslice_thi' Try.underlying10)) (And.intro (aslice_tlo' Try.underlying10) (aslice_tlohi' Try.underlying10))))) := (And.intro (And.intro (And.intro (And.intro (@dec_false) (@Nat.mul_one)) (And.intro (@Int.toNat_natCast) (@not_not_p))) (And.intro (And.intro (@aenter_zero) (@aenter_succ)) (And.intro (abin_beql' bo4) (abin_bneq' bo4)))) (And.intro (And.intro (And.intro (alenV_tx' Try.underlying9) (aslice_thi' Try.underlying9)) (And.intro (aslice_tlo' Try.underlying9) (aslice_tlohi' Try.underlying9))) (And.intro (And.intro (alenV_tx' Try.underlying10) (aslice_thi' Try.underlying10)) (And.intro (aslice_tlo' Try.underlying10) (aslice_tlohi' Try.underlying10)))))
theorem vcu7 : type_of% (And.intro (And.intro (And.intro (And.intro (alenV_tx' Try.underlying11) (aslice_thi' Try.underlying11)) (And.intro (aslice_tlo' Try.underlying11) (aslice_tlohi' Try.underlying11))) (And.intro (And.intro (@fl22_0) (@fl22_1)) (And.intro (@fl22_2) (@fv22_0)))) (And.intro (And.intro (And.intro (@fv22_1) (@fv22_2)) (And.intro (@fl23_0) (@fl23_1))) (And.intro (And.intro (@fl23_2) (@fv23_0)) (And.intro (@fv23_1) (@fv23_2))))) := (And.intro (And.intro (And.intro (And.intro (alenV_tx' Try.underlying11) (aslice_thi' Try.underlying11)) (And.intro (aslice_tlo' Try.underlying11) (aslice_tlohi' Try.underlying11))) (And.intro (And.intro (@fl22_0) (@fl22_1)) (And.intro (@fl22_2) (@fv22_0)))) (And.intro (And.intro (And.intro (@fv22_1) (@fv22_2)) (And.intro (@fl23_0) (@fl23_1))) (And.intro (And.intro (@fl23_2) (@fv23_0)) (And.intro (@fv23_1) (@fv23_2)))))
theorem vcu8 : type_of% (And.intro (And.intro (And.intro (And.intro (alenV_slice' Try.underlying24) (aidx_slice' Try.underlying24 co9)) (And.intro (@esz24) (aslice_hi' Try.underlying24 co9))) (And.intro (And.intro (aslice_lo' Try.underlying24 co9) (aslice_lohi' Try.underlying24 co9)) (And.intro (aslice_nhi' Try.underlying24) (aslice_nlo' Try.underlying24)))) (And.intro (And.intro (And.intro (aslice_nlohi' Try.underlying24) (alenV_slice' Try.underlying25)) (And.intro (aidx_slice' Try.underlying25 co99) (@esz25))) (And.intro (And.intro (aslice_hi' Try.underlying25 co99) (aslice_lo' Try.underlying25 co99)) (And.intro (aslice_lohi' Try.underlying25 co99) (aslice_nhi' Try.underlying25))))) := (And.intro (And.intro (And.intro (And.intro (alenV_slice' Try.underlying24) (aidx_slice' Try.underlying24 co9)) (And.intro (@esz24) (aslice_hi' Try.underlying24 co9))) (And.intro (And.intro (aslice_lo' Try.underlying24 co9) (aslice_lohi' Try.underlying24 co9)) (And.intro (aslice_nhi' Try.underlying24) (aslice_nlo' Try.underlying24)))) (And.intro (And.intro (And.intro (aslice_nlohi' Try.underlying24) (alenV_slice' Try.underlying25)) (And.intro (aidx_slice' Try.underlying25 co99) (@esz25))) (And.intro (And.intro (aslice_hi' Try.underlying25 co99) (aslice_lo' Try.underlying25 co99)) (And.intro (aslice_lohi' Try.underlying25 co99) (aslice_nhi' Try.underlying25)))))
theorem vcu9 : type_of% (And.intro (And.intro (And.intro (And.intro (aslice_nlo' Try.underlying25) (aslice_nlohi' Try.underlying25)) (And.intro (@fl26_0) (@fl26_1))) (And.intro (And.intro (@fl26_2) (@fv26_1)) (And.intro (@fv26_2) (@fl27_0)))) (And.intro (And.intro (And.intro (@fl27_1) (@fl27_2)) (And.intro (@fv27_1) (@fv27_2))) (And.intro (And.intro (@fl30_0) (@fl30_1)) (And.intro (@fl30_2) (@fv30_0))))) := (And.intro (And.intro (And.intro (And.intro (aslice_nlo' Try.underlying25) (aslice_nlohi' Try.underlying25)) (And.intro (@fl26_0) (@fl26_1))) (And.intro (And.intro (@fl26_2) (@fv26_1)) (And.intro (@fv26_2) (@fl27_0)))) (And.intro (And.intro (And.intro (@fl27_1) (@fl27_2)) (And.intro (@fv27_1) (@fv27_2))) (And.intro (And.intro (@fl30_0) (@fl30_1)) (And.intro (@fl30_2) (@fv30_0)))))
theorem vcu10 : type_of% (And.intro (And.intro (And.intro (And.intro (@fv30_1) (@fv30_2)) (And.intro (alenV_slice' Try.underlying31) (aidx_slice' Try.underlying31 co71))) (And.intro (And.intro (@esz31) (aslice_hi' Try.underlying31 co71)) (And.intro (aslice_lo' Try.underlying31 co71) (aslice_lohi' Try.underlying31 co71)))) (And.intro (And.intro (And.intro (aslice_nhi' Try.underlying31) (aslice_nlo' Try.underlying31)) (And.intro (aslice_nlohi' Try.underlying31) (@fl32_0))) (And.intro (And.intro (@fl32_1) (@fl32_2)) (And.intro (@fv32_1) (@fv32_2))))) := (And.intro (And.intro (And.intro (And.intro (@fv30_1) (@fv30_2)) (And.intro (alenV_slice' Try.underlying31) (aidx_slice' Try.underlying31 co71))) (And.intro (And.intro (@esz31) (aslice_hi' Try.underlying31 co71)) (And.intro (aslice_lo' Try.underlying31 co71) (aslice_lohi' Try.underlying31 co71)))) (And.intro (And.intro (And.intro (aslice_nhi' Try.underlying31) (aslice_nlo' Try.underlying31)) (And.intro (aslice_nlohi' Try.underlying31) (@fl32_0))) (And.intro (And.intro (@fl32_1) (@fl32_2)) (And.intro (@fv32_1) (@fv32_2)))))
theorem vcu11 : type_of% (And.intro (And.intro (And.intro (And.intro (@fl33_0) (@fl33_1)) (And.intro (@fl33_2) (@fv33_1))) (And.intro (And.intro (@fv33_2) (@fl47_0)) (And.intro (@fl47_1) (@fl47_2)))) (And.intro (And.intro (And.intro (@fv47_0) (@fv47_1)) (And.intro (@fv47_2) (@fl48_0))) (And.intro (And.intro (@fl48_1) (@fl48_2)) (And.intro (@fv48_0) (@fv48_1))))) := (And.intro (And.intro (And.intro (And.intro (@fl33_0) (@fl33_1)) (And.intro (@fl33_2) (@fv33_1))) (And.intro (And.intro (@fv33_2) (@fl47_0)) (And.intro (@fl47_1) (@fl47_2)))) (And.intro (And.intro (And.intro (@fv47_0) (@fv47_1)) (And.intro (@fv47_2) (@fl48_0))) (And.intro (And.intro (@fl48_1) (@fl48_2)) (And.intro (@fv48_0) (@fv48_1)))))
theorem vcu12 : type_of% (And.intro (And.intro (And.intro (And.intro (@fv48_2) (@fl52_0)) (And.intro (@fl52_1) (@fl52_2))) (And.intro (And.intro (@fv52_0) (@fv52_1)) (And.intro (@fv52_2) (alenV_slice' Try.underlying55)))) (And.intro (And.intro (And.intro (aidx_slice' Try.underlying55 co48) (@esz55)) (And.intro (aslice_hi' Try.underlying55 co48) (aslice_lo' Try.underlying55 co48))) (And.intro (And.intro (aslice_lohi' Try.underlying55 co48) (aslice_nhi' Try.underlying55)) (And.intro (aslice_nlo' Try.underlying55) (aslice_nlohi' Try.underlying55))))) := (And.intro (And.intro (And.intro (And.intro (@fv48_2) (@fl52_0)) (And.intro (@fl52_1) (@fl52_2))) (And.intro (And.intro (@fv52_0) (@fv52_1)) (And.intro (@fv52_2) (alenV_slice' Try.underlying55)))) (And.intro (And.intro (And.intro (aidx_slice' Try.underlying55 co48) (@esz55)) (And.intro (aslice_hi' Try.underlying55 co48) (aslice_lo' Try.underlying55 co48))) (And.intro (And.intro (aslice_lohi' Try.underlying55 co48) (aslice_nhi' Try.underlying55)) (And.intro (aslice_nlo' Try.underlying55) (aslice_nlohi' Try.underlying55)))))
theorem vcu13 : type_of% (And.intro (And.intro (And.intro (And.intro (alenV_slice' Try.underlying59) (aidx_slice' Try.underlying59 co52)) (And.intro (@esz59) (aslice_hi' Try.underlying59 co52))) (And.intro (And.intro (aslice_lo' Try.underlying59 co52) (aslice_lohi' Try.underlying59 co52)) (And.intro (aslice_nhi' Try.underlying59) (aslice_nlo' Try.underlying59)))) (And.intro (And.intro (And.intro (aslice_nlohi' Try.underlying59) (@fl70_0)) (And.intro (@fl70_1) (@fl70_2))) (And.intro (And.intro (@fv70_0) (@fv70_1)) (And.intro (@fv70_2) (@fl71_0))))) := (And.intro (And.intro (And.intro (And.intro (alenV_slice' Try.underlying59) (aidx_slice' Try.underlying59 co52)) (And.intro (@esz59) (aslice_hi' Try.underlying59 co52))) (And.intro (And.intro (aslice_lo' Try.underlying59 co52) (aslice_lohi' Try.underlying59 co52)) (And.intro (aslice_nhi' Try.underlying59) (aslice_nlo' Try.underlying59)))) (And.intro (And.intro (And.intro (aslice_nlohi' Try.underlying59) (@fl70_0)) (And.intro (@fl70_1) (@fl70_2))) (And.intro (And.intro (@fv70_0) (@fv70_1)) (And.intro (@fv70_2) (@fl71_0)))))
theorem vcu14 : type_of% (And.intro (And.intro (And.intro (And.intro (@fl71_1) (@fl71_2)) (And.intro (@fv71_0) (@fv71_1))) (And.intro (And.intro (@fv71_2) (@fl82_0)) (And.intro (@fl82_1) (@fv82_1)))) (And.intro (And.intro (And.intro (@fl83_0) (@fl83_1)) (And.intro (@fv83_1) (alenV_slice' Try.underlying84))) (And.intro (And.intro (aidx_slice' Try.underlying84 co9) (@esz84)) (And.intro (aslice_hi' Try.underlying84 co9) (aslice_lo' Try.underlying84 co9))))) := (And.intro (And.intro (And.intro (And.intro (@fl71_1) (@fl71_2)) (And.intro (@fv71_0) (@fv71_1))) (And.intro (And.intro (@fv71_2) (@fl82_0)) (And.intro (@fl82_1) (@fv82_1)))) (And.intro (And.intro (And.intro (@fl83_0) (@fl83_1)) (And.intro (@fv83_1) (alenV_slice' Try.underlying84))) (And.intro (And.intro (aidx_slice' Try.underlying84 co9) (@esz84)) (And.intro (aslice_hi' Try.underlying84 co9) (aslice_lo' Try.underlying84 co9)))))
theorem vcu15 : type_of% (And.intro (And.intro (And.intro (And.intro (aslice_lohi' Try.underlying84 co9) (aslice_nhi' Try.underlying84)) (And.intro (aslice_nlo' Try.underlying84) (aslice_nlohi' Try.underlying84))) (And.intro (And.intro (@fl85_0) (@fl85_1)) (And.intro (@fv85_1) (@fl86_0)))) (And.intro (And.intro (And.intro (@fl86_1) (@fv86_1)) (And.intro (@fl99_0) (@fl99_1))) (And.intro (And.intro (@fl99_2) (@fv99_0)) (And.intro (@fv99_1) (@fv99_2))))) := (And.intro (And.intro (And.intro (And.intro (aslice_lohi' Try.underlying84 co9) (aslice_nhi' Try.underlying84)) (And.intro (aslice_nlo' Try.underlying84) (aslice_nlohi' Try.underlying84))) (And.intro (And.intro (@fl85_0) (@fl85_1)) (And.intro (@fv85_1) (@fl86_0)))) (And.intro (And.intro (And.intro (@fl86_1) (@fv86_1)) (And.intro (@fl99_0) (@fl99_1))) (And.intro (And.intro (@fl99_2) (@fv99_0)) (And.intro (@fv99_1) (@fv99_2)))))
theorem vcu16 : type_of% (And.intro (And.intro (And.intro (And.intro (alenV_slice' Try.underlying103) (aidx_slice' Try.underlying103 co5)) (And.intro (@esz103) (aslice_hi' Try.underlying103 co5))) (And.intro (And.intro (aslice_lo' Try.underlying103 co5) (aslice_lohi' Try.underlying103 co5)) (And.intro (aslice_nhi' Try.underlying103) (aslice_nlo' Try.underlying103)))) (And.intro (And.intro (And.intro (aslice_nlohi' Try.underlying103) (alenV_slice' Try.underlying108)) (And.intro (aidx_slice' Try.underlying108 co3) (@esz108))) (And.intro (And.intro (aslice_hi' Try.underlying108 co3) (aslice_lo' Try.underlying108 co3)) (And.intro (aslice_lohi' Try.underlying108 co3) (aslice_nhi' Try.underlying108))))) := (And.intro (And.intro (And.intro (And.intro (alenV_slice' Try.underlying103) (aidx_slice' Try.underlying103 co5)) (And.intro (@esz103) (aslice_hi' Try.underlying103 co5))) (And.intro (And.intro (aslice_lo' Try.underlying103 co5) (aslice_lohi' Try.underlying103 co5)) (And.intro (aslice_nhi' Try.underlying103) (aslice_nlo' Try.underlying103)))) (And.intro (And.intro (And.intro (aslice_nlohi' Try.underlying103) (alenV_slice' Try.underlying108)) (And.intro (aidx_slice' Try.underlying108 co3) (@esz108))) (And.intro (And.intro (aslice_hi' Try.underlying108 co3) (aslice_lo' Try.underlying108 co3)) (And.intro (aslice_lohi' Try.underlying108 co3) (aslice_nhi' Try.underlying108)))))
theorem vcu17 : type_of% (And.intro (And.intro (And.intro (And.intro (aslice_nlo' Try.underlying108) (aslice_nlohi' Try.underlying108)) (And.intro (aidx_array' Try.underlying123 co16) (@esz123))) (And.intro (And.intro (@pt0) (@pt1)) (And.intro (@pt2) (@pt3)))) (And.intro (And.intro (And.intro (@pt4) (@pt5)) (And.intro (@pt6) (@pt9))) (And.intro (And.intro (@pt10) (@pt11)) (And.intro (@pt12) (@pt15))))) := (And.intro (And.intro (And.intro (And.intro (aslice_nlo' Try.underlying108) (aslice_nlohi' Try.underlying108)) (And.intro (aidx_array' Try.underlying123 co16) (@esz123))) (And.intro (And.intro (@pt0) (@pt1)) (And.intro (@pt2) (@pt3)))) (And.intro (And.intro (And.intro (@pt4) (@pt5)) (And.intro (@pt6) (@pt9))) (And.intro (And.intro (@pt10) (@pt11)) (And.intro (@pt12) (@pt15)))))
theorem vcu18 : type_of% (And.intro (And.intro (And.intro (And.intro (@pt16) (@pt17)) (And.intro (@pt20) (@pt21))) (And.intro (And.intro (@pt22) (@pt23)) (And.intro (@pt24) (@pt25)))) (And.intro (And.intro (And.intro (@pt26) (@pt27)) (And.intro (@pt28) (@pt29))) (And.intro (And.intro (@pt30) (@pt31)) (And.intro (@pt32) (@pt33))))) := (And.intro (And.intro (And.intro (And.intro (@pt16) (@pt17)) (And.intro (@pt20) (@pt21))) (And.intro (And.intro (@pt22) (@pt23)) (And.intro (@pt24) (@pt25)))) (And.intro (And.intro (And.intro (@pt26) (@pt27)) (And.intro (@pt28) (@pt29))) (And.intro (And.intro (@pt30) (@pt31)) (And.intro (@pt32) (@pt33)))))
theorem vcu19 : type_of% (And.intro (And.intro (And.intro (And.intro (@pt34) (@pt35)) (And.intro (@pt36) (@pt37))) (And.intro (And.intro (@pt38) (@pt39)) (And.intro (@pt40) (@pt41)))) (And.intro (And.intro (And.intro (@pt42) (@pt43)) (And.intro (@pt44) (@pt45))) (And.intro (And.intro (@pt46) (@pt47)) (And.intro (@pt48) (@pt49))))) := (And.intro (And.intro (And.intro (And.intro (@pt34) (@pt35)) (And.intro (@pt36) (@pt37))) (And.intro (And.intro (@pt38) (@pt39)) (And.intro (@pt40) (@pt41)))) (And.intro (And.intro (And.intro (@pt42) (@pt43)) (And.intro (@pt44) (@pt45))) (And.intro (And.intro (@pt46) (@pt47)) (And.intro (@pt48) (@pt49)))))
theorem vcu20 : type_of% (And.intro (And.intro (And.intro (And.intro (@pt50) (@pt51)) (And.intro (@pt52) (@pt53))) (And.intro (And.intro (@pt54) (@pt55)) (And.intro (@pt56) (@pt57)))) (And.intro (And.intro (And.intro (@pt58) (@pt59)) (And.intro (@pt60) (@pt61))) (And.intro (And.intro (@pt62) (@pt63)) (And.intro (@pt64) (@pt65))))) := (And.intro (And.intro (And.intro (And.intro (@pt50) (@pt51)) (And.intro (@pt52) (@pt53))) (And.intro (And.intro (@pt54) (@pt55)) (And.intro (@pt56) (@pt57)))) (And.intro (And.intro (And.intro (@pt58) (@pt59)) (And.intro (@pt60) (@pt61))) (And.intro (And.intro (@pt62) (@pt63)) (And.intro (@pt64) (@pt65)))))
theorem vcu21 : type_of% (And.intro (And.intro (And.intro (And.intro (@pt66) (@pt67)) (And.intro (@pt68) (@pt69))) (And.intro (And.intro (@pt70) (@pt71)) (And.intro (@pt72) (@pt73)))) (And.intro (And.intro (And.intro (@pt74) (@pt75)) (And.intro (@pt76) (@pt77))) (And.intro (And.intro (@pt78) (@pt79)) (And.intro (@pt80) (@pt81))))) := (And.intro (And.intro (And.intro (And.intro (@pt66) (@pt67)) (And.intro (@pt68) (@pt69))) (And.intro (And.intro (@pt70) (@pt71)) (And.intro (@pt72) (@pt73)))) (And.intro (And.intro (And.intro (@pt74) (@pt75)) (And.intro (@pt76) (@pt77))) (And.intro (And.intro (@pt78) (@pt79)) (And.intro (@pt80) (@pt81)))))
theorem vcu22 : type_of% (And.intro (And.intro (And.intro (And.intro (@pt82) (@pt83)) (And.intro (@pt84) (@pt85))) (And.intro (And.intro (@pt86) (@pt87)) (And.intro (@pt88) (@pt89)))) (And.intro (And.intro (And.intro (@pt90) (@pt91)) (And.intro (@pt92) (@pt93))) (And.intro (And.intro (@pt94) (@pt95)) (And.intro (@pt96) (@pt97))))) := (And.intro (And.intro (And.intro (And.intro (@pt82) (@pt83)) (And.intro (@pt84) (@pt85))) (And.intro (And.intro (@pt86) (@pt87)) (And.intro (@pt88) (@pt89)))) (And.intro (And.intro (And.intro (@pt90) (@pt91)) (And.intro (@pt92) (@pt93))) (And.intro (And.intro (@pt94) (@pt95)) (And.intro (@pt96) (@pt97)))))
theorem vcu23 : type_of% (And.intro (And.intro (And.intro (And.intro (@pt98) (@pt99)) (And.intro (@pt100) (@pt101))) (And.intro (And.intro (@pt102) (@pt103)) (And.intro (@pt104) (@pt105)))) (And.intro (And.intro (And.intro (@pt106) (@pt107)) (And.intro (@pt108) (@pt109))) (And.intro (And.intro (@pt110) (@pt111)) (And.intro (@pt112) (@pt113))))) := (And.intro (And.intro (And.intro (And.intro (@pt98) (@pt99)) (And.intro (@pt100) (@pt101))) (And.intro (And.intro (@pt102) (@pt103)) (And.intro (@pt104) (@pt105)))) (And.intro (And.intro (And.intro (@pt106) (@pt107)) (And.intro (@pt108) (@pt109))) (And.intro (And.intro (@pt110) (@pt111)) (And.intro (@pt112) (@pt113)))))
theorem vcu24 : type_of% (And.intro (And.intro (And.intro (And.intro (@pt114) (@pt115)) (And.intro (@pt116) (@pt117))) (And.intro (And.intro (@pt118) (@pt119)) (And.intro (@pt120) (@pt123)))) (And.intro (And.intro (And.intro (@pt126) (@pt127)) (And.intro (@pt128) (@pt129))) (And.intro (And.intro (@pt130) (@pt131)) (And.intro (@pt132) (@pt133))))) := (And.intro (And.intro (And.intro (And.intro (@pt114) (@pt115)) (And.intro (@pt116) (@pt117))) (And.intro (And.intro (@pt118) (@pt119)) (And.intro (@pt120) (@pt123)))) (And.intro (And.intro (And.intro (@pt126) (@pt127)) (And.intro (@pt128) (@pt129))) (And.intro (And.intro (@pt130) (@pt131)) (And.intro (@pt132) (@pt133)))))
theorem vcu25 : type_of% (And.intro (And.intro (And.intro (And.intro (@pt136) (@pt137)) (And.intro (@sc0) (@sc1))) (And.intro (And.intro (@sc2) (@sc3)) (And.intro (@sc4) (@sc5)))) (And.intro (And.intro (And.intro (@sc6) (@sc9)) (And.intro (@sc10) (@sc11))) (And.intro (And.intro (@sc12) (@sc15)) (And.intro (@sc16) (@sc17))))) := (And.intro (And.intro (And.intro (And.intro (@pt136) (@pt137)) (And.intro (@sc0) (@sc1))) (And.intro (And.intro (@sc2) (@sc3)) (And.intro (@sc4) (@sc5)))) (And.intro (And.intro (And.intro (@sc6) (@sc9)) (And.intro (@sc10) (@sc11))) (And.intro (And.intro (@sc12) (@sc15)) (And.intro (@sc16) (@sc17)))))
theorem vcu26 : type_of% (And.intro (And.intro (And.intro (And.intro (@sc20) (@sc21)) (And.intro (@sc22) (@sc23))) (And.intro (And.intro (@sc24) (@sc25)) (And.intro (@sc26) (@sc27)))) (And.intro (And.intro (And.intro (@sc28) (@sc29)) (And.intro (@sc30) (@sc31))) (And.intro (And.intro (@sc32) (@sc33)) (And.intro (@sc34) (@sc35))))) := (And.intro (And.intro (And.intro (And.intro (@sc20) (@sc21)) (And.intro (@sc22) (@sc23))) (And.intro (And.intro (@sc24) (@sc25)) (And.intro (@sc26) (@sc27)))) (And.intro (And.intro (And.intro (@sc28) (@sc29)) (And.intro (@sc30) (@sc31))) (And.intro (And.intro (@sc32) (@sc33)) (And.intro (@sc34) (@sc35)))))
theorem vcu27 : type_of% (And.intro (And.intro (And.intro (And.intro (@sc36) (@sc37)) (And.intro (@sc38) (@sc39))) (And.intro (And.intro (@sc40) (@sc41)) (And.intro (@sc42) (@sc43)))) (And.intro (And.intro (And.intro (@sc44) (@sc45)) (And.intro (@sc46) (@sc47))) (And.intro (And.intro (@sc48) (@sc49)) (And.intro (@sc50) (@sc51))))) := (And.intro (And.intro (And.intro (And.intro (@sc36) (@sc37)) (And.intro (@sc38) (@sc39))) (And.intro (And.intro (@sc40) (@sc41)) (And.intro (@sc42) (@sc43)))) (And.intro (And.intro (And.intro (@sc44) (@sc45)) (And.intro (@sc46) (@sc47))) (And.intro (And.intro (@sc48) (@sc49)) (And.intro (@sc50) (@sc51)))))
theorem vcu28 : type_of% (And.intro (And.intro (And.intro (And.intro (@sc52) (@sc53)) (And.intro (@sc54) (@sc55))) (And.intro (And.intro (@sc56) (@sc57)) (And.intro (@sc58) (@sc59)))) (And.intro (And.intro (And.intro (@sc60) (@sc61)) (And.intro (@sc62) (@sc63))) (And.intro (And.intro (@sc64) (@sc65)) (And.intro (@sc66) (@sc67))))) := (And.intro (And.intro (And.intro (And.intro (@sc52) (@sc53)) (And.intro (@sc54) (@sc55))) (And.intro (And.intro (@sc56) (@sc57)) (And.intro (@sc58) (@sc59)))) (And.intro (And.intro (And.intro (@sc60) (@sc61)) (And.intro (@sc62) (@sc63))) (And.intro (And.intro (@sc64) (@sc65)) (And.intro (@sc66) (@sc67)))))
theorem vcu29 : type_of% (And.intro (And.intro (And.intro (And.intro (@sc68) (@sc69)) (And.intro (@sc70) (@sc71))) (And.intro (And.intro (@sc72) (@sc73)) (And.intro (@sc74) (@sc75)))) (And.intro (And.intro (And.intro (@sc76) (@sc77)) (And.intro (@sc78) (@sc79))) (And.intro (And.intro (@sc80) (@sc81)) (And.intro (@sc82) (@sc83))))) := (And.intro (And.intro (And.intro (And.intro (@sc68) (@sc69)) (And.intro (@sc70) (@sc71))) (And.intro (And.intro (@sc72) (@sc73)) (And.intro (@sc74) (@sc75)))) (And.intro (And.intro (And.intro (@sc76) (@sc77)) (And.intro (@sc78) (@sc79))) (And.intro (And.intro (@sc80) (@sc81)) (And.intro (@sc82) (@sc83)))))
theorem vcu30 : type_of% (And.intro (And.intro (And.intro (And.intro (@sc84) (@sc85)) (And.intro (@sc86) (@sc87))) (And.intro (And.intro (@sc88) (@sc89)) (And.intro (@sc90) (@sc91)))) (And.intro (And.intro (And.intro (@sc92) (@sc93)) (And.intro (@sc94) (@sc95))) (And.intro (And.intro (@sc96) (@sc97)) (And.intro (@sc98) (@sc99))))) := (And.intro (And.intro (And.intro (And.intro (@sc84) (@sc85)) (And.intro (@sc86) (@sc87))) (And.intro (And.intro (@sc88) (@sc89)) (And.intro (@sc90) (@sc91)))) (And.intro (And.intro (And.intro (@sc92) (@sc93)) (And.intro (@sc94) (@sc95))) (And.intro (And.intro (@sc96) (@sc97)) (And.intro (@sc98) (@sc99)))))
theorem vcu31 : type_of% (And.intro (And.intro (And.intro (And.intro (@sc100) (@sc101)) (And.intro (@sc102) (@sc103))) (And.intro (And.intro (@sc104) (@sc105)) (And.intro (@sc106) (@sc107)))) (And.intro (And.intro (And.intro (@sc108) (@sc109)) (And.intro (@sc110) (@sc111))) (And.intro (And.intro (@sc112) (@sc113)) (And.intro (@sc114) (@sc115))))) := (And.intro (And.intro (And.intro (And.intro (@sc100) (@sc101)) (And.intro (@sc102) (@sc103))) (And.intro (And.intro (@sc104) (@sc105)) (And.intro (@sc106) (@sc107)))) (And.intro (And.intro (And.intro (@sc108) (@sc109)) (And.intro (@sc110) (@sc111))) (And.intro (And.intro (@sc112) (@sc113)) (And.intro (@sc114) (@sc115)))))
theorem vcu32 : type_of% (And.intro (And.intro (And.intro (And.intro (@sc116) (@sc117)) (And.intro (@sc118) (@sc119))) (And.intro (And.intro (@sc120) (@sc123)) (And.intro (@sc126) (@sc127)))) (And.intro (And.intro (And.intro (@sc128) (@sc129)) (And.intro (@sc130) (@sc131))) (And.intro (And.intro (@sc132) (@sc133)) (And.intro (@sc136) (@sc137))))) := (And.intro (And.intro (And.intro (And.intro (@sc116) (@sc117)) (And.intro (@sc118) (@sc119))) (And.intro (And.intro (@sc120) (@sc123)) (And.intro (@sc126) (@sc127)))) (And.intro (And.intro (And.intro (@sc128) (@sc129)) (And.intro (@sc130) (@sc131))) (And.intro (And.intro (@sc132) (@sc133)) (And.intro (@sc136) (@sc137)))))
theorem vcu33 : type_of% (And.intro (And.intro (And.intro (And.intro (@nf3) (@nf4)) (And.intro (@nf5) (@nf6))) (And.intro (And.intro (@nf7) (@nf8)) (And.intro (@nf9) (@nf10)))) (And.intro (And.intro (And.intro (@nf11) (@nf12)) (And.intro (@nf13) (@nf14))) (And.intro (And.intro (@nf15) (@nf16)) (And.intro (@nf17) (@nf18))))) := (And.intro (And.intro (And.intro (And.intro (@nf3) (@nf4)) (And.intro (@nf5) (@nf6))) (And.intro (And.intro (@nf7) (@nf8)) (And.intro (@nf9) (@nf10)))) (And.intro (And.intro (And.intro (@nf11) (@nf12)) (And.intro (@nf13) (@nf14))) (And.intro (And.intro (@nf15) (@nf16)) (And.intro (@nf17) (@nf18)))))
theorem vcu34 : type_of% (And.intro (And.intro (And.intro (And.intro (@nf19) (@nf20)) (And.intro (@nf21) (@nf22))) (And.intro (And.intro (@nf23) (@nf24)) (And.intro (@nf25) (@nf26)))) (And.intro (And.intro (And.intro (@nf27) (@nf28)) (And.intro (@nf29) (@nf30))) (And.intro (And.intro (@nf31) (@nf32)) (And.intro (@nf33) (@nf34))))) := (And.intro (And.intro (And.intro (And.intro (@nf19) (@nf20)) (And.intro (@nf21) (@nf22))) (And.intro (And.intro (@nf23) (@nf24)) (And.intro (@nf25) (@nf26)))) (And.intro (And.intro (And.intro (@nf27) (@nf28)) (And.intro (@nf29) (@nf30))) (And.intro (And.intro (@nf31) (@nf32)) (And.intro (@nf33) (@nf34)))))
theorem vcu35 : type_of% (And.intro (And.intro (And.intro (And.intro (@nf35) (@nf36)) (And.intro (@nf37) (@nf38))) (And.intro (And.intro (@nf39) (@nf40)) (And.intro (@nf41) (@nf42)))) (And.intro (And.intro (And.intro (@nf43) (@nf44)) (And.intro (@nf45) (@nf46))) (And.intro (And.intro (@nf47) (@nf48)) (And.intro (@nf49) (@nf50))))) := (And.intro (And.intro (And.intro (And.intro (@nf35) (@nf36)) (And.intro (@nf37) (@nf38))) (And.intro (And.intro (@nf39) (@nf40)) (And.intro (@nf41) (@nf42)))) (And.intro (And.intro (And.intro (@nf43) (@nf44)) (And.intro (@nf45) (@nf46))) (And.intro (And.intro (@nf47) (@nf48)) (And.intro (@nf49) (@nf50)))))
theorem vcu36 : type_of% (And.intro (And.intro (And.intro (And.intro (@nf51) (@nf52)) (And.intro (@nf53) (@nf54))) (And.intro (And.intro (@nf55) (@nf56)) (And.intro (@nf57) (@nf58)))) (And.intro (And.intro (And.intro (@nf59) (@nf60)) (And.intro (@nf61) (@nf62))) (And.intro (And.intro (@nf63) (@nf64)) (And.intro (@nf65) (@nf66))))) := (And.intro (And.intro (And.intro (And.intro (@nf51) (@nf52)) (And.intro (@nf53) (@nf54))) (And.intro (And.intro (@nf55) (@nf56)) (And.intro (@nf57) (@nf58)))) (And.intro (And.intro (And.intro (@nf59) (@nf60)) (And.intro (@nf61) (@nf62))) (And.intro (And.intro (@nf63) (@nf64)) (And.intro (@nf65) (@nf66)))))
theorem vcu37 : type_of% (And.intro (And.intro (And.intro (And.intro (@nf67) (@nf68)) (And.intro (@nf69) (@nf70))) (And.intro (And.intro (@nf71) (@nf72)) (And.intro (@nf73) (@nf74)))) (And.intro (And.intro (And.intro (@nf75) (@nf76)) (And.intro (@nf77) (@nf78))) (And.intro (And.intro (@nf79) (@nf80)) (And.intro (@nf81) (@nf82))))) := (And.intro (And.intro (And.intro (And.intro (@nf67) (@nf68)) (And.intro (@nf69) (@nf70))) (And.intro (And.intro (@nf71) (@nf72)) (And.intro (@nf73) (@nf74)))) (And.intro (And.intro (And.intro (@nf75) (@nf76)) (And.intro (@nf77) (@nf78))) (And.intro (And.intro (@nf79) (@nf80)) (And.intro (@nf81) (@nf82)))))
theorem vcu38 : type_of% (And.intro (And.intro (And.intro (And.intro (@nf83) (@nf84)) (And.intro (@nf85) (@nf86))) (And.intro (And.intro (@nf87) (@nf88)) (And.intro (@nf89) (@nf90)))) (And.intro (And.intro (And.intro (@nf91) (@nf92)) (And.intro (@nf93) (@nf94))) (And.intro (And.intro (@nf95) (@nf96)) (And.intro (@nf97) (@nf98))))) := (And.intro (And.intro (And.intro (And.intro (@nf83) (@nf84)) (And.intro (@nf85) (@nf86))) (And.intro (And.intro (@nf87) (@nf88)) (And.intro (@nf89) (@nf90)))) (And.intro (And.intro (And.intro (@nf91) (@nf92)) (And.intro (@nf93) (@nf94))) (And.intro (And.intro (@nf95) (@nf96)) (And.intro (@nf97) (@nf98)))))
theorem vcu39 : type_of% (And.intro (And.intro (And.intro (And.intro (@nf99) (@nf100)) (And.intro (@nf101) (@nf102))) (And.intro (And.intro (@nf103) (@nf104)) (And.intro (@nf105) (@nf106)))) (And.intro (And.intro (And.intro (@nf107) (@nf108)) (And.intro (@nf124) (aload_agg' ag22))) (And.intro (And.intro (aload_agg' ag23) (aload_agg' ag26)) (And.intro (aload_agg' ag27) (aload_agg' ag30))))) := (And.intro (And.intro (And.intro (And.intro (@nf99) (@nf100)) (And.intro (@nf101) (@nf102))) (And.intro (And.intro (@nf103) (@nf104)) (And.intro (@nf105) (@nf106)))) (And.intro (And.intro (And.intro (@nf107) (@nf108)) (And.intro (@nf124) (aload_agg' ag22))) (And.intro (And.intro (aload_agg' ag23) (aload_agg' ag26)) (And.intro (aload_agg' ag27) (aload_agg' ag30)))))
theorem vcu40 : type_of% (And.intro (And.intro (And.intro (And.intro (aload_agg' ag32) (aload_agg' ag33)) (And.intro (aload_agg' ag47) (aload_agg' ag48))) (And.intro (And.intro (aload_agg' ag52) (aload_agg' ag70)) (And.intro (aload_agg' ag71) (aload_agg' ag82)))) (And.intro (And.intro (And.intro (aload_agg' ag83) (aload_agg' ag85)) (And.intro (aload_agg' ag86) (aload_agg' ag99))) (And.intro (And.intro (aload_cell' ag1) (aload_cell' ag2)) (And.intro (aload_cell' ag3) (aload_cell' ag4))))) := (And.intro (And.intro (And.intro (And.intro (aload_agg' ag32) (aload_agg' ag33)) (And.intro (aload_agg' ag47) (aload_agg' ag48))) (And.intro (And.intro (aload_agg' ag52) (aload_agg' ag70)) (And.intro (aload_agg' ag71) (aload_agg' ag82)))) (And.intro (And.intro (And.intro (aload_agg' ag83) (aload_agg' ag85)) (And.intro (aload_agg' ag86) (aload_agg' ag99))) (And.intro (And.intro (aload_cell' ag1) (aload_cell' ag2)) (And.intro (aload_cell' ag3) (aload_cell' ag4)))))
theorem vcu41 : type_of% (And.intro (And.intro (And.intro (And.intro (aload_cell' ag5) (aload_cell' ag6)) (And.intro (aload_cell' ag9) (aload_cell' ag10))) (And.intro (And.intro (aload_cell' ag11) (aload_cell' ag12)) (And.intro (aload_cell' ag15) (aload_cell' ag16)))) (And.intro (And.intro (And.intro (aload_cell' ag17) (aload_cell' ag21)) (And.intro (aload_cell' ag24) (aload_cell' ag25))) (And.intro (And.intro (aload_cell' ag28) (aload_cell' ag29)) (And.intro (aload_cell' ag31) (aload_cell' ag34))))) := (And.intro (And.intro (And.intro (And.intro (aload_cell' ag5) (aload_cell' ag6)) (And.intro (aload_cell' ag9) (aload_cell' ag10))) (And.intro (And.intro (aload_cell' ag11) (aload_cell' ag12)) (And.intro (aload_cell' ag15) (aload_cell' ag16)))) (And.intro (And.intro (And.intro (aload_cell' ag17) (aload_cell' ag21)) (And.intro (aload_cell' ag24) (aload_cell' ag25))) (And.intro (And.intro (aload_cell' ag28) (aload_cell' ag29)) (And.intro (aload_cell' ag31) (aload_cell' ag34)))))
theorem vcu42 : type_of% (And.intro (And.intro (And.intro (And.intro (aload_cell' ag35) (aload_cell' ag36)) (And.intro (aload_cell' ag37) (aload_cell' ag38))) (And.intro (And.intro (aload_cell' ag39) (aload_cell' ag40)) (And.intro (aload_cell' ag41) (aload_cell' ag42)))) (And.intro (And.intro (And.intro (aload_cell' ag43) (aload_cell' ag44)) (And.intro (aload_cell' ag45) (aload_cell' ag46))) (And.intro (And.intro (aload_cell' ag49) (aload_cell' ag51)) (And.intro (aload_cell' ag53) (aload_cell' ag54))))) := (And.intro (And.intro (And.intro (And.intro (aload_cell' ag35) (aload_cell' ag36)) (And.intro (aload_cell' ag37) (aload_cell' ag38))) (And.intro (And.intro (aload_cell' ag39) (aload_cell' ag40)) (And.intro (aload_cell' ag41) (aload_cell' ag42)))) (And.intro (And.intro (And.intro (aload_cell' ag43) (aload_cell' ag44)) (And.intro (aload_cell' ag45) (aload_cell' ag46))) (And.intro (And.intro (aload_cell' ag49) (aload_cell' ag51)) (And.intro (aload_cell' ag53) (aload_cell' ag54)))))
theorem vcu43 : type_of% (And.intro (And.intro (And.intro (And.intro (aload_cell' ag55) (aload_cell' ag56)) (And.intro (aload_cell' ag58) (aload_cell' ag59))) (And.intro (And.intro (aload_cell' ag60) (aload_cell' ag61)) (And.intro (aload_cell' ag62) (aload_cell' ag63)))) (And.intro (And.intro (And.intro (aload_cell' ag64) (aload_cell' ag65)) (And.intro (aload_cell' ag66) (aload_cell' ag67))) (And.intro (And.intro (aload_cell' ag68) (aload_cell' ag69)) (And.intro (aload_cell' ag72) (aload_cell' ag73))))) := (And.intro (And.intro (And.intro (And.intro (aload_cell' ag55) (aload_cell' ag56)) (And.intro (aload_cell' ag58) (aload_cell' ag59))) (And.intro (And.intro (aload_cell' ag60) (aload_cell' ag61)) (And.intro (aload_cell' ag62) (aload_cell' ag63)))) (And.intro (And.intro (And.intro (aload_cell' ag64) (aload_cell' ag65)) (And.intro (aload_cell' ag66) (aload_cell' ag67))) (And.intro (And.intro (aload_cell' ag68) (aload_cell' ag69)) (And.intro (aload_cell' ag72) (aload_cell' ag73)))))
theorem vcu44 : type_of% (And.intro (And.intro (And.intro (And.intro (aload_cell' ag74) (aload_cell' ag75)) (And.intro (aload_cell' ag76) (aload_cell' ag77))) (And.intro (And.intro (aload_cell' ag78) (aload_cell' ag79)) (And.intro (aload_cell' ag80) (aload_cell' ag81)))) (And.intro (And.intro (And.intro (aload_cell' ag84) (aload_cell' ag87)) (And.intro (aload_cell' ag88) (aload_cell' ag89))) (And.intro (And.intro (aload_cell' ag91) (aload_cell' ag92)) (And.intro (aload_cell' ag93) (aload_cell' ag94))))) := (And.intro (And.intro (And.intro (And.intro (aload_cell' ag74) (aload_cell' ag75)) (And.intro (aload_cell' ag76) (aload_cell' ag77))) (And.intro (And.intro (aload_cell' ag78) (aload_cell' ag79)) (And.intro (aload_cell' ag80) (aload_cell' ag81)))) (And.intro (And.intro (And.intro (aload_cell' ag84) (aload_cell' ag87)) (And.intro (aload_cell' ag88) (aload_cell' ag89))) (And.intro (And.intro (aload_cell' ag91) (aload_cell' ag92)) (And.intro (aload_cell' ag93) (aload_cell' ag94)))))
theorem vcu45 : type_of% (And.intro (And.intro (And.intro (And.intro (aload_cell' ag95) (aload_cell' ag96)) (And.intro (aload_cell' ag97) (aload_cell' ag98))) (And.intro (And.intro (aload_cell' ag100) (aload_cell' ag101)) (And.intro (aload_cell' ag102) (aload_cell' ag103)))) (And.intro (And.intro (And.intro (aload_cell' ag104) (aload_cell' ag105)) (And.intro (aload_cell' ag106) (aload_cell' ag107))) (And.intro (And.intro (aload_cell' ag108) (aload_cell' ag109)) (And.intro (aload_cell' ag110) (aload_cell' ag111))))) := (And.intro (And.intro (And.intro (And.intro (aload_cell' ag95) (aload_cell' ag96)) (And.intro (aload_cell' ag97) (aload_cell' ag98))) (And.intro (And.intro (aload_cell' ag100) (aload_cell' ag101)) (And.intro (aload_cell' ag102) (aload_cell' ag103)))) (And.intro (And.intro (And.intro (aload_cell' ag104) (aload_cell' ag105)) (And.intro (aload_cell' ag106) (aload_cell' ag107))) (And.intro (And.intro (aload_cell' ag108) (aload_cell' ag109)) (And.intro (aload_cell' ag110) (aload_cell' ag111)))))
theorem vcu46 : type_of% (And.intro (And.intro (And.intro (And.intro (aload_cell' ag112) (aload_cell' ag113)) (And.intro (aload_cell' ag114) (aload_cell' ag115))) (And.intro (And.intro (aload_cell' ag116) (aload_cell' ag117)) (And.intro (aload_cell' ag118) (aload_cell' ag119)))) (And.intro (And.intro (And.intro (aload_cell' ag120) (aload_cell' ag126)) (And.intro (aload_cell' ag127) (aload_cell' ag128))) (And.intro (And.intro (aload_cell' ag129) (aload_cell' ag130)) (And.intro (aload_cell' ag131) (aload_cell' ag132))))) := (And.intro (And.intro (And.intro (And.intro (aload_cell' ag112) (aload_cell' ag113)) (And.intro (aload_cell' ag114) (aload_cell' ag115))) (And.intro (And.intro (aload_cell' ag116) (aload_cell' ag117)) (And.intro (aload_cell' ag118) (aload_cell' ag119)))) (And.intro (And.intro (And.intro (aload_cell' ag120) (aload_cell' ag126)) (And.intro (aload_cell' ag127) (aload_cell' ag128))) (And.intro (And.intro (aload_cell' ag129) (aload_cell' ag130)) (And.intro (aload_cell' ag131) (aload_cell' ag132)))))
theorem vcu47 : type_of% (And.intro (And.intro (And.intro (aload_cell' ag133) (aload_cell' ag136)) (And.intro (@List.any_cons.{0}) (@List.any_nil.{0}))) (And.intro (And.intro (@List.map_cons.{0, 0}) (@List.map_nil.{0, 0})) (And.intro (@Option.map_some.{0, 0}) (And.intro (@Option.map_none.{0, 0}) (@List.nil_append.{0}))))) := (And.intro (And.intro (And.intro (aload_cell' ag133) (aload_cell' ag136)) (And.intro (@List.any_cons.{0}) (@List.any_nil.{0}))) (And.intro (And.intro (@List.map_cons.{0, 0}) (@List.map_nil.{0, 0})) (And.intro (@Option.map_some.{0, 0}) (And.intro (@Option.map_none.{0, 0}) (@List.nil_append.{0})))))
theorem vcd0 : type_of% (And.intro (And.intro (And.intro (And.intro (@cs_cons) (@cs_nil)) (And.intro (@retC_normal) (@retC_ret))) (And.intro (And.intro (@vc_seq) (@vc_block)) (And.intro (@vc_region) (@vc_regionD)))) (And.intro (And.intro (And.intro (@vcD_false) (@vcD_true)) (And.intro (@vc_loop_eq) (@vc_cond))) (And.intro (And.intro (@vc_skip) (@vc_exit)) (And.intro (@vc_ret) (@seqC_normal))))) := (And.intro (And.intro (And.intro (And.intro (@cs_cons) (@cs_nil)) (And.intro (@retC_normal) (@retC_ret))) (And.intro (And.intro (@vc_seq) (@vc_block)) (And.intro (@vc_region) (@vc_regionD)))) (And.intro (And.intro (And.intro (@vcD_false) (@vcD_true)) (And.intro (@vc_loop_eq) (@vc_cond))) (And.intro (And.intro (@vc_skip) (@vc_exit)) (And.intro (@vc_ret) (@seqC_normal)))))
theorem vcd1 : type_of% (And.intro (And.intro (And.intro (And.intro (@seqC_exit) (@seqC_ret)) (And.intro (@blockK_normal) (@blockK_exit))) (And.intro (And.intro (@blockK_ret) (@retK_normal)) (And.intro (@retK_ret) (@seqK_normal)))) (And.intro (And.intro (And.intro (@seqK_exit) (@seqK_ret)) (And.intro (@r_nil) (@r_assign))) (And.intro (And.intro (@r_move) (@r_len)) (And.intro (@r_binOpT) (@r_binOpI))))) := (And.intro (And.intro (And.intro (And.intro (@seqC_exit) (@seqC_ret)) (And.intro (@blockK_normal) (@blockK_exit))) (And.intro (And.intro (@blockK_ret) (@retK_normal)) (And.intro (@retK_ret) (@seqK_normal)))) (And.intro (And.intro (And.intro (@seqK_exit) (@seqK_ret)) (And.intro (@r_nil) (@r_assign))) (And.intro (And.intro (@r_move) (@r_len)) (And.intro (@r_binOpT) (@r_binOpI)))))
theorem vcd2 : type_of% (And.intro (And.intro (And.intro (And.intro (@r_binOpB) (@r_binOpS)) (And.intro (@r_unOp) (@r_convert))) (And.intro (And.intro (@r_indexAddr) (@r_load)) (And.intro (@r_pick) (@r_slice)))) (And.intro (And.intro (And.intro (@r_nilCheck) (@r_fieldAddr)) (And.intro (@r_field) (@r_extract))) (And.intro (And.intro (@r_min) (@r_max)) (And.intro (@r_call) (@r_makeFunc))))) := (And.intro (And.intro (And.intro (And.intro (@r_binOpB) (@r_binOpS)) (And.intro (@r_unOp) (@r_convert))) (And.intro (And.intro (@r_indexAddr) (@r_load)) (And.intro (@r_pick) (@r_slice)))) (And.intro (And.intro (And.intro (@r_nilCheck) (@r_fieldAddr)) (And.intro (@r_field) (@r_extract))) (And.intro (And.intro (@r_min) (@r_max)) (And.intro (@r_call) (@r_makeFunc)))))
theorem vcd3 : type_of% (And.intro (And.intro (@r_guard) (r_index' Try.underlying9)) (And.intro (r_index' Try.underlying10) (r_index' Try.underlying11))) := (And.intro (And.intro (@r_guard) (r_index' Try.underlying9)) (And.intro (r_index' Try.underlying10) (r_index' Try.underlying11)))
theorem vcu : type_of% (And.intro (And.intro (And.intro (And.intro (And.intro @vcu0 (And.intro @vcu1 @vcu2)) (And.intro @vcu3 (And.intro @vcu4 @vcu5))) (And.intro (And.intro @vcu6 (And.intro @vcu7 @vcu8)) (And.intro @vcu9 (And.intro @vcu10 @vcu11)))) (And.intro (And.intro (And.intro @vcu12 (And.intro @vcu13 @vcu14)) (And.intro @vcu15 (And.intro @vcu16 @vcu17))) (And.intro (And.intro @vcu18 (And.intro @vcu19 @vcu20)) (And.intro @vcu21 (And.intro @vcu22 @vcu23))))) (And.intro (And.intro (And.intro (And.intro @vcu24 (And.intro @vcu25 @vcu26)) (And.intro @vcu27 (And.intro @vcu28 @vcu29))) (And.intro (And.intro @vcu30 (And.intro @vcu31 @vcu32)) (And.intro @vcu33 (And.intro @vcu34 @vcu35)))) (And.intro (And.intro (And.intro @vcu36 (And.intro @vcu37 @vcu38)) (And.intro @vcu39 (And.intro @vcu40 @vcu41))) (And.intro (And.intro @vcu42 (And.intro @vcu43 @vcu44)) (And.intro @vcu45 (And.intro @vcu46 @vcu47)))))) := (And.intro (And.intro (And.intro (And.intro (And.intro @vcu0 (And.intro @vcu1 @vcu2)) (And.intro @vcu3 (And.intro @vcu4 @vcu5))) (And.intro (And.intro @vcu6 (And.intro @vcu7 @vcu8)) (And.intro @vcu9 (And.intro @vcu10 @vcu11)))) (And.intro (And.intro (And.intro @vcu12 (And.intro @vcu13 @vcu14)) (And.intro @vcu15 (And.intro @vcu16 @vcu17))) (And.intro (And.intro @vcu18 (And.intro @vcu19 @vcu20)) (And.intro @vcu21 (And.intro @vcu22 @vcu23))))) (And.intro (And.intro (And.intro (And.intro @vcu24 (And.intro @vcu25 @vcu26)) (And.intro @vcu27 (And.intro @vcu28 @vcu29))) (And.intro (And.intro @vcu30 (And.intro @vcu31 @vcu32)) (And.intro @vcu33 (And.intro @vcu34 @vcu35)))) (And.intro (And.intro (And.intro @vcu36 (And.intro @vcu37 @vcu38)) (And.intro @vcu39 (And.intro @vcu40 @vcu41))) (And.intro (And.intro @vcu42 (And.intro @vcu43 @vcu44)) (And.intro @vcu45 (And.intro @vcu46 @vcu47))))))
theorem vcd : type_of% (And.intro (And.intro @vcd0 @vcd1) (And.intro @vcd2 @vcd3)) := (And.intro (And.intro @vcd0 @vcd1) (And.intro @vcd2 @vcd3))
theorem z9q {p : Prop} (h : p := by simp -implicitDefEqProofs (disch := omega) only [Nat.reduceEqDiff, ↓reduceIte, vcu, ↓vcd]) : p := h
theorem z9r {p : Prop} (h : p := by simp -implicitDefEqProofs (disch := omega) only [Nat.reduceEqDiff, ↓reduceIte, vcu, ↓vcd]; rfl) : p := h
theorem z9z {p : Prop} (h : p := by simp -implicitDefEqProofs (disch := omega) only [Nat.reduceEqDiff, ↓reduceIte, vcu, ↓vcd]; exact Nat.zero_lt_succ _) : p := h
theorem z9l {p : Prop} (h : p := by simp -implicitDefEqProofs (disch := omega) only [Nat.reduceEqDiff, ↓reduceIte, vcu, ↓vcd]; exact Nat.le_refl _) : p := h
theorem z9co30 {p : Prop} (h : p := by simp -implicitDefEqProofs (disch := omega) only [Nat.reduceEqDiff, ↓reduceIte, vcu, ↓vcd, co30]; rfl) : p := h
theorem z9co33 {p : Prop} (h : p := by simp -implicitDefEqProofs (disch := omega) only [Nat.reduceEqDiff, ↓reduceIte, vcu, ↓vcd, co33]; rfl) : p := h
theorem z9co52 {p : Prop} (h : p := by simp -implicitDefEqProofs (disch := omega) only [Nat.reduceEqDiff, ↓reduceIte, vcu, ↓vcd, co52]; rfl) : p := h
theorem z9co71 {p : Prop} (h : p := by simp -implicitDefEqProofs (disch := omega) only [Nat.reduceEqDiff, ↓reduceIte, vcu, ↓vcd, co71]; rfl) : p := h
end Go.Proofs.Ytafkndnmhhjdhaa
namespace Go.Proofs.Ytafkndnmhhjdhaa
open Go Go.Abs Go.RowKit
variable {w0 : World}
theorem in_calls (σ : AHeap) (n lo hi : Int) : ACall Try.prog w0 63 [.int .i64 n, .int .i64 lo, .int .i64 hi] σ fun r σ' => r = .bool (decide (lo ≤ n ∧ n ≤ hi)) ∧ σ' = σ := by
 refine acall_go mixed Try.func63 rfl good63 fun pr => ?_
 by_cases h : lo ≤ n
 ·simp -implicitDefEqProofs (disch := omega) only [Nat.reduceEqDiff, ↓reduceIte, vcu, ↓vcd]
  refine fin_one Try.results63 ⟨?_, rfl⟩
  simp -implicitDefEqProofs (disch := omega) only [Nat.reduceEqDiff, ↓reduceIte, vcu, ↓vcd]
  simp [h]
 ·simp -implicitDefEqProofs (disch := omega) only [Nat.reduceEqDiff, ↓reduceIte, vcu, ↓vcd]
  refine fin_one Try.results63 ⟨?_, rfl⟩
  simp -implicitDefEqProofs (disch := omega) only [Nat.reduceEqDiff, ↓reduceIte, vcu, ↓vcd]
  simp [h]
theorem set_at {α : Type} (xs : List α) (d : α) {k n : Nat} (hk : k < xs.length) (hn : n = xs.length) : (xs.take k ++ List.replicate (n - k) d).set k (xs.getD k d) = xs.take (k + 1) ++ List.replicate (n - (k + 1)) d := by
 subst hn
 obtain ⟨m, hm⟩ : ∃ m, xs.length - k = m + 1 := ⟨xs.length - k - 1, by omega⟩
 have e : xs.length - (k + 1) = m := by omega
 rw [hm, e, List.set_append_right _ _ (by simp; omega), List.take_succ_eq_append_getElem hk, List.append_assoc]
 have : k - (xs.take k).length = 0 := by simp; omega
 rw [this]
 simp [List.getD, hk, List.replicate_succ]
theorem has_at (σ : AHeap) (h o : Nat) (xs : List Int) (n : Int) (hv : IntsAt .i64 σ h o xs) (hl : xs.length ≤ 1048576) :
  ACall Try.prog w0 86 [.slice (some ⟨h, o, none⟩) xs.length 1, .int .i64 n] σ fun r σ' => r = .bool (decide (n ∈ xs)) ∧ σ' = σ := by
 refine acall_go mixed Try.func86 rfl good86 fun pr => ?_
 simp -implicitDefEqProofs (disch := omega) only [Nat.reduceEqDiff, ↓reduceIte, vcu, ↓vcd]
 refine vc_loop mixed (by kernel_rfl) (fun m a σ' => ∃ k : Nat, m + k = xs.length ∧ a 0 = .slice (some ⟨h, o, none⟩) xs.length 1 ∧ a 1 = .int .i64 n ∧ a 5 = .int .i64 k ∧ σ' = σ ∧ ∀ j, j < k → xs.getD j 0 ≠ n) xs.length ⟨0, by simp, rfl, rfl, rfl, rfl, by simp⟩ ?_
 rintro m a σ' ⟨k, hk, h0, h1, h5, rfl, hne⟩
 by_cases hlt : k < xs.length
 ·have hx := hv k hlt
  simp -implicitDefEqProofs (disch := omega) only [Nat.reduceEqDiff, ↓reduceIte, vcu, ↓vcd, h0, h1, h5, hx]
  rw [condR_dec]
  refine ⟨fun heq => ?_, fun hneq => ?_⟩
  ·rw [vcH_eq]
   simp -implicitDefEqProofs (disch := omega) only [Nat.reduceEqDiff, ↓reduceIte, vcu, ↓vcd]
   refine fin_one Try.results86 ⟨?_, rfl⟩
   simp -implicitDefEqProofs (disch := omega) only [Nat.reduceEqDiff, ↓reduceIte, vcu, ↓vcd]
   have : n ∈ xs := by rw [← heq]; simp [List.getD, hlt]
   simp [this]
  ·rw [vcH_eq]
   simp -implicitDefEqProofs (disch := omega) only [Nat.reduceEqDiff, ↓reduceIte, vcu, ↓vcd, h0, h1, h5]
   refine ⟨m - 1, by omega, k + 1, by omega, trivial, trivial, by simp, trivial, fun j hj => ?_⟩
   by_cases e : j = k
   ·subst e; exact hneq
   ·exact hne j (by omega)
 ·simp -implicitDefEqProofs (disch := omega) only [Nat.reduceEqDiff, ↓reduceIte, vcu, ↓vcd, h0, h1, h5]
  refine fin_one Try.results86 ⟨?_, rfl⟩
  simp -implicitDefEqProofs (disch := omega) only [Nat.reduceEqDiff, ↓reduceIte, vcu, ↓vcd]
  have : n ∉ xs := by
   intro hm
   obtain ⟨i, hi, rfl⟩ := List.getElem_of_mem hm
   exact hne i (by omega) (by simp [List.getD, hi])
  simp [this]
def seq (k : Int) (n : Nat) : List Int := (List.range n).map fun (i : Nat) => k + i
end Go.Proofs.Ytafkndnmhhjdhaa
namespace Go.Proofs.Ytafkndnmhhjdhaa
open Go Go.Abs Go.RowKit
variable {w0 : World}
/-- a text of digits -/
def DgT (xs : List UInt8) : Prop := ∀ b ∈ xs, 48 ≤ b.toNat ∧ b.toNat ≤ 51
instance (xs : List UInt8) : Decidable (DgT xs) := inferInstanceAs (Decidable (∀ b ∈ xs, 48 ≤ b.toNat ∧ b.toNat ≤ 51))
theorem DgT.at {xs : List UInt8} (h : DgT xs) {k : Nat} (hk : k < xs.length) : 48 ≤ (xs.getD k 0).toNat ∧ (xs.getD k 0).toNat ≤ 51 := h _ (by simp [List.getD, hk])
theorem dgT_of {xs : List UInt8} (h : ∀ k, k < xs.length → 48 ≤ (xs.getD k 0).toNat ∧ (xs.getD k 0).toNat ≤ 51) : DgT xs := by
 intro b hb
 obtain ⟨k, hk, rfl⟩ := List.mem_iff_getElem.1 hb
 have := h k hk
 simpa [List.getD, hk] using this
theorem conv_u8 {b : Int} (h : 0 ≤ b ∧ b ≤ 255) : aconv Try.prog 5 3 (.int .u8 b) = some (.int .i64 b) := by
 simp only [aconv, Try.underlying5, Try.underlying3]
 rw [wrap_i64_ok (by omega)]
set_option maxRecDepth 8000 in
theorem abin_usub {t : TypeId} {a b : Int} : abin Try.prog t .sub (.int .u8 a) (.int .u8 b) = some (.int .u8 ((a - b) % 256)) := by
 simp only [abin, if_true]; congr 2
set_option maxRecDepth 8000 in
theorem abin_ulss {t : TypeId} {a b : Int} : abin Try.prog t .lss (.int .u8 a) (.int .u8 b) = some (.bool (decide (a < b))) := by simp [abin]
theorem u8_le (b : UInt8) : b.toNat ≤ 255 := by have := b.toNat_lt; omega
set_option maxRecDepth 8000 in
theorem digits_calls (σ : AHeap) (xs : List UInt8) (hl : xs.length ≤ 1048576) : ACall Try.prog w0 70 [.string (tx xs)] σ fun r σ' => r = .bool (decide (DgT xs)) ∧ σ' = σ := by
 refine acall_go mixed Try.func70 rfl good70 fun pr => ?_
 simp -implicitDefEqProofs (disch := omega) only [Nat.reduceEqDiff, ↓reduceIte, vcu, ↓vcd]
 refine vc_loop_c mixed (by kernel_rfl) [0] (fun m a σ' => ∃ k : Nat, m + k = xs.length ∧ a 3 = .int .i64 k ∧ (∀ j, j < k → 48 ≤ (xs.getD j 0).toNat ∧ (xs.getD j 0).toNat ≤ 51) ∧ σ' = σ) xs.length ⟨0, by simp, rfl, fun j hj => absurd hj (by omega), rfl⟩ ?_
 rintro m a σ' hc ⟨k, hk, h3, hd, rfl⟩
 simp -implicitDefEqProofs (disch := omega) only [Nat.reduceEqDiff, ↓reduceIte, vcu, ↓vcd] at hc
 obtain ⟨h0, -⟩ := hc
 by_cases hlt : k < xs.length
 ·have hb := u8_le (xs.getD k 0)
  by_cases hdg : 48 ≤ (xs.getD k 0).toNat ∧ (xs.getD k 0).toNat ≤ 51
  ·have hd1 : decide (0 ≤ (((xs.getD k 0).toNat : Int) - 48) % 256 ∧ (((xs.getD k 0).toNat : Int) - 48) % 256 ≤ 3) = true := decide_eq_true (by omega)
   simp -implicitDefEqProofs (disch := omega) only [Nat.reduceEqDiff, ↓reduceIte, vcu, ↓vcd, h0, h3, abin_usub, conv_u8]
   refine (in_calls _ _ 0 3).mono ?_
   rintro r τ ⟨rfl, rfl⟩
   simp -implicitDefEqProofs (disch := omega) only [Nat.reduceEqDiff, ↓reduceIte, vcu, ↓vcd, opK_some, h0, h3, abin_ulss, hd1]
   refine ⟨⟨trivial, trivial⟩, m - 1, by omega, k + 1, by omega, by simp, fun j hj => ?_, trivial⟩
   by_cases hjk : j = k
   ·subst hjk; exact hdg
   ·exact hd j (by omega)
  ·have hn : ¬DgT xs := fun h => hdg (h.at hlt)
   have hd1 : decide (0 ≤ (((xs.getD k 0).toNat : Int) - 48) % 256 ∧ (((xs.getD k 0).toNat : Int) - 48) % 256 ≤ 3) = false := decide_eq_false (by omega)
   simp -implicitDefEqProofs (disch := omega) only [Nat.reduceEqDiff, ↓reduceIte, vcu, ↓vcd, h0, h3, abin_usub, conv_u8]
   refine (in_calls _ _ 0 3).mono ?_
   rintro r τ ⟨rfl, rfl⟩
   simp -implicitDefEqProofs (disch := omega) only [Nat.reduceEqDiff, ↓reduceIte, vcu, ↓vcd, opK_some, h0, h3, abin_ulss, hd1]
   refine fin_one Try.results70 ⟨?_, rfl⟩
   simp -implicitDefEqProofs (disch := omega) only [Nat.reduceEqDiff, ↓reduceIte, vcu, ↓vcd]
   simp [hn]
 ·simp -implicitDefEqProofs (disch := omega) only [Nat.reduceEqDiff, ↓reduceIte, vcu, ↓vcd, h0, h3]
  have e : k = xs.length := by omega
  refine fin_one Try.results70 ⟨?_, rfl⟩
  simp -implicitDefEqProofs (disch := omega) only [Nat.reduceEqDiff, ↓reduceIte, vcu, ↓vcd]
  subst e
  simp [dgT_of hd]
/-- a text begins with another one -/
def Beg (s t : List UInt8) : Prop := t.length ≤ s.length ∧ s.take t.length = t
instance (s t : List UInt8) : Decidable (Beg s t) := inferInstanceAs (Decidable (_ ∧ _))
set_option maxRecDepth 8000 in
theorem begins_calls (σ : AHeap) (s t : List UInt8) : ACall Try.prog w0 71 [.string (tx s), .string (tx t)] σ fun r σ' => r = .bool (decide (Beg s t)) ∧ σ' = σ := by
 refine acall_go mixed Try.func71 rfl good71 fun pr => ?_
 by_cases h : t.length ≤ s.length
 ·simp -implicitDefEqProofs (disch := omega) only [Nat.reduceEqDiff, ↓reduceIte, vcu, ↓vcd]
  refine fin_one Try.results71 ⟨?_, rfl⟩
  simp -implicitDefEqProofs (disch := omega) only [Nat.reduceEqDiff, ↓reduceIte, vcu, ↓vcd]
  simp [Beg, h]
 ·simp -implicitDefEqProofs (disch := omega) only [Nat.reduceEqDiff, ↓reduceIte, vcu, ↓vcd]
  refine fin_one Try.results71 ⟨?_, rfl⟩
  simp -implicitDefEqProofs (disch := omega) only [Nat.reduceEqDiff, ↓reduceIte, vcu, ↓vcd]
  simp [Beg, h]
/-- a power of four -/
def pw (n : Nat) : Int := 4 ^ n
theorem conv_to_u8 {b : Int} (h : 0 ≤ b ∧ b ≤ 255) : aconv Try.prog 3 5 (.int .i64 b) = some (.int .u8 b) := by
 simp only [aconv, Try.underlying5, Try.underlying3]
 congr 2
 show b % 256 = b
 omega
end Go.Proofs.Ytafkndnmhhjdhaa
namespace Go.Proofs.Ytafkndnmhhjdhaa
open Go Go.Abs Go.RowKit Go.Dial
variable {w0 : World}
/-- a deed as a value -/
def ddA (d : Dd) : Value := .agg #[.int .i64 d.k, .int .i64 d.l, .string (tx d.t)]
theorem fin_ct8 {P : Program} {fn : Func} {R : Value → AHeap → Prop} {a : AFrame} {σ : AHeap} {t u : Nat} {ty : TypeId} {v : Value} (h : fn.results = #[.cell t ty, .tmp u]) (σ'' : AHeap) (hs : Sub σ'' σ) (hv : aload P σ ty (a t) = some v) (hr : R (.tuple #[v, a u]) σ'') : finC P fn R a σ :=
 ⟨[v, a u], σ'', by simp [h, rvals, hv], hs, hr⟩
end Go.Proofs.Ytafkndnmhhjdhaa
namespace Go.Proofs.Ytafkndnmhhjdhaa
open Go Go.Abs Go.RowKit Go.Dial
variable {w0 : World}
set_option maxRecDepth 8000 in
theorem eqDd_at (σ : AHeap) (c d : Dd) : ACall Try.prog w0 68 [ddA c, ddA d] σ fun r σ' => r = .bool (decide (c = d)) ∧ σ' = σ := by
 obtain ⟨A, B, C⟩ := c
 obtain ⟨D, E, F⟩ := d
 unfold ddA
 refine acall_go mixed Try.func68 rfl good68 fun pr => ?_
 simp -implicitDefEqProofs (disch := omega) only [Nat.reduceEqDiff, ↓reduceIte, vcu, ↓vcd]
 refine r_boxed fun b1 τ1 n1 s1 e1 => ?_
 replace e1 : τ1 b1 = some ⟨[.int .i64 A, .int .i64 B, .string (tx C)], false⟩ := e1
 refine r_boxed fun b2 τ2 n2 s2 e2 => ?_
 replace e2 : τ2 b2 = some ⟨[.int .i64 D, .int .i64 E, .string (tx F)], false⟩ := e2
 replace e1 := s2 _ _ e1
 have s12 := s1.trans s2
 have x0 : ld τ2 b1 0 = some (.int .i64 A) := ld_of e1 rfl
 have x1 : ld τ2 b1 1 = some (.int .i64 B) := ld_of e1 rfl
 have x2 : ld τ2 b1 2 = some (.string (tx C)) := ld_of e1 rfl
 have y0 : ld τ2 b2 0 = some (.int .i64 D) := ld_of e2 rfl
 have y1 : ld τ2 b2 1 = some (.int .i64 E) := ld_of e2 rfl
 have y2 : ld τ2 b2 2 = some (.string (tx F)) := ld_of e2 rfl
 by_cases h1 : A = D
 case neg =>
  have d1 : decide (A ≠ D) = true := decide_eq_true h1
  simp -implicitDefEqProofs (disch := omega) only [Nat.reduceEqDiff, ↓reduceIte, vcu, ↓vcd, x0, y0, d1]
  refine fin_drop Try.results68 σ s12 ⟨?_, rfl⟩
  simp -implicitDefEqProofs (disch := omega) only [Nat.reduceEqDiff, ↓reduceIte, vcu, ↓vcd]
  rw [decide_eq_false (by rintro e; cases e; exact h1 rfl)]
 have d1 : decide (A ≠ D) = false := decide_eq_false fun h => h h1
 by_cases h2 : B = E
 case neg =>
  have d2 : decide (B ≠ E) = true := decide_eq_true h2
  simp -implicitDefEqProofs (disch := omega) only [Nat.reduceEqDiff, ↓reduceIte, vcu, ↓vcd, x0, y0, d1, x1, y1, d2]
  refine fin_drop Try.results68 σ s12 ⟨?_, rfl⟩
  simp -implicitDefEqProofs (disch := omega) only [Nat.reduceEqDiff, ↓reduceIte, vcu, ↓vcd]
  rw [decide_eq_false (by rintro e; cases e; exact h2 rfl)]
 have d2 : decide (B ≠ E) = false := decide_eq_false fun h => h h2
 by_cases h3 : C = F
 ·simp -implicitDefEqProofs (disch := omega) only [Nat.reduceEqDiff, ↓reduceIte, vcu, ↓vcd, x0, y0, d1, x1, y1, d2, x2, y2, abin_sneq, decide_eq_true h3, Bool.not_true]
  refine fin_drop Try.results68 σ s12 ⟨?_, rfl⟩
  simp -implicitDefEqProofs (disch := omega) only [Nat.reduceEqDiff, ↓reduceIte, vcu, ↓vcd]
  rw [decide_eq_true (by rw [h1, h2, h3])]
 ·simp -implicitDefEqProofs (disch := omega) only [Nat.reduceEqDiff, ↓reduceIte, vcu, ↓vcd, x0, y0, d1, x1, y1, d2, x2, y2, abin_sneq, decide_eq_false h3, Bool.not_false]
  refine fin_drop Try.results68 σ s12 ⟨?_, rfl⟩
  simp -implicitDefEqProofs (disch := omega) only [Nat.reduceEqDiff, ↓reduceIte, vcu, ↓vcd]
  rw [decide_eq_false (by rintro e; cases e; exact h3 rfl)]
end Go.Proofs.Ytafkndnmhhjdhaa
namespace Go.Proofs.Ytafkndnmhhjdhaa
open Go Go.Abs Go.RowKit Go.Dial
variable {w0 : World}
theorem listD_eq {xs ys : List Dd} (hlen : xs.length = ys.length) (h : ∀ j, j < xs.length → xs.getD j dd0 = ys.getD j dd0) : xs = ys := by
 apply List.ext_getElem hlen
 intro i h1 h2
 have := h i h1
 simpa [List.getD, h1, h2] using this
set_option maxRecDepth 8000 in
theorem eqDds_at (σ : AHeap) (h o g p : Nat) (xs ys : List Dd) (hv : DdsAt σ h o xs) (hu : DdsAt σ g p ys) (hl : xs.length ≤ 1048576) (hl2 : ys.length ≤ 1048576) :
  ACall Try.prog w0 36 [.slice (some ⟨h, o, none⟩) xs.length 3, .slice (some ⟨g, p, none⟩) ys.length 3] σ fun r σ' => r = .bool (decide (xs = ys)) ∧ σ' = σ := by
 refine acall_go mixed Try.func36 rfl good36 fun pr => ?_
 by_cases hlen : xs.length = ys.length
 ·simp -implicitDefEqProofs (disch := omega) only [Nat.reduceEqDiff, ↓reduceIte, vcu, ↓vcd]
  refine vc_loop_c mixed (by kernel_rfl) [0, 1] (fun m a σ' => ∃ k : Nat, m + k = xs.length ∧ a 5 = .int .i64 k ∧ σ' = σ ∧ ∀ j, j < k → xs.getD j dd0 = ys.getD j dd0) xs.length ⟨0, by simp, rfl, rfl, by simp⟩ ?_
  rintro m a σ' hc ⟨k, hk, h5, rfl, he⟩
  simp -implicitDefEqProofs (disch := omega) only [Nat.reduceEqDiff, ↓reduceIte, vcu, ↓vcd] at hc
  obtain ⟨h0, h1, -⟩ := hc
  by_cases hlt : k < xs.length
  ·have hx := hv.all hlt
   have hy := hu.all (show k < ys.length by omega)
   generalize hcx : xs.getD k dd0 = c at hx
   generalize hcy : ys.getD k dd0 = d at hy
   obtain ⟨A, B, C⟩ := c
   obtain ⟨D, E, F⟩ := d
   unfold ddc at hx hy
   simp -implicitDefEqProofs (disch := omega) only [Nat.reduceEqDiff, ↓reduceIte, vcu, ↓vcd, h0, h1, h5, hx, hy, co52]
   rw [r_callq]
   refine ⟨_, eqDd_at _ ⟨A, B, C⟩ ⟨D, E, F⟩, ?_⟩
   by_cases hxy : (⟨A, B, C⟩ : Dd) = ⟨D, E, F⟩
   ·rw [decide_eq_true hxy]
    simp -implicitDefEqProofs (disch := omega) only [Nat.reduceEqDiff, ↓reduceIte, vcu, ↓vcd, h0, h1, h5]
    refine ⟨⟨trivial, trivial, trivial⟩, m - 1, by omega, k + 1, by omega, by simp, trivial, fun j hj => ?_⟩
    by_cases e : j = k
    ·subst e; rw [hcx, hcy]; exact hxy
    ·exact he j (by omega)
   ·rw [decide_eq_false hxy]
    simp -implicitDefEqProofs (disch := omega) only [Nat.reduceEqDiff, ↓reduceIte, vcu, ↓vcd, h0, h1, h5]
    refine fin_one Try.results36 ⟨?_, rfl⟩
    simp -implicitDefEqProofs (disch := omega) only [Nat.reduceEqDiff, ↓reduceIte, vcu, ↓vcd]
    have : xs ≠ ys := fun e => hxy (by rw [← hcx, ← hcy, e])
    simp [this]
  ·simp -implicitDefEqProofs (disch := omega) only [Nat.reduceEqDiff, ↓reduceIte, vcu, ↓vcd, h0, h1, h5]
   refine fin_one Try.results36 ⟨?_, rfl⟩
   simp -implicitDefEqProofs (disch := omega) only [Nat.reduceEqDiff, ↓reduceIte, vcu, ↓vcd]
   have : xs = ys := listD_eq hlen fun j hj => he j (by omega)
   simp [this]
 ·simp -implicitDefEqProofs (disch := omega) only [Nat.reduceEqDiff, ↓reduceIte, vcu, ↓vcd]
  refine fin_one Try.results36 ⟨?_, rfl⟩
  simp -implicitDefEqProofs (disch := omega) only [Nat.reduceEqDiff, ↓reduceIte, vcu, ↓vcd]
  have : xs ≠ ys := fun e => hlen (by rw [e])
  simp [this]
theorem eqDds_calls (σ : AHeap) (v u : Value) (xs ys : List Dd) (hv : Dds σ v xs) (hu : Dds σ u ys) (hl : xs.length ≤ 1048576) (hl2 : ys.length ≤ 1048576) :
  ACall Try.prog w0 36 [v, u] σ fun r σ' => r = .bool (decide (xs = ys)) ∧ σ' = σ :=
 ACall.dds_quiet (pre := []) (post := [u]) (by kernel_rfl) hv fun σ1 h o hs hg =>
  ACall.dds_quiet (pre := [_]) (post := []) (by kernel_rfl) (hu.sub hs) fun σ2 g p hs2 hg2 => eqDds_at σ2 h o g p xs ys (hg.sub hs2) hg2 hl hl2
end Go.Proofs.Ytafkndnmhhjdhaa
namespace Go.Proofs.Ytafkndnmhhjdhaa
open Go Go.Abs Go.RowKit Go.Dial
variable {w0 : World}
theorem dds_setk : ∀ (cs : List Dd) (i : Nat), i < cs.length → ∀ x : Int, (dds cs).set (i * 3) (.int .i64 x) = dds (cs.set i ⟨x, (cs.getD i dd0).l, (cs.getD i dd0).t⟩)
 | [], i, h, x => absurd h (by simp)
 | c :: cs, 0, _, x => rfl
 | c :: cs, i + 1, h, x => by
  have := dds_setk cs i (by simpa using h) x
  have e1 : (i + 1) * 3 = i * 3 + 3 := by omega
  rw [e1, dds_cons]
  simp only [List.set_cons_succ, List.getD_cons_succ, dds_cons]
  rw [this]
theorem dds_setl : ∀ (cs : List Dd) (i : Nat), i < cs.length → ∀ x : Int, (dds cs).set (i * 3 + 1) (.int .i64 x) = dds (cs.set i ⟨(cs.getD i dd0).k, x, (cs.getD i dd0).t⟩)
 | [], i, h, x => absurd h (by simp)
 | c :: cs, 0, _, x => rfl
 | c :: cs, i + 1, h, x => by
  have := dds_setl cs i (by simpa using h) x
  have e1 : (i + 1) * 3 + 1 = i * 3 + 1 + 3 := by omega
  rw [e1, dds_cons]
  simp only [List.set_cons_succ, List.getD_cons_succ, dds_cons]
  rw [this]
theorem dds_sett : ∀ (cs : List Dd) (i : Nat), i < cs.length → ∀ x : List UInt8, (dds cs).set (i * 3 + 2) (.string (tx x)) = dds (cs.set i ⟨(cs.getD i dd0).k, (cs.getD i dd0).l, x⟩)
 | [], i, h, x => absurd h (by simp)
 | c :: cs, 0, _, x => rfl
 | c :: cs, i + 1, h, x => by
  have := dds_sett cs i (by simpa using h) x
  have e1 : (i + 1) * 3 + 2 = i * 3 + 2 + 3 := by omega
  rw [e1, dds_cons]
  simp only [List.set_cons_succ, List.getD_cons_succ, dds_cons]
  rw [this]
theorem dds_write (cs : List Dd) (i : Nat) (h : i < cs.length) (c : Dd) : lwrite (dds cs) (i * 3) [.int .i64 c.k, .int .i64 c.l, .string (tx c.t)] = dds (cs.set i c) := by
 have hl := dds_length cs
 apply List.ext_getElem?
 intro j
 rw [lwrite_get _ _ _ (by simp; omega)]
 by_cases hj : j < cs.length * 3
 ·obtain ⟨q, r, rfl, hr⟩ : ∃ q r, j = q * 3 + r ∧ r < 3 := ⟨j / 3, j % 3, by omega, by omega⟩
  have hq : q < cs.length := by omega
  have g := dds_get (cs.set i c) q (by simpa using hq)
  have g0 := dds_get cs q hq
  have hget : (cs.set i c).getD q dd0 = if i = q then c else cs.getD q dd0 := by
   simp only [List.getD, List.getElem?_set]
   by_cases e : i = q
   ·subst e; simp [h]
   ·simp [e]
  rw [hget] at g
  have hr' : r = 0 ∨ r = 1 ∨ r = 2 := by omega
  rcases hr' with rfl | rfl | rfl
  ·rw [Nat.add_zero, g.1]
   by_cases e : i = q
   ·subst e; rw [if_pos ⟨Nat.le_refl _, by simp⟩, if_pos rfl]; simp
   ·rw [if_neg (by simp; omega), if_neg e]; exact g0.1
  ·rw [g.2.1]
   by_cases e : i = q
   ·subst e; rw [if_pos ⟨by omega, by simp⟩, if_pos rfl]; simp
   ·rw [if_neg (by simp; omega), if_neg e]; exact g0.2.1
  ·rw [g.2.2]
   by_cases e : i = q
   ·subst e; rw [if_pos ⟨by omega, by simp⟩, if_pos rfl]; simp
   ·rw [if_neg (by simp; omega), if_neg e]; exact g0.2.2
 ·rw [if_neg (by simp; omega), List.getElem?_eq_none (by omega), List.getElem?_eq_none (by rw [dds_length]; simp; omega)]
theorem azeros_dds (l : Nat) : azeros (.agg #[.int .i64 0, .int .i64 0, .string (tx [])]) (l * 3) = dds (List.replicate l dd0) := by
 apply List.ext_getElem?
 intro j
 by_cases hj : j < l * 3
 ·obtain ⟨q, r, rfl, hr⟩ : ∃ q r, j = q * 3 + r ∧ r < 3 := ⟨j / 3, j % 3, by omega, by omega⟩
  have hq : q < l := by omega
  have g := dds_get (List.replicate l dd0) q (by simpa using hq)
  have e : (List.replicate l dd0).getD q dd0 = dd0 := by simp [List.getD, hq]
  rw [e] at g
  have hr' : r = 0 ∨ r = 1 ∨ r = 2 := by omega
  rcases hr' with rfl | rfl | rfl
  ·rw [Nat.add_zero, g.1]
   have : q * 3 % 3 = 0 := by omega
   simp [azeros, madeCells, Value.cells, this, hq, dd0]
  ·rw [g.2.1]
   have h1 : q * 3 + 1 < l * 3 := by omega
   have : (q * 3 + 1) % 3 = 1 := by omega
   simp [azeros, madeCells, Value.cells, this, h1, dd0]
  ·rw [g.2.2]
   have h1 : q * 3 + 2 < l * 3 := by omega
   have : (q * 3 + 2) % 3 = 2 := by omega
   simp [azeros, madeCells, Value.cells, this, h1, dd0]
 ·rw [List.getElem?_eq_none (by rw [azeros_length]; omega), List.getElem?_eq_none (by rw [dds_length]; simp; omega)]
set_option maxRecDepth 8000 in
theorem toDd_at (σ : AHeap) (c : Dd) : ACall Try.prog w0 30 [ddA c] σ fun r σ' => r = ddA c ∧ σ' = σ := by
 obtain ⟨A, B, C⟩ := c
 unfold ddA
 refine acall_goc mixed Try.func30 rfl goodc30 fun pr => ?_
 simp -implicitDefEqProofs (disch := omega) only [Nat.reduceEqDiff, ↓reduceIte, vcu, ↓vcd]
 refine r_boxed fun h1 τ1 n1 s1 e1 => ?_
 replace e1 : τ1 h1 = some ⟨[.int .i64 A, .int .i64 B, .string (tx C)], false⟩ := e1
 refine r_new ze52 fun h2 τ2 n2 s2 e2 => ?_
 replace e2 : τ2 h2 = some ⟨[.int .i64 0, .int .i64 0, .string (tx [])], false⟩ := e2
 simp -implicitDefEqProofs (disch := omega) only [Nat.reduceEqDiff, ↓reduceIte, vcu, ↓vcd]
 refine r_new ze52 fun h3 τ3 n3 s3 e3 => ?_
 replace e3 : τ3 h3 = some ⟨[.int .i64 0, .int .i64 0, .string (tx [])], false⟩ := e3
 have f1 := (s3 _ _ (s2 _ _ e1))
 have l0 : ld τ3 h1 0 = some (.int .i64 A) := ld_of f1 rfl
 have d2 := ne_of n3 e2
 have d1 := ne_of n3 (s2 _ _ e1)
 simp -implicitDefEqProofs (disch := omega) only [Nat.reduceEqDiff, ↓reduceIte, vcu, ↓vcd, l0]
 refine r_set (g := h3) (i := 0) z9q z9r co3 z9r e3 (by simp) fun τ4 k4 e4 => ?_
 replace e4 : τ4 h3 = some ⟨[.int .i64 A, .int .i64 0, .string (tx [])], false⟩ := e4
 have l1 : ld τ4 h1 1 = some (.int .i64 B) := ld_of (k4.at f1 d1.symm) rfl
 simp -implicitDefEqProofs (disch := omega) only [Nat.reduceEqDiff, ↓reduceIte, vcu, ↓vcd, l1]
 refine r_set (g := h3) (i := 1) z9q z9r co3 z9r e4 (by simp) fun τ5 k5 e5 => ?_
 replace e5 : τ5 h3 = some ⟨[.int .i64 A, .int .i64 B, .string (tx [])], false⟩ := e5
 have l2 : ld τ5 h1 2 = some (.string (tx C)) := ld_of (k5.at (k4.at f1 d1.symm) d1.symm) rfl
 simp -implicitDefEqProofs (disch := omega) only [Nat.reduceEqDiff, ↓reduceIte, vcu, ↓vcd, l2]
 refine r_set (g := h3) (i := 2) z9q z9r co9 z9r e5 (by simp) fun τ6 k6 e6 => ?_
 replace e6 : τ6 h3 = some ⟨[.int .i64 A, .int .i64 B, .string (tx C)], false⟩ := e6
 have l4 : lds τ6 h3 0 3 = some [.int .i64 A, .int .i64 B, .string (tx C)] := lds_three (ld_of e6 rfl) (ld_of e6 rfl) (ld_of e6 rfl)
 have f2 := k6.at (k5.at (k4.at (s3 _ _ e2) d2.symm) d2.symm) d2.symm
 simp -implicitDefEqProofs (disch := omega) only [Nat.reduceEqDiff, ↓reduceIte, vcu, ↓vcd, l4, co52]
 refine r_sets (g := h2) (i := 0) (C := [.int .i64 0, .int .i64 0, .string (tx [])]) z9q z9co52 z9r z9z f2 z9l fun τ7 k7 e7 => ?_
 replace e7 : τ7 h2 = some ⟨[.int .i64 A, .int .i64 B, .string (tx C)], false⟩ := e7
 have l5 : lds τ7 h2 0 3 = some [.int .i64 A, .int .i64 B, .string (tx C)] := lds_three (ld_of e7 rfl) (ld_of e7 rfl) (ld_of e7 rfl)
 simp -implicitDefEqProofs (disch := omega) only [Nat.reduceEqDiff, ↓reduceIte, vcu, ↓vcd]
 refine fin_cell Try.results30 σ ?_ (v := .agg #[.int .i64 A, .int .i64 B, .string (tx C)]) (by simp -implicitDefEqProofs (disch := omega) only [Nat.reduceEqDiff, ↓reduceIte, vcu, ↓vcd, l5, co52]) ⟨rfl, rfl⟩
 have q3 : Sub σ τ3 := s1.trans (s2.trans s3)
 have z3 : σ h3 = none := free_sub (s1.trans s2) n3
 have z2 : σ h2 = none := free_sub s1 n2
 exact k7.sub (k6.sub (k5.sub (k4.sub q3 z3) z3) z3) z2
end Go.Proofs.Ytafkndnmhhjdhaa
namespace Go.Proofs.Ytafkndnmhhjdhaa
open Go Go.Abs Go.RowKit
variable {w0 : World}
theorem toTexts_at (σ : AHeap) (h o : Nat) (xs : List (List UInt8)) (hv : TextsAt σ h o xs) (hl : xs.length ≤ 1048576) :
  ACall Try.prog w0 18 [.slice (some ⟨h, o, none⟩) xs.length 1] σ fun r σ' => ∃ g, σ g = none ∧ r = .slice (some ⟨g, 0, none⟩) xs.length 1 ∧ Sub σ σ' ∧ σ' g = some ⟨texts xs, false⟩ := by
 refine acall_go mixed Try.func18 rfl good18 fun pr => ?_
 simp -implicitDefEqProofs (disch := omega) only [Nat.reduceEqDiff, ↓reduceIte, vcu, ↓vcd]
 refine r_makeX (kx := .i64) (ky := .i64) (l := xs.length) (c := xs.length) el24 (by omega) z9q z9q (by omega) fun g τ hg hs he => ?_
 simp -implicitDefEqProofs (disch := omega) only [Nat.reduceEqDiff, ↓reduceIte, vcu, ↓vcd]
 refine vc_loop_c mixed (by kernel_rfl) [0, 3] (fun m a σ' => ∃ k : Nat, m + k = xs.length ∧ a 4 = .int .i64 k ∧ Kept g τ σ' ∧ σ' g = some ⟨texts (xs.take k ++ List.replicate (xs.length - k) []), false⟩) xs.length ⟨0, by simp, rfl, Kept.refl _ _, by simpa using he⟩ ?_
 rintro m a σ' hc ⟨k, hk, h4, hkp, hgk⟩
 simp -implicitDefEqProofs (disch := omega) only [Nat.reduceEqDiff, ↓reduceIte, vcu, ↓vcd] at hc
 obtain ⟨h0, h3, -⟩ := hc
 have hsub := hkp.sub hs hg
 by_cases hlt : k < xs.length
 ·have hx := hv.sub hsub k hlt
  simp -implicitDefEqProofs (disch := omega) only [Nat.reduceEqDiff, ↓reduceIte, vcu, ↓vcd, h0, h3, h4, hx]
  refine r_setX (g := g) (i := 0 + k) (v := xs.getD k []) (by simp -implicitDefEqProofs (disch := omega) only [Nat.reduceEqDiff, ↓reduceIte, vcu, ↓vcd, h3]) z9q co9 hgk (by simp; omega) fun τ2 k2 e2 => ?_
  rw [Nat.zero_add, set_at xs [] hlt rfl] at e2
  simp -implicitDefEqProofs (disch := omega) only [Nat.reduceEqDiff, ↓reduceIte, vcu, ↓vcd, h0, h3, h4]
  exact ⟨⟨trivial, trivial, trivial⟩, m - 1, by omega, k + 1, by omega, by simp, hkp.trans k2, e2⟩
 ·simp -implicitDefEqProofs (disch := omega) only [Nat.reduceEqDiff, ↓reduceIte, vcu, ↓vcd, h0, h3, h4]
  have e2 : k = xs.length := by omega
  subst e2
  refine fin_one Try.results18 ⟨g, hg, ?_, hsub, by simpa using hgk⟩
  simp -implicitDefEqProofs (disch := omega) only [Nat.reduceEqDiff, ↓reduceIte, vcu, ↓vcd, h3]
theorem eqTexts_at (σ : AHeap) (h o g p : Nat) (xs ys : List (List UInt8)) (hv : TextsAt σ h o xs) (hu : TextsAt σ g p ys) (hl : xs.length ≤ 1048576) (hl2 : ys.length ≤ 1048576) :
  ACall Try.prog w0 20 [.slice (some ⟨h, o, none⟩) xs.length 1, .slice (some ⟨g, p, none⟩) ys.length 1] σ fun r σ' => r = .bool (decide (xs = ys)) ∧ σ' = σ := by
 refine acall_go mixed Try.func20 rfl good20 fun pr => ?_
 by_cases hlen : xs.length = ys.length
 ·simp -implicitDefEqProofs (disch := omega) only [Nat.reduceEqDiff, ↓reduceIte, vcu, ↓vcd]
  refine vc_loop_c mixed (by kernel_rfl) [0, 1] (fun m a σ' => ∃ k : Nat, m + k = xs.length ∧ a 5 = .int .i64 k ∧ σ' = σ ∧ ∀ j, j < k → xs.getD j [] = ys.getD j []) xs.length ⟨0, by simp, rfl, rfl, by simp⟩ ?_
  rintro m a σ' hc ⟨k, hk, h5, rfl, he⟩
  simp -implicitDefEqProofs (disch := omega) only [Nat.reduceEqDiff, ↓reduceIte, vcu, ↓vcd] at hc
  obtain ⟨h0, h1, -⟩ := hc
  by_cases hlt : k < xs.length
  ·have hx := hv k hlt
   have hy := hu k (by omega)
   by_cases hxy : xs.getD k [] = ys.getD k []
   ·rw [hxy] at hx
    simp -implicitDefEqProofs (disch := omega) only [Nat.reduceEqDiff, ↓reduceIte, vcu, ↓vcd, h0, h1, h5, hx, hy, eq_self, decide_true, Bool.not_true]
    refine ⟨⟨trivial, trivial, trivial⟩, m - 1, by omega, k + 1, by omega, by simp, trivial, fun j hj => ?_⟩
    by_cases e : j = k
    ·subst e; exact hxy
    ·exact he j (by omega)
   ·have hnb : decide (xs.getD k [] = ys.getD k []) = false := decide_eq_false hxy
    simp -implicitDefEqProofs (disch := omega) only [Nat.reduceEqDiff, ↓reduceIte, vcu, ↓vcd, h0, h1, h5, hx, hy, hnb, Bool.not_false]
    refine fin_one Try.results20 ⟨?_, rfl⟩
    simp -implicitDefEqProofs (disch := omega) only [Nat.reduceEqDiff, ↓reduceIte, vcu, ↓vcd]
    have : xs ≠ ys := fun e => hxy (by rw [e])
    simp [this]
  ·simp -implicitDefEqProofs (disch := omega) only [Nat.reduceEqDiff, ↓reduceIte, vcu, ↓vcd, h0, h1, h5]
   refine fin_one Try.results20 ⟨?_, rfl⟩
   simp -implicitDefEqProofs (disch := omega) only [Nat.reduceEqDiff, ↓reduceIte, vcu, ↓vcd]
   have : xs = ys := by
    apply List.ext_getElem hlen
    intro i h1 h2
    have := he i (by omega)
    simpa [List.getD, h1, h2] using this
   simp [this]
 ·simp -implicitDefEqProofs (disch := omega) only [Nat.reduceEqDiff, ↓reduceIte, vcu, ↓vcd]
  refine fin_one Try.results20 ⟨?_, rfl⟩
  simp -implicitDefEqProofs (disch := omega) only [Nat.reduceEqDiff, ↓reduceIte, vcu, ↓vcd]
  have : xs ≠ ys := fun e => hlen (by rw [e])
  simp [this]
theorem eqTexts_calls (σ : AHeap) (v u : Value) (xs ys : List (List UInt8)) (hv : Texts σ v xs) (hu : Texts σ u ys) (hl : xs.length ≤ 1048576) (hl2 : ys.length ≤ 1048576) :
  ACall Try.prog w0 20 [v, u] σ fun r σ' => r = .bool (decide (xs = ys)) ∧ σ' = σ :=
 ACall.texts_quiet (pre := []) (post := [u]) (by kernel_rfl) hv fun σ1 h o hs hg =>
  ACall.texts_quiet (pre := [_]) (post := []) (by kernel_rfl) (hu.sub hs) fun σ2 g p hs2 hg2 => eqTexts_at σ2 h o g p xs ys (hg.sub hs2) hg2 hl hl2
theorem toTexts_calls (σ : AHeap) (v : Value) (xs : List (List UInt8)) (hv : Texts σ v xs) (hl : xs.length ≤ 1048576) :
  ACall Try.prog w0 18 [v] σ fun r σ' => ∃ g, σ g = none ∧ r = .slice (some ⟨g, 0, none⟩) xs.length 1 ∧ Sub σ σ' ∧ σ' g = some ⟨texts xs, false⟩ := by
 refine ACall.texts_arg (pre := []) (post := []) (by kernel_rfl) hv fun σ1 g1 o1 hs1 hg1 => ?_
 refine (toTexts_at σ1 g1 o1 xs hg1 hl).mono ?_
 rintro r τ1 ⟨q, a1, a2, a3, a4⟩
 exact ⟨q, free_sub hs1 a1, a2, hs1.trans a3, a4⟩
/-- the text of a number -/
def decT (w : Nat) : List UInt8 := if h : w = 0 then [] else decT (w / 10) ++ [UInt8.ofNat (48 + w % 10)]
theorem decT_zero : decT 0 = [] := by rw [decT]; simp
theorem decT_succ {w : Nat} (h : w ≠ 0) : decT w = decT (w / 10) ++ [UInt8.ofNat (48 + w % 10)] := by rw [decT, dif_neg h]
theorem decT_len (w : Nat) : (decT w).length ≤ w := by
 induction w using Nat.strongRecOn with
 | ind w ih =>
  by_cases h : w = 0
  ·subst h; rw [decT_zero]; simp
  ·rw [decT_succ h]
   have := ih (w / 10) (by omega)
   rw [List.length_append, List.length_singleton]; omega
def mkT (k : Int) : List UInt8 := if k ≤ 0 then [109, 48] else 109 :: decT k.toNat
theorem markText_calls (σ : AHeap) (k : Int) (hk : k ≤ 2147483648) : ACall Try.prog w0 55 [.int .i64 k] σ fun r σ' => r = .string (tx (mkT k)) ∧ σ' = σ := by
 refine acall_go mixed Try.func55 rfl good55 fun pr => ?_
 by_cases h0 : k ≤ 0
 ·simp -implicitDefEqProofs (disch := omega) only [Nat.reduceEqDiff, ↓reduceIte, vcu, ↓vcd]
  refine fin_one Try.results55 ⟨?_, rfl⟩
  simp -implicitDefEqProofs (disch := omega) only [Nat.reduceEqDiff, ↓reduceIte, vcu, ↓vcd]
  rw [mkT, if_pos h0]; rfl
 ·simp -implicitDefEqProofs (disch := omega) only [Nat.reduceEqDiff, ↓reduceIte, vcu, ↓vcd]
  refine vc_loop_c mixed (by kernel_rfl) [] (fun m a σ' => ∃ xs : List UInt8, a 0 = .int .i64 m ∧ m ≤ 2147483648 ∧ a 3 = .string (tx xs) ∧ decT m ++ xs = decT k.toNat ∧ Sub σ σ') k.toNat ⟨[], by rw [show ((k.toNat : Nat) : Int) = k by omega]; rfl, by omega, rfl, by simp, Sub.refl _⟩ ?_
  rintro m a σ' hc ⟨xs, h0', hm, h3, he, hs⟩
  clear hc
  have hlen := decT_len k.toNat
  rw [← he, List.length_append] at hlen
  by_cases hlt : 0 < m
  ·simp -implicitDefEqProofs (disch := omega) only [Nat.reduceEqDiff, ↓reduceIte, vcu, ↓vcd, h0', h3, conv_to_u8]
   refine r_lit el103 (out := #[.int .u8 (48 + (m % 10 : Nat))]) (by first | kernel_rfl | (simp -implicitDefEqProofs (disch := omega) only [Nat.reduceEqDiff, ↓reduceIte, vcu, ↓vcd]; kernel_rfl)) (by rfl) fun g τ n1 s1 v1 => ?_
   have l1 : lds τ g 0 1 = some ([((48 + (m % 10 : Nat) : Nat) : Int)].map (.int .u8)) := by
    rw [lds_of v1 (by simp)]; simp
   have hcv := aconvH_bytes (z := 1) Try.underlying103 Try.underlying5 Try.underlying9 l1
   have ha := abin_sadd (P := Try.prog) (t := 9) (xs := [UInt8.ofNat (48 + m % 10)]) (ys := xs) (by rw [List.length_singleton]; omega)
   simp -implicitDefEqProofs (disch := omega) only [Nat.reduceEqDiff, ↓reduceIte, vcu, ↓vcd, h0', h3, hcv, ha]
   refine ⟨trivial, m / 10, by omega, _, by simp, by omega, rfl, ?_, hs.trans s1⟩
   rw [← he, decT_succ (w := m) (by omega)]
   simp
  ·have e : m = 0 := by omega
   subst e
   rw [decT_zero, List.nil_append] at he
   have ha := abin_sadd (P := Try.prog) (t := 9) (xs := [109]) (ys := xs) (by rw [List.length_singleton]; omega)
   have hlit : (ByteArray.mk #[109]) = tx [109] := rfl
   simp -implicitDefEqProofs (disch := omega) only [Nat.reduceEqDiff, ↓reduceIte, vcu, ↓vcd, h0', h3, hlit, ha]
   refine fin_drop Try.results55 σ hs ⟨?_, rfl⟩
   simp -implicitDefEqProofs (disch := omega) only [Nat.reduceEqDiff, ↓reduceIte, vcu, ↓vcd]
   rw [mkT, if_neg h0, ← he]; rfl
def markX (k : Int) (n : Nat) : List (List UInt8) := (List.range n).map fun (i : Nat) => mkT (k + i)
theorem markX_length (k : Int) (n : Nat) : (markX k n).length = n := by simp [markX]
theorem markX_getD {k : Int} {n i : Nat} (h : i < n) : (markX k n).getD i [] = mkT (k + i) := by simp [markX, List.getD, h]
theorem markX_succ (k : Int) (n : Nat) : markX k (n + 1) = markX k n ++ [mkT (k + n)] := by simp [markX, List.range_succ]
theorem set_markX {k : Int} {ys : List (List UInt8)} {i : Nat} (h : i < ys.length) : (markX k i ++ ys.drop i).set i (mkT (k + i)) = markX k (i + 1) ++ ys.drop (i + 1) := by
 rw [List.set_append_right _ _ (by rw [markX_length]; omega), markX_length, Nat.sub_self, markX_succ, List.append_assoc]
 congr 1
 rw [List.drop_eq_getElem_cons h]; rfl
theorem markS_own (σ : AHeap) (g : Nat) (ys : List (List UInt8)) (k : Int) (hg : σ g = some ⟨texts ys, false⟩) (hl : ys.length ≤ 1048576) (hk : 0 ≤ k ∧ k ≤ 1073741824) :
  ACall Try.prog w0 21 [.slice (some ⟨g, 0, none⟩) ys.length 1, .int .i64 k] σ fun r σ' => r = .int .i64 (k + ys.length) ∧ Kept g σ σ' ∧ σ' g = some ⟨texts (markX k ys.length), false⟩ := by
 refine acall_go mixed Try.func21 rfl good21 fun pr => ?_
 simp -implicitDefEqProofs (disch := omega) only [Nat.reduceEqDiff, ↓reduceIte, vcu, ↓vcd]
 refine vc_loop_c mixed (by kernel_rfl) [0] (fun m a σ' => ∃ i : Nat, m + i = ys.length ∧ a 1 = .int .i64 (k + i) ∧ a 5 = .int .i64 i ∧ Kept g σ σ' ∧ σ' g = some ⟨texts (markX k i ++ ys.drop i), false⟩) ys.length ⟨0, by simp, by simp [fset, aenter], rfl, Kept.refl _ _, by simpa [markX] using hg⟩ ?_
 rintro m a σ' hc ⟨i, hi, h1, h5, hkp, hgk⟩
 simp -implicitDefEqProofs (disch := omega) only [Nat.reduceEqDiff, ↓reduceIte, vcu, ↓vcd] at hc
 obtain ⟨h0, -⟩ := hc
 by_cases hlt : i < ys.length
 ·have hll : (markX k i ++ ys.drop i).length = ys.length := by simp [markX_length]; omega
  simp -implicitDefEqProofs (disch := omega) only [Nat.reduceEqDiff, ↓reduceIte, vcu, ↓vcd, h0, h1, h5]
  refine (markText_calls _ (k + i) (by omega)).mono ?_
  rintro r τ ⟨rfl, rfl⟩
  simp -implicitDefEqProofs (disch := omega) only [Nat.reduceEqDiff, ↓reduceIte, vcu, ↓vcd, opK_some, h0, h1, h5]
  refine r_setX (g := g) (i := 0 + i) (v := mkT (k + i)) (by simp -implicitDefEqProofs (disch := omega) only [Nat.reduceEqDiff, ↓reduceIte, vcu, ↓vcd, h0]) z9q co9 hgk (by omega) fun τ1 k1 e1 => ?_
  rw [Nat.zero_add, set_markX hlt] at e1
  simp -implicitDefEqProofs (disch := omega) only [Nat.reduceEqDiff, ↓reduceIte, vcu, ↓vcd, h0, h1, h5]
  refine ⟨⟨trivial, trivial⟩, m - 1, by omega, i + 1, by omega, ?_, by simp, hkp.trans k1, e1⟩
  congr 1; omega
 ·simp -implicitDefEqProofs (disch := omega) only [Nat.reduceEqDiff, ↓reduceIte, vcu, ↓vcd, h0, h1, h5]
  have e : i = ys.length := by omega
  subst e
  refine fin_one Try.results21 ⟨?_, hkp, by simpa using hgk⟩
  simp -implicitDefEqProofs (disch := omega) only [Nat.reduceEqDiff, ↓reduceIte, vcu, ↓vcd, h1]
theorem heldS_at (σ : AHeap) (g o n : Nat) (k : Int) (hv : TextsAt σ g o (markX k n)) (hl : n ≤ 1048576) (hk : 0 ≤ k ∧ k ≤ 1073741824) :
  ACall Try.prog w0 57 [.slice (some ⟨g, o, none⟩) n 1, .int .i64 k] σ fun r σ' => r = .int .i64 (k + n) ∧ σ' = σ := by
 refine acall_go mixed Try.func57 rfl good57 fun pr => ?_
 simp -implicitDefEqProofs (disch := omega) only [Nat.reduceEqDiff, ↓reduceIte, vcu, ↓vcd]
 refine vc_loop_c mixed (by kernel_rfl) [0] (fun m a σ' => ∃ i : Nat, m + i = n ∧ a 1 = .int .i64 (k + i) ∧ a 5 = .int .i64 i ∧ σ' = σ) n ⟨0, by simp, by simp [fset, aenter], rfl, rfl⟩ ?_
 rintro m a σ' hc ⟨i, hi, h1, h5, rfl⟩
 simp -implicitDefEqProofs (disch := omega) only [Nat.reduceEqDiff, ↓reduceIte, vcu, ↓vcd] at hc
 obtain ⟨h0, -⟩ := hc
 by_cases hlt : i < n
 ·have hx := hv i (by rw [markX_length]; exact hlt)
  rw [markX_getD hlt] at hx
  simp -implicitDefEqProofs (disch := omega) only [Nat.reduceEqDiff, ↓reduceIte, vcu, ↓vcd, h0, h1, h5, hx]
  rw [r_callq]
  refine ⟨_, markText_calls _ (k + i) (by omega), ?_⟩
  simp -implicitDefEqProofs (disch := omega) only [Nat.reduceEqDiff, ↓reduceIte, vcu, ↓vcd, h0, h1, h5, hx, eq_self, decide_true, Bool.not_true]
  refine ⟨⟨trivial, trivial⟩, m - 1, by omega, i + 1, by omega, ?_, by simp, trivial⟩
  congr 1; omega
 ·simp -implicitDefEqProofs (disch := omega) only [Nat.reduceEqDiff, ↓reduceIte, vcu, ↓vcd, h0, h1, h5]
  have e : i = n := by omega
  subst e
  refine fin_one Try.results57 ⟨?_, rfl⟩
  simp -implicitDefEqProofs (disch := omega) only [Nat.reduceEqDiff, ↓reduceIte, vcu, ↓vcd, h1]
theorem markS_calls (β σ : AHeap) (v : Value) (xs : List (List UInt8)) (k : Int) (hv : OwnS β σ v xs) (hl : xs.length ≤ 1048576) (hk : 0 ≤ k ∧ k ≤ 1073741824) :
  ACall Try.prog w0 21 [v, .int .i64 k] σ fun r σ' => r = .int .i64 (k + xs.length) ∧ OwnS β σ' v (markX k xs.length) ∧ (∀ h ob, β h = some ob → σ h = some ob → σ' h = some ob) := by
 rcases hv with ⟨rfl, rfl⟩ | ⟨g, rfl, hg, hn⟩
 ·refine ACall.nil_arg (pre := []) (z := 1) (by kernel_rfl) fun g hg => ?_
  refine (markS_own _ g [] k (AHeap.upd_same _ _ _) (by simp) hk).mono ?_
  rintro r σ' ⟨rfl, h1, h2⟩
  exact ⟨rfl, .inl ⟨rfl, rfl⟩, fun h ob _ e => h1 h ob (ne_of' hg e) (sub_upd hg h ob e)⟩
 ·refine (markS_own σ g xs k hg hl hk).mono ?_
  rintro r σ' ⟨rfl, h1, h2⟩
  exact ⟨rfl, .inr ⟨g, by rw [markX_length], h2, hn⟩, fun h ob hb e => h1 h ob (ne_of' hn hb) e⟩
theorem heldS_calls (σ : AHeap) (v : Value) (n : Nat) (k : Int) (hv : Texts σ v (markX k n)) (hl : n ≤ 1048576) (hk : 0 ≤ k ∧ k ≤ 1073741824) :
  ACall Try.prog w0 57 [v, .int .i64 k] σ fun r σ' => r = .int .i64 (k + n) ∧ σ' = σ :=
 ACall.texts_quiet (pre := []) (by kernel_rfl) hv fun σ1 g o _ hg => by
  rw [markX_length]; exact heldS_at σ1 g o n k hg hl hk
end Go.Proofs.Ytafkndnmhhjdhaa
namespace Go.Proofs.Ytafkndnmhhjdhaa
open Go Go.Abs Go.RowKit Go.Dial
variable {w0 : World}
set_option maxRecDepth 8000 in
theorem szDd_at (σ : AHeap) (c : Dd) (z : Int) (hz : 0 ≤ z ∧ z ≤ 1048576) (hx : c.t.length ≤ 2 ^ 63 - 1) : ACall Try.prog w0 28 [ddA c, .int .i64 z] σ fun r σ' => r = .int .i64 (if z < c.t.length then -1 else z - c.t.length) ∧ σ' = σ := by
 obtain ⟨A, B, C⟩ := c
 unfold ddA
 dsimp only at hx ⊢
 refine acall_go mixed Try.func28 rfl good28 fun pr => ?_
 simp -implicitDefEqProofs (disch := omega) only [Nat.reduceEqDiff, ↓reduceIte, vcu, ↓vcd]
 refine r_boxed fun h1 τ1 n1 s1 e1 => ?_
 replace e1 : τ1 h1 = some ⟨[.int .i64 A, .int .i64 B, .string (tx C)], false⟩ := e1
 have a1 : ld τ1 h1 2 = some (.string (tx C)) := ld_of e1 rfl
 by_cases h : z < C.length
 ·simp -implicitDefEqProofs (disch := omega) only [Nat.reduceEqDiff, ↓reduceIte, vcu, ↓vcd, a1]
  refine fin_drop Try.results28 σ s1 ⟨?_, rfl⟩
  simp -implicitDefEqProofs (disch := omega) only [Nat.reduceEqDiff, ↓reduceIte, vcu, ↓vcd]
  rw [if_pos h]
 ·simp -implicitDefEqProofs (disch := omega) only [Nat.reduceEqDiff, ↓reduceIte, vcu, ↓vcd, a1]
  refine fin_drop Try.results28 σ s1 ⟨?_, rfl⟩
  simp -implicitDefEqProofs (disch := omega) only [Nat.reduceEqDiff, ↓reduceIte, vcu, ↓vcd]
  rw [if_neg h]
set_option maxRecDepth 8000 in
theorem szDds_at (σ : AHeap) (h o : Nat) (cs : List Dd) (n : Int) (hn : 0 ≤ n ∧ n ≤ 1048576) (hv : DdsAt σ h o cs) (hl : cs.length ≤ 2 ^ 63 - 1) (hp : ∀ c ∈ cs, c.t.length ≤ 2 ^ 63 - 1) :
  ACall Try.prog w0 32 [.slice (some ⟨h, o, none⟩) cs.length 3, .int .i64 n] σ fun r σ' => (∃ z : Int, r = .int .i64 z ∧ z ≤ 1048576 ∧ (z < 0 ∨ (cs.length ≤ 1048576 ∧ ∀ c ∈ cs, c.t.length ≤ 1048576))) ∧ σ' = σ := by
 refine acall_go mixed Try.func32 rfl good32 fun pr => ?_
 by_cases hbig : n < cs.length
 ·simp -implicitDefEqProofs (disch := omega) only [Nat.reduceEqDiff, ↓reduceIte, vcu, ↓vcd]
  refine fin_one Try.results32 ⟨⟨-1, ?_, by omega, .inl (by omega)⟩, rfl⟩
  simp -implicitDefEqProofs (disch := omega) only [Nat.reduceEqDiff, ↓reduceIte, vcu, ↓vcd]
 ·simp -implicitDefEqProofs (disch := omega) only [Nat.reduceEqDiff, ↓reduceIte, vcu, ↓vcd]
  refine vc_loop_c mixed (by kernel_rfl) [0] (fun m a σ' => ∃ (k : Nat) (z : Int), m + k = cs.length ∧ a 5 = .int .i64 k ∧ a 1 = .int .i64 z ∧ 0 ≤ z ∧ z ≤ 1048576 ∧ (∀ j, j < k → (cs.getD j dd0).t.length ≤ 1048576) ∧ σ' = σ) cs.length ⟨0, _, by simp, rfl, rfl, by omega, by omega, fun j hj => absurd hj (by omega), rfl⟩ ?_
  rintro m a σ' hc ⟨k, z, hk, h5, h1, hz, hz2, hall, rfl⟩
  simp -implicitDefEqProofs (disch := omega) only [Nat.reduceEqDiff, ↓reduceIte, vcu, ↓vcd] at hc
  obtain ⟨h0, -⟩ := hc
  by_cases hlt : k < cs.length
  ·have hx := hv.all hlt
   have hmem : cs.getD k dd0 ∈ cs := by simp [List.getD, hlt]
   have hb := hp _ hmem
   unfold ddc at hx
   simp -implicitDefEqProofs (disch := omega) only [Nat.reduceEqDiff, ↓reduceIte, vcu, ↓vcd, h0, h1, h5, hx, co48]
   refine (szDd_at _ (cs.getD k dd0) z ⟨hz, hz2⟩ hb).mono ?_
   rintro r τ ⟨rfl, rfl⟩
   by_cases hneg : z < ((cs.getD k dd0).t.length : Int)
   ·rw [if_pos hneg]
    simp -implicitDefEqProofs (disch := omega) only [Nat.reduceEqDiff, ↓reduceIte, vcu, ↓vcd, opK_some, h0, h5]
    refine fin_one Try.results32 ⟨⟨-1, ?_, by omega, .inl (by omega)⟩, rfl⟩
    simp -implicitDefEqProofs (disch := omega) only [Nat.reduceEqDiff, ↓reduceIte, vcu, ↓vcd]
   ·rw [if_neg hneg]
    simp -implicitDefEqProofs (disch := omega) only [Nat.reduceEqDiff, ↓reduceIte, vcu, ↓vcd, opK_some, h0, h5]
    refine ⟨⟨trivial, trivial⟩, m - 1, by omega, k + 1, _, by omega, by simp, rfl, by omega, by omega, fun j hj => ?_, trivial⟩
    by_cases e : j = k
    ·subst e; omega
    ·exact hall j (by omega)
  ·simp -implicitDefEqProofs (disch := omega) only [Nat.reduceEqDiff, ↓reduceIte, vcu, ↓vcd, h0, h1, h5]
   refine fin_one Try.results32 ⟨⟨z, ?_, by omega, .inr ⟨by omega, fun x hx => ?_⟩⟩, rfl⟩
   ·simp -implicitDefEqProofs (disch := omega) only [Nat.reduceEqDiff, ↓reduceIte, vcu, ↓vcd, h1]
   ·obtain ⟨j, hj, rfl⟩ := List.mem_iff_getElem.1 hx
    have := hall j (by omega)
    simpa [List.getD, hj] using this
theorem szDds_calls (σ : AHeap) (v : Value) (cs : List Dd) (n : Int) (hn : 0 ≤ n ∧ n ≤ 1048576) (hv : Dds σ v cs) (hl : cs.length ≤ 2 ^ 63 - 1) (hp : ∀ c ∈ cs, c.t.length ≤ 2 ^ 63 - 1) :
  ACall Try.prog w0 32 [v, .int .i64 n] σ fun r σ' => (∃ z : Int, r = .int .i64 z ∧ z ≤ 1048576 ∧ (z < 0 ∨ (cs.length ≤ 1048576 ∧ ∀ c ∈ cs, c.t.length ≤ 1048576))) ∧ σ' = σ :=
 ACall.dds_arg (pre := []) (post := [_]) (by kernel_rfl) hv fun σ1 h o hs hg => (szDds_at σ1 h o cs n hn hg hl hp).drop fun _ _ ⟨h1, h2⟩ => ⟨σ, h2 ▸ hs, h1, rfl⟩
set_option maxRecDepth 8000 in
theorem toDds_at (σ : AHeap) (h o : Nat) (cs : List Dd) (hv : DdsAt σ h o cs) (hl : cs.length ≤ 1048576) :
  ACall Try.prog w0 34 [.slice (some ⟨h, o, none⟩) cs.length 3] σ fun r σ' => ∃ g, σ g = none ∧ r = .slice (some ⟨g, 0, none⟩) cs.length 3 ∧ Sub σ σ' ∧ σ' g = some ⟨dds cs, false⟩ := by
 refine acall_go mixed Try.func34 rfl good34 fun pr => ?_
 simp -implicitDefEqProofs (disch := omega) only [Nat.reduceEqDiff, ↓reduceIte, vcu, ↓vcd]
 refine r_make (kx := .i64) (ky := .i64) (l := cs.length) (c := cs.length) el59 z9q z9q (by omega) fun g τ hg hs he => ?_
 replace he := he.trans (congrArg (fun l => some (AObj.mk l false)) (azeros_dds cs.length))
 simp -implicitDefEqProofs (disch := omega) only [Nat.reduceEqDiff, ↓reduceIte, vcu, ↓vcd]
 refine vc_loop_c mixed (by kernel_rfl) [0, 3] (fun m a σ' => ∃ k : Nat, m + k = cs.length ∧ a 4 = .int .i64 k ∧ Kept g τ σ' ∧ σ' g = some ⟨dds (cs.take k ++ List.replicate (cs.length - k) dd0), false⟩) cs.length ⟨0, by simp, rfl, Kept.refl _ _, by simpa using he⟩ ?_
 rintro m a σ' hc ⟨k, hk, h4, hkp, hgk⟩
 simp -implicitDefEqProofs (disch := omega) only [Nat.reduceEqDiff, ↓reduceIte, vcu, ↓vcd] at hc
 obtain ⟨h0, h3, -⟩ := hc
 have hsub := hkp.sub hs hg
 by_cases hlt : k < cs.length
 ·have hx := (hv.sub hsub).all hlt
  have hst := set_at cs dd0 hlt rfl
  generalize cs.getD k dd0 = c at hx hst
  obtain ⟨A, B, C⟩ := c
  unfold ddc at hx
  simp -implicitDefEqProofs (disch := omega) only [Nat.reduceEqDiff, ↓reduceIte, vcu, ↓vcd, h0, h3, h4, hx, co52, co48]
  refine (toDd_at _ ⟨A, B, C⟩).mono ?_
  rintro r _ ⟨rfl, rfl⟩
  unfold ddA
  simp -implicitDefEqProofs (disch := omega) only [Nat.reduceEqDiff, ↓reduceIte, vcu, ↓vcd, opK_some, h0, h3, h4]
  refine r_sets (g := g) (i := 0 + k * 3) (by simp -implicitDefEqProofs (disch := omega) only [Nat.reduceEqDiff, ↓reduceIte, vcu, ↓vcd, h3, h4]) z9co52 z9r z9z hgk (by simp -implicitDefEqProofs (disch := omega) only [Nat.reduceEqDiff, ↓reduceIte, vcu, ↓vcd]; rw [dds_length]; simp [Value.cells]; omega) fun τ2 k2 e2 => ?_
  replace e2 : τ2 g = some ⟨lwrite (dds (cs.take k ++ List.replicate (cs.length - k) dd0)) (0 + k * 3) [.int .i64 A, .int .i64 B, .string (tx C)], false⟩ := e2
  have hw := dds_write (cs.take k ++ List.replicate (cs.length - k) dd0) k (by simp; omega) ⟨A, B, C⟩
  rw [Nat.zero_add, hw, hst] at e2
  simp -implicitDefEqProofs (disch := omega) only [Nat.reduceEqDiff, ↓reduceIte, vcu, ↓vcd, h0, h3, h4]
  exact ⟨⟨trivial, trivial, trivial⟩, m - 1, by omega, k + 1, by omega, by simp, hkp.trans k2, e2⟩
 ·simp -implicitDefEqProofs (disch := omega) only [Nat.reduceEqDiff, ↓reduceIte, vcu, ↓vcd, h0, h3, h4]
  have e2 : k = cs.length := by omega
  subst e2
  refine fin_one Try.results34 ⟨g, hg, ?_, hsub, by simpa using hgk⟩
  simp -implicitDefEqProofs (disch := omega) only [Nat.reduceEqDiff, ↓reduceIte, vcu, ↓vcd, h3]
theorem toDds_calls (σ : AHeap) (v : Value) (cs : List Dd) (hv : Dds σ v cs) (hl : cs.length ≤ 1048576) :
  ACall Try.prog w0 34 [v] σ fun r σ' => Sub σ σ' ∧ OwnD σ σ' r cs := by
 refine ACall.dds_arg (pre := []) (post := []) (by kernel_rfl) hv fun σ1 g1 o1 hs1 hg1 => ?_
 refine (toDds_at σ1 g1 o1 cs hg1 hl).mono ?_
 rintro r τ1 ⟨q, a1, a2, a3, a4⟩
 exact ⟨hs1.trans a3, .inr ⟨q, a2, a4, free_sub hs1 a1⟩⟩
def markE (k : Int) (n : Nat) : List Dd := (List.range n).map fun (i : Nat) => ⟨k + 3 * i, k + 3 * i + 1, mkT (k + 3 * i + 2)⟩
theorem markE_length (k : Int) (n : Nat) : (markE k n).length = n := by simp [markE]
theorem markE_getD {n i : Nat} {k : Int} (h : i < n) : (markE k n).getD i dd0 = ⟨k + 3 * i, k + 3 * i + 1, mkT (k + 3 * i + 2)⟩ := by simp [markE, List.getD, h]
theorem markE_succ (n : Nat) (k : Int) : markE k (n + 1) = markE k n ++ [⟨k + 3 * n, k + 3 * n + 1, mkT (k + 3 * n + 2)⟩] := by simp [markE, List.range_succ]
theorem setD_drop (A xs : List Dd) (v : Dd) {i : Nat} (hA : A.length = i) (h : i < xs.length) : (A ++ xs.drop i).set i v = A ++ [v] ++ xs.drop (i + 1) := by
 rw [List.set_append_right _ _ (by omega), hA, Nat.sub_self, List.drop_eq_getElem_cons h, List.set_cons_zero, List.append_assoc]; rfl
theorem setD_mid (A D : List Dd) (u v : Dd) {i : Nat} (hA : A.length = i) : (A ++ [u] ++ D).set i v = A ++ [v] ++ D ∧ (A ++ [u] ++ D).getD i dd0 = u := by
 subst hA
 refine ⟨?_, by simp [List.getD]⟩
 rw [List.append_assoc, List.set_append_right _ _ (Nat.le_refl _), Nat.sub_self, List.singleton_append, List.set_cons_zero, List.append_assoc]; rfl
set_option maxRecDepth 8000 in
theorem markE_own (σ : AHeap) (g : Nat) (cs : List Dd) (k : Int) (hg : σ g = some ⟨dds cs, false⟩) (hl : cs.length ≤ 1048576) (hk : 0 ≤ k ∧ k ≤ 1073741824) :
  ACall Try.prog w0 37 [.slice (some ⟨g, 0, none⟩) cs.length 3, .int .i64 k] σ fun r σ' => r = .int .i64 (k + 3 * cs.length) ∧ Kept g σ σ' ∧ σ' g = some ⟨dds (markE k cs.length), false⟩ := by
 refine acall_go mixed Try.func37 rfl good37 fun pr => ?_
 simp -implicitDefEqProofs (disch := omega) only [Nat.reduceEqDiff, ↓reduceIte, vcu, ↓vcd]
 refine vc_loop_c mixed (by kernel_rfl) [0] (fun m a σ' => ∃ i : Nat, m + i = cs.length ∧ a 1 = .int .i64 (k + 3 * i) ∧ a 5 = .int .i64 i ∧ Kept g σ σ' ∧ σ' g = some ⟨dds (markE k i ++ cs.drop i), false⟩) cs.length ⟨0, by simp, by simp [fset, aenter], rfl, Kept.refl _ _, by simpa [markE] using hg⟩ ?_
 rintro m a σ' hc ⟨i, hi, h1, h5, hkp, hgk⟩
 simp -implicitDefEqProofs (disch := omega) only [Nat.reduceEqDiff, ↓reduceIte, vcu, ↓vcd] at hc
 obtain ⟨h0, -⟩ := hc
 by_cases hlt : i < cs.length
 ·have hl2 : (markE k i ++ cs.drop i).length = cs.length := by simp [markE_length]; omega
  have hml := markE_length k i
  have hl3 : ∀ u : Dd, (markE k i ++ [u] ++ cs.drop (i + 1)).length = cs.length := fun u => by simp [markE_length]; omega
  simp -implicitDefEqProofs (disch := omega) only [Nat.reduceEqDiff, ↓reduceIte, vcu, ↓vcd, h0, h1, h5]
  refine r_set (g := g) (i := i * 3) (by simp -implicitDefEqProofs (disch := omega) only [Nat.reduceEqDiff, ↓reduceIte, vcu, ↓vcd, Nat.zero_add, Nat.add_zero]) z9r co3 z9r hgk (by rw [dds_length, hl2]; omega) fun τ1 k1 e1 => ?_
  simp -implicitDefEqProofs (disch := omega) only [Nat.reduceEqDiff, ↓reduceIte, vcu, ↓vcd] at e1
  rw [dds_setk _ i (by omega) _, setD_drop _ _ _ hml hlt] at e1
  generalize (markE k i ++ cs.drop i).getD i dd0 = c at e1
  simp -implicitDefEqProofs (disch := omega) only [Nat.reduceEqDiff, ↓reduceIte, vcu, ↓vcd, h0, h1, h5]
  refine r_set (g := g) (i := i * 3 + 1) (by simp -implicitDefEqProofs (disch := omega) only [Nat.reduceEqDiff, ↓reduceIte, vcu, ↓vcd, Nat.zero_add]) z9r co3 z9r e1 (by rw [dds_length, hl3]; omega) fun τ2 k2 e2 => ?_
  simp -implicitDefEqProofs (disch := omega) only [Nat.reduceEqDiff, ↓reduceIte, vcu, ↓vcd] at e2
  rw [dds_setl _ i (by rw [hl3]; omega) _, (setD_mid _ _ _ _ hml).1, (setD_mid _ _ _ dd0 hml).2] at e2
  dsimp only at e2
  simp -implicitDefEqProofs (disch := omega) only [Nat.reduceEqDiff, ↓reduceIte, vcu, ↓vcd, h0, h1, h5]
  refine (markText_calls _ (k + 3 * i + 1 + 1) (by omega)).mono ?_
  rintro r _ ⟨rfl, rfl⟩
  simp -implicitDefEqProofs (disch := omega) only [Nat.reduceEqDiff, ↓reduceIte, vcu, ↓vcd, opK_some, h0, h1, h5]
  refine r_set (g := g) (i := i * 3 + 2) (by simp -implicitDefEqProofs (disch := omega) only [Nat.reduceEqDiff, ↓reduceIte, vcu, ↓vcd, Nat.zero_add]) z9r co9 z9r e2 (by rw [dds_length, hl3]; omega) fun τ3 k3 e3 => ?_
  simp -implicitDefEqProofs (disch := omega) only [Nat.reduceEqDiff, ↓reduceIte, vcu, ↓vcd] at e3
  rw [dds_sett _ i (by rw [hl3]; omega) _, (setD_mid _ _ _ _ hml).1, (setD_mid _ _ _ dd0 hml).2] at e3
  dsimp only at e3
  have hsn := markE_succ i k
  rw [show k + 3 * (i : Int) + 1 + 1 = k + 3 * i + 2 by omega, ← hsn] at e3
  simp -implicitDefEqProofs (disch := omega) only [Nat.reduceEqDiff, ↓reduceIte, vcu, ↓vcd, h0, h1, h5]
  refine ⟨⟨trivial, trivial⟩, m - 1, by omega, i + 1, by omega, ?_, by simp, ((hkp.trans k1).trans k2).trans k3, e3⟩
  congr 1; omega
 ·simp -implicitDefEqProofs (disch := omega) only [Nat.reduceEqDiff, ↓reduceIte, vcu, ↓vcd, h0, h1, h5]
  have e : i = cs.length := by omega
  subst e
  refine fin_one Try.results37 ⟨?_, hkp, by simpa using hgk⟩
  simp -implicitDefEqProofs (disch := omega) only [Nat.reduceEqDiff, ↓reduceIte, vcu, ↓vcd, h1]
set_option maxRecDepth 8000 in
theorem heldE_at (σ : AHeap) (g o n : Nat) (k : Int) (hv : DdsAt σ g o (markE k n)) (hl : n ≤ 1048576) (hk : 0 ≤ k ∧ k ≤ 1073741824) :
  ACall Try.prog w0 40 [.slice (some ⟨g, o, none⟩) n 3, .int .i64 k] σ fun r σ' => r = .int .i64 (k + 3 * n) ∧ σ' = σ := by
 refine acall_go mixed Try.func40 rfl good40 fun pr => ?_
 simp -implicitDefEqProofs (disch := omega) only [Nat.reduceEqDiff, ↓reduceIte, vcu, ↓vcd]
 refine vc_loop_c mixed (by kernel_rfl) [0] (fun m a σ' => ∃ i : Nat, m + i = n ∧ a 1 = .int .i64 (k + 3 * i) ∧ a 5 = .int .i64 i ∧ σ' = σ) n ⟨0, by simp, by simp [fset, aenter], rfl, rfl⟩ ?_
 rintro m a σ' hc ⟨i, hi, h1, h5, rfl⟩
 simp -implicitDefEqProofs (disch := omega) only [Nat.reduceEqDiff, ↓reduceIte, vcu, ↓vcd] at hc
 obtain ⟨h0, -⟩ := hc
 by_cases hlt : i < n
 ·obtain ⟨q1, q2, q3⟩ := hv i (by rw [markE_length]; exact hlt)
  rw [markE_getD hlt] at q1 q2 q3
  dsimp only at q1 q2 q3
  have hk2 : k + 3 * (i : Int) + 1 + 1 = k + 3 * i + 2 := by omega
  simp -implicitDefEqProofs (disch := omega) only [Nat.reduceEqDiff, ↓reduceIte, vcu, ↓vcd, h0, h1, h5, q1, q2, q3, Nat.add_zero, eq_self, ne_eq, not_true_eq_false, decide_false]
  rw [r_callq]
  refine ⟨_, markText_calls _ (k + 3 * i + 1 + 1) (by omega), ?_⟩
  simp -implicitDefEqProofs (disch := omega) only [Nat.reduceEqDiff, ↓reduceIte, vcu, ↓vcd, h0, h1, h5, q3, hk2, Nat.add_zero, eq_self, decide_true, Bool.not_true]
  refine ⟨⟨trivial, trivial⟩, m - 1, by omega, i + 1, by omega, ?_, by simp, trivial⟩
  congr 1; omega
 ·simp -implicitDefEqProofs (disch := omega) only [Nat.reduceEqDiff, ↓reduceIte, vcu, ↓vcd, h0, h1, h5]
  have e : i = n := by omega
  subst e
  refine fin_one Try.results40 ⟨?_, rfl⟩
  simp -implicitDefEqProofs (disch := omega) only [Nat.reduceEqDiff, ↓reduceIte, vcu, ↓vcd, h1]
theorem markE_calls (β σ : AHeap) (v : Value) (cs : List Dd) (k : Int) (hv : OwnD β σ v cs) (hl : cs.length ≤ 1048576) (hk : 0 ≤ k ∧ k ≤ 1073741824) :
  ACall Try.prog w0 37 [v, .int .i64 k] σ fun r σ' => r = .int .i64 (k + 3 * cs.length) ∧ OwnD β σ' v (markE k cs.length) ∧ (∀ h ob, β h = some ob → σ h = some ob → σ' h = some ob) := by
 rcases hv with ⟨rfl, rfl⟩ | ⟨g, rfl, hg, hn⟩
 ·refine ACall.nil_arg (pre := []) (z := 3) (by kernel_rfl) fun g hg => ?_
  refine (markE_own _ g [] k (AHeap.upd_same _ _ _) (by simp) hk).mono ?_
  rintro r σ' ⟨rfl, h1, h2⟩
  exact ⟨rfl, .inl ⟨rfl, rfl⟩, fun h ob _ e => h1 h ob (ne_of' hg e) (sub_upd hg h ob e)⟩
 ·refine (markE_own σ g cs k hg hl hk).mono ?_
  rintro r σ' ⟨rfl, h1, h2⟩
  exact ⟨rfl, .inr ⟨g, by rw [markE_length], h2, hn⟩, fun h ob hb e => h1 h ob (ne_of' hn hb) e⟩
theorem heldE_calls (σ : AHeap) (v : Value) (n : Nat) (k : Int) (hv : Dds σ v (markE k n)) (hl : n ≤ 1048576) (hk : 0 ≤ k ∧ k ≤ 1073741824) :
  ACall Try.prog w0 40 [v, .int .i64 k] σ fun r σ' => r = .int .i64 (k + 3 * n) ∧ σ' = σ :=
 ACall.dds_quiet (pre := []) (by kernel_rfl) hv fun σ1 g o _ hg => by
  rw [markE_length]; exact heldE_at σ1 g o n k hg hl hk
end Go.Proofs.Ytafkndnmhhjdhaa
namespace Go.Proofs.Ytafkndnmhhjdhaa
open Go Go.Abs Go.RowKit
variable {w0 : World}
/-- a number of a plan -/
def PRow (ps : List (List UInt8)) (k : Nat) : Prop := DgT (ps.getD k []) ∧ (1 ≤ (ps.getD k []).length ∧ (ps.getD k []).length ≤ 3) ∧ ∀ j, j < ps.length → j ≠ k → ¬Beg (ps.getD k []) (ps.getD j [])
def PlanOk (ps : List (List UInt8)) : Prop := (∀ k, k < ps.length → PRow ps k) ∧ ps.length ≤ 10
instance (ps : List (List UInt8)) (k : Nat) : Decidable (PRow ps k) := inferInstanceAs (Decidable (_ ∧ _ ∧ _))
instance (ps : List (List UInt8)) : Decidable (PlanOk ps) := inferInstanceAs (Decidable (_ ∧ _))
theorem planValid_at (σ : AHeap) (h o : Nat) (ps : List (List UInt8)) (hv : TextsAt σ h o ps) (hl : ps.length ≤ 1048576) (hp : ∀ x ∈ ps, x.length ≤ 1048576) :
  ACall Try.prog w0 43 [.slice (some ⟨h, o, none⟩) ps.length 1] σ fun r σ' => r = .bool (decide (PlanOk ps)) ∧ σ' = σ := by
 refine acall_go mixed Try.func43 rfl good43 fun pr => ?_
 simp -implicitDefEqProofs (disch := omega) only [Nat.reduceEqDiff, ↓reduceIte, vcu, ↓vcd]
 refine vc_loop_c mixed (by kernel_rfl) [0] (fun m a σ' => ∃ k : Nat, m + k = ps.length ∧ a 3 = .int .i64 k ∧ (∀ j, j < k → PRow ps j) ∧ σ' = σ) ps.length ⟨0, by simp, rfl, fun j hj => absurd hj (by omega), rfl⟩ ?_
 rintro m a σ' hc ⟨k, hk, h3, hall, rfl⟩
 simp -implicitDefEqProofs (disch := omega) only [Nat.reduceEqDiff, ↓reduceIte, vcu, ↓vcd] at hc
 obtain ⟨h0, -⟩ := hc
 by_cases hlt : k < ps.length
 ·have hx := hv k hlt
  have hmem : ps.getD k [] ∈ ps := by simp [List.getD, hlt]
  have hb := hp _ hmem
  have stop : ∀ {P : Prop}, (PRow ps k → P) → ¬P → ¬PlanOk ps := fun h1 h2 h3 => h2 (h1 (h3.1 k hlt))
  by_cases hd : DgT (ps.getD k [])
  ·have hd1 : decide (DgT (ps.getD k [])) = true := decide_eq_true hd
   by_cases hr : 1 ≤ (ps.getD k []).length ∧ (ps.getD k []).length ≤ 3
   ·have hr1 : decide ((1 : Int) ≤ ((ps.getD k []).length : Int) ∧ ((ps.getD k []).length : Int) ≤ 3) = true := decide_eq_true (by omega)
    simp -implicitDefEqProofs (disch := omega) only [Nat.reduceEqDiff, ↓reduceIte, vcu, ↓vcd, h0, h3, hx]
    refine (digits_calls _ _ hb).mono ?_
    rintro r τ ⟨rfl, rfl⟩
    simp -implicitDefEqProofs (disch := omega) only [Nat.reduceEqDiff, ↓reduceIte, vcu, ↓vcd, opK_some, h0, h3, hx, hd1]
    refine (in_calls _ _ 1 3).mono ?_
    rintro r τ ⟨rfl, rfl⟩
    simp -implicitDefEqProofs (disch := omega) only [Nat.reduceEqDiff, ↓reduceIte, vcu, ↓vcd, opK_some, h0, h3, hx, hr1]
    refine vc_loop_c mixed (by kernel_rfl) [0, 3] (fun m a σ' => ∃ j : Nat, m + j = ps.length ∧ a 4 = .int .i64 j ∧ (∀ i, i < j → i ≠ k → ¬Beg (ps.getD k []) (ps.getD i [])) ∧ σ' = τ) ps.length ⟨0, by simp, rfl, fun j hj => absurd hj (by omega), rfl⟩ ?_
    rintro m2 a2 σ2 hc2 ⟨j, hj, h4, hin, rfl⟩
    simp -implicitDefEqProofs (disch := omega) only [Nat.reduceEqDiff, ↓reduceIte, vcu, ↓vcd, h0, h3] at hc2
    obtain ⟨g0, g3, -⟩ := hc2
    by_cases hjl : j < ps.length
    ·have hy := hv j hjl
     by_cases hjk : j = k
     ·subst hjk
      simp -implicitDefEqProofs (disch := omega) only [Nat.reduceEqDiff, ↓reduceIte, vcu, ↓vcd, g0, g3, h4, hx, hy]
      exact ⟨⟨h0.symm, h3.symm, trivial⟩, m2 - 1, by omega, j + 1, by omega, by simp, fun i hi hne => hin i (by omega) hne, trivial⟩
     ·have hne : decide ((j : Int) ≠ (k : Int)) = true := decide_eq_true (by omega)
      by_cases hbg : Beg (ps.getD k []) (ps.getD j [])
      ·have hb1 : decide (Beg (ps.getD k []) (ps.getD j [])) = true := decide_eq_true hbg
       simp -implicitDefEqProofs (disch := omega) only [Nat.reduceEqDiff, ↓reduceIte, vcu, ↓vcd, g0, g3, h4, hx, hy, hne]
       rw [r_callq]
       refine ⟨_, begins_calls _ _ _, ?_⟩
       simp -implicitDefEqProofs (disch := omega) only [Nat.reduceEqDiff, ↓reduceIte, vcu, ↓vcd, g0, g3, h4, hx, hy, hne, hb1]
       refine fin_one Try.results43 ⟨?_, rfl⟩
       simp -implicitDefEqProofs (disch := omega) only [Nat.reduceEqDiff, ↓reduceIte, vcu, ↓vcd]
       simp [stop (fun h => h.2.2 j hjl hjk) (fun h => h hbg)]
      ·have hb1 : decide (Beg (ps.getD k []) (ps.getD j [])) = false := decide_eq_false hbg
       simp -implicitDefEqProofs (disch := omega) only [Nat.reduceEqDiff, ↓reduceIte, vcu, ↓vcd, g0, g3, h4, hx, hy, hne]
       rw [r_callq]
       refine ⟨_, begins_calls _ _ _, ?_⟩
       simp -implicitDefEqProofs (disch := omega) only [Nat.reduceEqDiff, ↓reduceIte, vcu, ↓vcd, g0, g3, h4, hx, hy, hne, hb1]
       refine ⟨⟨h0.symm, h3.symm, trivial⟩, m2 - 1, by omega, j + 1, by omega, by simp, fun i hi hne' => ?_, trivial⟩
       by_cases e : i = j
       ·subst e; exact hbg
       ·exact hin i (by omega) hne'
    ·simp -implicitDefEqProofs (disch := omega) only [Nat.reduceEqDiff, ↓reduceIte, vcu, ↓vcd, g0, g3, h4]
     refine ⟨⟨trivial, trivial⟩, m - 1, by omega, k + 1, by omega, by simp, fun i hi => ?_, trivial⟩
     by_cases e : i = k
     ·subst e; exact ⟨hd, hr, fun i' h1 h2 => hin i' (by omega) h2⟩
     ·exact hall i (by omega)
   ·have hr1 : decide ((1 : Int) ≤ ((ps.getD k []).length : Int) ∧ ((ps.getD k []).length : Int) ≤ 3) = false := decide_eq_false (by omega)
    simp -implicitDefEqProofs (disch := omega) only [Nat.reduceEqDiff, ↓reduceIte, vcu, ↓vcd, h0, h3, hx]
    refine (digits_calls _ _ hb).mono ?_
    rintro r τ ⟨rfl, rfl⟩
    simp -implicitDefEqProofs (disch := omega) only [Nat.reduceEqDiff, ↓reduceIte, vcu, ↓vcd, opK_some, h0, h3, hx, hd1]
    refine (in_calls _ _ 1 3).mono ?_
    rintro r τ ⟨rfl, rfl⟩
    simp -implicitDefEqProofs (disch := omega) only [Nat.reduceEqDiff, ↓reduceIte, vcu, ↓vcd, opK_some, h0, h3, hx, hr1]
    refine fin_one Try.results43 ⟨?_, rfl⟩
    simp -implicitDefEqProofs (disch := omega) only [Nat.reduceEqDiff, ↓reduceIte, vcu, ↓vcd]
    simp [stop (fun h => h.2.1) hr]
  ·have hd1 : decide (DgT (ps.getD k [])) = false := decide_eq_false hd
   simp -implicitDefEqProofs (disch := omega) only [Nat.reduceEqDiff, ↓reduceIte, vcu, ↓vcd, h0, h3, hx]
   refine (digits_calls _ _ hb).mono ?_
   rintro r τ ⟨rfl, rfl⟩
   simp -implicitDefEqProofs (disch := omega) only [Nat.reduceEqDiff, ↓reduceIte, vcu, ↓vcd, opK_some, h0, h3, hx, hd1]
   refine fin_one Try.results43 ⟨?_, rfl⟩
   simp -implicitDefEqProofs (disch := omega) only [Nat.reduceEqDiff, ↓reduceIte, vcu, ↓vcd]
   simp [stop (fun h => h.1) hd]
 ·simp -implicitDefEqProofs (disch := omega) only [Nat.reduceEqDiff, ↓reduceIte, vcu, ↓vcd, h0, h3]
  refine fin_one Try.results43 ⟨?_, rfl⟩
  simp -implicitDefEqProofs (disch := omega) only [Nat.reduceEqDiff, ↓reduceIte, vcu, ↓vcd]
  congr 1
  rw [decide_eq_decide]
  exact ⟨fun h => ⟨fun j hj => hall j (by omega), by omega⟩, fun h => by have := h.2; omega⟩
end Go.Proofs.Ytafkndnmhhjdhaa
namespace Go.Proofs.Ytafkndnmhhjdhaa
open Go Go.Abs Go.RowKit
variable {w0 : World}
theorem own_textsI {σ : AHeap} {g : Nat} {xs : List (List UInt8)} (h : σ g = some ⟨texts xs, false⟩) : Texts σ (.slice (some ⟨g, 0, none⟩) xs.length 1) xs := .inr ⟨g, 0, rfl, textsAt_own h⟩
theorem planValid_calls (σ : AHeap) (v : Value) (ps : List (List UInt8)) (hv : Texts σ v ps) (hl : ps.length ≤ 1048576) (hp : ∀ x ∈ ps, x.length ≤ 1048576) : ACall Try.prog w0 43 [v] σ fun r σ' => r = .bool (decide (PlanOk ps)) ∧ σ' = σ :=
 ACall.texts_quiet (pre := []) (post := []) (by kernel_rfl) hv fun σ1 h o _ hg => planValid_at σ1 h o ps hg hl hp
end Go.Proofs.Ytafkndnmhhjdhaa
namespace Go.Proofs.Ytafkndnmhhjdhaa
open Go Go.Abs Go.RowKit
variable {w0 : World}
/-- the first from k on of which it holds -/
def fstN (p : Nat → Bool) : Nat → Nat → Option Nat
 | _, 0 => none
 | k, m + 1 => if p k = true then some k else fstN p (k + 1) m
theorem fstN_some {p : Nat → Bool} : ∀ {m k i : Nat}, fstN p k m = some i → k ≤ i ∧ i < k + m ∧ p i = true
 | 0, _, _, h => by cases h
 | m + 1, k, i, h => by
  unfold fstN at h
  split at h
  ·rename_i hp; cases h; exact ⟨Nat.le_refl _, by omega, hp⟩
  ·have := fstN_some h; exact ⟨by omega, by omega, this.2.2⟩
end Go.Proofs.Ytafkndnmhhjdhaa
namespace Go.Proofs.Ytafkndnmhhjdhaa
open Go Go.Abs Go.RowKit
variable {w0 : World}
def bd : Nat → Int
 | 0 => 25344
 | 1 => 6336
 | 2 => 1584
 | 3 => 396
 | _ => 99
end Go.Proofs.Ytafkndnmhhjdhaa
namespace Go.Proofs.Ytafkndnmhhjdhaa
open Go Go.Abs Go.RowKit
def shr : List Int → Int
 | [] => 0
 | l :: ls => 4 ^ (3 - l).toNat + shr ls
end Go.Proofs.Ytafkndnmhhjdhaa
namespace Go.Proofs.Ytafkndnmhhjdhaa
open Go Go.Abs Go.RowKit
/-- the length at a place; its share -/
def lnA (xs : List Int) (i : Nat) : Nat := (xs.getD i 0).toNat
/-- which numbers are found before -/
def dn (xs : List Int) (L k i : Nat) : Prop := lnA xs i ≤ L ∨ (lnA xs i = L + 1 ∧ i < k)
end Go.Proofs.Ytafkndnmhhjdhaa
namespace Go.Proofs.Ytafkndnmhhjdhaa
open Go Go.Abs Go.RowKit
theorem fstN_none {p : Nat → Bool} : ∀ {m k i : Nat}, fstN p k m = none → k ≤ i → i < k + m → p i = false
 | 0, k, i, _, h1, h2 => by omega
 | m + 1, k, i, h, h1, h2 => by
  unfold fstN at h
  split at h
  ·cases h
  ·rename_i hp
   by_cases e : i = k
   ·subst e; simpa using hp
   ·exact fstN_none h (by omega) (by omega)
end Go.Proofs.Ytafkndnmhhjdhaa
namespace Go.Clos
structure Sp where
 O : Int
 E : Int
 M : Int
deriving DecidableEq
def SV (s : Sp) : Prop := (1 ≤ s.O ∧ s.O ≤ 4) ∧ (1 ≤ s.E ∧ s.E ≤ 3) ∧ (1 ≤ s.M ∧ s.M ≤ 5)
instance (s : Sp) : Decidable (SV s) := by unfold SV; infer_instance
def Rg (s : Sp) (c : Cl) : Prop := (0 ≤ c.i ∧ c.i ≤ s.O * s.E - 1) ∧ (0 ≤ c.o ∧ c.o ≤ s.O * s.E - 1) ∧ (0 ≤ c.v ∧ c.v ≤ s.M - 1)
instance (s : Sp) (c : Cl) : Decidable (Rg s c) := by unfold Rg; infer_instance
/-- two calls that are not possible at the same time -/
def Hit (s : Sp) (c d : Cl) : Prop := c.i = d.i ∨ c.o = d.o ∨ c.v = d.v ∧ (c.i / s.E = d.i / s.E ∨ c.o / s.E = d.o / s.E)
instance (s : Sp) (c d : Cl) : Decidable (Hit s c d) := by unfold Hit; infer_instance
theorem Hit.symm {s : Sp} {c d : Cl} (h : Hit s c d) : Hit s d c := by
 rcases h with h | h | ⟨h, g | g⟩
 ·exact .inl h.symm
 ·exact .inr (.inl h.symm)
 ·exact .inr (.inr ⟨h.symm, .inl g.symm⟩)
 ·exact .inr (.inr ⟨h.symm, .inr g.symm⟩)
def CV (s : Sp) (cs : List Cl) : Prop := SV s ∧ (∀ c ∈ cs, Rg s c) ∧ cs.Pairwise fun d c => ¬ Hit s c d
instance (s : Sp) (cs : List Cl) : Decidable (CV s cs) := by unfold CV; infer_instance
theorem CV_nil {s : Sp} : CV s [] ↔ SV s := by simp [CV]
theorem CV_snoc {s : Sp} {cs : List Cl} {c : Cl} : CV s (cs ++ [c]) ↔ CV s cs ∧ Rg s c ∧ ∀ d ∈ cs, ¬ Hit s c d := by
 unfold CV
 simp only [List.mem_append, List.mem_singleton, List.pairwise_append, List.pairwise_cons, List.Pairwise.nil]
 constructor
 ·rintro ⟨h1, h2, h3, -, h4⟩
  exact ⟨⟨h1, fun d hd => h2 d (.inl hd), h3⟩, h2 c (.inr rfl), fun d hd => h4 d hd c rfl⟩
 ·rintro ⟨⟨h1, h2, h3⟩, h4, h5⟩
  exact ⟨h1, fun d hd => hd.elim (h2 d) (fun e => e ▸ h4), h3, ⟨fun _ h => absurd h (by simp), trivial⟩, fun d hd e he => he ▸ h5 d hd⟩
theorem CV.sub {s : Sp} {cs ds : List Cl} (h : CV s cs) (hs : ds.Sublist cs) : CV s ds := ⟨h.1, fun c hc => h.2.1 c (hs.subset hc), h.2.2.sublist hs⟩
theorem CV.two {s : Sp} {cs : List Cl} (h : CV s cs) {k l : Nat} {c d : Cl} (hk : cs[k]? = some c) (hl : cs[l]? = some d) (hne : k ≠ l) : ¬ Hit s c d := by
 obtain ⟨hk1, rfl⟩ := List.getElem?_eq_some_iff.1 hk
 obtain ⟨hl1, rfl⟩ := List.getElem?_eq_some_iff.1 hl
 have := List.pairwise_iff_getElem.1 h.2.2
 rcases Nat.lt_or_ge k l with hlt | hge
 ·exact fun hh => this k l hk1 hl1 hlt hh.symm
 ·exact fun hh => this l k hl1 hk1 (by omega) hh
theorem CV.one {s : Sp} {cs : List Cl} (h : CV s cs) {k l : Nat} {c d : Cl} (hk : cs[k]? = some c) (hl : cs[l]? = some d) (hh : Hit s c d) : k = l :=
 Classical.byContradiction fun hne => h.two hk hl hne hh
theorem CV.of_index {s : Sp} {cs : List Cl} (h1 : SV s) (h2 : ∀ c ∈ cs, Rg s c) (h3 : ∀ (k l : Nat) (c d : Cl), cs[k]? = some c → cs[l]? = some d → l < k → ¬ Hit s c d) : CV s cs := by
 refine ⟨h1, h2, List.pairwise_iff_getElem.2 fun i j hi hj hij => ?_⟩
 exact h3 j i _ _ (List.getElem?_eq_getElem hj) (List.getElem?_eq_getElem hi) hij
/-- a list without the same twice is not longer than one that has all of it -/
theorem sub_len {α : Type} [DecidableEq α] : ∀ {xs ys : List α}, xs.Nodup → (∀ x ∈ xs, x ∈ ys) → xs.length ≤ ys.length
 | [], ys, _, _ => Nat.zero_le _
 | x :: xs, ys, h, hs => by
  rw [List.nodup_cons] at h
  have hx : x ∈ ys := hs x (by simp)
  have := sub_len (ys := ys.erase x) h.2 fun y hy => (List.mem_erase_of_ne (fun (e : y = x) => h.1 (by rw [← e]; exact hy))).2 (hs y (by simp [hy]))
  rw [List.length_erase_of_mem hx] at this
  have := List.length_pos_of_mem hx
  simp only [List.length_cons]; omega
def rng (n : Nat) : List Int := (List.range n).map fun (k : Nat) => (k : Int)
theorem mem_rng {n : Nat} {x : Int} : x ∈ rng n ↔ 0 ≤ x ∧ x < n := by
 simp only [rng, List.mem_map, List.mem_range]
 constructor
 ·rintro ⟨k, h, rfl⟩; omega
 ·rintro ⟨h1, h2⟩; exact ⟨x.toNat, by omega, by omega⟩
theorem rng_length (n : Nat) : (rng n).length = n := by simp [rng]
theorem rng_nodup (n : Nat) : (rng n).Nodup := by
 unfold rng
 rw [List.nodup_iff_pairwise_ne, List.pairwise_map]
 exact (List.nodup_iff_pairwise_ne.1 List.nodup_range).imp fun h e => h (by omega)
theorem rng_succ (n : Nat) : rng (n + 1) = rng n ++ [(n : Int)] := by simp [rng, List.range_succ]
theorem pig {n : Nat} {lo : Int} {xs : List Int} (h : xs.Nodup) (hx : ∀ x ∈ xs, lo ≤ x ∧ x < lo + n) : xs.length ≤ n := by
 have := sub_len (xs := xs) (ys := (rng n).map (lo + ·)) h fun x hm => List.mem_map.2 ⟨x - lo, mem_rng.2 (by have := hx x hm; omega), by omega⟩
 simpa [rng] using this
theorem nodup_map {α : Type} {f : α → Int} {xs : List α} (h : xs.Pairwise fun d c => f d ≠ f c) : (xs.map f).Nodup := by
 rw [List.nodup_iff_pairwise_ne, List.pairwise_map]; exact h
section
variable {s : Sp} {cs : List Cl} (h : CV s cs)
include h
theorem CV.pw {P : Cl → Cl → Prop} (hp : ∀ c d, ¬ Hit s c d → P d c) : cs.Pairwise P := h.2.2.imp fun {a b} hh => hp b a hh
theorem CV.ins : (cs.map (·.i)).Nodup := nodup_map (h.pw fun c d hh e => hh (.inl e.symm))
theorem CV.outs : (cs.map (·.o)).Nodup := nodup_map (h.pw fun c d hh e => hh (.inr (.inl e.symm)))
theorem CV.len : cs.length ≤ 12 := by
 have := pig (lo := 0) (n := (s.O * s.E).toNat) h.ins fun x hx => by
  obtain ⟨c, hc, rfl⟩ := List.mem_map.1 hx
  have := (h.2.1 c hc).1
  omega
 rw [List.length_map] at this
 obtain ⟨⟨o1, o2⟩, ⟨e1, e2⟩, -⟩ := h.1
 have h12 : s.O * s.E ≤ 4 * 3 := Int.mul_le_mul o2 e2 (by omega) (by omega)
 omega
/-- the calls from an outer switch, of which a line is free -/
theorem CV.from_ {i : Int} (hi : ∀ c ∈ cs, c.i ≠ i) : (cs.filter fun c => c.i / s.E = i / s.E).length + 1 ≤ s.E.toNat := by
 obtain ⟨⟨o1, o2⟩, ⟨e1, e2⟩, -⟩ := h.1
 have hsub : (cs.filter fun c => decide (c.i / s.E = i / s.E)).Sublist cs := List.filter_sublist
 have hn : (i :: (cs.filter fun c => decide (c.i / s.E = i / s.E)).map (·.i)).Nodup := by
  rw [List.nodup_cons]
  refine ⟨fun hm => ?_, (h.sub hsub).ins⟩
  obtain ⟨c, hc, e⟩ := List.mem_map.1 hm
  exact hi c (hsub.subset hc) e
 have := pig (lo := i / s.E * s.E) (n := s.E.toNat) hn fun x hx => by
  have key : ∀ y : Int, y / s.E = i / s.E → i / s.E * s.E ≤ y ∧ y < i / s.E * s.E + s.E.toNat := fun y e => by
   rw [← e]
   have h1 := Int.emod_nonneg y (show s.E ≠ 0 by omega)
   have h2 := Int.emod_lt_of_pos y (show 0 < s.E by omega)
   have h3 := Int.mul_ediv_add_emod y s.E
   rw [Int.mul_comm] at h3
   omega
  rcases List.mem_cons.1 hx with rfl | hx
  ·exact key _ rfl
  ·obtain ⟨c, hc, rfl⟩ := List.mem_map.1 hx
   exact key _ (by simpa using (List.mem_filter.1 hc).2)
 simpa using this
theorem CV.to_ {o : Int} (ho : ∀ c ∈ cs, c.o ≠ o) : (cs.filter fun c => c.o / s.E = o / s.E).length + 1 ≤ s.E.toNat := by
 obtain ⟨⟨o1, o2⟩, ⟨e1, e2⟩, -⟩ := h.1
 have hsub : (cs.filter fun c => decide (c.o / s.E = o / s.E)).Sublist cs := List.filter_sublist
 have hn : (o :: (cs.filter fun c => decide (c.o / s.E = o / s.E)).map (·.o)).Nodup := by
  rw [List.nodup_cons]
  refine ⟨fun hm => ?_, (h.sub hsub).outs⟩
  obtain ⟨c, hc, e⟩ := List.mem_map.1 hm
  exact ho c (hsub.subset hc) e
 have := pig (lo := o / s.E * s.E) (n := s.E.toNat) hn fun x hx => by
  have key : ∀ y : Int, y / s.E = o / s.E → o / s.E * s.E ≤ y ∧ y < o / s.E * s.E + s.E.toNat := fun y e => by
   rw [← e]
   have h1 := Int.emod_nonneg y (show s.E ≠ 0 by omega)
   have h2 := Int.emod_lt_of_pos y (show 0 < s.E by omega)
   have h3 := Int.mul_ediv_add_emod y s.E
   rw [Int.mul_comm] at h3
   omega
  rcases List.mem_cons.1 hx with rfl | hx
  ·exact key _ rfl
  ·obtain ⟨c, hc, rfl⟩ := List.mem_map.1 hx
   exact key _ (by simpa using (List.mem_filter.1 hc).2)
 simpa using this
end
/-- the middle switches that the calls of an outer switch use -/
def usedI (s : Sp) (cs : List Cl) (x : Int) : List Int := (cs.filter fun c => c.i / s.E = x).map (·.v)
def usedO (s : Sp) (cs : List Cl) (x : Int) : List Int := (cs.filter fun c => c.o / s.E = x).map (·.v)
theorem mem_usedI {s : Sp} {cs : List Cl} {x v : Int} : v ∈ usedI s cs x ↔ ∃ c ∈ cs, c.i / s.E = x ∧ c.v = v := by
 unfold usedI
 simp only [List.mem_map, List.mem_filter, decide_eq_true_eq]
 exact ⟨fun ⟨c, ⟨a, b⟩, d⟩ => ⟨c, a, b, d⟩, fun ⟨c, a, b, d⟩ => ⟨c, ⟨a, b⟩, d⟩⟩
theorem mem_usedO {s : Sp} {cs : List Cl} {x v : Int} : v ∈ usedO s cs x ↔ ∃ c ∈ cs, c.o / s.E = x ∧ c.v = v := by
 unfold usedO
 simp only [List.mem_map, List.mem_filter, decide_eq_true_eq]
 exact ⟨fun ⟨c, ⟨a, b⟩, d⟩ => ⟨c, a, b, d⟩, fun ⟨c, a, b, d⟩ => ⟨c, ⟨a, b⟩, d⟩⟩
/-- the first middle switch that is not used -/
def firstN (used : List Int) : Nat → Nat → Int
 | 0, _ => -1
 | n + 1, k => if (k : Int) ∈ used then firstN used n (k + 1) else k
theorem firstN_cases (used : List Int) : ∀ n k : Nat, (firstN used n k = -1 ∧ ∀ j, k ≤ j → j < k + n → (j : Int) ∈ used) ∨ ∃ j : Nat, firstN used n k = j ∧ k ≤ j ∧ j < k + n ∧ (j : Int) ∉ used
 | 0, k => .inl ⟨rfl, fun j h1 h2 => absurd h2 (by omega)⟩
 | n + 1, k => by
  unfold firstN
  by_cases h : (k : Int) ∈ used
  ·rw [if_pos h]
   rcases firstN_cases used n (k + 1) with ⟨e, hj⟩ | ⟨j, e, h1, h2, h3⟩
   ·refine .inl ⟨e, fun j h1 h2 => ?_⟩
    rcases Nat.eq_or_lt_of_le h1 with rfl | h1
    ·exact h
    ·exact hj j (by omega) (by omega)
   ·exact .inr ⟨j, e, by omega, by omega, h3⟩
  ·rw [if_neg h]; exact .inr ⟨k, rfl, by omega, by omega, h⟩
theorem firstN_some {used : List Int} {n : Nat} (h : used.length < n) : ∃ j : Nat, firstN used n 0 = j ∧ j < n ∧ (j : Int) ∉ used := by
 rcases firstN_cases used n 0 with ⟨-, hj⟩ | ⟨j, e, -, h2, h3⟩
 ·exfalso
  have := sub_len (xs := rng n) (ys := used) (rng_nodup n) fun x hx => by
   obtain ⟨a, b⟩ := mem_rng.1 hx
   have := hj x.toNat (by omega) (by omega)
   rwa [Int.toNat_of_nonneg a] at this
  rw [rng_length] at this
  omega
 ·exact ⟨j, e, by omega, h3⟩
/-- a call can go through a middle switch -/
def Free (s : Sp) (cs : List Cl) (i o v : Int) : Prop := CV s (cs ++ [⟨i, o, v⟩])
instance (s : Sp) (cs : List Cl) (i o v : Int) : Decidable (Free s cs i o v) := by unfold Free; infer_instance
/-- a line has a call -/
def Busy (cs : List Cl) (i o : Int) : Prop := ∃ c ∈ cs, c.i = i ∨ c.o = o
instance (cs : List Cl) (i o : Int) : Decidable (Busy cs i o) := by unfold Busy; infer_instance
def Lines (s : Sp) (i o : Int) : Prop := (0 ≤ i ∧ i ≤ s.O * s.E - 1) ∧ (0 ≤ o ∧ o ≤ s.O * s.E - 1)
instance (s : Sp) (i o : Int) : Decidable (Lines s i o) := by unfold Lines; infer_instance
theorem Free.lines {s : Sp} {cs : List Cl} {i o v : Int} (h : Free s cs i o v) : CV s cs ∧ Lines s i o ∧ ¬ Busy cs i o ∧ 0 ≤ v ∧ v ≤ s.M - 1 := by
 obtain ⟨a, ⟨b, c, d⟩, e⟩ := CV_snoc.1 h
 refine ⟨a, ⟨b, c⟩, ?_, d⟩
 rintro ⟨x, hx, h1 | h1⟩
 ·exact e x hx (.inl h1.symm)
 ·exact e x hx (.inr (.inl h1.symm))
theorem free_iff {s : Sp} {cs : List Cl} {i o v : Int} (h : CV s cs) (hl : Lines s i o) (hb : ¬ Busy cs i o) (hv : 0 ≤ v ∧ v ≤ s.M - 1) : Free s cs i o v ↔ v ∉ usedI s cs (i / s.E) ∧ v ∉ usedO s cs (o / s.E) := by
 unfold Free
 rw [CV_snoc, mem_usedI, mem_usedO]
 constructor
 ·rintro ⟨-, -, e⟩
  exact ⟨fun ⟨c, hc, a, b⟩ => e c hc (.inr (.inr ⟨b.symm, .inl a.symm⟩)), fun ⟨c, hc, a, b⟩ => e c hc (.inr (.inr ⟨b.symm, .inr a.symm⟩))⟩
 ·rintro ⟨n1, n2⟩
  refine ⟨h, ⟨hl.1, hl.2, hv⟩, fun d hd hh => ?_⟩
  rcases hh with e | e | ⟨e, e2 | e2⟩
  ·exact hb ⟨d, hd, .inl e.symm⟩
  ·exact hb ⟨d, hd, .inr e.symm⟩
  ·exact n1 ⟨d, hd, e2.symm, e.symm⟩
  ·exact n2 ⟨d, hd, e2.symm, e.symm⟩
def freeL (s : Sp) (cs : List Cl) (i o : Int) (n : Nat) : List Int := (rng n).filter fun v => Free s cs i o v
theorem freeL_succ (s : Sp) (cs : List Cl) (i o : Int) (n : Nat) : freeL s cs i o (n + 1) = freeL s cs i o n ++ (if Free s cs i o n then [(n : Int)] else []) := by
 unfold freeL
 rw [rng_succ, List.filter_append]
 congr 1
 by_cases h : Free s cs i o n <;> simp [h]
/-- the middle switches that are free -/
def freeV (s : Sp) (cs : List Cl) (i o : Int) : List Int := freeL s cs i o s.M.toNat
theorem mem_freeV {s : Sp} {cs : List Cl} {i o v : Int} : v ∈ freeV s cs i o ↔ Free s cs i o v := by
 unfold freeV freeL
 rw [List.mem_filter, mem_rng, decide_eq_true_eq]
 exact ⟨fun h => h.2, fun h => ⟨by have := h.lines.2.2.2; omega, h⟩⟩
theorem freeV_no {s : Sp} {cs : List Cl} {i o : Int} (h : ¬ (CV s cs ∧ Lines s i o ∧ ¬ Busy cs i o)) : freeV s cs i o = [] :=
 List.eq_nil_iff_forall_not_mem.2 fun v hv => h (by have := (mem_freeV.1 hv).lines; exact ⟨this.1, this.2.1, this.2.2.1⟩)
def Enough (s : Sp) : Prop := SV s ∧ s.E ≤ s.M
instance (s : Sp) : Decidable (Enough s) := by unfold Enough; infer_instance
theorem not_busyI {cs : List Cl} {i o : Int} (h : ¬ Busy cs i o) : ∀ c ∈ cs, c.i ≠ i := fun c hc e => h ⟨c, hc, .inl e⟩
theorem not_busyO {cs : List Cl} {i o : Int} (h : ¬ Busy cs i o) : ∀ c ∈ cs, c.o ≠ o := fun c hc e => h ⟨c, hc, .inr e⟩
theorem SV.lines {s : Sp} (h : SV s) : 1 ≤ s.O * s.E ∧ s.O * s.E ≤ 12 := by
 obtain ⟨⟨o1, o2⟩, ⟨e1, e2⟩, -⟩ := h
 have h12 : s.O * s.E ≤ 4 * 3 := Int.mul_le_mul o2 e2 (by omega) (by omega)
 have h1 : 1 * 1 ≤ s.O * s.E := Int.mul_le_mul o1 e1 (by omega) (by omega)
 omega
/-- the numbers of a call that are divided are not below 0 -/
def Nng (c : Cl) : Prop := (0 ≤ c.i ∧ c.i ≤ 1000) ∧ (0 ≤ c.o ∧ c.o ≤ 1000)
theorem Rg.nng {s : Sp} {c : Cl} (hS : SV s) (h : Rg s c) : Nng c := by
 have := hS.lines
 obtain ⟨h1, h2, -⟩ := h
 exact ⟨⟨h1.1, by omega⟩, h2.1, by omega⟩
end Go.Clos
namespace Go.Clos
theorem b_ne {t sd : Bool} (h : ¬ t = sd) : t = !sd := by cases t <;> cases sd <;> simp_all
def gc (cs : List Cl) (k : Nat) : Cl := cs.getD k Go.Abs.cl0
theorem gc_some {cs : List Cl} {k : Nat} (h : k < cs.length) : cs[k]? = some (gc cs k) := by simp [gc, List.getD, h]
theorem gc_mem {cs : List Cl} {k : Nat} (h : k < cs.length) : gc cs k ∈ cs := List.mem_of_getElem? (gc_some h)
theorem mem_gc {cs : List Cl} {c : Cl} (h : c ∈ cs) : ∃ k, k < cs.length ∧ gc cs k = c := by
 obtain ⟨k, hk, rfl⟩ := List.getElem_of_mem h
 exact ⟨k, hk, by simp [gc, List.getD, hk]⟩
/-- the outer switch of a call on a side (true: of its output) -/
def sw (s : Sp) (sd : Bool) (c : Cl) : Int := bif sd then c.o / s.E else c.i / s.E
def AtC (s : Sp) (sd : Bool) (x w : Int) (c : Cl) : Prop := sw s sd c = x ∧ c.v = w
instance (s : Sp) (sd : Bool) (x w : Int) (c : Cl) : Decidable (AtC s sd x w c) := by unfold AtC; infer_instance
theorem hit_sw {s : Sp} {sd : Bool} {c d : Cl} (h1 : sw s sd c = sw s sd d) (h2 : c.v = d.v) : Hit s c d := by
 cases sd
 ·exact .inr (.inr ⟨h2, .inl h1⟩)
 ·exact .inr (.inr ⟨h2, .inr h1⟩)
theorem CV.sw_one {s : Sp} {cs : List Cl} (h : CV s cs) {sd : Bool} {k l : Nat} (hk : k < cs.length) (hl : l < cs.length) (h1 : sw s sd (gc cs k) = sw s sd (gc cs l)) (h2 : (gc cs k).v = (gc cs l).v) : k = l :=
 h.one (gc_some hk) (gc_some hl) (hit_sw h1 h2)
/-- the last of the first n calls at an outer switch through a middle switch that is not in the chain -/
def nxt (s : Sp) (cs : List Cl) (ch : List Nat) (sd : Bool) (x w : Int) : Nat → Option Nat
 | 0 => none
 | n + 1 => if AtC s sd x w (gc cs n) ∧ n ∉ ch then some n else nxt s cs ch sd x w n
theorem nxt_none {s : Sp} {cs : List Cl} {ch : List Nat} {sd : Bool} {x w : Int} : ∀ {n : Nat}, nxt s cs ch sd x w n = none → ∀ l, l < n → AtC s sd x w (gc cs l) → l ∈ ch
 | 0, _, l, hl, _ => absurd hl (by omega)
 | n + 1, h, l, hl, hc => by
  unfold nxt at h
  split at h
  ·cases h
  ·rename_i hn
   by_cases e : l = n
   ·subst e; exact Classical.byContradiction fun hm => hn ⟨hc, hm⟩
   ·exact nxt_none h l (by omega) hc
theorem nxt_some {s : Sp} {cs : List Cl} {ch : List Nat} {sd : Bool} {x w : Int} : ∀ {n k : Nat}, nxt s cs ch sd x w n = some k → k < n ∧ AtC s sd x w (gc cs k) ∧ k ∉ ch
 | 0, k, h => by cases h
 | n + 1, k, h => by
  unfold nxt at h
  split at h
  ·rename_i hn
   cases h; exact ⟨by omega, hn⟩
  ·obtain ⟨a, b⟩ := nxt_some h
   exact ⟨by omega, b⟩
def wantOf (a b : Int) (sd : Bool) : Int := bif sd then a else b
/-- the chain -/
def go (s : Sp) (cs : List Cl) (a b : Int) : Nat → List Nat → Bool → Int → List Nat
 | 0, ch, _, _ => ch
 | f + 1, ch, sd, x => match nxt s cs ch sd x (wantOf a b sd) cs.length with
  | none => ch
  | some k => go s cs a b f (ch ++ [k]) (!sd) (sw s (!sd) (gc cs k))
def chain (s : Sp) (cs : List Cl) (a b : Int) (B : Int) : List Nat := go s cs a b cs.length [] true B
structure Inv (s : Sp) (cs : List Cl) (a b B : Int) (ch : List Nat) (sd : Bool) (x : Int) : Prop where
 nd : ch.Nodup
 lt : ∀ k ∈ ch, k < cs.length
 ab : ∀ k ∈ ch, (gc cs k).v = a ∨ (gc cs k).v = b
 from_ : ∀ k ∈ ch, (gc cs k).v = b → ∃ l ∈ ch, (gc cs l).v = a ∧ sw s false (gc cs l) = sw s false (gc cs k)
 fr : sd = false → ∃ l ∈ ch, (gc cs l).v = a ∧ sw s false (gc cs l) = x
 cl : ∀ k ∈ ch, ∀ t l, l < cs.length → sw s t (gc cs l) = sw s t (gc cs k) → (gc cs l).v = a + b - (gc cs k).v → l ∈ ch ∨ AtC s sd x (wantOf a b sd) (gc cs l)
 st : ∀ l, l < cs.length → AtC s true B a (gc cs l) → l ∈ ch ∨ AtC s sd x (wantOf a b sd) (gc cs l)
 six : ∀ l, l < cs.length → sw s sd (gc cs l) = x → (gc cs l).v = a + b - wantOf a b sd → l ∈ ch
section
variable {s : Sp} {cs : List Cl} {a b B : Int} (h : CV s cs) (hab : a ≠ b) (hB : ∀ l, l < cs.length → sw s true (gc cs l) = B → (gc cs l).v ≠ b)
include h hab hB
theorem inv_start : Inv s cs a b B [] true B where
 nd := List.nodup_nil
 lt := fun k hk => absurd hk (by simp)
 ab := fun k hk => absurd hk (by simp)
 from_ := fun k hk => absurd hk (by simp)
 fr := fun e => by cases e
 cl := fun k hk => absurd hk (by simp)
 st := fun l hl hc => .inr hc
 six := fun l hl h1 h2 => absurd (show (gc cs l).v = b by rw [h2]; show a + b - a = b; omega) (hB l hl h1)
theorem Inv.step {ch : List Nat} {sd : Bool} {x : Int} {k : Nat} (hi : Inv s cs a b B ch sd x) (hn : nxt s cs ch sd x (wantOf a b sd) cs.length = some k) : Inv s cs a b B (ch ++ [k]) (!sd) (sw s (!sd) (gc cs k)) := by
 obtain ⟨hk, ⟨k1, k2⟩, k3⟩ := nxt_some hn
 have one : ∀ l, l < cs.length → AtC s sd x (wantOf a b sd) (gc cs l) → l = k := fun l hl hc => h.sw_one (sd := sd) hl hk (by rw [hc.1, k1]) (by rw [hc.2, k2])
 have hw : wantOf a b (!sd) = a + b - wantOf a b sd := by cases sd <;> simp [wantOf] <;> omega
 refine ⟨?_, ?_, ?_, ?_, ?_, ?_, ?_, ?_⟩
 ·rw [List.nodup_append]
  refine ⟨hi.nd, by simp, fun y hy z hz e => ?_⟩
  rw [List.mem_singleton] at hz
  exact k3 (by rw [← hz, ← e]; exact hy)
 ·intro l hl
  rcases List.mem_append.1 hl with hl | hl
  ·exact hi.lt l hl
  ·rw [List.mem_singleton] at hl; omega
 ·intro l hl
  rcases List.mem_append.1 hl with hl | hl
  ·exact hi.ab l hl
  ·rw [List.mem_singleton] at hl
   subst hl
   rw [k2]; cases sd
   ·exact .inr rfl
   ·exact .inl rfl
 ·intro l hl hv
  rcases List.mem_append.1 hl with hl | hl
  ·obtain ⟨m, hm, h1, h2⟩ := hi.from_ l hl hv
   exact ⟨m, List.mem_append.2 (.inl hm), h1, h2⟩
  ·rw [List.mem_singleton] at hl
   subst hl
   rw [k2] at hv
   cases sd with
   | true => exact absurd hv hab
   | false =>
    obtain ⟨m, hm, h1, h2⟩ := hi.fr rfl
    exact ⟨m, List.mem_append.2 (.inl hm), h1, by rw [h2, k1]⟩
 ·intro e
  cases sd with
  | false => cases e
  | true => exact ⟨k, List.mem_append.2 (.inr (by simp)), k2, rfl⟩
 ·intro j hj t l hl h1 h2
  rcases List.mem_append.1 hj with hj | hj
  ·rcases hi.cl j hj t l hl h1 h2 with h3 | h3
   ·exact .inl (List.mem_append.2 (.inl h3))
   ·exact .inl (List.mem_append.2 (.inr (by rw [one l hl h3]; simp)))
  ·rw [List.mem_singleton] at hj
   subst hj
   rw [k2] at h2
   by_cases e : t = sd
   ·subst e
    exact .inl (List.mem_append.2 (.inl (hi.six l hl (by rw [h1, k1]) h2)))
   ·have e2 : t = !sd := b_ne e
    subst e2
    exact .inr ⟨h1, by rw [hw]; exact h2⟩
 ·intro l hl hc
  rcases hi.st l hl hc with h3 | h3
  ·exact .inl (List.mem_append.2 (.inl h3))
  ·exact .inl (List.mem_append.2 (.inr (by rw [one l hl h3]; simp)))
 ·intro l hl h1 h2
  have : l = k := h.sw_one (sd := !sd) hl hk h1 (by rw [h2, k2, hw]; omega)
  exact List.mem_append.2 (.inr (by rw [this]; simp))
structure Closed (s : Sp) (cs : List Cl) (a b B : Int) (ch : List Nat) : Prop where
 nd : ch.Nodup
 lt : ∀ k ∈ ch, k < cs.length
 ab : ∀ k ∈ ch, (gc cs k).v = a ∨ (gc cs k).v = b
 from_ : ∀ k ∈ ch, (gc cs k).v = b → ∃ l ∈ ch, (gc cs l).v = a ∧ sw s false (gc cs l) = sw s false (gc cs k)
 cl : ∀ k ∈ ch, ∀ t l, l < cs.length → sw s t (gc cs l) = sw s t (gc cs k) → (gc cs l).v = a + b - (gc cs k).v → l ∈ ch
 st : ∀ l, l < cs.length → AtC s true B a (gc cs l) → l ∈ ch
omit h hab hB in
theorem Inv.stop {ch : List Nat} {sd : Bool} {x : Int} (hi : Inv s cs a b B ch sd x) (hn : ∀ l, l < cs.length → AtC s sd x (wantOf a b sd) (gc cs l) → l ∈ ch) : Closed s cs a b B ch :=
 ⟨hi.nd, hi.lt, hi.ab, hi.from_, fun k hk t l hl h1 h2 => (hi.cl k hk t l hl h1 h2).elim id (hn l hl), fun l hl hc => (hi.st l hl hc).elim id (hn l hl)⟩
omit h hab hB in
theorem all_in {ch : List Nat} {n : Nat} (h1 : ch.Nodup) (h2 : ∀ k ∈ ch, k < n) (h3 : n ≤ ch.length) {l : Nat} (hl : l < n) : l ∈ ch :=
 Classical.byContradiction fun hm => by
  have := sub_len (xs := l :: ch) (ys := List.range n) (List.nodup_cons.2 ⟨hm, h1⟩) fun y hy => by
   rcases List.mem_cons.1 hy with rfl | hy
   ·exact List.mem_range.2 hl
   ·exact List.mem_range.2 (h2 y hy)
  simp at this; omega
theorem go_closed : ∀ (f : Nat) {ch : List Nat} {sd : Bool} {x : Int}, Inv s cs a b B ch sd x → cs.length ≤ ch.length + f → Closed s cs a b B (go s cs a b f ch sd x)
 | 0, ch, sd, x, hi, hf => hi.stop fun l hl _ => all_in hi.nd hi.lt hf hl
 | f + 1, ch, sd, x, hi, hf => by
  unfold go
  cases hn : nxt s cs ch sd x (wantOf a b sd) cs.length with
  | none => exact hi.stop (nxt_none hn)
  | some k => exact go_closed f (Inv.step h hab hB hi hn) (by simp; omega)
theorem chain_closed : Closed s cs a b B (chain s cs a b B) := go_closed h hab hB cs.length (inv_start h hab hB) (by simp)
end
/-- the calls, those of a chain moved -/
def flip (a b : Int) (ch : List Nat) (cs : List Cl) : List Cl := cs.mapIdx fun k c => if k ∈ ch then ⟨c.i, c.o, a + b - c.v⟩ else c
theorem flip_length (a b : Int) (ch : List Nat) (cs : List Cl) : (flip a b ch cs).length = cs.length := by simp [flip]
theorem flip_some {a b : Int} {ch : List Nat} {cs : List Cl} {k : Nat} {c : Cl} (h : (flip a b ch cs)[k]? = some c) : k < cs.length ∧ c.i = (gc cs k).i ∧ c.o = (gc cs k).o ∧ ((k ∈ ch ∧ c.v = a + b - (gc cs k).v) ∨ (k ∉ ch ∧ c.v = (gc cs k).v)) := by
 have hk : k < cs.length := by
  have := (List.getElem?_eq_some_iff.1 h).1
  rwa [flip_length] at this
 unfold flip at h
 rw [List.getElem?_mapIdx, gc_some hk] at h
 simp only [Option.map_some, Option.some.injEq] at h
 subst h
 refine ⟨hk, ?_⟩
 by_cases hm : k ∈ ch
 ·simp [hm]
 ·simp [hm]
theorem flip_gc {a b : Int} {ch : List Nat} {cs : List Cl} {k : Nat} (hk : k < cs.length) : gc (flip a b ch cs) k = if k ∈ ch then ⟨(gc cs k).i, (gc cs k).o, a + b - (gc cs k).v⟩ else gc cs k := by
 have h1 := gc_some (cs := flip a b ch cs) (k := k) (by rw [flip_length]; exact hk)
 unfold flip at h1
 rw [List.getElem?_mapIdx, gc_some hk] at h1
 simp only [Option.map_some, Option.some.injEq] at h1
 exact h1.symm
/-- with the chain moved the further call is possible -/
theorem flip_CV {s : Sp} {cs : List Cl} {a b i o : Int} {ch : List Nat} (h : CV s cs) (hl : Lines s i o) (hb : ¬ Busy cs i o) (ha : 0 ≤ a ∧ a ≤ s.M - 1) (hb2 : 0 ≤ b ∧ b ≤ s.M - 1)
  (hA : a ∉ usedI s cs (i / s.E)) (hB : b ∉ usedO s cs (o / s.E)) (hc : Closed s cs a b (o / s.E) ch) : CV s (flip a b ch cs ++ [⟨i, o, a⟩]) := by
 have hAk : ∀ k, k < cs.length → sw s false (gc cs k) = i / s.E → (gc cs k).v ≠ a := fun k hk e e2 => hA (mem_usedI.2 ⟨_, gc_mem hk, e, e2⟩)
 have hBk : ∀ k, k < cs.length → sw s true (gc cs k) = o / s.E → (gc cs k).v ≠ b := fun k hk e e2 => hB (mem_usedO.2 ⟨_, gc_mem hk, e, e2⟩)
 rw [CV_snoc]
 refine ⟨CV.of_index h.1 (fun c hcm => ?_) (fun k l c d hk hl2 hlt hh => ?_), ⟨hl.1, hl.2, ha⟩, fun d hd hh => ?_⟩
 ·obtain ⟨k, hk⟩ := List.mem_iff_getElem?.1 hcm
  obtain ⟨hk1, e1, e2, e3⟩ := flip_some hk
  have hr := h.2.1 _ (gc_mem hk1)
  refine ⟨by rw [e1]; exact hr.1, by rw [e2]; exact hr.2.1, ?_⟩
  rcases e3 with ⟨hm, e3⟩ | ⟨hm, e3⟩
  ·rw [e3]
   rcases hc.ab k hm with e | e <;> rw [e]
   ·rw [show a + b - a = b by omega]; exact hb2
   ·rw [show a + b - b = a by omega]; exact ha
  ·rw [e3]; exact hr.2.2
 ·obtain ⟨hk1, e1, e2, e3⟩ := flip_some hk
  obtain ⟨hl1, f1, f2, f3⟩ := flip_some hl2
  have hno := h.two (gc_some hk1) (gc_some hl1) (by omega)
  have key : ∀ t, sw s t (gc cs k) = sw s t (gc cs l) → c.v = d.v → False := fun t ht hv => by
   rcases e3 with ⟨m1, e3⟩ | ⟨m1, e3⟩ <;> rcases f3 with ⟨m2, f3⟩ | ⟨m2, f3⟩
   ·exact hno (hit_sw (sd := t) ht (by omega))
   ·exact m2 (hc.cl k m1 t l hl1 ht.symm (by omega))
   ·exact m1 (hc.cl l m2 t k hk1 ht (by omega))
   ·exact hno (hit_sw (sd := t) ht (by omega))
  rcases hh with e | e | ⟨e, g | g⟩
  ·exact hno (.inl (by rw [← e1, ← f1]; exact e))
  ·exact hno (.inr (.inl (by rw [← e2, ← f2]; exact e)))
  ·exact key false (by rw [e1, f1] at g; exact g) e
  ·exact key true (by rw [e2, f2] at g; exact g) e
 ·obtain ⟨k, hk⟩ := List.mem_iff_getElem?.1 hd
  obtain ⟨hk1, e1, e2, e3⟩ := flip_some hk
  rcases hh with e | e | ⟨e, g⟩
  ·exact hb ⟨_, gc_mem hk1, .inl (by rw [← e1]; exact e.symm)⟩
  ·exact hb ⟨_, gc_mem hk1, .inr (by rw [← e2]; exact e.symm)⟩
  ·rcases e3 with ⟨m1, e3⟩ | ⟨m1, e3⟩
   ·have hv : (gc cs k).v = b := by have : a = a + b - (gc cs k).v := e.trans e3; omega
    rcases g with g | g
    ·obtain ⟨m, hm, h1, h2⟩ := hc.from_ k m1 hv
     exact hAk m (hc.lt m hm) (by rw [h2]; rw [e1] at g; exact g.symm) h1
    ·exact hBk k hk1 (by rw [e2] at g; exact g.symm) hv
   ·have hv : (gc cs k).v = a := (e.trans e3).symm
    rcases g with g | g
    ·exact hAk k hk1 (by rw [e1] at g; exact g.symm) hv
    ·exact m1 (hc.st k hk1 ⟨by rw [e2] at g; exact g.symm, hv⟩)
end Go.Clos
namespace Go.Clos
theorem gc_append {cs ds : List Cl} {k : Nat} (h : k < cs.length) : gc (cs ++ ds) k = gc cs k := by simp [gc, List.getD, List.getElem?_append_left h]
theorem gc_last {cs : List Cl} {c : Cl} : gc (cs ++ [c]) cs.length = c := by simp [gc, List.getD]
/-- with a further call, if there are enough middle switches -/
def wayA (s : Sp) (cs : List Cl) (i : Int) : Int := firstN (usedI s cs (i / s.E)) s.M.toNat 0
def wayB (s : Sp) (cs : List Cl) (o : Int) : Int := firstN (usedO s cs (o / s.E)) s.M.toNat 0
def moveL (s : Sp) (cs : List Cl) (i o : Int) : List Cl :=
 match freeV s cs i o with
 | v :: _ => cs ++ [⟨i, o, v⟩]
 | [] => flip (wayA s cs i) (wayB s cs o) (chain s cs (wayA s cs i) (wayB s cs o) (o / s.E)) cs ++ [⟨i, o, wayA s cs i⟩]
section
variable {s : Sp} {cs : List Cl} {i o : Int} (hs : Enough s) (h : CV s cs) (hl : Lines s i o) (hb : ¬ Busy cs i o)
include hs h hl hb
theorem wayA_ok : (0 ≤ wayA s cs i ∧ wayA s cs i ≤ s.M - 1) ∧ wayA s cs i ∉ usedI s cs (i / s.E) := by
 have f1 := h.from_ (not_busyI hb)
 obtain ⟨⟨-, ⟨e1, e2⟩, -⟩, hm⟩ := hs
 obtain ⟨j, hj, h1, h2⟩ := firstN_some (used := usedI s cs (i / s.E)) (n := s.M.toNat) (by unfold usedI; rw [List.length_map]; omega)
 unfold wayA; rw [hj]; exact ⟨by omega, h2⟩
theorem wayB_ok : (0 ≤ wayB s cs o ∧ wayB s cs o ≤ s.M - 1) ∧ wayB s cs o ∉ usedO s cs (o / s.E) := by
 have f1 := h.to_ (not_busyO hb)
 obtain ⟨⟨-, ⟨e1, e2⟩, -⟩, hm⟩ := hs
 obtain ⟨j, hj, h1, h2⟩ := firstN_some (used := usedO s cs (o / s.E)) (n := s.M.toNat) (by unfold usedO; rw [List.length_map]; omega)
 unfold wayB; rw [hj]; exact ⟨by omega, h2⟩
theorem way_ne (hf : freeV s cs i o = []) : wayA s cs i ≠ wayB s cs o := fun e => by
 obtain ⟨a1, a2⟩ := wayA_ok hs h hl hb
 obtain ⟨b1, b2⟩ := wayB_ok hs h hl hb
 have := mem_freeV.2 ((free_iff h hl hb a1).2 ⟨a2, by rw [e]; exact b2⟩)
 rw [hf] at this; cases this
theorem way_free : ∀ l, l < cs.length → sw s true (gc cs l) = o / s.E → (gc cs l).v ≠ wayB s cs o := fun l hl2 e e2 =>
 (wayB_ok hs h hl hb).2 (mem_usedO.2 ⟨_, gc_mem hl2, e, e2⟩)
theorem chain_ok (hf : freeV s cs i o = []) : Closed s cs (wayA s cs i) (wayB s cs o) (o / s.E) (chain s cs (wayA s cs i) (wayB s cs o) (o / s.E)) :=
 chain_closed h (way_ne hs h hl hb hf) (way_free hs h hl hb)
theorem moveL_CV : CV s (moveL s cs i o) := by
 unfold moveL
 cases hf : freeV s cs i o with
 | cons v vs => exact mem_freeV.1 (by rw [hf]; simp)
 | nil =>
  obtain ⟨a1, a2⟩ := wayA_ok hs h hl hb
  obtain ⟨b1, b2⟩ := wayB_ok hs h hl hb
  exact flip_CV h hl hb a1 b1 a2 b2 (chain_ok hs h hl hb hf)
omit hs h hl hb in
theorem moveL_length : (moveL s cs i o).length = cs.length + 1 := by
 unfold moveL
 split
 ·simp
 ·simp [flip_length]
omit hs h hl hb in
theorem moveL_last : (gc (moveL s cs i o) cs.length).i = i ∧ (gc (moveL s cs i o) cs.length).o = o := by
 unfold moveL
 split
 ·rw [gc_last]; exact ⟨rfl, rfl⟩
 ·have := gc_last (cs := flip (wayA s cs i) (wayB s cs o) (chain s cs (wayA s cs i) (wayB s cs o) (o / s.E)) cs) (c := ⟨i, o, wayA s cs i⟩)
  rw [flip_length] at this
  rw [this]; exact ⟨rfl, rfl⟩
omit hs h hl hb in
theorem moveL_old {k : Nat} (hk : k < cs.length) : (gc (moveL s cs i o) k).i = (gc cs k).i ∧ (gc (moveL s cs i o) k).o = (gc cs k).o := by
 unfold moveL
 split
 ·rw [gc_append hk]; exact ⟨rfl, rfl⟩
 ·rw [gc_append (by rw [flip_length]; exact hk), flip_gc hk]
  split <;> exact ⟨rfl, rfl⟩
end
/-- without the call from an input -/
def dropL (cs : List Cl) (i : Int) : List Cl := cs.filter fun c => c.i ≠ i
theorem dropL_sub (cs : List Cl) (i : Int) : (dropL cs i).Sublist cs := List.filter_sublist
theorem dropL_no {cs : List Cl} {i : Int} (h : ∀ c ∈ cs, c.i ≠ i) : dropL cs i = cs := List.filter_eq_self.2 fun c hc => by simpa using h c hc
theorem dropL_gone {cs : List Cl} {i : Int} {c : Cl} (h : c ∈ dropL cs i) : c.i ≠ i := by simpa using (List.mem_filter.1 h).2
theorem dropL_take (cs : List Cl) (i : Int) {k : Nat} (hk : k < cs.length) : dropL (cs.take (k + 1)) i = dropL (cs.take k) i ++ if (gc cs k).i = i then [] else [gc cs k] := by
 unfold dropL
 rw [List.take_add_one, gc_some hk, List.filter_append]
 congr 1
 by_cases h : (gc cs k).i = i <;> simp [h]
theorem dropL_len {s : Sp} {cs : List Cl} (h : CV s cs) {i : Int} (hi : ∃ c ∈ cs, c.i = i) : (dropL cs i).length + 1 = cs.length := by
 obtain ⟨c, hc, rfl⟩ := hi
 have hn := h.ins
 clear h
 induction cs with
 | nil => cases hc
 | cons d ds ih =>
  rw [List.map_cons, List.nodup_cons] at hn
  unfold dropL
  rcases List.mem_cons.1 hc with rfl | hc
  ·have : dropL ds c.i = ds := dropL_no fun d hd e => hn.1 (List.mem_map.2 ⟨d, hd, e⟩)
   rw [List.filter_cons_of_neg (by simp)]
   unfold dropL at this; rw [this]; rfl
  ·have hne : d.i ≠ c.i := fun e => hn.1 (List.mem_map.2 ⟨c, hc, e.symm⟩)
   have := ih hc hn.2
   rw [List.filter_cons_of_pos (by simpa using hne)]
   unfold dropL at this
   simp only [List.length_cons]; omega
end Go.Clos
namespace Go.Proofs.Ytafkndnmhhjdhaa
open Go Go.Abs Go.RowKit Go.Dial Go.Clos
/-- an exchange -/
structure Ex where
 s : Sp
 ps : List (List UInt8)
 cs : List Cl
deriving DecidableEq
def ex0 : Ex := ⟨⟨0, 0, 0⟩, [], []⟩
/-- nobody's input is an output -/
def SepC (cs : List Cl) : Prop := ∀ c ∈ cs, ∀ d ∈ cs, c.i ≠ d.o
instance (cs : List Cl) : Decidable (SepC cs) := inferInstanceAs (Decidable (∀ c ∈ cs, ∀ d ∈ cs, c.i ≠ d.o))
def ExOk (e : Ex) : Prop := Enough e.s ∧ PlanOk e.ps ∧ (e.ps.length : Int) = e.s.O * e.s.E ∧ CV e.s e.cs ∧ SepC e.cs
instance (e : Ex) : Decidable (ExOk e) := inferInstanceAs (Decidable (_ ∧ _ ∧ _ ∧ _ ∧ _))
/-- connected -/
def Pr (cs : List Cl) (x y : Int) : Prop := ∃ c ∈ cs, (c.i = x ∧ c.o = y) ∨ (c.o = x ∧ c.i = y)
theorem ins_inj {s : Sp} {cs : List Cl} (h : CV s cs) {c d : Cl} (hc : c ∈ cs) (hd : d ∈ cs) (e : c.i = d.i) : c = d := by
 obtain ⟨k, hk, rfl⟩ := mem_gc hc
 obtain ⟨l, hl, rfl⟩ := mem_gc hd
 rw [h.one (gc_some hk) (gc_some hl) (.inl e)]
theorem outs_inj {s : Sp} {cs : List Cl} (h : CV s cs) {c d : Cl} (hc : c ∈ cs) (hd : d ∈ cs) (e : c.o = d.o) : c = d := by
 obtain ⟨k, hk, rfl⟩ := mem_gc hc
 obtain ⟨l, hl, rfl⟩ := mem_gc hd
 rw [h.one (gc_some hk) (gc_some hl) (.inr (.inl e))]
theorem Pr.lines {s : Sp} {cs : List Cl} (h : CV s cs) {x y : Int} (h1 : Pr cs x y) : (0 ≤ x ∧ x ≤ s.O * s.E - 1) ∧ (0 ≤ y ∧ y ≤ s.O * s.E - 1) := by
 obtain ⟨c, hc, ⟨a1, a2⟩ | ⟨a1, a2⟩⟩ := h1
 ·have := h.2.1 c hc; rw [← a1, ← a2]; exact ⟨this.1, this.2.1⟩
 ·have := h.2.1 c hc; rw [← a1, ← a2]; exact ⟨this.2.1, this.1⟩
/-- the peer of a line: the first call that has it -/
def peerS : List Cl → Int → Int
 | [], _ => -1
 | c :: cs, x => if c.i = x then c.o else if c.o = x then c.i else peerS cs x
def peerV (e : Ex) (x : Int) : Int := if ExOk e then peerS e.cs x else -1
theorem peerS_spec : ∀ (cs : List Cl) (x : Int), Pr cs x (peerS cs x) ∨ (peerS cs x = -1 ∧ ∀ y, ¬ Pr cs x y)
 | [], x => .inr ⟨rfl, fun y ⟨c, hc, _⟩ => by cases hc⟩
 | c :: cs, x => by
  unfold peerS
  by_cases h1 : c.i = x
  ·rw [if_pos h1]; exact .inl ⟨c, by simp, .inl ⟨h1, rfl⟩⟩
  rw [if_neg h1]
  by_cases h2 : c.o = x
  ·rw [if_pos h2]; exact .inl ⟨c, by simp, .inr ⟨h2, rfl⟩⟩
  rw [if_neg h2]
  rcases peerS_spec cs x with ⟨d, hd, h⟩ | ⟨e, h⟩
  ·exact .inl ⟨d, by simp [hd], h⟩
  ·refine .inr ⟨e, fun y ⟨d, hd, hh⟩ => ?_⟩
   rcases List.mem_cons.1 hd with rfl | hd
   ·rcases hh with hh | hh
    ·exact h1 hh.1
    ·exact h2 hh.1
   ·exact h y ⟨d, hd, hh⟩
section
variable {s : Sp} {cs : List Cl} (h : CV s cs) (hs : SepC cs)
include h hs
omit hs in
theorem peer_neg {x : Int} : peerS cs x < 0 ↔ ∀ y, ¬ Pr cs x y := by
 constructor
 ·intro hn y hy
  rcases peerS_spec cs x with h1 | ⟨_, h1⟩
  ·have := (h1.lines h).2; omega
  ·exact h1 y hy
 ·intro hn
  rcases peerS_spec cs x with h1 | ⟨e, _⟩
  ·exact absurd h1 (hn _)
  ·omega
omit hs in
theorem peer_pos {x : Int} (hx : 0 ≤ peerS cs x) : Pr cs x (peerS cs x) := by
 rcases peerS_spec cs x with h1 | ⟨e, _⟩
 ·exact h1
 ·omega
end
/-- a further call -/
theorem pr_move {s : Sp} {cs : List Cl} {i o x y : Int} : Pr (moveL s cs i o) x y ↔ Pr cs x y ∨ (x = i ∧ y = o) ∨ (x = o ∧ y = i) := by
 have hl := moveL_length (s := s) (cs := cs) (i := i) (o := o)
 have hlast := moveL_last (s := s) (cs := cs) (i := i) (o := o)
 have hold := fun k hk => moveL_old (s := s) (cs := cs) (i := i) (o := o) (k := k) hk
 constructor
 ·rintro ⟨c, hc, hh⟩
  obtain ⟨k, hk, rfl⟩ := mem_gc hc
  by_cases hkl : k < cs.length
  ·obtain ⟨e1, e2⟩ := hold k hkl
   rw [e1, e2] at hh
   exact .inl ⟨_, gc_mem hkl, hh⟩
  ·obtain rfl : k = cs.length := by omega
   rw [hlast.1, hlast.2] at hh
   rcases hh with ⟨a, b⟩ | ⟨a, b⟩
   ·exact .inr (.inl ⟨a.symm, b.symm⟩)
   ·exact .inr (.inr ⟨a.symm, b.symm⟩)
 ·rintro (⟨c, hc, hh⟩ | ⟨rfl, rfl⟩ | ⟨rfl, rfl⟩)
  ·obtain ⟨k, hk, rfl⟩ := mem_gc hc
   obtain ⟨e1, e2⟩ := hold k hk
   exact ⟨_, gc_mem (show k < _ by omega), by rw [e1, e2]; exact hh⟩
  ·exact ⟨_, gc_mem (show cs.length < _ by omega), .inl hlast⟩
  ·exact ⟨_, gc_mem (show cs.length < _ by omega), .inr ⟨hlast.2, hlast.1⟩⟩
theorem move_ends {s : Sp} {cs : List Cl} {i o : Int} {c : Cl} (hc : c ∈ moveL s cs i o) : (c.i = i ∧ c.o = o) ∨ ∃ d ∈ cs, c.i = d.i ∧ c.o = d.o := by
 obtain ⟨k, hk, rfl⟩ := mem_gc hc
 rw [moveL_length] at hk
 by_cases hkl : k < cs.length
 ·exact .inr ⟨_, gc_mem hkl, moveL_old hkl⟩
 ·obtain rfl : k = cs.length := by omega
  exact .inl moveL_last
theorem move_sep {s : Sp} {cs : List Cl} (hs : SepC cs) {i o : Int} (hne : i ≠ o) (hi : ∀ y, ¬ Pr cs i y) (ho : ∀ y, ¬ Pr cs o y) : SepC (moveL s cs i o) := by
 intro c hc d hd
 rcases move_ends hc with ⟨a1, a2⟩ | ⟨c', hc', a1, a2⟩ <;> rcases move_ends hd with ⟨b1, b2⟩ | ⟨d', hd', b1, b2⟩
 ·rw [a1, b2]; exact hne
 ·rw [a1, b2]; exact fun e => hi d'.i ⟨d', hd', .inr ⟨e.symm, rfl⟩⟩
 ·rw [a1, b2]; exact fun e => ho c'.o ⟨c', hc', .inl ⟨e, rfl⟩⟩
 ·rw [a1, b2]; exact hs c' hc' d' hd'
/-- without a call -/
theorem pr_drop {s : Sp} {cs : List Cl} (h : CV s cs) (hs : SepC cs) {i o : Int} (hp : ∃ c ∈ cs, c.i = i ∧ c.o = o) {x y : Int} : Pr (dropL cs i) x y ↔ Pr cs x y ∧ x ≠ i ∧ x ≠ o := by
 obtain ⟨c0, h0, rfl, rfl⟩ := hp
 constructor
 ·rintro ⟨c, hc, hh⟩
  have hm := (dropL_sub cs c0.i).subset hc
  have hg := dropL_gone hc
  have hne : c.o ≠ c0.o := fun e => hg (by rw [outs_inj h hm h0 e])
  refine ⟨⟨c, hm, hh⟩, ?_⟩
  rcases hh with ⟨rfl, rfl⟩ | ⟨rfl, rfl⟩
  ·exact ⟨hg, hs c hm c0 h0⟩
  ·exact ⟨(hs c0 h0 c hm).symm, hne⟩
 ·rintro ⟨⟨c, hc, hh⟩, n1, n2⟩
  refine ⟨c, ?_, hh⟩
  unfold dropL
  refine List.mem_filter.2 ⟨hc, ?_⟩
  rcases hh with ⟨rfl, rfl⟩ | ⟨rfl, rfl⟩
  ·simpa using n1
  ·have : c.i ≠ c0.i := fun e => n2 (by rw [ins_inj h hc h0 e])
   simpa using this
theorem sep_sub {cs ds : List Cl} (hs : SepC cs) (hsub : ∀ c ∈ ds, c ∈ cs) : SepC ds := fun c hc d hd => hs c (hsub c hc) d (hsub d hd)
end Go.Proofs.Ytafkndnmhhjdhaa
namespace Go.Proofs.Ytafkndnmhhjdhaa
open Go Go.Abs Go.RowKit Go.Clos
variable {w0 : World}
set_option maxRecDepth 8000 in
theorem toShape_at (σ : AHeap) (A B C : Int) : ACall Try.prog w0 17 [.agg #[.int .i64 A, .int .i64 B, .int .i64 C]] σ fun r σ' => r = .agg #[.int .i64 A, .int .i64 B, .int .i64 C] ∧ σ' = σ := by
 refine acall_goc mixed Try.func17 rfl goodc17 fun pr => ?_
 simp -implicitDefEqProofs (disch := omega) only [Nat.reduceEqDiff, ↓reduceIte, vcu, ↓vcd]
 refine r_boxed fun h1 τ1 n1 s1 e1 => ?_
 replace e1 : τ1 h1 = some ⟨[.int .i64 A, .int .i64 B, .int .i64 C], false⟩ := e1
 refine r_new ze30 fun h2 τ2 n2 s2 e2 => ?_
 replace e2 : τ2 h2 = some ⟨[.int .i64 0, .int .i64 0, .int .i64 0], false⟩ := e2
 simp -implicitDefEqProofs (disch := omega) only [Nat.reduceEqDiff, ↓reduceIte, vcu, ↓vcd]
 refine r_new ze30 fun h3 τ3 n3 s3 e3 => ?_
 replace e3 : τ3 h3 = some ⟨[.int .i64 0, .int .i64 0, .int .i64 0], false⟩ := e3
 have f1 := (s3 _ _ (s2 _ _ e1))
 have l1 : ld τ3 h1 (0 + 0) = some (.int .i64 A) := ld_of f1 rfl
 have d2 := ne_of n3 e2
 have d1 := ne_of n3 (s2 _ _ e1)
 have d12 := ne_of n2 e1
 simp -implicitDefEqProofs (disch := omega) only [Nat.reduceEqDiff, ↓reduceIte, vcu, ↓vcd, l1]
 refine r_set (g := h3) (i := 0) z9q z9r co3 z9r e3 (by simp) fun τ4 k4 e4 => ?_
 replace e4 : τ4 h3 = some ⟨[.int .i64 A, .int .i64 0, .int .i64 0], false⟩ := e4
 have l2 : ld τ4 h1 (0 + 1) = some (.int .i64 B) := ld_of (k4.at f1 d1.symm) rfl
 simp -implicitDefEqProofs (disch := omega) only [Nat.reduceEqDiff, ↓reduceIte, vcu, ↓vcd, l2]
 refine r_set (g := h3) (i := 1) z9q z9r co3 z9r e4 (by simp) fun τ5 k5 e5 => ?_
 replace e5 : τ5 h3 = some ⟨[.int .i64 A, .int .i64 B, .int .i64 0], false⟩ := e5
 have l3 : ld τ5 h1 (0 + 2) = some (.int .i64 C) := ld_of (k5.at (k4.at f1 d1.symm) d1.symm) rfl
 simp -implicitDefEqProofs (disch := omega) only [Nat.reduceEqDiff, ↓reduceIte, vcu, ↓vcd, l3]
 refine r_set (g := h3) (i := 2) z9q z9r co3 z9r e5 (by simp) fun τ6 k6 e6 => ?_
 replace e6 : τ6 h3 = some ⟨[.int .i64 A, .int .i64 B, .int .i64 C], false⟩ := e6
 have l4 : lds τ6 h3 0 3 = some [.int .i64 A, .int .i64 B, .int .i64 C] := lds_three (ld_of e6 rfl) (ld_of e6 rfl) (ld_of e6 rfl)
 have f2 := k6.at (k5.at (k4.at (s3 _ _ e2) d2.symm) d2.symm) d2.symm
 simp -implicitDefEqProofs (disch := omega) only [Nat.reduceEqDiff, ↓reduceIte, vcu, ↓vcd, l4, co30]
 refine r_sets (g := h2) (i := 0) (C := [.int .i64 0, .int .i64 0, .int .i64 0]) z9q z9co30 z9r z9z f2 z9l fun τ7 k7 e7 => ?_
 replace e7 : τ7 h2 = some ⟨[.int .i64 A, .int .i64 B, .int .i64 C], false⟩ := e7
 have l5 : lds τ7 h2 0 3 = some [.int .i64 A, .int .i64 B, .int .i64 C] := lds_three (ld_of e7 rfl) (ld_of e7 rfl) (ld_of e7 rfl)
 simp -implicitDefEqProofs (disch := omega) only [Nat.reduceEqDiff, ↓reduceIte, vcu, ↓vcd]
 refine fin_cell Try.results17 σ ?_ (v := .agg #[.int .i64 A, .int .i64 B, .int .i64 C]) (by simp -implicitDefEqProofs (disch := omega) only [Nat.reduceEqDiff, ↓reduceIte, vcu, ↓vcd, l5, co30]) ⟨rfl, rfl⟩
 have q3 : Sub σ τ3 := s1.trans (s2.trans s3)
 have z3 : σ h3 = none := free_sub (s1.trans s2) n3
 have z2 : σ h2 = none := free_sub s1 n2
 exact k7.sub (k6.sub (k5.sub (k4.sub q3 z3) z3) z3) z2
set_option maxRecDepth 8000 in
theorem toCall_at (σ : AHeap) (A B C : Int) : ACall Try.prog w0 72 [.agg #[.int .i64 A, .int .i64 B, .int .i64 C]] σ fun r σ' => r = .agg #[.int .i64 A, .int .i64 B, .int .i64 C] ∧ σ' = σ := by
 refine acall_goc mixed Try.func72 rfl goodc72 fun pr => ?_
 simp -implicitDefEqProofs (disch := omega) only [Nat.reduceEqDiff, ↓reduceIte, vcu, ↓vcd]
 refine r_boxed fun h1 τ1 n1 s1 e1 => ?_
 replace e1 : τ1 h1 = some ⟨[.int .i64 A, .int .i64 B, .int .i64 C], false⟩ := e1
 refine r_new ze71 fun h2 τ2 n2 s2 e2 => ?_
 replace e2 : τ2 h2 = some ⟨[.int .i64 0, .int .i64 0, .int .i64 0], false⟩ := e2
 simp -implicitDefEqProofs (disch := omega) only [Nat.reduceEqDiff, ↓reduceIte, vcu, ↓vcd]
 refine r_new ze71 fun h3 τ3 n3 s3 e3 => ?_
 replace e3 : τ3 h3 = some ⟨[.int .i64 0, .int .i64 0, .int .i64 0], false⟩ := e3
 have f1 := (s3 _ _ (s2 _ _ e1))
 have l1 : ld τ3 h1 (0 + 0) = some (.int .i64 A) := ld_of f1 rfl
 have d2 := ne_of n3 e2
 have d1 := ne_of n3 (s2 _ _ e1)
 have d12 := ne_of n2 e1
 simp -implicitDefEqProofs (disch := omega) only [Nat.reduceEqDiff, ↓reduceIte, vcu, ↓vcd, l1]
 refine r_set (g := h3) (i := 0) z9q z9r co3 z9r e3 (by simp) fun τ4 k4 e4 => ?_
 replace e4 : τ4 h3 = some ⟨[.int .i64 A, .int .i64 0, .int .i64 0], false⟩ := e4
 have l2 : ld τ4 h1 (0 + 1) = some (.int .i64 B) := ld_of (k4.at f1 d1.symm) rfl
 simp -implicitDefEqProofs (disch := omega) only [Nat.reduceEqDiff, ↓reduceIte, vcu, ↓vcd, l2]
 refine r_set (g := h3) (i := 1) z9q z9r co3 z9r e4 (by simp) fun τ5 k5 e5 => ?_
 replace e5 : τ5 h3 = some ⟨[.int .i64 A, .int .i64 B, .int .i64 0], false⟩ := e5
 have l3 : ld τ5 h1 (0 + 2) = some (.int .i64 C) := ld_of (k5.at (k4.at f1 d1.symm) d1.symm) rfl
 simp -implicitDefEqProofs (disch := omega) only [Nat.reduceEqDiff, ↓reduceIte, vcu, ↓vcd, l3]
 refine r_set (g := h3) (i := 2) z9q z9r co3 z9r e5 (by simp) fun τ6 k6 e6 => ?_
 replace e6 : τ6 h3 = some ⟨[.int .i64 A, .int .i64 B, .int .i64 C], false⟩ := e6
 have l4 : lds τ6 h3 0 3 = some [.int .i64 A, .int .i64 B, .int .i64 C] := lds_three (ld_of e6 rfl) (ld_of e6 rfl) (ld_of e6 rfl)
 have f2 := k6.at (k5.at (k4.at (s3 _ _ e2) d2.symm) d2.symm) d2.symm
 simp -implicitDefEqProofs (disch := omega) only [Nat.reduceEqDiff, ↓reduceIte, vcu, ↓vcd, l4, co71]
 refine r_sets (g := h2) (i := 0) (C := [.int .i64 0, .int .i64 0, .int .i64 0]) z9q z9co71 z9r z9z f2 z9l fun τ7 k7 e7 => ?_
 replace e7 : τ7 h2 = some ⟨[.int .i64 A, .int .i64 B, .int .i64 C], false⟩ := e7
 have l5 : lds τ7 h2 0 3 = some [.int .i64 A, .int .i64 B, .int .i64 C] := lds_three (ld_of e7 rfl) (ld_of e7 rfl) (ld_of e7 rfl)
 simp -implicitDefEqProofs (disch := omega) only [Nat.reduceEqDiff, ↓reduceIte, vcu, ↓vcd]
 refine fin_cell Try.results72 σ ?_ (v := .agg #[.int .i64 A, .int .i64 B, .int .i64 C]) (by simp -implicitDefEqProofs (disch := omega) only [Nat.reduceEqDiff, ↓reduceIte, vcu, ↓vcd, l5, co71]) ⟨rfl, rfl⟩
 have q3 : Sub σ τ3 := s1.trans (s2.trans s3)
 have z3 : σ h3 = none := free_sub (s1.trans s2) n3
 have z2 : σ h2 = none := free_sub s1 n2
 exact k7.sub (k6.sub (k5.sub (k4.sub q3 z3) z3) z3) z2
set_option maxRecDepth 8000 in
theorem eqCall_at (σ : AHeap) (A B C D E F : Int) : ACall Try.prog w0 78 [.agg #[.int .i64 A, .int .i64 B, .int .i64 C], .agg #[.int .i64 D, .int .i64 E, .int .i64 F]] σ fun r σ' => r = .bool (decide ((⟨A, B, C⟩ : Cl) = ⟨D, E, F⟩)) ∧ σ' = σ := by
 refine acall_go mixed Try.func78 rfl good78 fun pr => ?_
 simp -implicitDefEqProofs (disch := omega) only [Nat.reduceEqDiff, ↓reduceIte, vcu, ↓vcd]
 refine r_boxed fun h1 τ1 n1 s1 e1 => ?_
 replace e1 : τ1 h1 = some ⟨[.int .i64 A, .int .i64 B, .int .i64 C], false⟩ := e1
 refine r_boxed fun h2 τ2 n2 s2 e2 => ?_
 replace e2 : τ2 h2 = some ⟨[.int .i64 D, .int .i64 E, .int .i64 F], false⟩ := e2
 have f1 := s2 _ _ e1
 have a1 : ld τ2 h1 (0 + 0) = some (.int .i64 A) := ld_of f1 rfl
 have a2 : ld τ2 h1 (0 + 1) = some (.int .i64 B) := ld_of f1 rfl
 have a3 : ld τ2 h1 (0 + 2) = some (.int .i64 C) := ld_of f1 rfl
 have b1 : ld τ2 h2 (0 + 0) = some (.int .i64 D) := ld_of e2 rfl
 have b2 : ld τ2 h2 (0 + 1) = some (.int .i64 E) := ld_of e2 rfl
 have b3 : ld τ2 h2 (0 + 2) = some (.int .i64 F) := ld_of e2 rfl
 by_cases h1 : A = D
 ·by_cases h2 : B = E
  ·by_cases h3 : C = F
   ·simp -implicitDefEqProofs (disch := omega) only [Nat.reduceEqDiff, ↓reduceIte, vcu, ↓vcd, a1, a2, a3, b1, b2, b3]
    refine fin_drop Try.results78 σ (s1.trans s2) ⟨?_, rfl⟩
    simp -implicitDefEqProofs (disch := omega) only [Nat.reduceEqDiff, ↓reduceIte, vcu, ↓vcd]
    simp [h1, h2, h3]
   ·simp -implicitDefEqProofs (disch := omega) only [Nat.reduceEqDiff, ↓reduceIte, vcu, ↓vcd, a1, a2, a3, b1, b2, b3]
    refine fin_drop Try.results78 σ (s1.trans s2) ⟨?_, rfl⟩
    simp -implicitDefEqProofs (disch := omega) only [Nat.reduceEqDiff, ↓reduceIte, vcu, ↓vcd]
    simp [h1, h2, h3]
  ·simp -implicitDefEqProofs (disch := omega) only [Nat.reduceEqDiff, ↓reduceIte, vcu, ↓vcd, a1, a2, a3, b1, b2, b3]
   refine fin_drop Try.results78 σ (s1.trans s2) ⟨?_, rfl⟩
   simp -implicitDefEqProofs (disch := omega) only [Nat.reduceEqDiff, ↓reduceIte, vcu, ↓vcd]
   simp [h1, h2]
 ·simp -implicitDefEqProofs (disch := omega) only [Nat.reduceEqDiff, ↓reduceIte, vcu, ↓vcd, a1, a2, a3, b1, b2, b3]
  refine fin_drop Try.results78 σ (s1.trans s2) ⟨?_, rfl⟩
  simp -implicitDefEqProofs (disch := omega) only [Nat.reduceEqDiff, ↓reduceIte, vcu, ↓vcd]
  simp [h1]
set_option maxRecDepth 8000 in
theorem szCalls_at (σ : AHeap) (h o : Nat) (cs : List Cl) (n : Int) (hn : 0 ≤ n ∧ n ≤ 1048576) (hm : cs.length ≤ maxLen) :
  ACall Try.prog w0 41 [.slice (some ⟨h, o, none⟩) cs.length 3, .int .i64 n] σ fun r σ' => r = .int .i64 (if n < cs.length then -1 else n - cs.length) ∧ σ' = σ := by
 unfold maxLen at hm
 refine acall_go mixed Try.func41 rfl good41 fun pr => ?_
 by_cases h1 : n < cs.length
 ·simp -implicitDefEqProofs (disch := omega) only [Nat.reduceEqDiff, ↓reduceIte, vcu, ↓vcd]
  refine fin_one Try.results41 ⟨?_, rfl⟩
  simp -implicitDefEqProofs (disch := omega) only [Nat.reduceEqDiff, ↓reduceIte, vcu, ↓vcd]
  rw [if_pos h1]
 ·simp -implicitDefEqProofs (disch := omega) only [Nat.reduceEqDiff, ↓reduceIte, vcu, ↓vcd]
  refine fin_one Try.results41 ⟨?_, rfl⟩
  simp -implicitDefEqProofs (disch := omega) only [Nat.reduceEqDiff, ↓reduceIte, vcu, ↓vcd]
  rw [if_neg h1]
theorem azeros_tris (l : Nat) : azeros (.agg #[.int .i64 0, .int .i64 0, .int .i64 0]) (l * 3) = tris (List.replicate l cl0) := by
 apply List.ext_getElem?
 intro j
 by_cases hj : j < l * 3
 ·obtain ⟨q, r, rfl, hr⟩ : ∃ q r, j = q * 3 + r ∧ r < 3 := ⟨j / 3, j % 3, by omega, by omega⟩
  have hq : q < l := by omega
  have g := tris_get (List.replicate l cl0) q (by simpa using hq)
  have e : (List.replicate l cl0).getD q cl0 = cl0 := by simp [List.getD, hq]
  rw [e] at g
  have hr' : r = 0 ∨ r = 1 ∨ r = 2 := by omega
  rcases hr' with rfl | rfl | rfl
  ·rw [Nat.add_zero, g.1]
   have : q * 3 % 3 = 0 := by omega
   simp [azeros, madeCells, Value.cells, this, hq, cl0]
  ·rw [g.2.1]
   have h1 : q * 3 + 1 < l * 3 := by omega
   have : (q * 3 + 1) % 3 = 1 := by omega
   simp [azeros, madeCells, Value.cells, this, h1, cl0]
  ·rw [g.2.2]
   have h1 : q * 3 + 2 < l * 3 := by omega
   have : (q * 3 + 2) % 3 = 2 := by omega
   simp [azeros, madeCells, Value.cells, this, h1, cl0]
 ·rw [List.getElem?_eq_none (by rw [azeros_length]; omega), List.getElem?_eq_none (by rw [tris_length]; simp; omega)]
/-- a whole record is written -/
theorem tris_write : ∀ (cs : List Cl) (i : Nat), i < cs.length → ∀ c : Cl, lwrite (tris cs) (i * 3) [.int .i64 c.i, .int .i64 c.o, .int .i64 c.v] = tris (cs.set i c) := by
 intro cs i h c
 have hl := tris_length cs
 apply List.ext_getElem?
 intro j
 rw [lwrite_get _ _ _ (by simp; omega)]
 by_cases hj : j < cs.length * 3
 ·obtain ⟨q, r, rfl, hr⟩ : ∃ q r, j = q * 3 + r ∧ r < 3 := ⟨j / 3, j % 3, by omega, by omega⟩
  have hq : q < cs.length := by omega
  have g := tris_get (cs.set i c) q (by simpa using hq)
  have g0 := tris_get cs q hq
  have hget : (cs.set i c).getD q cl0 = if i = q then c else cs.getD q cl0 := by
   simp only [List.getD, List.getElem?_set]
   by_cases e : i = q
   ·subst e; simp [h]
   ·simp [e]
  rw [hget] at g
  have hr' : r = 0 ∨ r = 1 ∨ r = 2 := by omega
  rcases hr' with rfl | rfl | rfl
  ·rw [Nat.add_zero, g.1]
   by_cases e : i = q
   ·subst e; rw [if_pos ⟨Nat.le_refl _, by simp⟩, if_pos rfl]; simp
   ·rw [if_neg (by simp; omega), if_neg e]; exact g0.1
  ·rw [g.2.1]
   by_cases e : i = q
   ·subst e; rw [if_pos ⟨by omega, by simp⟩, if_pos rfl]; simp
   ·rw [if_neg (by simp; omega), if_neg e]; exact g0.2.1
  ·rw [g.2.2]
   by_cases e : i = q
   ·subst e; rw [if_pos ⟨by omega, by simp⟩, if_pos rfl]; simp
   ·rw [if_neg (by simp; omega), if_neg e]; exact g0.2.2
 ·rw [if_neg (by simp; omega), List.getElem?_eq_none (by omega), List.getElem?_eq_none (by rw [tris_length]; simp; omega)]
set_option maxRecDepth 8000 in
theorem toCalls_at (σ : AHeap) (h o : Nat) (cs : List Cl) (hv : TrisAt σ h o cs) (hl : cs.length ≤ 1048576) :
  ACall Try.prog w0 46 [.slice (some ⟨h, o, none⟩) cs.length 3] σ fun r σ' => ∃ g, σ g = none ∧ r = .slice (some ⟨g, 0, none⟩) cs.length 3 ∧ Sub σ σ' ∧ σ' g = some ⟨tris cs, false⟩ := by
 refine acall_go mixed Try.func46 rfl good46 fun pr => ?_
 simp -implicitDefEqProofs (disch := omega) only [Nat.reduceEqDiff, ↓reduceIte, vcu, ↓vcd]
 refine r_make (kx := .i64) (ky := .i64) (l := cs.length) (c := cs.length) el31 z9q z9q (by omega) fun g τ hg hs he => ?_
 rw [azeros_tris] at he
 simp -implicitDefEqProofs (disch := omega) only [Nat.reduceEqDiff, ↓reduceIte, vcu, ↓vcd]
 refine vc_loop_c mixed (by kernel_rfl) [0, 3] (fun m a σ' => ∃ k : Nat, m + k = cs.length ∧ a 4 = .int .i64 k ∧ Kept g τ σ' ∧ σ' g = some ⟨tris (cs.take k ++ List.replicate (cs.length - k) cl0), false⟩) cs.length ⟨0, by simp, rfl, Kept.refl _ _, by simpa using he⟩ ?_
 rintro m a σ' hc ⟨k, hk, h4, hkp, hgk⟩
 simp -implicitDefEqProofs (disch := omega) only [Nat.reduceEqDiff, ↓reduceIte, vcu, ↓vcd] at hc
 obtain ⟨h0, h3, -⟩ := hc
 have hsub := hkp.sub hs hg
 by_cases hlt : k < cs.length
 ·have hx := (hv.sub hsub).all hlt
  have hst := set_at cs cl0 hlt rfl
  generalize cs.getD k cl0 = c at hx hst
  obtain ⟨A, B, C⟩ := c
  simp -implicitDefEqProofs (disch := omega) only [Nat.reduceEqDiff, ↓reduceIte, vcu, ↓vcd, h0, h3, h4, hx, co71, co99]
  refine (toCall_at _ A B C).mono ?_
  rintro r _ ⟨rfl, rfl⟩
  simp -implicitDefEqProofs (disch := omega) only [Nat.reduceEqDiff, ↓reduceIte, vcu, ↓vcd, opK_some, h0, h3, h4]
  refine r_sets (g := g) (i := 0 + k * 3) (by simp -implicitDefEqProofs (disch := omega) only [Nat.reduceEqDiff, ↓reduceIte, vcu, ↓vcd, h3, h4]) z9co71 z9r z9z hgk (by simp -implicitDefEqProofs (disch := omega) only [Nat.reduceEqDiff, ↓reduceIte, vcu, ↓vcd]; rw [tris_length]; simp [Value.cells]; omega) fun τ2 k2 e2 => ?_
  replace e2 : τ2 g = some ⟨lwrite (tris (cs.take k ++ List.replicate (cs.length - k) cl0)) (0 + k * 3) [.int .i64 A, .int .i64 B, .int .i64 C], false⟩ := e2
  have hw := tris_write (cs.take k ++ List.replicate (cs.length - k) cl0) k (by simp; omega) ⟨A, B, C⟩
  rw [Nat.zero_add, hw, hst] at e2
  simp -implicitDefEqProofs (disch := omega) only [Nat.reduceEqDiff, ↓reduceIte, vcu, ↓vcd, h0, h3, h4]
  exact ⟨⟨trivial, trivial, trivial⟩, m - 1, by omega, k + 1, by omega, by simp, hkp.trans k2, e2⟩
 ·simp -implicitDefEqProofs (disch := omega) only [Nat.reduceEqDiff, ↓reduceIte, vcu, ↓vcd, h0, h3, h4]
  have e2 : k = cs.length := by omega
  subst e2
  refine fin_one Try.results46 ⟨g, hg, ?_, hsub, by simpa using hgk⟩
  simp -implicitDefEqProofs (disch := omega) only [Nat.reduceEqDiff, ↓reduceIte, vcu, ↓vcd, h3]
theorem list_eq {xs ys : List Cl} (hlen : xs.length = ys.length) (he : ∀ j, j < xs.length → xs.getD j cl0 = ys.getD j cl0) : xs = ys := by
 apply List.ext_getElem hlen
 intro i h1 h2
 have := he i h1
 simpa [List.getD, h1, h2] using this
set_option maxRecDepth 8000 in
theorem eqCalls_at (σ : AHeap) (h o g p : Nat) (xs ys : List Cl) (hv : TrisAt σ h o xs) (hu : TrisAt σ g p ys) (hl : xs.length ≤ 1048576) (hl2 : ys.length ≤ 1048576) :
  ACall Try.prog w0 53 [.slice (some ⟨h, o, none⟩) xs.length 3, .slice (some ⟨g, p, none⟩) ys.length 3] σ fun r σ' => r = .bool (decide (xs = ys)) ∧ σ' = σ := by
 refine acall_go mixed Try.func53 rfl good53 fun pr => ?_
 by_cases hlen : xs.length = ys.length
 ·simp -implicitDefEqProofs (disch := omega) only [Nat.reduceEqDiff, ↓reduceIte, vcu, ↓vcd]
  refine vc_loop_c mixed (by kernel_rfl) [0, 1] (fun m a σ' => ∃ k : Nat, m + k = xs.length ∧ a 5 = .int .i64 k ∧ σ' = σ ∧ ∀ j, j < k → xs.getD j cl0 = ys.getD j cl0) xs.length ⟨0, by simp, rfl, rfl, by simp⟩ ?_
  rintro m a σ' hc ⟨k, hk, h5, rfl, he⟩
  simp -implicitDefEqProofs (disch := omega) only [Nat.reduceEqDiff, ↓reduceIte, vcu, ↓vcd] at hc
  obtain ⟨h0, h1, -⟩ := hc
  by_cases hlt : k < xs.length
  ·have hx := hv.all hlt
   have hy := hu.all (show k < ys.length by omega)
   generalize hcx : xs.getD k cl0 = c at hx
   generalize hcy : ys.getD k cl0 = d at hy
   obtain ⟨A, B, C⟩ := c
   obtain ⟨D, E, F⟩ := d
   simp -implicitDefEqProofs (disch := omega) only [Nat.reduceEqDiff, ↓reduceIte, vcu, ↓vcd, h0, h1, h5, hx, hy, co71]
   rw [r_callq]
   refine ⟨_, eqCall_at _ A B C D E F, ?_⟩
   by_cases hxy : (⟨A, B, C⟩ : Cl) = ⟨D, E, F⟩
   ·rw [decide_eq_true hxy]
    simp -implicitDefEqProofs (disch := omega) only [Nat.reduceEqDiff, ↓reduceIte, vcu, ↓vcd, h0, h1, h5]
    refine ⟨⟨trivial, trivial, trivial⟩, m - 1, by omega, k + 1, by omega, by simp, trivial, fun j hj => ?_⟩
    by_cases e : j = k
    ·subst e; rw [hcx, hcy]; exact hxy
    ·exact he j (by omega)
   ·rw [decide_eq_false hxy]
    simp -implicitDefEqProofs (disch := omega) only [Nat.reduceEqDiff, ↓reduceIte, vcu, ↓vcd, h0, h1, h5]
    refine fin_one Try.results53 ⟨?_, rfl⟩
    simp -implicitDefEqProofs (disch := omega) only [Nat.reduceEqDiff, ↓reduceIte, vcu, ↓vcd]
    have : xs ≠ ys := fun e => hxy (by rw [← hcx, ← hcy, e])
    simp [this]
  ·simp -implicitDefEqProofs (disch := omega) only [Nat.reduceEqDiff, ↓reduceIte, vcu, ↓vcd, h0, h1, h5]
   refine fin_one Try.results53 ⟨?_, rfl⟩
   simp -implicitDefEqProofs (disch := omega) only [Nat.reduceEqDiff, ↓reduceIte, vcu, ↓vcd]
   have : xs = ys := list_eq hlen fun j hj => he j (by omega)
   simp [this]
 ·simp -implicitDefEqProofs (disch := omega) only [Nat.reduceEqDiff, ↓reduceIte, vcu, ↓vcd]
  refine fin_one Try.results53 ⟨?_, rfl⟩
  simp -implicitDefEqProofs (disch := omega) only [Nat.reduceEqDiff, ↓reduceIte, vcu, ↓vcd]
  have : xs ≠ ys := fun e => hlen (by rw [e])
  simp [this]
theorem eqCalls_calls (σ : AHeap) (v u : Value) (xs ys : List Cl) (hv : Tris σ v xs) (hu : Tris σ u ys) (hl : xs.length ≤ 1048576) (hl2 : ys.length ≤ 1048576) :
  ACall Try.prog w0 53 [v, u] σ fun r σ' => r = .bool (decide (xs = ys)) ∧ σ' = σ :=
 ACall.tris_quiet (pre := []) (post := [u]) (by kernel_rfl) hv fun σ1 h o hs hg =>
  ACall.tris_quiet (pre := [_]) (post := []) (by kernel_rfl) (hu.sub hs) fun σ2 g p hs2 hg2 => eqCalls_at σ2 h o g p xs ys (hg.sub hs2) hg2 hl hl2
def marks3 (n : Nat) (k : Int) : List Cl := (List.range n).map fun (i : Nat) => ⟨k + 3 * i, k + 3 * i + 1, k + 3 * i + 1 + 1⟩
theorem marks3_length (n : Nat) (k : Int) : (marks3 n k).length = n := by simp [marks3]
theorem marks3_getD {n i : Nat} {k : Int} (h : i < n) : (marks3 n k).getD i cl0 = ⟨k + 3 * i, k + 3 * i + 1, k + 3 * i + 1 + 1⟩ := by simp [marks3, List.getD, h]
theorem marks3_succ (n : Nat) (k : Int) : marks3 (n + 1) k = marks3 n k ++ [⟨k + 3 * n, k + 3 * n + 1, k + 3 * n + 1 + 1⟩] := by simp [marks3, List.range_succ]
theorem setC_drop (A xs : List Cl) (v : Cl) {i : Nat} (hA : A.length = i) (h : i < xs.length) : (A ++ xs.drop i).set i v = A ++ [v] ++ xs.drop (i + 1) := by
 rw [List.set_append_right _ _ (by omega), hA, Nat.sub_self, List.drop_eq_getElem_cons h, List.set_cons_zero, List.append_assoc]; rfl
theorem setC_mid (A D : List Cl) (u v : Cl) {i : Nat} (hA : A.length = i) : (A ++ [u] ++ D).set i v = A ++ [v] ++ D ∧ (A ++ [u] ++ D).getD i cl0 = u := by
 subst hA
 refine ⟨?_, by simp [List.getD]⟩
 rw [List.append_assoc, List.set_append_right _ _ (Nat.le_refl _), Nat.sub_self, List.singleton_append, List.set_cons_zero, List.append_assoc]; rfl
set_option maxRecDepth 8000 in
theorem markC_own (σ : AHeap) (g : Nat) (cs : List Cl) (k : Int) (hg : σ g = some ⟨tris cs, false⟩) (hl : cs.length ≤ 1048576) (hk : 0 ≤ k ∧ k ≤ 1099511627776) :
  ACall Try.prog w0 56 [.slice (some ⟨g, 0, none⟩) cs.length 3, .int .i64 k] σ fun r σ' => r = .int .i64 (k + 3 * cs.length) ∧ Kept g σ σ' ∧ σ' g = some ⟨tris (marks3 cs.length k), false⟩ := by
 refine acall_go mixed Try.func56 rfl good56 fun pr => ?_
 simp -implicitDefEqProofs (disch := omega) only [Nat.reduceEqDiff, ↓reduceIte, vcu, ↓vcd]
 refine vc_loop_c mixed (by kernel_rfl) [0] (fun m a σ' => ∃ i : Nat, m + i = cs.length ∧ a 1 = .int .i64 (k + 3 * i) ∧ a 5 = .int .i64 i ∧ Kept g σ σ' ∧ σ' g = some ⟨tris (marks3 i k ++ cs.drop i), false⟩) cs.length ⟨0, by simp, by simp [fset, aenter], rfl, Kept.refl _ _, by simpa [marks3] using hg⟩ ?_
 rintro m a σ' hc ⟨i, hi, h1, h5, hkp, hgk⟩
 simp -implicitDefEqProofs (disch := omega) only [Nat.reduceEqDiff, ↓reduceIte, vcu, ↓vcd] at hc
 obtain ⟨h0, -⟩ := hc
 by_cases hlt : i < cs.length
 ·have hl2 : (marks3 i k ++ cs.drop i).length = cs.length := by simp [marks3_length]; omega
  have hml := marks3_length i k
  simp -implicitDefEqProofs (disch := omega) only [Nat.reduceEqDiff, ↓reduceIte, vcu, ↓vcd, h0, h1, h5]
  refine r_set (g := g) (i := i * 3) (by simp -implicitDefEqProofs (disch := omega) only [Nat.reduceEqDiff, ↓reduceIte, vcu, ↓vcd, Nat.zero_add, Nat.add_zero]) z9r co3 z9r hgk (by rw [tris_length, hl2]; omega) fun τ1 k1 e1 => ?_
  simp -implicitDefEqProofs (disch := omega) only [Nat.reduceEqDiff, ↓reduceIte, vcu, ↓vcd] at e1
  rw [(tris_set _ i (by omega) _).1, setC_drop _ _ _ hml hlt] at e1
  generalize (marks3 i k ++ cs.drop i).getD i cl0 = c at e1
  have hl3 : ∀ u : Cl, (marks3 i k ++ [u] ++ cs.drop (i + 1)).length = cs.length := fun u => by simp [marks3_length]; omega
  simp -implicitDefEqProofs (disch := omega) only [Nat.reduceEqDiff, ↓reduceIte, vcu, ↓vcd, h0, h1, h5]
  refine r_set (g := g) (i := i * 3 + 1) (by simp -implicitDefEqProofs (disch := omega) only [Nat.reduceEqDiff, ↓reduceIte, vcu, ↓vcd, Nat.zero_add]) z9r co3 z9r e1 (by rw [tris_length, hl3]; omega) fun τ2 k2 e2 => ?_
  simp -implicitDefEqProofs (disch := omega) only [Nat.reduceEqDiff, ↓reduceIte, vcu, ↓vcd] at e2
  rw [(tris_set _ i (by rw [hl3]; omega) _).2.1, (setC_mid _ _ _ _ hml).1, (setC_mid _ _ _ cl0 hml).2] at e2
  dsimp only at e2
  simp -implicitDefEqProofs (disch := omega) only [Nat.reduceEqDiff, ↓reduceIte, vcu, ↓vcd, h0, h1, h5]
  refine r_set (g := g) (i := i * 3 + 2) (by simp -implicitDefEqProofs (disch := omega) only [Nat.reduceEqDiff, ↓reduceIte, vcu, ↓vcd, Nat.zero_add]) z9r co3 z9r e2 (by rw [tris_length, hl3]; omega) fun τ3 k3 e3 => ?_
  simp -implicitDefEqProofs (disch := omega) only [Nat.reduceEqDiff, ↓reduceIte, vcu, ↓vcd] at e3
  rw [(tris_set _ i (by rw [hl3]; omega) _).2.2, (setC_mid _ _ _ _ hml).1, (setC_mid _ _ _ cl0 hml).2] at e3
  dsimp only at e3
  rw [← marks3_succ] at e3
  simp -implicitDefEqProofs (disch := omega) only [Nat.reduceEqDiff, ↓reduceIte, vcu, ↓vcd, h0, h1, h5]
  refine ⟨⟨trivial, trivial⟩, m - 1, by omega, i + 1, by omega, ?_, by simp, ((hkp.trans k1).trans k2).trans k3, e3⟩
  congr 1; omega
 ·simp -implicitDefEqProofs (disch := omega) only [Nat.reduceEqDiff, ↓reduceIte, vcu, ↓vcd, h0, h1, h5]
  have e : i = cs.length := by omega
  subst e
  refine fin_one Try.results56 ⟨?_, hkp, by simpa using hgk⟩
  simp -implicitDefEqProofs (disch := omega) only [Nat.reduceEqDiff, ↓reduceIte, vcu, ↓vcd, h1]
set_option maxRecDepth 8000 in
theorem heldC_at (σ : AHeap) (g o n : Nat) (k : Int) (hv : TrisAt σ g o (marks3 n k)) (hl : n ≤ 1048576) (hk : 0 ≤ k ∧ k ≤ 1099511627776) :
  ACall Try.prog w0 58 [.slice (some ⟨g, o, none⟩) n 3, .int .i64 k] σ fun r σ' => r = .int .i64 (k + 3 * n) ∧ σ' = σ := by
 refine acall_go mixed Try.func58 rfl good58 fun pr => ?_
 simp -implicitDefEqProofs (disch := omega) only [Nat.reduceEqDiff, ↓reduceIte, vcu, ↓vcd]
 refine vc_loop_c mixed (by kernel_rfl) [0] (fun m a σ' => ∃ i : Nat, m + i = n ∧ a 1 = .int .i64 (k + 3 * i) ∧ a 5 = .int .i64 i ∧ σ' = σ) n ⟨0, by simp, by simp [fset, aenter], rfl, rfl⟩ ?_
 rintro m a σ' hc ⟨i, hi, h1, h5, rfl⟩
 simp -implicitDefEqProofs (disch := omega) only [Nat.reduceEqDiff, ↓reduceIte, vcu, ↓vcd] at hc
 obtain ⟨h0, -⟩ := hc
 by_cases hlt : i < n
 ·obtain ⟨q1, q2, q3⟩ := hv i (by rw [marks3_length]; exact hlt)
  rw [marks3_getD hlt] at q1 q2 q3
  dsimp only at q1 q2 q3
  simp -implicitDefEqProofs (disch := omega) only [Nat.reduceEqDiff, ↓reduceIte, vcu, ↓vcd, h0, h1, h5, q1, q2, q3, Nat.add_zero]
  refine ⟨⟨trivial, trivial⟩, m - 1, by omega, i + 1, by omega, ?_, by simp, trivial⟩
  congr 1; omega
 ·simp -implicitDefEqProofs (disch := omega) only [Nat.reduceEqDiff, ↓reduceIte, vcu, ↓vcd, h0, h1, h5]
  have e : i = n := by omega
  subst e
  refine fin_one Try.results58 ⟨?_, rfl⟩
  simp -implicitDefEqProofs (disch := omega) only [Nat.reduceEqDiff, ↓reduceIte, vcu, ↓vcd, h1]
/-- marks, whatever the row -/
theorem markC_calls (β σ : AHeap) (v : Value) (cs : List Cl) (k : Int) (hv : OwnC β σ v cs) (hl : cs.length ≤ 1048576) (hk : 0 ≤ k ∧ k ≤ 1099511627776) :
  ACall Try.prog w0 56 [v, .int .i64 k] σ fun r σ' => r = .int .i64 (k + 3 * cs.length) ∧ OwnC β σ' v (marks3 cs.length k) ∧ (∀ h ob, β h = some ob → σ h = some ob → σ' h = some ob) := by
 rcases hv with ⟨rfl, rfl⟩ | ⟨g, rfl, hg, hn⟩
 ·refine ACall.nil_arg (pre := []) (z := 3) (by kernel_rfl) fun g hg => ?_
  refine (markC_own _ g [] k (AHeap.upd_same _ _ _) (by simp) hk).mono ?_
  rintro r σ' ⟨rfl, h1, h2⟩
  exact ⟨rfl, .inl ⟨rfl, rfl⟩, fun h ob _ e => h1 h ob (ne_of' hg e) (sub_upd hg h ob e)⟩
 ·refine (markC_own σ g cs k hg hl hk).mono ?_
  rintro r σ' ⟨rfl, h1, h2⟩
  exact ⟨rfl, .inr ⟨g, by rw [marks3_length], h2, hn⟩, fun h ob hb e => h1 h ob (ne_of' hn hb) e⟩
theorem heldC_calls (σ : AHeap) (v : Value) (n : Nat) (k : Int) (hv : Tris σ v (marks3 n k)) (hl : n ≤ 1048576) (hk : 0 ≤ k ∧ k ≤ 1099511627776) :
  ACall Try.prog w0 58 [v, .int .i64 k] σ fun r σ' => r = .int .i64 (k + 3 * n) ∧ σ' = σ :=
 ACall.tris_quiet (pre := []) (by kernel_rfl) hv fun σ1 g o _ hg => by
  rw [marks3_length]; exact heldC_at σ1 g o n k hg hl hk
end Go.Proofs.Ytafkndnmhhjdhaa
namespace Go.Proofs.Ytafkndnmhhjdhaa
open Go Go.Abs Go.RowKit Go.Dial Go.Clos
variable {w0 : World}
/-- an exchange as a value -/
def exV (v1 v2 : Value) (e : Ex) : Value := .agg #[.int .i64 e.s.O, .int .i64 e.s.E, .int .i64 e.s.M, v1, v2]
/-- an exchange of one's own -/
def OwnX (β σ : AHeap) (v : Value) (e : Ex) : Prop := ∃ v1 v2, v = exV v1 v2 e ∧ OwnS β σ v1 e.ps ∧ OwnC β σ v2 e.cs
/-- an exchange that is only read -/
def ExV (σ : AHeap) (v : Value) (e : Ex) : Prop := ∃ v1 v2, v = exV v1 v2 e ∧ Texts σ v1 e.ps ∧ Tris σ v2 e.cs
/-- not too big -/
def ExB (e : Ex) : Prop := e.ps.length ≤ 1048576 ∧ (∀ x ∈ e.ps, x.length ≤ 1048576) ∧ e.cs.length ≤ 1048576
theorem OwnX.ex {β σ : AHeap} {v : Value} {e : Ex} (h : OwnX β σ v e) : ExV σ v e := let ⟨v1, v2, h1, h2, h3⟩ := h; ⟨v1, v2, h1, h2.texts, h3.tris⟩
theorem OwnX.sub {β σ τ : AHeap} {v : Value} {e : Ex} (h : OwnX β σ v e) (hs : Sub σ τ) : OwnX β τ v e := let ⟨v1, v2, h1, h2, h3⟩ := h; ⟨v1, v2, h1, h2.sub hs, h3.sub hs⟩
theorem OwnX.older {β β' σ : AHeap} {v : Value} {e : Ex} (h : OwnX β σ v e) (hs : Sub β' β) : OwnX β' σ v e := let ⟨v1, v2, h1, h2, h3⟩ := h; ⟨v1, v2, h1, h2.older hs, h3.older hs⟩
theorem ExV.sub {σ τ : AHeap} {v : Value} {e : Ex} (h : ExV σ v e) (hs : Sub σ τ) : ExV τ v e := let ⟨v1, v2, h1, h2, h3⟩ := h; ⟨v1, v2, h1, h2.sub hs, h3.sub hs⟩
theorem texts_cellV {σ : AHeap} {v : Value} {xs : List (List UInt8)} (h : Texts σ v xs) : v.cells = #[v] ∧ Value.oneCell' v = true := by
 rcases h with ⟨rfl, rfl⟩ | ⟨g, o, rfl, -⟩ <;> exact ⟨rfl, rfl⟩
theorem tris_cellV {σ : AHeap} {v : Value} {xs : List Cl} (h : Tris σ v xs) : v.cells = #[v] ∧ Value.oneCell' v = true := by
 rcases h with ⟨rfl, rfl⟩ | ⟨g, o, rfl, -⟩ <;> exact ⟨rfl, rfl⟩
set_option maxRecDepth 8000 in
theorem szTextsN_at (σ : AHeap) (h o : Nat) (ps : List (List UInt8)) (n : Int) (hn : 0 ≤ n ∧ n ≤ 1048576) (hv : TextsAt σ h o ps) (hl : ps.length ≤ 2 ^ 63 - 1) (hp : ∀ x ∈ ps, x.length ≤ 2 ^ 63 - 1) :
  ACall Try.prog w0 15 [.slice (some ⟨h, o, none⟩) ps.length 1, .int .i64 n] σ fun r σ' => (∃ z : Int, r = .int .i64 z ∧ z ≤ 1048576 ∧ (z < 0 ∨ (ps.length ≤ 1048576 ∧ ∀ x ∈ ps, x.length ≤ 1048576))) ∧ σ' = σ := by
 refine acall_go mixed Try.func15 rfl good15 fun pr => ?_
 by_cases hbig : n < ps.length
 ·simp -implicitDefEqProofs (disch := omega) only [Nat.reduceEqDiff, ↓reduceIte, vcu, ↓vcd]
  refine fin_one Try.results15 ⟨⟨-1, ?_, by omega, .inl (by omega)⟩, rfl⟩
  simp -implicitDefEqProofs (disch := omega) only [Nat.reduceEqDiff, ↓reduceIte, vcu, ↓vcd]
 ·simp -implicitDefEqProofs (disch := omega) only [Nat.reduceEqDiff, ↓reduceIte, vcu, ↓vcd]
  refine vc_loop_c mixed (by kernel_rfl) [0] (fun m a σ' => ∃ (k : Nat) (z : Int), m + k = ps.length ∧ a 5 = .int .i64 k ∧ a 1 = .int .i64 z ∧ 0 ≤ z ∧ z ≤ 1048576 ∧ (∀ j, j < k → (ps.getD j []).length ≤ 1048576) ∧ σ' = σ) ps.length ⟨0, _, by simp, rfl, rfl, by omega, by omega, fun j hj => absurd hj (by omega), rfl⟩ ?_
  rintro m a σ' hc ⟨k, z, hk, h5, h1, hz, hz2, hall, rfl⟩
  simp -implicitDefEqProofs (disch := omega) only [Nat.reduceEqDiff, ↓reduceIte, vcu, ↓vcd] at hc
  obtain ⟨h0, -⟩ := hc
  by_cases hlt : k < ps.length
  ·have hx := hv k hlt
   have hmem : ps.getD k [] ∈ ps := by simp [List.getD, hlt]
   have hb := hp _ hmem
   by_cases hneg : z - ((ps.getD k []).length : Int) < 0
   ·simp -implicitDefEqProofs (disch := omega) only [Nat.reduceEqDiff, ↓reduceIte, vcu, ↓vcd, h0, h1, h5, hx]
    refine fin_one Try.results15 ⟨⟨-1, ?_, by omega, .inl (by omega)⟩, rfl⟩
    simp -implicitDefEqProofs (disch := omega) only [Nat.reduceEqDiff, ↓reduceIte, vcu, ↓vcd]
   ·simp -implicitDefEqProofs (disch := omega) only [Nat.reduceEqDiff, ↓reduceIte, vcu, ↓vcd, h0, h1, h5, hx]
    refine ⟨⟨trivial, trivial⟩, m - 1, by omega, k + 1, _, by omega, by simp, rfl, by omega, by omega, fun j hj => ?_, trivial⟩
    by_cases e : j = k
    ·subst e; omega
    ·exact hall j (by omega)
  ·simp -implicitDefEqProofs (disch := omega) only [Nat.reduceEqDiff, ↓reduceIte, vcu, ↓vcd, h0, h1, h5]
   refine fin_one Try.results15 ⟨⟨z, ?_, by omega, .inr ⟨by omega, fun x hx => ?_⟩⟩, rfl⟩
   ·simp -implicitDefEqProofs (disch := omega) only [Nat.reduceEqDiff, ↓reduceIte, vcu, ↓vcd, h1]
   ·obtain ⟨j, hj, rfl⟩ := List.mem_iff_getElem.1 hx
    have := hall j (by omega)
    simpa [List.getD, hj] using this
theorem szTextsN_calls (σ : AHeap) (v : Value) (ps : List (List UInt8)) (n : Int) (hn : 0 ≤ n ∧ n ≤ 1048576) (hv : Texts σ v ps) (hl : ps.length ≤ 2 ^ 63 - 1) (hp : ∀ x ∈ ps, x.length ≤ 2 ^ 63 - 1) :
  ACall Try.prog w0 15 [v, .int .i64 n] σ fun r σ' => (∃ z : Int, r = .int .i64 z ∧ z ≤ 1048576 ∧ (z < 0 ∨ (ps.length ≤ 1048576 ∧ ∀ x ∈ ps, x.length ≤ 1048576))) ∧ σ' = σ :=
 ACall.texts_arg (pre := []) (by kernel_rfl) hv fun σ1 h o hs hg => (szTextsN_at σ1 h o ps n hn hg hl hp).drop fun _ _ ⟨h1, h2⟩ => ⟨σ, h2 ▸ hs, h1, rfl⟩
theorem szCalls_calls (σ : AHeap) (v : Value) (cs : List Cl) (n : Int) (hn : 0 ≤ n ∧ n ≤ 1048576) (hv : Tris σ v cs) (hm : cs.length ≤ maxLen) :
  ACall Try.prog w0 41 [v, .int .i64 n] σ fun r σ' => r = .int .i64 (if n < cs.length then -1 else n - cs.length) ∧ σ' = σ :=
 ACall.tris_quiet (pre := []) (by kernel_rfl) hv fun σ1 h o _ _ => szCalls_at σ1 h o cs n hn hm
set_option maxRecDepth 8000 in
theorem szEx_calls (σ : AHeap) (v : Value) (e : Ex) (hv : ExV σ v e) (hl : e.ps.length ≤ maxLen) (hp : ∀ x ∈ e.ps, x.length ≤ maxLen) (hm : e.cs.length ≤ maxLen) :
  ACall Try.prog w0 10 [v, .int .i64 1048576] σ fun r σ' => (∃ z : Int, r = .int .i64 z ∧ z ≤ 1048576 ∧ (z < 0 ∨ ExB e)) ∧ σ' = σ := by
 obtain ⟨⟨O, E, M⟩, ps, cs⟩ := e
 obtain ⟨v1, v2, rfl, t1, t2⟩ := hv
 dsimp only at hl hp hm t1 t2
 unfold exV
 refine acall_go mixed Try.func10 rfl good10 fun pr => ?_
 simp -implicitDefEqProofs (disch := omega) only [Nat.reduceEqDiff, ↓reduceIte, vcu, ↓vcd]
 refine r_boxed fun b τ nb s1 e1 => ?_
 replace e1 : τ b = some ⟨[.int .i64 O, .int .i64 E, .int .i64 M, v1, v2], false⟩ := e1
 have l3 : ld τ b (0 + 3) = some v1 := ld_of e1 rfl
 have l4 : ld τ b (0 + 4) = some v2 := ld_of e1 rfl
 simp -implicitDefEqProofs (disch := omega) only [Nat.reduceEqDiff, ↓reduceIte, vcu, ↓vcd, l3]
 refine (szTextsN_calls τ v1 ps 1048576 (by omega) (t1.sub s1) hl hp).mono ?_
 rintro _ _ ⟨⟨z, rfl, hz, hok⟩, rfl⟩
 rename_i τ
 by_cases hneg : z < 0
 ·simp -implicitDefEqProofs (disch := omega) only [Nat.reduceEqDiff, ↓reduceIte, vcu, ↓vcd, opK_some]
  refine fin_drop Try.results10 σ s1 ⟨⟨-1, ?_, by omega, .inl (by omega)⟩, rfl⟩
  simp -implicitDefEqProofs (disch := omega) only [Nat.reduceEqDiff, ↓reduceIte, vcu, ↓vcd]
 obtain ⟨ok1, ok2⟩ := hok.resolve_left hneg
 simp -implicitDefEqProofs (disch := omega) only [Nat.reduceEqDiff, ↓reduceIte, vcu, ↓vcd, opK_some, l4]
 refine (szCalls_calls τ v2 cs z (by omega) (t2.sub s1) hm).mono ?_
 rintro _ _ ⟨rfl, rfl⟩
 rename_i τ
 by_cases hbig : z < cs.length
 ·rw [if_pos hbig]
  simp -implicitDefEqProofs (disch := omega) only [Nat.reduceEqDiff, ↓reduceIte, vcu, ↓vcd, opK_some]
  refine fin_drop Try.results10 σ s1 ⟨⟨-1, ?_, by omega, .inl (by omega)⟩, rfl⟩
  simp -implicitDefEqProofs (disch := omega) only [Nat.reduceEqDiff, ↓reduceIte, vcu, ↓vcd]
 ·rw [if_neg hbig]
  simp -implicitDefEqProofs (disch := omega) only [Nat.reduceEqDiff, ↓reduceIte, vcu, ↓vcd, opK_some]
  refine fin_drop Try.results10 σ s1 ⟨⟨z - (cs.length : Int), ?_, by omega, .inr ⟨ok1, ok2, by show cs.length ≤ _; omega⟩⟩, rfl⟩
  simp -implicitDefEqProofs (disch := omega) only [Nat.reduceEqDiff, ↓reduceIte, vcu, ↓vcd]
theorem eqShape_at (σ : AHeap) (A B C D E F : Int) : ACall Try.prog w0 52 [.agg #[.int .i64 A, .int .i64 B, .int .i64 C], .agg #[.int .i64 D, .int .i64 E, .int .i64 F]] σ fun r σ' => r = .bool (decide ((⟨A, B, C⟩ : Sp) = ⟨D, E, F⟩)) ∧ σ' = σ := by
 refine acall_go mixed Try.func52 rfl good52 fun pr => ?_
 simp -implicitDefEqProofs (disch := omega) only [Nat.reduceEqDiff, ↓reduceIte, vcu, ↓vcd]
 refine r_boxed fun b1 τ1 n1 s1 e1 => ?_
 replace e1 : τ1 b1 = some ⟨[.int .i64 A, .int .i64 B, .int .i64 C], false⟩ := e1
 refine r_boxed fun b2 τ2 n2 s2 e2 => ?_
 replace e2 : τ2 b2 = some ⟨[.int .i64 D, .int .i64 E, .int .i64 F], false⟩ := e2
 replace e1 := s2 _ _ e1
 have s12 := s1.trans s2
 have x0 : ld τ2 b1 (0 + 0) = some (.int .i64 A) := ld_of e1 rfl
 have x1 : ld τ2 b1 (0 + 1) = some (.int .i64 B) := ld_of e1 rfl
 have x2 : ld τ2 b1 (0 + 2) = some (.int .i64 C) := ld_of e1 rfl
 have y0 : ld τ2 b2 (0 + 0) = some (.int .i64 D) := ld_of e2 rfl
 have y1 : ld τ2 b2 (0 + 1) = some (.int .i64 E) := ld_of e2 rfl
 have y2 : ld τ2 b2 (0 + 2) = some (.int .i64 F) := ld_of e2 rfl
 by_cases h1 : A = D
 case neg =>
  have d1 : decide (A ≠ D) = true := decide_eq_true h1
  simp -implicitDefEqProofs (disch := omega) only [Nat.reduceEqDiff, ↓reduceIte, vcu, ↓vcd, x0, y0, d1]
  refine fin_drop Try.results52 σ s12 ⟨?_, rfl⟩
  simp -implicitDefEqProofs (disch := omega) only [Nat.reduceEqDiff, ↓reduceIte, vcu, ↓vcd]
  rw [decide_eq_false (by rintro e; cases e; exact h1 rfl)]
 have d1 : decide (A ≠ D) = false := decide_eq_false fun h => h h1
 by_cases h2 : B = E
 case neg =>
  have d2 : decide (B ≠ E) = true := decide_eq_true h2
  simp -implicitDefEqProofs (disch := omega) only [Nat.reduceEqDiff, ↓reduceIte, vcu, ↓vcd, x0, y0, d1, x1, y1, d2]
  refine fin_drop Try.results52 σ s12 ⟨?_, rfl⟩
  simp -implicitDefEqProofs (disch := omega) only [Nat.reduceEqDiff, ↓reduceIte, vcu, ↓vcd]
  rw [decide_eq_false (by rintro e; cases e; exact h2 rfl)]
 have d2 : decide (B ≠ E) = false := decide_eq_false fun h => h h2
 by_cases h3 : C = F
 ·have d3 : decide (C ≠ F) = false := decide_eq_false fun h => h h3
  simp -implicitDefEqProofs (disch := omega) only [Nat.reduceEqDiff, ↓reduceIte, vcu, ↓vcd, x0, y0, d1, x1, y1, d2, x2, y2, d3]
  refine fin_drop Try.results52 σ s12 ⟨?_, rfl⟩
  simp -implicitDefEqProofs (disch := omega) only [Nat.reduceEqDiff, ↓reduceIte, vcu, ↓vcd]
  rw [decide_eq_true (by rw [h1, h2, h3])]
 ·have d3 : decide (C ≠ F) = true := decide_eq_true h3
  simp -implicitDefEqProofs (disch := omega) only [Nat.reduceEqDiff, ↓reduceIte, vcu, ↓vcd, x0, y0, d1, x1, y1, d2, x2, y2, d3]
  refine fin_drop Try.results52 σ s12 ⟨?_, rfl⟩
  simp -implicitDefEqProofs (disch := omega) only [Nat.reduceEqDiff, ↓reduceIte, vcu, ↓vcd]
  rw [decide_eq_false (by rintro e; cases e; exact h3 rfl)]
set_option maxRecDepth 8000 in
theorem eqEx_calls (σ : AHeap) (v w : Value) (e f : Ex) (hv : ExV σ v e) (hw : ExV σ w f) (hb : ExB e) (hb2 : ExB f) :
  ACall Try.prog w0 14 [v, w] σ fun r σ' => r = .bool (decide (e = f)) ∧ σ' = σ := by
 obtain ⟨⟨O, E, M⟩, ps, cs⟩ := e
 obtain ⟨⟨O2, E2, M2⟩, ps2, cs2⟩ := f
 obtain ⟨v1, v2, rfl, t1, t2⟩ := hv
 obtain ⟨u1, u2, rfl, q1, q2⟩ := hw
 obtain ⟨b1, b2, b3⟩ := hb
 obtain ⟨c1, c2, c3⟩ := hb2
 dsimp only at t1 t2 q1 q2 b1 b2 b3 c1 c2 c3
 unfold exV
 refine acall_go mixed Try.func14 rfl good14 fun pr => ?_
 simp -implicitDefEqProofs (disch := omega) only [Nat.reduceEqDiff, ↓reduceIte, vcu, ↓vcd]
 refine r_boxed fun b τ1 nb s1 e1 => ?_
 replace e1 : τ1 b = some ⟨[.int .i64 O, .int .i64 E, .int .i64 M, v1, v2], false⟩ := e1
 refine r_boxed fun b' τ nb' s2 e2 => ?_
 replace e2 : τ b' = some ⟨[.int .i64 O2, .int .i64 E2, .int .i64 M2, u1, u2], false⟩ := e2
 replace e1 := s2 _ _ e1
 have s12 := s1.trans s2
 have x0 : lds τ b 0 3 = some [.int .i64 O, .int .i64 E, .int .i64 M] := lds_three (ld_of e1 rfl) (ld_of e1 rfl) (ld_of e1 rfl)
 have y0 : lds τ b' 0 3 = some [.int .i64 O2, .int .i64 E2, .int .i64 M2] := lds_three (ld_of e2 rfl) (ld_of e2 rfl) (ld_of e2 rfl)
 have x3 : ld τ b (0 + 3) = some v1 := ld_of e1 rfl
 have x4 : ld τ b (0 + 4) = some v2 := ld_of e1 rfl
 have y3 : ld τ b' (0 + 3) = some u1 := ld_of e2 rfl
 have y4 : ld τ b' (0 + 4) = some u2 := ld_of e2 rfl
 simp -implicitDefEqProofs (disch := omega) only [Nat.reduceEqDiff, ↓reduceIte, vcu, ↓vcd, x0, y0, co30, Nat.add_zero]
 refine (eqShape_at τ O E M O2 E2 M2).mono ?_
 rintro _ _ ⟨rfl, rfl⟩
 rename_i τ
 by_cases h1 : (⟨O, E, M⟩ : Sp) = ⟨O2, E2, M2⟩
 case neg =>
  rw [decide_eq_false h1]
  simp -implicitDefEqProofs (disch := omega) only [Nat.reduceEqDiff, ↓reduceIte, vcu, ↓vcd, opK_some, Bool.not_false]
  refine fin_drop Try.results14 σ s12 ⟨?_, rfl⟩
  simp -implicitDefEqProofs (disch := omega) only [Nat.reduceEqDiff, ↓reduceIte, vcu, ↓vcd]
  rw [decide_eq_false (by rintro e; cases e; exact h1 rfl)]
 rw [decide_eq_true h1]
 simp -implicitDefEqProofs (disch := omega) only [Nat.reduceEqDiff, ↓reduceIte, vcu, ↓vcd, opK_some, Bool.not_true, x3, y3]
 refine (eqTexts_calls τ v1 u1 ps ps2 (t1.sub s12) (q1.sub s12) b1 c1).mono ?_
 rintro _ _ ⟨rfl, rfl⟩
 rename_i τ
 by_cases h2 : ps = ps2
 case neg =>
  rw [decide_eq_false h2]
  simp -implicitDefEqProofs (disch := omega) only [Nat.reduceEqDiff, ↓reduceIte, vcu, ↓vcd, opK_some, Bool.not_false]
  refine fin_drop Try.results14 σ s12 ⟨?_, rfl⟩
  simp -implicitDefEqProofs (disch := omega) only [Nat.reduceEqDiff, ↓reduceIte, vcu, ↓vcd]
  rw [decide_eq_false (by rintro e; cases e; exact h2 rfl)]
 rw [decide_eq_true h2]
 simp -implicitDefEqProofs (disch := omega) only [Nat.reduceEqDiff, ↓reduceIte, vcu, ↓vcd, opK_some, Bool.not_true, x4, y4]
 refine (eqCalls_calls τ v2 u2 cs cs2 (t2.sub s12) (q2.sub s12) b3 c3).mono ?_
 rintro _ _ ⟨rfl, rfl⟩
 rename_i τ
 by_cases h3 : cs = cs2
 case neg =>
  rw [decide_eq_false h3]
  simp -implicitDefEqProofs (disch := omega) only [Nat.reduceEqDiff, ↓reduceIte, vcu, ↓vcd, opK_some, Bool.not_false]
  refine fin_drop Try.results14 σ s12 ⟨?_, rfl⟩
  simp -implicitDefEqProofs (disch := omega) only [Nat.reduceEqDiff, ↓reduceIte, vcu, ↓vcd]
  rw [decide_eq_false (by rintro e; cases e; exact h3 rfl)]
 rw [decide_eq_true h3]
 simp -implicitDefEqProofs (disch := omega) only [Nat.reduceEqDiff, ↓reduceIte, vcu, ↓vcd, opK_some, Bool.not_true]
 refine fin_drop Try.results14 σ s12 ⟨?_, rfl⟩
 simp -implicitDefEqProofs (disch := omega) only [Nat.reduceEqDiff, ↓reduceIte, vcu, ↓vcd]
 rw [decide_eq_true (by rw [h1, h2, h3])]
end Go.Proofs.Ytafkndnmhhjdhaa
namespace Go.Proofs.Ytafkndnmhhjdhaa
open Go Go.Abs Go.RowKit Go.Dial Go.Clos
variable {w0 : World}
theorem toCalls_calls (σ : AHeap) (v : Value) (cs : List Cl) (hv : Tris σ v cs) (hl : cs.length ≤ 1048576) :
  ACall Try.prog w0 46 [v] σ fun r σ' => ∃ g, σ g = none ∧ r = .slice (some ⟨g, 0, none⟩) cs.length 3 ∧ Sub σ σ' ∧ σ' g = some ⟨tris cs, false⟩ := by
 refine ACall.tris_arg (pre := []) (post := []) (by kernel_rfl) hv fun σ1 g1 o1 hs1 hg1 => ?_
 refine (toCalls_at σ1 g1 o1 cs hg1 hl).mono ?_
 rintro r τ1 ⟨q, a1, a2, a3, a4⟩
 exact ⟨q, free_sub hs1 a1, a2, hs1.trans a3, a4⟩
set_option maxRecDepth 8000 in
theorem toEx_calls (σ : AHeap) (v : Value) (e : Ex) (hv : ExV σ v e) (hb : ExB e) :
  ACall Try.prog w0 12 [v] σ fun r σ' => Sub σ σ' ∧ OwnX σ σ' r e := by
 obtain ⟨⟨O, E, M⟩, ps, cs⟩ := e
 obtain ⟨v1, v2, rfl, t1, t2⟩ := hv
 obtain ⟨b1, b2, b3⟩ := hb
 dsimp only at t1 t2 b1 b2 b3
 unfold exV
 refine acall_goc mixed Try.func12 rfl goodc12 fun pr => ?_
 simp -implicitDefEqProofs (disch := omega) only [Nat.reduceEqDiff, ↓reduceIte, vcu, ↓vcd]
 refine r_boxed fun b τ1 nb s1 e1 => ?_
 replace e1 : τ1 b = some ⟨[.int .i64 O, .int .i64 E, .int .i64 M, v1, v2], false⟩ := e1
 refine r_new ze33 fun h2 τ2 n2 s2 e2 => ?_
 replace e2 : τ2 h2 = some ⟨[.int .i64 0, .int .i64 0, .int .i64 0, .slice none 0 0, .slice none 0 0], false⟩ := e2
 simp -implicitDefEqProofs (disch := omega) only [Nat.reduceEqDiff, ↓reduceIte, vcu, ↓vcd]
 refine r_new ze33 fun h3 τ3 n3 s3 e3 => ?_
 replace e3 : τ3 h3 = some ⟨[.int .i64 0, .int .i64 0, .int .i64 0, .slice none 0 0, .slice none 0 0], false⟩ := e3
 have f1 := s3 _ _ (s2 _ _ e1)
 have q3 : Sub σ τ3 := s1.trans (s2.trans s3)
 have z3 : σ h3 = none := free_sub (s1.trans s2) n3
 have z2 : σ h2 = none := free_sub s1 n2
 have d2 := ne_of n3 e2
 have d1 := ne_of n3 (s2 _ _ e1)
 have x0 : lds τ3 b 0 3 = some [.int .i64 O, .int .i64 E, .int .i64 M] := lds_three (ld_of f1 rfl) (ld_of f1 rfl) (ld_of f1 rfl)
 simp -implicitDefEqProofs (disch := omega) only [Nat.reduceEqDiff, ↓reduceIte, vcu, ↓vcd, x0, co23, Nat.add_zero]
 refine (toShape_at τ3 O E M).mono ?_
 rintro _ _ ⟨rfl, rfl⟩
 rename_i τ3
 simp -implicitDefEqProofs (disch := omega) only [Nat.reduceEqDiff, ↓reduceIte, vcu, ↓vcd, opK_some, Nat.add_zero]
 refine r_sets (g := h3) (i := 0) (C := [.int .i64 0, .int .i64 0, .int .i64 0, .slice none 0 0, .slice none 0 0]) z9q z9co30 z9r z9z e3 (by simp -implicitDefEqProofs (disch := omega) only [Nat.reduceEqDiff, ↓reduceIte, vcu, ↓vcd]; show 0 + 3 ≤ 5; omega) fun τ4 k4 e4 => ?_
 replace e4 : τ4 h3 = some ⟨[.int .i64 O, .int .i64 E, .int .i64 M, .slice none 0 0, .slice none 0 0], false⟩ := e4
 have f4 := k4.at f1 d1.symm
 have q4 : Sub σ τ4 := k4.sub q3 z3
 have x3 : ld τ4 b (0 + 3) = some v1 := ld_of f4 rfl
 simp -implicitDefEqProofs (disch := omega) only [Nat.reduceEqDiff, ↓reduceIte, vcu, ↓vcd, x3]
 refine (toTexts_calls τ4 v1 ps (t1.sub q4) b1).mono ?_
 rintro _ τ5 ⟨g1, m1, rfl, s5, w1⟩
 have e5 := s5 _ _ e4
 have f5 := s5 _ _ f4
 have dg1 : g1 ≠ h3 := ne_of m1 e4
 simp -implicitDefEqProofs (disch := omega) only [Nat.reduceEqDiff, ↓reduceIte, vcu, ↓vcd, opK_some]
 refine r_set (g := h3) (i := 3) z9q z9r co24 z9r e5 (by simp) fun τ6 k6 e6 => ?_
 replace e6 : τ6 h3 = some ⟨[.int .i64 O, .int .i64 E, .int .i64 M, .slice (some ⟨g1, 0, none⟩) ps.length 1, .slice none 0 0], false⟩ := e6
 have f6 := k6.at f5 d1.symm
 have q6 : Sub σ τ6 := k6.sub (q4.trans s5) z3
 have w6 := k6.at w1 dg1
 have x4 : ld τ6 b (0 + 4) = some v2 := ld_of f6 rfl
 simp -implicitDefEqProofs (disch := omega) only [Nat.reduceEqDiff, ↓reduceIte, vcu, ↓vcd, x4]
 refine (toCalls_calls τ6 v2 cs (t2.sub q6) b3).mono ?_
 rintro _ τ7 ⟨g2, m2, rfl, s7, u1⟩
 have e7 := s7 _ _ e6
 have dg2 : g2 ≠ h3 := ne_of m2 e6
 simp -implicitDefEqProofs (disch := omega) only [Nat.reduceEqDiff, ↓reduceIte, vcu, ↓vcd, opK_some]
 refine r_set (g := h3) (i := 4) z9q z9r co31 z9r e7 (by simp) fun τ8 k8 e8 => ?_
 replace e8 : τ8 h3 = some ⟨[.int .i64 O, .int .i64 E, .int .i64 M, .slice (some ⟨g1, 0, none⟩) ps.length 1, .slice (some ⟨g2, 0, none⟩) cs.length 3], false⟩ := e8
 have q8 : Sub σ τ8 := k8.sub (q6.trans s7) z3
 have w8 := k8.at (s7 _ _ w6) dg1
 have u8 := k8.at u1 dg2
 have l4 : lds τ8 h3 0 5 = some [.int .i64 O, .int .i64 E, .int .i64 M, .slice (some ⟨g1, 0, none⟩) ps.length 1, .slice (some ⟨g2, 0, none⟩) cs.length 3] := by
  rw [lds_of e8 (by simp)]; rfl
 have f2 : τ8 h2 = some ⟨[.int .i64 0, .int .i64 0, .int .i64 0, .slice none 0 0, .slice none 0 0], false⟩ := k8.at (s7 _ _ (k6.at (s5 _ _ (k4.at (s3 _ _ e2) d2.symm)) d2.symm)) d2.symm
 simp -implicitDefEqProofs (disch := omega) only [Nat.reduceEqDiff, ↓reduceIte, vcu, ↓vcd, l4, co33]
 refine r_sets (g := h2) (i := 0) (C := [.int .i64 0, .int .i64 0, .int .i64 0, .slice none 0 0, .slice none 0 0]) z9q z9co33 z9r z9z f2 z9l fun τ9 k9 e9 => ?_
 replace e9 : τ9 h2 = some ⟨[.int .i64 O, .int .i64 E, .int .i64 M, .slice (some ⟨g1, 0, none⟩) ps.length 1, .slice (some ⟨g2, 0, none⟩) cs.length 3], false⟩ := e9
 have l5 : lds τ9 h2 0 5 = some [.int .i64 O, .int .i64 E, .int .i64 M, .slice (some ⟨g1, 0, none⟩) ps.length 1, .slice (some ⟨g2, 0, none⟩) cs.length 3] := by
  rw [lds_of e9 (by simp)]; rfl
 have q9 : Sub σ τ9 := k9.sub q8 z2
 have h2g1 : g1 ≠ h2 := ne_of m1 (k4.at (s3 _ _ e2) d2.symm)
 have h2g2 : g2 ≠ h2 := ne_of m2 (k6.at (s5 _ _ (k4.at (s3 _ _ e2) d2.symm)) d2.symm)
 have zg1 : σ g1 = none := free_sub q4 m1
 have zg2 : σ g2 = none := free_sub q6 m2
 simp -implicitDefEqProofs (disch := omega) only [Nat.reduceEqDiff, ↓reduceIte, vcu, ↓vcd]
 refine fin_cell Try.results12 τ9 (Sub.refl _) (v := exV (.slice (some ⟨g1, 0, none⟩) ps.length 1) (.slice (some ⟨g2, 0, none⟩) cs.length 3) ⟨⟨O, E, M⟩, ps, cs⟩) (by simp -implicitDefEqProofs (disch := omega) only [Nat.reduceEqDiff, ↓reduceIte, vcu, ↓vcd, l5, co33]; rfl) ⟨q9, _, _, rfl, .inr ⟨g1, rfl, k9.at w8 h2g1, zg1⟩, .inr ⟨g2, rfl, k9.at u8 h2g2, zg2⟩⟩
/-- what is marked, and all else stays -/
theorem markS_keep (β σ : AHeap) (v : Value) (xs : List (List UInt8)) (k : Int) (hv : OwnS β σ v xs) (hl : xs.length ≤ 1048576) (hk : 0 ≤ k ∧ k ≤ 1073741824) :
  ACall Try.prog w0 21 [v, .int .i64 k] σ fun r σ' => r = .int .i64 (k + xs.length) ∧ OwnS β σ' v (markX k xs.length) ∧ ∀ h ob, σ h = some ob → (∀ n z, v ≠ .slice (some ⟨h, 0, none⟩) n z) → σ' h = some ob := by
 rcases hv with ⟨rfl, rfl⟩ | ⟨g, rfl, hg, hn⟩
 ·refine (markS_calls σ σ _ [] k (.inl ⟨rfl, rfl⟩) hl hk).mono ?_
  rintro r σ' ⟨h1, h2, h3⟩
  exact ⟨h1, .inl ⟨rfl, rfl⟩, fun h ob e _ => h3 h ob e e⟩
 ·refine (markS_calls (σ.upd g none) σ _ xs k (.inr ⟨g, rfl, hg, AHeap.upd_same _ _ _⟩) hl hk).mono ?_
  rintro r σ' ⟨h1, h2, h3⟩
  rcases h2 with ⟨h2, _⟩ | ⟨g', h2, h4, _⟩
  ·cases h2
  ·rw [markX_length] at h2
   cases h2
   exact ⟨h1, .inr ⟨g, by rw [markX_length], h4, hn⟩, fun h ob e hne => by
    have hx : h ≠ g := by rintro rfl; exact hne _ _ rfl
    exact h3 h ob (by rw [AHeap.upd_ne _ _ hx]; exact e) e⟩
theorem markC_keep (β σ : AHeap) (v : Value) (cs : List Cl) (k : Int) (hv : OwnC β σ v cs) (hl : cs.length ≤ 1048576) (hk : 0 ≤ k ∧ k ≤ 1099511627776) :
  ACall Try.prog w0 56 [v, .int .i64 k] σ fun r σ' => r = .int .i64 (k + 3 * cs.length) ∧ OwnC β σ' v (marks3 cs.length k) ∧ ∀ h ob, σ h = some ob → (∀ n z, v ≠ .slice (some ⟨h, 0, none⟩) n z) → σ' h = some ob := by
 rcases hv with ⟨rfl, rfl⟩ | ⟨g, rfl, hg, hn⟩
 ·refine (markC_calls σ σ _ [] k (.inl ⟨rfl, rfl⟩) hl hk).mono ?_
  rintro r σ' ⟨h1, h2, h3⟩
  exact ⟨h1, .inl ⟨rfl, rfl⟩, fun h ob e _ => h3 h ob e e⟩
 ·refine (markC_calls (σ.upd g none) σ _ cs k (.inr ⟨g, rfl, hg, AHeap.upd_same _ _ _⟩) hl hk).mono ?_
  rintro r σ' ⟨h1, h2, h3⟩
  rcases h2 with ⟨h2, _⟩ | ⟨g', h2, h4, _⟩
  ·cases h2
  ·rw [marks3_length] at h2
   cases h2
   exact ⟨h1, .inr ⟨g, by rw [marks3_length], h4, hn⟩, fun h ob e hne => by
    have hx : h ≠ g := by rintro rfl; exact hne _ _ rfl
    exact h3 h ob (by rw [AHeap.upd_ne _ _ hx]; exact e) e⟩
/-- rows of texts and of calls lie apart, but for empty ones -/
theorem ownSC {β β' σ : AHeap} {v1 v2 : Value} {ps : List (List UInt8)} {cs : List Cl} (h1 : OwnS β σ v1 ps) (h2 : OwnC β' σ v2 cs) {g n z n2 z2 : Nat} (e1 : v1 = .slice (some ⟨g, 0, none⟩) n z) (e2 : v2 = .slice (some ⟨g, 0, none⟩) n2 z2) : ps = [] ∧ cs = [] := by
 rcases h1 with ⟨rfl, _⟩ | ⟨g1, rfl, h3, _⟩
 ·cases e1
 rcases h2 with ⟨rfl, _⟩ | ⟨g2, rfl, h4, _⟩
 ·cases e2
 cases e1; cases e2
 rw [h3] at h4
 cases ps with
 | nil =>
  cases cs with
  | nil => exact ⟨rfl, rfl⟩
  | cons c cs => simp [texts, tris, tri] at h4
 | cons p ps =>
  cases cs with
  | nil => simp [texts, tris] at h4
  | cons c cs => simp [texts, tris, tri] at h4
/-- an exchange whose rows are marked -/
def exM (k : Int) (e : Ex) : Ex := ⟨e.s, markX k e.ps.length, marks3 e.cs.length (k + e.ps.length)⟩
set_option maxRecDepth 8000 in
theorem heldEx_calls (σ : AHeap) (v : Value) (e : Ex) (k : Int) (hv : ExV σ v (exM k e)) (hb : ExB e) (hk : 0 ≤ k ∧ k ≤ 1000000) :
  ACall Try.prog w0 23 [v, .int .i64 k] σ fun r σ' => r = .int .i64 (k + e.ps.length + 3 * e.cs.length) ∧ σ' = σ := by
 obtain ⟨⟨O, E, M⟩, ps, cs⟩ := e
 obtain ⟨v1, v2, rfl, t1, t2⟩ := hv
 obtain ⟨b1, b2, b3⟩ := hb
 simp only [exM] at t1 t2 b1 b2 b3
 unfold exV exM
 dsimp only
 refine acall_go mixed Try.func23 rfl good23 fun pr => ?_
 simp -implicitDefEqProofs (disch := omega) only [Nat.reduceEqDiff, ↓reduceIte, vcu, ↓vcd]
 refine r_boxed fun b τ nb s1 e1 => ?_
 replace e1 : τ b = some ⟨[.int .i64 O, .int .i64 E, .int .i64 M, v1, v2], false⟩ := e1
 have x3 : ld τ b (0 + 3) = some v1 := ld_of e1 rfl
 have x4 : ld τ b (0 + 4) = some v2 := ld_of e1 rfl
 simp -implicitDefEqProofs (disch := omega) only [Nat.reduceEqDiff, ↓reduceIte, vcu, ↓vcd, x3]
 refine (heldS_calls τ v1 ps.length k (t1.sub s1) b1 ⟨hk.1, by omega⟩).mono ?_
 rintro _ _ ⟨rfl, rfl⟩
 rename_i τ
 simp -implicitDefEqProofs (disch := omega) only [Nat.reduceEqDiff, ↓reduceIte, vcu, ↓vcd, opK_some, x4]
 refine (heldC_calls τ v2 cs.length (k + ps.length) (t2.sub s1) b3 (by omega)).mono ?_
 rintro _ _ ⟨rfl, rfl⟩
 simp -implicitDefEqProofs (disch := omega) only [Nat.reduceEqDiff, ↓reduceIte, vcu, ↓vcd, opK_some]
 refine fin_drop Try.results23 σ s1 ⟨?_, rfl⟩
 simp -implicitDefEqProofs (disch := omega) only [Nat.reduceEqDiff, ↓reduceIte, vcu, ↓vcd]
end Go.Proofs.Ytafkndnmhhjdhaa
