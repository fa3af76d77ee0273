/- Parts. -/
import Derived.Test.YtofdnmlpfagibaaSBc
import Derived.Test.YtofdnmlpfagibaaRows
import Derived.KernelRfl
set_option linter.unusedSimpArgs false
set_option linter.unusedVariables false
set_option linter.unusedSectionVars false
namespace Go.Proofs.Ytofdnmlpfagibaa
open Go Go.Abs
theorem mixed : Try.prog.follows .mixedOrders = true := by kernel_rfl
theorem own : ownKnob Try.prog.godebug = none := by kernel_rfl
theorem laidOut : laidOutB Try.prog = true := by kernel_rfl
theorem pt0 : isPtr Try.prog 0 = false := by kernel_rfl
theorem sc0 : isSlc Try.prog 0 = false := by kernel_rfl
theorem ag1 : aisAgg Try.prog 1 = false := by kernel_rfl
theorem pt1 : isPtr Try.prog 1 = false := by kernel_rfl
theorem sc1 : isSlc Try.prog 1 = false := by kernel_rfl
theorem ag2 : aisAgg Try.prog 2 = false := by kernel_rfl
theorem pt2 : isPtr Try.prog 2 = false := by kernel_rfl
theorem sc2 : isSlc Try.prog 2 = false := by kernel_rfl
theorem co3 : Try.prog.cellsOf 3 = 1 := by kernel_rfl
theorem ag3 : aisAgg Try.prog 3 = false := by kernel_rfl
theorem pt3 : isPtr Try.prog 3 = false := by kernel_rfl
theorem sc3 : isSlc Try.prog 3 = false := by kernel_rfl
theorem ze3 : azero Try.prog 3 = some (Value.int IntKind.i64 0) := by kernel_rfl
theorem co4 : Try.prog.cellsOf 4 = 1 := by kernel_rfl
theorem ag4 : aisAgg Try.prog 4 = false := by kernel_rfl
theorem pt4 : isPtr Try.prog 4 = false := by kernel_rfl
theorem sc4 : isSlc Try.prog 4 = false := by kernel_rfl
theorem bo4 : isBool Try.prog 4 = true := by kernel_rfl
theorem co5 : Try.prog.cellsOf 5 = 1 := by kernel_rfl
theorem ag5 : aisAgg Try.prog 5 = false := by kernel_rfl
theorem pt5 : isPtr Try.prog 5 = false := by kernel_rfl
theorem sc5 : isSlc Try.prog 5 = false := by kernel_rfl
theorem ag6 : aisAgg Try.prog 6 = false := by kernel_rfl
theorem pt6 : isPtr Try.prog 6 = false := by kernel_rfl
theorem sc6 : isSlc Try.prog 6 = false := by kernel_rfl
theorem co9 : Try.prog.cellsOf 9 = 1 := by kernel_rfl
theorem ag9 : aisAgg Try.prog 9 = false := by kernel_rfl
theorem pt9 : isPtr Try.prog 9 = false := by kernel_rfl
theorem sc9 : isSlc Try.prog 9 = false := by kernel_rfl
theorem ag10 : aisAgg Try.prog 10 = false := by kernel_rfl
theorem pt10 : isPtr Try.prog 10 = false := by kernel_rfl
theorem sc10 : isSlc Try.prog 10 = false := by kernel_rfl
theorem ag11 : aisAgg Try.prog 11 = false := by kernel_rfl
theorem pt11 : isPtr Try.prog 11 = false := by kernel_rfl
theorem sc11 : isSlc Try.prog 11 = false := by kernel_rfl
theorem ag12 : aisAgg Try.prog 12 = false := by kernel_rfl
theorem pt12 : isPtr Try.prog 12 = false := by kernel_rfl
theorem sc12 : isSlc Try.prog 12 = false := by kernel_rfl
theorem ag15 : aisAgg Try.prog 15 = false := by kernel_rfl
theorem pt15 : isPtr Try.prog 15 = true := by kernel_rfl
theorem sc15 : isSlc Try.prog 15 = false := by kernel_rfl
theorem co16 : Try.prog.cellsOf 16 = 1 := by kernel_rfl
theorem ag16 : aisAgg Try.prog 16 = false := by kernel_rfl
theorem pt16 : isPtr Try.prog 16 = true := by kernel_rfl
theorem sc16 : isSlc Try.prog 16 = false := by kernel_rfl
theorem ag17 : aisAgg Try.prog 17 = false := by kernel_rfl
theorem pt17 : isPtr Try.prog 17 = true := by kernel_rfl
theorem sc17 : isSlc Try.prog 17 = false := by kernel_rfl
theorem pt20 : isPtr Try.prog 20 = false := by kernel_rfl
theorem sc20 : isSlc Try.prog 20 = false := by kernel_rfl
theorem ag21 : aisAgg Try.prog 21 = false := by kernel_rfl
theorem pt21 : isPtr Try.prog 21 = false := by kernel_rfl
theorem sc21 : isSlc Try.prog 21 = false := by kernel_rfl
theorem co22 : Try.prog.cellsOf 22 = 1 := by kernel_rfl
theorem ag22 : aisAgg Try.prog 22 = false := by kernel_rfl
theorem pt22 : isPtr Try.prog 22 = false := by kernel_rfl
theorem sc22 : isSlc Try.prog 22 = true := by kernel_rfl
theorem esz22 : aesz Try.prog 22 = 1 := by kernel_rfl
theorem el22 : Elems Try.prog 22 1 (Value.int IntKind.u8 0) 1 := ⟨⟨5, Try.t5, Try.underlying22, by kernel_rfl, rfl, rfl, rfl⟩, ⟨5, Try.underlying22, by kernel_rfl, by kernel_rfl⟩⟩
theorem ag23 : aisAgg Try.prog 23 = true := by kernel_rfl
theorem pt23 : isPtr Try.prog 23 = false := by kernel_rfl
theorem sc23 : isSlc Try.prog 23 = false := by kernel_rfl
theorem fv23_0 {x0 x1 x2 : Value} : afieldV Try.prog 23 0 (.agg #[x0, x1, x2]) = some x0 := by simp [afieldV, Try.underlying23, apart, Try.underlying3, ag3, co3, aisAgg]
theorem fl23_0 {h b : Nat} : afield Try.prog 23 0 (.pointer (some ⟨h, b, none⟩)) = some (.pointer (some ⟨h, b + 0, none⟩)) := by simp [afield, Try.underlying23]
theorem fv23_1 {x0 x1 x2 : Value} : afieldV Try.prog 23 1 (.agg #[x0, x1, x2]) = some x1 := by simp [afieldV, Try.underlying23, apart, Try.underlying3, ag3, co3, aisAgg]
theorem fl23_1 {h b : Nat} : afield Try.prog 23 1 (.pointer (some ⟨h, b, none⟩)) = some (.pointer (some ⟨h, b + 1, none⟩)) := by simp [afield, Try.underlying23]
theorem fv23_2 {x0 x1 x2 : Value} : afieldV Try.prog 23 2 (.agg #[x0, x1, x2]) = some x2 := by simp [afieldV, Try.underlying23, apart, Try.underlying3, ag3, co3, aisAgg]
theorem fl23_2 {h b : Nat} : afield Try.prog 23 2 (.pointer (some ⟨h, b, none⟩)) = some (.pointer (some ⟨h, b + 2, none⟩)) := by simp [afield, Try.underlying23]
theorem co24 : Try.prog.cellsOf 24 = 3 := by kernel_rfl
theorem ag24 : aisAgg Try.prog 24 = true := by kernel_rfl
theorem pt24 : isPtr Try.prog 24 = false := by kernel_rfl
theorem sc24 : isSlc Try.prog 24 = false := by kernel_rfl
theorem ze24 : azero Try.prog 24 = some (Value.agg #[Value.int IntKind.i64 0, Value.int IntKind.i64 0, Value.int IntKind.i64 0]) := by kernel_rfl
theorem fv24_0 {x0 x1 x2 : Value} : afieldV Try.prog 24 0 (.agg #[x0, x1, x2]) = some x0 := by simp [afieldV, Try.underlying24, apart, Try.underlying3, ag3, co3, aisAgg]
theorem fl24_0 {h b : Nat} : afield Try.prog 24 0 (.pointer (some ⟨h, b, none⟩)) = some (.pointer (some ⟨h, b + 0, none⟩)) := by simp [afield, Try.underlying24]
theorem fv24_1 {x0 x1 x2 : Value} : afieldV Try.prog 24 1 (.agg #[x0, x1, x2]) = some x1 := by simp [afieldV, Try.underlying24, apart, Try.underlying3, ag3, co3, aisAgg]
theorem fl24_1 {h b : Nat} : afield Try.prog 24 1 (.pointer (some ⟨h, b, none⟩)) = some (.pointer (some ⟨h, b + 1, none⟩)) := by simp [afield, Try.underlying24]
theorem fv24_2 {x0 x1 x2 : Value} : afieldV Try.prog 24 2 (.agg #[x0, x1, x2]) = some x2 := by simp [afieldV, Try.underlying24, apart, Try.underlying3, ag3, co3, aisAgg]
theorem fl24_2 {h b : Nat} : afield Try.prog 24 2 (.pointer (some ⟨h, b, none⟩)) = some (.pointer (some ⟨h, b + 2, none⟩)) := by simp [afield, Try.underlying24]
theorem co25 : Try.prog.cellsOf 25 = 1 := by kernel_rfl
theorem ag25 : aisAgg Try.prog 25 = false := by kernel_rfl
theorem pt25 : isPtr Try.prog 25 = false := by kernel_rfl
theorem sc25 : isSlc Try.prog 25 = true := by kernel_rfl
theorem esz25 : aesz Try.prog 25 = 1 := by kernel_rfl
theorem el25 : Elems Try.prog 25 1 (Value.string { data := #[] }) 16 := ⟨⟨9, Try.t9, Try.underlying25, by kernel_rfl, rfl, rfl, rfl⟩, ⟨9, Try.underlying25, by kernel_rfl, by kernel_rfl⟩⟩
theorem sl25 : ∃ e, Try.prog.underlying 25 = some (.slice e) := ⟨9, Try.underlying25⟩
theorem co26 : Try.prog.cellsOf 26 = 1 := by kernel_rfl
theorem ag26 : aisAgg Try.prog 26 = false := by kernel_rfl
theorem pt26 : isPtr Try.prog 26 = false := by kernel_rfl
theorem sc26 : isSlc Try.prog 26 = true := by kernel_rfl
theorem esz26 : aesz Try.prog 26 = 3 := by kernel_rfl
theorem el26 : Elems Try.prog 26 3 (Value.agg #[Value.int IntKind.i64 0, Value.int IntKind.i64 0, Value.int IntKind.i64 0]) 24 := ⟨⟨35, Try.t35, Try.underlying26, by kernel_rfl, rfl, rfl, rfl⟩, ⟨35, Try.underlying26, by kernel_rfl, by kernel_rfl⟩⟩
theorem sl26 : ∃ e, Try.prog.underlying 26 = some (.slice e) := ⟨35, Try.underlying26⟩
theorem ag27 : aisAgg Try.prog 27 = true := by kernel_rfl
theorem pt27 : isPtr Try.prog 27 = false := by kernel_rfl
theorem sc27 : isSlc Try.prog 27 = true := by kernel_rfl
theorem fl27_0 {h b : Nat} : afield Try.prog 27 0 (.pointer (some ⟨h, b, none⟩)) = some (.pointer (some ⟨h, b + 0, none⟩)) := by simp [afield, Try.underlying27]
theorem fv27_1 {x0 x1 x2 x3 x4 : Value} : afieldV Try.prog 27 1 (.agg #[x0, x1, x2, x3, x4]) = some x3 := by simp [afieldV, Try.underlying27, apart, Try.underlying25, ag25, co25, aisAgg]
theorem fl27_1 {h b : Nat} : afield Try.prog 27 1 (.pointer (some ⟨h, b, none⟩)) = some (.pointer (some ⟨h, b + 3, none⟩)) := by simp [afield, Try.underlying27]
theorem fv27_2 {x0 x1 x2 x3 x4 : Value} : afieldV Try.prog 27 2 (.agg #[x0, x1, x2, x3, x4]) = some x4 := by simp [afieldV, Try.underlying27, apart, Try.underlying26, ag26, co26, aisAgg]
theorem fl27_2 {h b : Nat} : afield Try.prog 27 2 (.pointer (some ⟨h, b, none⟩)) = some (.pointer (some ⟨h, b + 4, none⟩)) := by simp [afield, Try.underlying27]
theorem co28 : Try.prog.cellsOf 28 = 5 := by kernel_rfl
theorem ag28 : aisAgg Try.prog 28 = true := by kernel_rfl
theorem pt28 : isPtr Try.prog 28 = false := by kernel_rfl
theorem sc28 : isSlc Try.prog 28 = true := by kernel_rfl
theorem ze28 : azero Try.prog 28 = some (Value.agg #[Value.int IntKind.i64 0, Value.int IntKind.i64 0, Value.int IntKind.i64 0, Value.slice none 0 0, Value.slice none 0 0]) := by kernel_rfl
theorem fl28_0 {h b : Nat} : afield Try.prog 28 0 (.pointer (some ⟨h, b, none⟩)) = some (.pointer (some ⟨h, b + 0, none⟩)) := by simp [afield, Try.underlying28]
theorem fv28_1 {x0 x1 x2 x3 x4 : Value} : afieldV Try.prog 28 1 (.agg #[x0, x1, x2, x3, x4]) = some x3 := by simp [afieldV, Try.underlying28, apart, Try.underlying25, ag25, co25, aisAgg]
theorem fl28_1 {h b : Nat} : afield Try.prog 28 1 (.pointer (some ⟨h, b, none⟩)) = some (.pointer (some ⟨h, b + 3, none⟩)) := by simp [afield, Try.underlying28]
theorem fv28_2 {x0 x1 x2 x3 x4 : Value} : afieldV Try.prog 28 2 (.agg #[x0, x1, x2, x3, x4]) = some x4 := by simp [afieldV, Try.underlying28, apart, Try.underlying26, ag26, co26, aisAgg]
theorem fl28_2 {h b : Nat} : afield Try.prog 28 2 (.pointer (some ⟨h, b, none⟩)) = some (.pointer (some ⟨h, b + 4, none⟩)) := by simp [afield, Try.underlying28]
theorem ag29 : aisAgg Try.prog 29 = false := by kernel_rfl
theorem pt29 : isPtr Try.prog 29 = false := by kernel_rfl
theorem sc29 : isSlc Try.prog 29 = false := by kernel_rfl
theorem ag30 : aisAgg Try.prog 30 = false := by kernel_rfl
theorem pt30 : isPtr Try.prog 30 = false := by kernel_rfl
theorem sc30 : isSlc Try.prog 30 = false := by kernel_rfl
theorem ag31 : aisAgg Try.prog 31 = false := by kernel_rfl
theorem pt31 : isPtr Try.prog 31 = false := by kernel_rfl
theorem sc31 : isSlc Try.prog 31 = false := by kernel_rfl
theorem ag32 : aisAgg Try.prog 32 = false := by kernel_rfl
theorem pt32 : isPtr Try.prog 32 = false := by kernel_rfl
theorem sc32 : isSlc Try.prog 32 = true := by kernel_rfl
theorem esz32 : aesz Try.prog 32 = 1 := by kernel_rfl
theorem el32 : Elems Try.prog 32 1 (Value.int IntKind.i64 0) 8 := ⟨⟨3, Try.t3, Try.underlying32, by kernel_rfl, rfl, rfl, rfl⟩, ⟨3, Try.underlying32, by kernel_rfl, by kernel_rfl⟩⟩
theorem sl32 : ∃ e, Try.prog.underlying 32 = some (.slice e) := ⟨3, Try.underlying32⟩
theorem ag33 : aisAgg Try.prog 33 = false := by kernel_rfl
theorem pt33 : isPtr Try.prog 33 = false := by kernel_rfl
theorem sc33 : isSlc Try.prog 33 = false := by kernel_rfl
theorem ag34 : aisAgg Try.prog 34 = true := by kernel_rfl
theorem pt34 : isPtr Try.prog 34 = false := by kernel_rfl
theorem sc34 : isSlc Try.prog 34 = false := by kernel_rfl
theorem fv34_0 {x0 x1 x2 : Value} : afieldV Try.prog 34 0 (.agg #[x0, x1, x2]) = some x0 := by simp [afieldV, Try.underlying34, apart, Try.underlying3, ag3, co3, aisAgg]
theorem fl34_0 {h b : Nat} : afield Try.prog 34 0 (.pointer (some ⟨h, b, none⟩)) = some (.pointer (some ⟨h, b + 0, none⟩)) := by simp [afield, Try.underlying34]
theorem fv34_1 {x0 x1 x2 : Value} : afieldV Try.prog 34 1 (.agg #[x0, x1, x2]) = some x1 := by simp [afieldV, Try.underlying34, apart, Try.underlying3, ag3, co3, aisAgg]
theorem fl34_1 {h b : Nat} : afield Try.prog 34 1 (.pointer (some ⟨h, b, none⟩)) = some (.pointer (some ⟨h, b + 1, none⟩)) := by simp [afield, Try.underlying34]
theorem fv34_2 {x0 x1 x2 : Value} : afieldV Try.prog 34 2 (.agg #[x0, x1, x2]) = some x2 := by simp [afieldV, Try.underlying34, apart, Try.underlying3, ag3, co3, aisAgg]
theorem fl34_2 {h b : Nat} : afield Try.prog 34 2 (.pointer (some ⟨h, b, none⟩)) = some (.pointer (some ⟨h, b + 2, none⟩)) := by simp [afield, Try.underlying34]
theorem co35 : Try.prog.cellsOf 35 = 3 := by kernel_rfl
theorem ag35 : aisAgg Try.prog 35 = true := by kernel_rfl
theorem pt35 : isPtr Try.prog 35 = false := by kernel_rfl
theorem sc35 : isSlc Try.prog 35 = false := by kernel_rfl
theorem ze35 : azero Try.prog 35 = some (Value.agg #[Value.int IntKind.i64 0, Value.int IntKind.i64 0, Value.int IntKind.i64 0]) := by kernel_rfl
theorem fv35_0 {x0 x1 x2 : Value} : afieldV Try.prog 35 0 (.agg #[x0, x1, x2]) = some x0 := by simp [afieldV, Try.underlying35, apart, Try.underlying3, ag3, co3, aisAgg]
theorem fl35_0 {h b : Nat} : afield Try.prog 35 0 (.pointer (some ⟨h, b, none⟩)) = some (.pointer (some ⟨h, b + 0, none⟩)) := by simp [afield, Try.underlying35]
theorem fv35_1 {x0 x1 x2 : Value} : afieldV Try.prog 35 1 (.agg #[x0, x1, x2]) = some x1 := by simp [afieldV, Try.underlying35, apart, Try.underlying3, ag3, co3, aisAgg]
theorem fl35_1 {h b : Nat} : afield Try.prog 35 1 (.pointer (some ⟨h, b, none⟩)) = some (.pointer (some ⟨h, b + 1, none⟩)) := by simp [afield, Try.underlying35]
theorem fv35_2 {x0 x1 x2 : Value} : afieldV Try.prog 35 2 (.agg #[x0, x1, x2]) = some x2 := by simp [afieldV, Try.underlying35, apart, Try.underlying3, ag3, co3, aisAgg]
theorem fl35_2 {h b : Nat} : afield Try.prog 35 2 (.pointer (some ⟨h, b, none⟩)) = some (.pointer (some ⟨h, b + 2, none⟩)) := by simp [afield, Try.underlying35]
theorem ag36 : aisAgg Try.prog 36 = false := by kernel_rfl
theorem pt36 : isPtr Try.prog 36 = false := by kernel_rfl
theorem sc36 : isSlc Try.prog 36 = false := by kernel_rfl
theorem pt37 : isPtr Try.prog 37 = false := by kernel_rfl
theorem sc37 : isSlc Try.prog 37 = true := by kernel_rfl
theorem ag38 : aisAgg Try.prog 38 = false := by kernel_rfl
theorem pt38 : isPtr Try.prog 38 = false := by kernel_rfl
theorem sc38 : isSlc Try.prog 38 = false := by kernel_rfl
theorem ag39 : aisAgg Try.prog 39 = false := by kernel_rfl
theorem pt39 : isPtr Try.prog 39 = false := by kernel_rfl
theorem sc39 : isSlc Try.prog 39 = false := by kernel_rfl
theorem ag40 : aisAgg Try.prog 40 = false := by kernel_rfl
theorem pt40 : isPtr Try.prog 40 = false := by kernel_rfl
theorem sc40 : isSlc Try.prog 40 = false := by kernel_rfl
theorem ag41 : aisAgg Try.prog 41 = false := by kernel_rfl
theorem pt41 : isPtr Try.prog 41 = false := by kernel_rfl
theorem sc41 : isSlc Try.prog 41 = false := by kernel_rfl
theorem ag42 : aisAgg Try.prog 42 = false := by kernel_rfl
theorem pt42 : isPtr Try.prog 42 = false := by kernel_rfl
theorem sc42 : isSlc Try.prog 42 = false := by kernel_rfl
theorem pt43 : isPtr Try.prog 43 = false := by kernel_rfl
theorem sc43 : isSlc Try.prog 43 = true := by kernel_rfl
theorem ag44 : aisAgg Try.prog 44 = false := by kernel_rfl
theorem pt44 : isPtr Try.prog 44 = false := by kernel_rfl
theorem sc44 : isSlc Try.prog 44 = false := by kernel_rfl
theorem pt45 : isPtr Try.prog 45 = false := by kernel_rfl
theorem sc45 : isSlc Try.prog 45 = true := by kernel_rfl
theorem ag46 : aisAgg Try.prog 46 = false := by kernel_rfl
theorem pt46 : isPtr Try.prog 46 = false := by kernel_rfl
theorem sc46 : isSlc Try.prog 46 = false := by kernel_rfl
theorem pt47 : isPtr Try.prog 47 = false := by kernel_rfl
theorem sc47 : isSlc Try.prog 47 = false := by kernel_rfl
theorem ag48 : aisAgg Try.prog 48 = false := by kernel_rfl
theorem pt48 : isPtr Try.prog 48 = false := by kernel_rfl
theorem sc48 : isSlc Try.prog 48 = false := by kernel_rfl
theorem ag49 : aisAgg Try.prog 49 = true := by kernel_rfl
theorem pt49 : isPtr Try.prog 49 = false := by kernel_rfl
theorem sc49 : isSlc Try.prog 49 = false := by kernel_rfl
theorem fv49_0 {x0 x1 x2 : Value} : afieldV Try.prog 49 0 (.agg #[x0, x1, x2]) = some x0 := by simp [afieldV, Try.underlying49, apart, Try.underlying3, ag3, co3, aisAgg]
theorem fl49_0 {h b : Nat} : afield Try.prog 49 0 (.pointer (some ⟨h, b, none⟩)) = some (.pointer (some ⟨h, b + 0, none⟩)) := by simp [afield, Try.underlying49]
theorem fv49_1 {x0 x1 x2 : Value} : afieldV Try.prog 49 1 (.agg #[x0, x1, x2]) = some x1 := by simp [afieldV, Try.underlying49, apart, Try.underlying3, ag3, co3, aisAgg]
theorem fl49_1 {h b : Nat} : afield Try.prog 49 1 (.pointer (some ⟨h, b, none⟩)) = some (.pointer (some ⟨h, b + 1, none⟩)) := by simp [afield, Try.underlying49]
theorem fv49_2 {x0 x1 x2 : Value} : afieldV Try.prog 49 2 (.agg #[x0, x1, x2]) = some x2 := by simp [afieldV, Try.underlying49, apart, Try.underlying9, ag9, co9, aisAgg]
theorem fl49_2 {h b : Nat} : afield Try.prog 49 2 (.pointer (some ⟨h, b, none⟩)) = some (.pointer (some ⟨h, b + 2, none⟩)) := by simp [afield, Try.underlying49]
theorem co50 : Try.prog.cellsOf 50 = 3 := by kernel_rfl
theorem ag50 : aisAgg Try.prog 50 = true := by kernel_rfl
theorem pt50 : isPtr Try.prog 50 = false := by kernel_rfl
theorem sc50 : isSlc Try.prog 50 = false := by kernel_rfl
theorem ze50 : azero Try.prog 50 = some (Value.agg #[Value.int IntKind.i64 0, Value.int IntKind.i64 0, Value.string { data := #[] }]) := by kernel_rfl
theorem fv50_0 {x0 x1 x2 : Value} : afieldV Try.prog 50 0 (.agg #[x0, x1, x2]) = some x0 := by simp [afieldV, Try.underlying50, apart, Try.underlying3, ag3, co3, aisAgg]
theorem fl50_0 {h b : Nat} : afield Try.prog 50 0 (.pointer (some ⟨h, b, none⟩)) = some (.pointer (some ⟨h, b + 0, none⟩)) := by simp [afield, Try.underlying50]
theorem fv50_1 {x0 x1 x2 : Value} : afieldV Try.prog 50 1 (.agg #[x0, x1, x2]) = some x1 := by simp [afieldV, Try.underlying50, apart, Try.underlying3, ag3, co3, aisAgg]
theorem fl50_1 {h b : Nat} : afield Try.prog 50 1 (.pointer (some ⟨h, b, none⟩)) = some (.pointer (some ⟨h, b + 1, none⟩)) := by simp [afield, Try.underlying50]
theorem fv50_2 {x0 x1 x2 : Value} : afieldV Try.prog 50 2 (.agg #[x0, x1, x2]) = some x2 := by simp [afieldV, Try.underlying50, apart, Try.underlying9, ag9, co9, aisAgg]
theorem fl50_2 {h b : Nat} : afield Try.prog 50 2 (.pointer (some ⟨h, b, none⟩)) = some (.pointer (some ⟨h, b + 2, none⟩)) := by simp [afield, Try.underlying50]
theorem pt51 : isPtr Try.prog 51 = false := by kernel_rfl
theorem sc51 : isSlc Try.prog 51 = true := by kernel_rfl
theorem ag52 : aisAgg Try.prog 52 = false := by kernel_rfl
theorem pt52 : isPtr Try.prog 52 = false := by kernel_rfl
theorem sc52 : isSlc Try.prog 52 = false := by kernel_rfl
theorem pt53 : isPtr Try.prog 53 = false := by kernel_rfl
theorem sc53 : isSlc Try.prog 53 = true := by kernel_rfl
theorem ag54 : aisAgg Try.prog 54 = false := by kernel_rfl
theorem pt54 : isPtr Try.prog 54 = false := by kernel_rfl
theorem sc54 : isSlc Try.prog 54 = false := by kernel_rfl
theorem ag55 : aisAgg Try.prog 55 = false := by kernel_rfl
theorem pt55 : isPtr Try.prog 55 = false := by kernel_rfl
theorem sc55 : isSlc Try.prog 55 = true := by kernel_rfl
theorem esz55 : aesz Try.prog 55 = 3 := by kernel_rfl
theorem el55 : Elems Try.prog 55 3 (Value.agg #[Value.int IntKind.i64 0, Value.int IntKind.i64 0, Value.string { data := #[] }]) 32 := ⟨⟨50, Try.t50, Try.underlying55, by kernel_rfl, rfl, rfl, rfl⟩, ⟨50, Try.underlying55, by kernel_rfl, by kernel_rfl⟩⟩
theorem sl55 : ∃ e, Try.prog.underlying 55 = some (.slice e) := ⟨50, Try.underlying55⟩
theorem pt56 : isPtr Try.prog 56 = false := by kernel_rfl
theorem sc56 : isSlc Try.prog 56 = true := by kernel_rfl
theorem ag57 : aisAgg Try.prog 57 = false := by kernel_rfl
theorem pt57 : isPtr Try.prog 57 = false := by kernel_rfl
theorem sc57 : isSlc Try.prog 57 = false := by kernel_rfl
theorem ag58 : aisAgg Try.prog 58 = false := by kernel_rfl
theorem pt58 : isPtr Try.prog 58 = false := by kernel_rfl
theorem sc58 : isSlc Try.prog 58 = false := by kernel_rfl
theorem ag59 : aisAgg Try.prog 59 = false := by kernel_rfl
theorem pt59 : isPtr Try.prog 59 = false := by kernel_rfl
theorem sc59 : isSlc Try.prog 59 = false := by kernel_rfl
theorem ag60 : aisAgg Try.prog 60 = false := by kernel_rfl
theorem pt60 : isPtr Try.prog 60 = false := by kernel_rfl
theorem sc60 : isSlc Try.prog 60 = false := by kernel_rfl
theorem ag61 : aisAgg Try.prog 61 = false := by kernel_rfl
theorem pt61 : isPtr Try.prog 61 = false := by kernel_rfl
theorem sc61 : isSlc Try.prog 61 = false := by kernel_rfl
theorem ag62 : aisAgg Try.prog 62 = false := by kernel_rfl
theorem pt62 : isPtr Try.prog 62 = false := by kernel_rfl
theorem sc62 : isSlc Try.prog 62 = false := by kernel_rfl
theorem ag63 : aisAgg Try.prog 63 = false := by kernel_rfl
theorem pt63 : isPtr Try.prog 63 = true := by kernel_rfl
theorem sc63 : isSlc Try.prog 63 = false := by kernel_rfl
theorem ag64 : aisAgg Try.prog 64 = false := by kernel_rfl
theorem pt64 : isPtr Try.prog 64 = false := by kernel_rfl
theorem sc64 : isSlc Try.prog 64 = false := by kernel_rfl
theorem ag65 : aisAgg Try.prog 65 = false := by kernel_rfl
theorem pt65 : isPtr Try.prog 65 = false := by kernel_rfl
theorem sc65 : isSlc Try.prog 65 = false := by kernel_rfl
theorem ag66 : aisAgg Try.prog 66 = false := by kernel_rfl
theorem pt66 : isPtr Try.prog 66 = false := by kernel_rfl
theorem sc66 : isSlc Try.prog 66 = false := by kernel_rfl
theorem ag67 : aisAgg Try.prog 67 = false := by kernel_rfl
theorem pt67 : isPtr Try.prog 67 = false := by kernel_rfl
theorem sc67 : isSlc Try.prog 67 = false := by kernel_rfl
theorem ag68 : aisAgg Try.prog 68 = false := by kernel_rfl
theorem pt68 : isPtr Try.prog 68 = false := by kernel_rfl
theorem sc68 : isSlc Try.prog 68 = false := by kernel_rfl
theorem ag69 : aisAgg Try.prog 69 = false := by kernel_rfl
theorem pt69 : isPtr Try.prog 69 = false := by kernel_rfl
theorem sc69 : isSlc Try.prog 69 = false := by kernel_rfl
theorem ag70 : aisAgg Try.prog 70 = false := by kernel_rfl
theorem pt70 : isPtr Try.prog 70 = false := by kernel_rfl
theorem sc70 : isSlc Try.prog 70 = false := by kernel_rfl
theorem ag71 : aisAgg Try.prog 71 = false := by kernel_rfl
theorem pt71 : isPtr Try.prog 71 = false := by kernel_rfl
theorem sc71 : isSlc Try.prog 71 = false := by kernel_rfl
theorem ag72 : aisAgg Try.prog 72 = false := by kernel_rfl
theorem pt72 : isPtr Try.prog 72 = false := by kernel_rfl
theorem sc72 : isSlc Try.prog 72 = false := by kernel_rfl
theorem ag73 : aisAgg Try.prog 73 = false := by kernel_rfl
theorem pt73 : isPtr Try.prog 73 = false := by kernel_rfl
theorem sc73 : isSlc Try.prog 73 = false := by kernel_rfl
theorem ag74 : aisAgg Try.prog 74 = false := by kernel_rfl
theorem pt74 : isPtr Try.prog 74 = false := by kernel_rfl
theorem sc74 : isSlc Try.prog 74 = false := by kernel_rfl
theorem ag75 : aisAgg Try.prog 75 = false := by kernel_rfl
theorem pt75 : isPtr Try.prog 75 = true := by kernel_rfl
theorem sc75 : isSlc Try.prog 75 = false := by kernel_rfl
theorem ag76 : aisAgg Try.prog 76 = false := by kernel_rfl
theorem pt76 : isPtr Try.prog 76 = false := by kernel_rfl
theorem sc76 : isSlc Try.prog 76 = false := by kernel_rfl
theorem ag77 : aisAgg Try.prog 77 = false := by kernel_rfl
theorem pt77 : isPtr Try.prog 77 = false := by kernel_rfl
theorem sc77 : isSlc Try.prog 77 = false := by kernel_rfl
theorem ag78 : aisAgg Try.prog 78 = true := by kernel_rfl
theorem pt78 : isPtr Try.prog 78 = false := by kernel_rfl
theorem sc78 : isSlc Try.prog 78 = true := by kernel_rfl
theorem fl78_0 {h b : Nat} : afield Try.prog 78 0 (.pointer (some ⟨h, b, none⟩)) = some (.pointer (some ⟨h, b + 0, none⟩)) := by simp [afield, Try.underlying78]
theorem fv78_1 {x0 x1 x2 x3 : Value} : afieldV Try.prog 78 1 (.agg #[x0, x1, x2, x3]) = some x3 := by simp [afieldV, Try.underlying78, apart, Try.underlying26, ag26, co26, aisAgg]
theorem fl78_1 {h b : Nat} : afield Try.prog 78 1 (.pointer (some ⟨h, b, none⟩)) = some (.pointer (some ⟨h, b + 3, none⟩)) := by simp [afield, Try.underlying78]
theorem ag79 : aisAgg Try.prog 79 = true := by kernel_rfl
theorem pt79 : isPtr Try.prog 79 = false := by kernel_rfl
theorem sc79 : isSlc Try.prog 79 = true := by kernel_rfl
theorem ze79 : azero Try.prog 79 = some (Value.agg #[Value.int IntKind.i64 0, Value.int IntKind.i64 0, Value.int IntKind.i64 0, Value.slice none 0 0]) := by kernel_rfl
theorem fl79_0 {h b : Nat} : afield Try.prog 79 0 (.pointer (some ⟨h, b, none⟩)) = some (.pointer (some ⟨h, b + 0, none⟩)) := by simp [afield, Try.underlying79]
theorem fv79_1 {x0 x1 x2 x3 : Value} : afieldV Try.prog 79 1 (.agg #[x0, x1, x2, x3]) = some x3 := by simp [afieldV, Try.underlying79, apart, Try.underlying26, ag26, co26, aisAgg]
theorem fl79_1 {h b : Nat} : afield Try.prog 79 1 (.pointer (some ⟨h, b, none⟩)) = some (.pointer (some ⟨h, b + 3, none⟩)) := by simp [afield, Try.underlying79]
theorem co80 : Try.prog.cellsOf 80 = 1 := by kernel_rfl
theorem ag80 : aisAgg Try.prog 80 = false := by kernel_rfl
theorem pt80 : isPtr Try.prog 80 = true := by kernel_rfl
theorem sc80 : isSlc Try.prog 80 = true := by kernel_rfl
theorem esz80 : aesz Try.prog 80 = 1 := by kernel_rfl
theorem ag81 : aisAgg Try.prog 81 = true := by kernel_rfl
theorem pt81 : isPtr Try.prog 81 = false := by kernel_rfl
theorem sc81 : isSlc Try.prog 81 = true := by kernel_rfl
theorem fl81_0 {h b : Nat} : afield Try.prog 81 0 (.pointer (some ⟨h, b, none⟩)) = some (.pointer (some ⟨h, b + 0, none⟩)) := by simp [afield, Try.underlying81]
theorem fv81_1 {x0 x1 x2 x3 x4 : Value} : afieldV Try.prog 81 1 (.agg #[x0, x1, x2, x3, x4]) = some x4 := by simp [afieldV, Try.underlying81, apart, Try.underlying80, ag80, co80, aisAgg]
theorem fl81_1 {h b : Nat} : afield Try.prog 81 1 (.pointer (some ⟨h, b, none⟩)) = some (.pointer (some ⟨h, b + 4, none⟩)) := by simp [afield, Try.underlying81]
theorem ag82 : aisAgg Try.prog 82 = true := by kernel_rfl
theorem pt82 : isPtr Try.prog 82 = false := by kernel_rfl
theorem sc82 : isSlc Try.prog 82 = true := by kernel_rfl
theorem ze82 : azero Try.prog 82 = some (Value.agg #[Value.int IntKind.i64 0, Value.int IntKind.i64 0, Value.int IntKind.i64 0, Value.slice none 0 0, Value.slice none 0 0]) := by kernel_rfl
theorem fl82_0 {h b : Nat} : afield Try.prog 82 0 (.pointer (some ⟨h, b, none⟩)) = some (.pointer (some ⟨h, b + 0, none⟩)) := by simp [afield, Try.underlying82]
theorem fv82_1 {x0 x1 x2 x3 x4 : Value} : afieldV Try.prog 82 1 (.agg #[x0, x1, x2, x3, x4]) = some x4 := by simp [afieldV, Try.underlying82, apart, Try.underlying80, ag80, co80, aisAgg]
theorem fl82_1 {h b : Nat} : afield Try.prog 82 1 (.pointer (some ⟨h, b, none⟩)) = some (.pointer (some ⟨h, b + 4, none⟩)) := by simp [afield, Try.underlying82]
theorem ag83 : aisAgg Try.prog 83 = false := by kernel_rfl
theorem pt83 : isPtr Try.prog 83 = false := by kernel_rfl
theorem sc83 : isSlc Try.prog 83 = false := by kernel_rfl
theorem ag84 : aisAgg Try.prog 84 = false := by kernel_rfl
theorem pt84 : isPtr Try.prog 84 = false := by kernel_rfl
theorem sc84 : isSlc Try.prog 84 = false := by kernel_rfl
theorem ag85 : aisAgg Try.prog 85 = false := by kernel_rfl
theorem pt85 : isPtr Try.prog 85 = false := by kernel_rfl
theorem sc85 : isSlc Try.prog 85 = false := by kernel_rfl
theorem ag86 : aisAgg Try.prog 86 = false := by kernel_rfl
theorem pt86 : isPtr Try.prog 86 = false := by kernel_rfl
theorem sc86 : isSlc Try.prog 86 = false := by kernel_rfl
theorem ag87 : aisAgg Try.prog 87 = false := by kernel_rfl
theorem pt87 : isPtr Try.prog 87 = false := by kernel_rfl
theorem sc87 : isSlc Try.prog 87 = false := by kernel_rfl
theorem ag88 : aisAgg Try.prog 88 = false := by kernel_rfl
theorem pt88 : isPtr Try.prog 88 = false := by kernel_rfl
theorem sc88 : isSlc Try.prog 88 = false := by kernel_rfl
theorem ag89 : aisAgg Try.prog 89 = false := by kernel_rfl
theorem pt89 : isPtr Try.prog 89 = false := by kernel_rfl
theorem sc89 : isSlc Try.prog 89 = false := by kernel_rfl
theorem ag90 : aisAgg Try.prog 90 = false := by kernel_rfl
theorem pt90 : isPtr Try.prog 90 = false := by kernel_rfl
theorem sc90 : isSlc Try.prog 90 = false := by kernel_rfl
theorem ag91 : aisAgg Try.prog 91 = false := by kernel_rfl
theorem pt91 : isPtr Try.prog 91 = false := by kernel_rfl
theorem sc91 : isSlc Try.prog 91 = false := by kernel_rfl
theorem pt92 : isPtr Try.prog 92 = false := by kernel_rfl
theorem sc92 : isSlc Try.prog 92 = true := by kernel_rfl
theorem ag93 : aisAgg Try.prog 93 = false := by kernel_rfl
theorem pt93 : isPtr Try.prog 93 = false := by kernel_rfl
theorem sc93 : isSlc Try.prog 93 = false := by kernel_rfl
theorem ag94 : aisAgg Try.prog 94 = false := by kernel_rfl
theorem pt94 : isPtr Try.prog 94 = false := by kernel_rfl
theorem sc94 : isSlc Try.prog 94 = false := by kernel_rfl
theorem ag95 : aisAgg Try.prog 95 = false := by kernel_rfl
theorem pt95 : isPtr Try.prog 95 = false := by kernel_rfl
theorem sc95 : isSlc Try.prog 95 = false := by kernel_rfl
theorem pt96 : isPtr Try.prog 96 = false := by kernel_rfl
theorem sc96 : isSlc Try.prog 96 = true := by kernel_rfl
theorem ag97 : aisAgg Try.prog 97 = false := by kernel_rfl
theorem pt97 : isPtr Try.prog 97 = false := by kernel_rfl
theorem sc97 : isSlc Try.prog 97 = false := by kernel_rfl
theorem ag98 : aisAgg Try.prog 98 = false := by kernel_rfl
theorem pt98 : isPtr Try.prog 98 = false := by kernel_rfl
theorem sc98 : isSlc Try.prog 98 = false := by kernel_rfl
theorem ag99 : aisAgg Try.prog 99 = true := by kernel_rfl
theorem pt99 : isPtr Try.prog 99 = false := by kernel_rfl
theorem sc99 : isSlc Try.prog 99 = true := by kernel_rfl
theorem fv99_0 {x0 x1 : Value} : afieldV Try.prog 99 0 (.agg #[x0, x1]) = some x0 := by simp [afieldV, Try.underlying99, apart, Try.underlying22, ag22, co22, aisAgg]
theorem fl99_0 {h b : Nat} : afield Try.prog 99 0 (.pointer (some ⟨h, b, none⟩)) = some (.pointer (some ⟨h, b + 0, none⟩)) := by simp [afield, Try.underlying99]
theorem fv99_1 {x0 x1 : Value} : afieldV Try.prog 99 1 (.agg #[x0, x1]) = some x1 := by simp [afieldV, Try.underlying99, apart, Try.underlying3, ag3, co3, aisAgg]
theorem fl99_1 {h b : Nat} : afield Try.prog 99 1 (.pointer (some ⟨h, b, none⟩)) = some (.pointer (some ⟨h, b + 1, none⟩)) := by simp [afield, Try.underlying99]
theorem ag100 : aisAgg Try.prog 100 = true := by kernel_rfl
theorem pt100 : isPtr Try.prog 100 = false := by kernel_rfl
theorem sc100 : isSlc Try.prog 100 = true := by kernel_rfl
theorem ze100 : azero Try.prog 100 = some (Value.agg #[Value.slice none 0 0, Value.int IntKind.i64 0]) := by kernel_rfl
theorem fv100_0 {x0 x1 : Value} : afieldV Try.prog 100 0 (.agg #[x0, x1]) = some x0 := by simp [afieldV, Try.underlying100, apart, Try.underlying22, ag22, co22, aisAgg]
theorem fl100_0 {h b : Nat} : afield Try.prog 100 0 (.pointer (some ⟨h, b, none⟩)) = some (.pointer (some ⟨h, b + 0, none⟩)) := by simp [afield, Try.underlying100]
theorem fv100_1 {x0 x1 : Value} : afieldV Try.prog 100 1 (.agg #[x0, x1]) = some x1 := by simp [afieldV, Try.underlying100, apart, Try.underlying3, ag3, co3, aisAgg]
theorem fl100_1 {h b : Nat} : afield Try.prog 100 1 (.pointer (some ⟨h, b, none⟩)) = some (.pointer (some ⟨h, b + 1, none⟩)) := by simp [afield, Try.underlying100]
theorem ag101 : aisAgg Try.prog 101 = false := by kernel_rfl
theorem pt101 : isPtr Try.prog 101 = false := by kernel_rfl
theorem sc101 : isSlc Try.prog 101 = false := by kernel_rfl
theorem ag102 : aisAgg Try.prog 102 = false := by kernel_rfl
theorem pt102 : isPtr Try.prog 102 = false := by kernel_rfl
theorem sc102 : isSlc Try.prog 102 = false := by kernel_rfl
theorem ag103 : aisAgg Try.prog 103 = false := by kernel_rfl
theorem pt103 : isPtr Try.prog 103 = false := by kernel_rfl
theorem sc103 : isSlc Try.prog 103 = false := by kernel_rfl
theorem ag104 : aisAgg Try.prog 104 = true := by kernel_rfl
theorem pt104 : isPtr Try.prog 104 = false := by kernel_rfl
theorem sc104 : isSlc Try.prog 104 = false := by kernel_rfl
theorem esz104 : aesz Try.prog 104 = 1 := by kernel_rfl
theorem ze104 : azero Try.prog 104 = some (Value.agg #[Value.bool false, Value.bool false, Value.bool false, Value.bool false, Value.bool false, Value.bool false]) := by kernel_rfl
theorem ag105 : aisAgg Try.prog 105 = false := by kernel_rfl
theorem pt105 : isPtr Try.prog 105 = false := by kernel_rfl
theorem sc105 : isSlc Try.prog 105 = false := by kernel_rfl
theorem ag106 : aisAgg Try.prog 106 = false := by kernel_rfl
theorem pt106 : isPtr Try.prog 106 = false := by kernel_rfl
theorem sc106 : isSlc Try.prog 106 = false := by kernel_rfl
theorem ag107 : aisAgg Try.prog 107 = false := by kernel_rfl
theorem pt107 : isPtr Try.prog 107 = true := by kernel_rfl
theorem sc107 : isSlc Try.prog 107 = false := by kernel_rfl
theorem ag108 : aisAgg Try.prog 108 = false := by kernel_rfl
theorem pt108 : isPtr Try.prog 108 = false := by kernel_rfl
theorem sc108 : isSlc Try.prog 108 = false := by kernel_rfl
theorem ag109 : aisAgg Try.prog 109 = false := by kernel_rfl
theorem pt109 : isPtr Try.prog 109 = false := by kernel_rfl
theorem sc109 : isSlc Try.prog 109 = false := by kernel_rfl
theorem ag110 : aisAgg Try.prog 110 = false := by kernel_rfl
theorem pt110 : isPtr Try.prog 110 = false := by kernel_rfl
theorem sc110 : isSlc Try.prog 110 = false := by kernel_rfl
theorem ag111 : aisAgg Try.prog 111 = false := by kernel_rfl
theorem pt111 : isPtr Try.prog 111 = false := by kernel_rfl
theorem sc111 : isSlc Try.prog 111 = false := by kernel_rfl
theorem ag112 : aisAgg Try.prog 112 = false := by kernel_rfl
theorem pt112 : isPtr Try.prog 112 = false := by kernel_rfl
theorem sc112 : isSlc Try.prog 112 = false := by kernel_rfl
theorem ag113 : aisAgg Try.prog 113 = false := by kernel_rfl
theorem pt113 : isPtr Try.prog 113 = false := by kernel_rfl
theorem sc113 : isSlc Try.prog 113 = false := by kernel_rfl
theorem ag114 : aisAgg Try.prog 114 = false := by kernel_rfl
theorem pt114 : isPtr Try.prog 114 = false := by kernel_rfl
theorem sc114 : isSlc Try.prog 114 = false := by kernel_rfl
theorem ag115 : aisAgg Try.prog 115 = false := by kernel_rfl
theorem pt115 : isPtr Try.prog 115 = false := by kernel_rfl
theorem sc115 : isSlc Try.prog 115 = false := by kernel_rfl
theorem ag116 : aisAgg Try.prog 116 = false := by kernel_rfl
theorem pt116 : isPtr Try.prog 116 = false := by kernel_rfl
theorem sc116 : isSlc Try.prog 116 = false := by kernel_rfl
theorem ag117 : aisAgg Try.prog 117 = false := by kernel_rfl
theorem pt117 : isPtr Try.prog 117 = false := by kernel_rfl
theorem sc117 : isSlc Try.prog 117 = false := by kernel_rfl
theorem ag118 : aisAgg Try.prog 118 = false := by kernel_rfl
theorem pt118 : isPtr Try.prog 118 = false := by kernel_rfl
theorem sc118 : isSlc Try.prog 118 = false := by kernel_rfl
theorem ag119 : aisAgg Try.prog 119 = false := by kernel_rfl
theorem pt119 : isPtr Try.prog 119 = false := by kernel_rfl
theorem sc119 : isSlc Try.prog 119 = false := by kernel_rfl
theorem ag120 : aisAgg Try.prog 120 = false := by kernel_rfl
theorem pt120 : isPtr Try.prog 120 = false := by kernel_rfl
theorem sc120 : isSlc Try.prog 120 = false := by kernel_rfl
theorem ag121 : aisAgg Try.prog 121 = false := by kernel_rfl
theorem pt121 : isPtr Try.prog 121 = false := by kernel_rfl
theorem sc121 : isSlc Try.prog 121 = false := by kernel_rfl
theorem pt124 : isPtr Try.prog 124 = false := by kernel_rfl
theorem sc124 : isSlc Try.prog 124 = false := by kernel_rfl
theorem esz124 : aesz Try.prog 124 = 1 := by kernel_rfl
theorem ag127 : aisAgg Try.prog 127 = false := by kernel_rfl
theorem pt127 : isPtr Try.prog 127 = false := by kernel_rfl
theorem sc127 : isSlc Try.prog 127 = false := by kernel_rfl
theorem ag128 : aisAgg Try.prog 128 = false := by kernel_rfl
theorem pt128 : isPtr Try.prog 128 = false := by kernel_rfl
theorem sc128 : isSlc Try.prog 128 = false := by kernel_rfl
theorem ag129 : aisAgg Try.prog 129 = false := by kernel_rfl
theorem pt129 : isPtr Try.prog 129 = false := by kernel_rfl
theorem sc129 : isSlc Try.prog 129 = false := by kernel_rfl
theorem ag130 : aisAgg Try.prog 130 = false := by kernel_rfl
theorem pt130 : isPtr Try.prog 130 = false := by kernel_rfl
theorem sc130 : isSlc Try.prog 130 = false := by kernel_rfl
theorem ag131 : aisAgg Try.prog 131 = false := by kernel_rfl
theorem pt131 : isPtr Try.prog 131 = false := by kernel_rfl
theorem sc131 : isSlc Try.prog 131 = false := by kernel_rfl
theorem ag132 : aisAgg Try.prog 132 = false := by kernel_rfl
theorem pt132 : isPtr Try.prog 132 = true := by kernel_rfl
theorem sc132 : isSlc Try.prog 132 = false := by kernel_rfl
theorem ag133 : aisAgg Try.prog 133 = false := by kernel_rfl
theorem pt133 : isPtr Try.prog 133 = false := by kernel_rfl
theorem sc133 : isSlc Try.prog 133 = false := by kernel_rfl
theorem ag134 : aisAgg Try.prog 134 = false := by kernel_rfl
theorem pt134 : isPtr Try.prog 134 = false := by kernel_rfl
theorem sc134 : isSlc Try.prog 134 = false := by kernel_rfl
theorem ag137 : aisAgg Try.prog 137 = false := by kernel_rfl
theorem pt137 : isPtr Try.prog 137 = false := by kernel_rfl
theorem sc137 : isSlc Try.prog 137 = false := by kernel_rfl
theorem pt138 : isPtr Try.prog 138 = false := by kernel_rfl
theorem sc138 : isSlc Try.prog 138 = false := by kernel_rfl
theorem nf3 : noisyF Try.prog 3 = false := by kernel_rfl
theorem nf4 : noisyF Try.prog 4 = false := by kernel_rfl
theorem nf5 : noisyF Try.prog 5 = false := by kernel_rfl
theorem nf6 : noisyF Try.prog 6 = false := by kernel_rfl
theorem nf7 : noisyF Try.prog 7 = false := by kernel_rfl
theorem nf8 : noisyF Try.prog 8 = false := by kernel_rfl
theorem nf9 : noisyF Try.prog 9 = false := by kernel_rfl
theorem nf10 : noisyF Try.prog 10 = false := by kernel_rfl
theorem nf11 : noisyF Try.prog 11 = false := by kernel_rfl
theorem nf12 : noisyF Try.prog 12 = false := by kernel_rfl
theorem nf13 : noisyF Try.prog 13 = false := by kernel_rfl
theorem nf14 : noisyF Try.prog 14 = false := by kernel_rfl
theorem nf15 : noisyF Try.prog 15 = false := by kernel_rfl
theorem nf16 : noisyF Try.prog 16 = false := by kernel_rfl
theorem nf17 : noisyF Try.prog 17 = false := by kernel_rfl
theorem nf18 : noisyF Try.prog 18 = false := by kernel_rfl
theorem nf19 : noisyF Try.prog 19 = false := by kernel_rfl
theorem nf20 : noisyF Try.prog 20 = false := by kernel_rfl
theorem nf21 : noisyF Try.prog 21 = false := by kernel_rfl
theorem nf22 : noisyF Try.prog 22 = false := by kernel_rfl
theorem nf23 : noisyF Try.prog 23 = false := by kernel_rfl
theorem nf24 : noisyF Try.prog 24 = false := by kernel_rfl
theorem nf25 : noisyF Try.prog 25 = false := by kernel_rfl
theorem nf26 : noisyF Try.prog 26 = false := by kernel_rfl
theorem nf27 : noisyF Try.prog 27 = false := by kernel_rfl
theorem nf28 : noisyF Try.prog 28 = false := by kernel_rfl
theorem nf29 : noisyF Try.prog 29 = false := by kernel_rfl
theorem nf30 : noisyF Try.prog 30 = false := by kernel_rfl
theorem nf31 : noisyF Try.prog 31 = false := by kernel_rfl
theorem nf32 : noisyF Try.prog 32 = false := by kernel_rfl
theorem nf33 : noisyF Try.prog 33 = false := by kernel_rfl
theorem nf34 : noisyF Try.prog 34 = false := by kernel_rfl
theorem nf35 : noisyF Try.prog 35 = false := by kernel_rfl
theorem nf36 : noisyF Try.prog 36 = false := by kernel_rfl
theorem nf37 : noisyF Try.prog 37 = false := by kernel_rfl
theorem nf38 : noisyF Try.prog 38 = true := by kernel_rfl
theorem nf39 : noisyF Try.prog 39 = false := by kernel_rfl
theorem nf40 : noisyF Try.prog 40 = false := by kernel_rfl
theorem nf41 : noisyF Try.prog 41 = false := by kernel_rfl
theorem nf42 : noisyF Try.prog 42 = false := by kernel_rfl
theorem nf43 : noisyF Try.prog 43 = false := by kernel_rfl
theorem nf44 : noisyF Try.prog 44 = false := by kernel_rfl
theorem nf45 : noisyF Try.prog 45 = false := by kernel_rfl
theorem nf46 : noisyF Try.prog 46 = false := by kernel_rfl
theorem nf47 : noisyF Try.prog 47 = false := by kernel_rfl
theorem nf48 : noisyF Try.prog 48 = false := by kernel_rfl
theorem nf49 : noisyF Try.prog 49 = false := by kernel_rfl
theorem nf50 : noisyF Try.prog 50 = true := by kernel_rfl
theorem nf51 : noisyF Try.prog 51 = false := by kernel_rfl
theorem nf52 : noisyF Try.prog 52 = false := by kernel_rfl
theorem nf53 : noisyF Try.prog 53 = false := by kernel_rfl
theorem nf54 : noisyF Try.prog 54 = true := by kernel_rfl
theorem nf55 : noisyF Try.prog 55 = true := by kernel_rfl
theorem nf56 : noisyF Try.prog 56 = true := by kernel_rfl
theorem nf57 : noisyF Try.prog 57 = true := by kernel_rfl
theorem nf58 : noisyF Try.prog 58 = false := by kernel_rfl
theorem nf59 : noisyF Try.prog 59 = false := by kernel_rfl
theorem nf60 : noisyF Try.prog 60 = true := by kernel_rfl
theorem nf61 : noisyF Try.prog 61 = true := by kernel_rfl
theorem nf62 : noisyF Try.prog 62 = true := by kernel_rfl
theorem nf63 : noisyF Try.prog 63 = false := by kernel_rfl
theorem nf64 : noisyF Try.prog 64 = false := by kernel_rfl
theorem nf65 : noisyF Try.prog 65 = false := by kernel_rfl
theorem nf66 : noisyF Try.prog 66 = false := by kernel_rfl
theorem nf67 : noisyF Try.prog 67 = true := by kernel_rfl
theorem nf68 : noisyF Try.prog 68 = false := by kernel_rfl
theorem nf69 : noisyF Try.prog 69 = true := by kernel_rfl
theorem nf70 : noisyF Try.prog 70 = false := by kernel_rfl
theorem nf71 : noisyF Try.prog 71 = false := by kernel_rfl
theorem nf72 : noisyF Try.prog 72 = false := by kernel_rfl
theorem nf73 : noisyF Try.prog 73 = false := by kernel_rfl
theorem nf74 : noisyF Try.prog 74 = false := by kernel_rfl
theorem nf75 : noisyF Try.prog 75 = false := by kernel_rfl
theorem nf76 : noisyF Try.prog 76 = false := by kernel_rfl
theorem nf77 : noisyF Try.prog 77 = false := by kernel_rfl
theorem nf78 : noisyF Try.prog 78 = true := by kernel_rfl
theorem nf79 : noisyF Try.prog 79 = true := by kernel_rfl
theorem nf80 : noisyF Try.prog 80 = false := by kernel_rfl
theorem nf81 : noisyF Try.prog 81 = false := by kernel_rfl
theorem nf82 : noisyF Try.prog 82 = false := by kernel_rfl
theorem nf83 : noisyF Try.prog 83 = true := by kernel_rfl
theorem nf84 : noisyF Try.prog 84 = true := by kernel_rfl
theorem nf85 : noisyF Try.prog 85 = true := by kernel_rfl
theorem nf86 : noisyF Try.prog 86 = false := by kernel_rfl
theorem nf87 : noisyF Try.prog 87 = false := by kernel_rfl
theorem nf88 : noisyF Try.prog 88 = false := by kernel_rfl
theorem nf89 : noisyF Try.prog 89 = false := by kernel_rfl
theorem nf90 : noisyF Try.prog 90 = false := by kernel_rfl
theorem nf91 : noisyF Try.prog 91 = false := by kernel_rfl
theorem nf92 : noisyF Try.prog 92 = false := by kernel_rfl
theorem nf93 : noisyF Try.prog 93 = false := by kernel_rfl
theorem nf94 : noisyF Try.prog 94 = false := by kernel_rfl
theorem nf95 : noisyF Try.prog 95 = false := by kernel_rfl
theorem nf96 : noisyF Try.prog 96 = false := by kernel_rfl
theorem nf97 : noisyF Try.prog 97 = false := by kernel_rfl
theorem nf98 : noisyF Try.prog 98 = false := by kernel_rfl
theorem nf99 : noisyF Try.prog 99 = false := by kernel_rfl
theorem nf100 : noisyF Try.prog 100 = false := by kernel_rfl
theorem nf101 : noisyF Try.prog 101 = false := by kernel_rfl
theorem nf102 : noisyF Try.prog 102 = false := by kernel_rfl
theorem nf103 : noisyF Try.prog 103 = false := by kernel_rfl
theorem nf104 : noisyF Try.prog 104 = false := by kernel_rfl
theorem nf105 : noisyF Try.prog 105 = false := by kernel_rfl
theorem nf106 : noisyF Try.prog 106 = false := by kernel_rfl
theorem nf107 : noisyF Try.prog 107 = false := by kernel_rfl
theorem nf108 : noisyF Try.prog 108 = false := by kernel_rfl
theorem nf109 : noisyF Try.prog 109 = false := by kernel_rfl
theorem nf110 : noisyF Try.prog 110 = false := by kernel_rfl
theorem nf111 : noisyF Try.prog 111 = false := by kernel_rfl
theorem nf112 : noisyF Try.prog 112 = false := by kernel_rfl
theorem nf128 : noisyF Try.prog 128 = true := by kernel_rfl
theorem good3 : (callable Try.prog 3 && tmpsOnly Try.f3 && decide (1 ≤ Try.f3.ntmps) && (match Try.f3.body with | some c => goodC Try.prog Try.f3.ntmps c | none => false)) = true := by kernel_rfl
theorem good4 : (callable Try.prog 4 && tmpsOnly Try.f4 && decide (1 ≤ Try.f4.ntmps) && (match Try.f4.body with | some c => goodC Try.prog Try.f4.ntmps c | none => false)) = true := by kernel_rfl
theorem good5 : (callable Try.prog 5 && tmpsOnly Try.f5 && decide (1 ≤ Try.f5.ntmps) && (match Try.f5.body with | some c => goodC Try.prog Try.f5.ntmps c | none => false)) = true := by kernel_rfl
theorem good6 : (callable Try.prog 6 && tmpsOnly Try.f6 && decide (1 ≤ Try.f6.ntmps) && (match Try.f6.body with | some c => goodC Try.prog Try.f6.ntmps c | none => false)) = true := by kernel_rfl
theorem good7 : (callable Try.prog 7 && tmpsOnly Try.f7 && decide (1 ≤ Try.f7.ntmps) && (match Try.f7.body with | some c => goodC Try.prog Try.f7.ntmps c | none => false)) = true := by kernel_rfl
theorem good8 : (callable Try.prog 8 && tmpsOnly Try.f8 && decide (1 ≤ Try.f8.ntmps) && (match Try.f8.body with | some c => goodC Try.prog Try.f8.ntmps c | none => false)) = true := by kernel_rfl
theorem good9 : (callable Try.prog 9 && tmpsOnly Try.f9 && decide (1 ≤ Try.f9.ntmps) && (match Try.f9.body with | some c => goodC Try.prog Try.f9.ntmps c | none => false)) = true := by kernel_rfl
theorem goodc10 : (callable Try.prog 10 && Try.f10.results.toList.all (rok Try.prog) && decide (1 ≤ Try.f10.ntmps) && (match Try.f10.body with | some c => goodC Try.prog Try.f10.ntmps c | none => false)) = true := by kernel_rfl
theorem good11 : (callable Try.prog 11 && tmpsOnly Try.f11 && decide (1 ≤ Try.f11.ntmps) && (match Try.f11.body with | some c => goodC Try.prog Try.f11.ntmps c | none => false)) = true := by kernel_rfl
theorem good12 : (callable Try.prog 12 && tmpsOnly Try.f12 && decide (1 ≤ Try.f12.ntmps) && (match Try.f12.body with | some c => goodC Try.prog Try.f12.ntmps c | none => false)) = true := by kernel_rfl
theorem good13 : (callable Try.prog 13 && tmpsOnly Try.f13 && decide (0 ≤ Try.f13.ntmps) && (match Try.f13.body with | some c => goodC Try.prog Try.f13.ntmps c | none => false)) = true := by kernel_rfl
theorem good14 : (callable Try.prog 14 && tmpsOnly Try.f14 && decide (2 ≤ Try.f14.ntmps) && (match Try.f14.body with | some c => goodC Try.prog Try.f14.ntmps c | none => false)) = true := by kernel_rfl
theorem goodc15 : (callable Try.prog 15 && Try.f15.results.toList.all (rok Try.prog) && decide (1 ≤ Try.f15.ntmps) && (match Try.f15.body with | some c => goodC Try.prog Try.f15.ntmps c | none => false)) = true := by kernel_rfl
theorem goodc16 : (callable Try.prog 16 && Try.f16.results.toList.all (rok Try.prog) && decide (2 ≤ Try.f16.ntmps) && (match Try.f16.body with | some c => goodC Try.prog Try.f16.ntmps c | none => false)) = true := by kernel_rfl
theorem good17 : (callable Try.prog 17 && tmpsOnly Try.f17 && decide (2 ≤ Try.f17.ntmps) && (match Try.f17.body with | some c => goodC Try.prog Try.f17.ntmps c | none => false)) = true := by kernel_rfl
theorem goodc18 : (callable Try.prog 18 && Try.f18.results.toList.all (rok Try.prog) && decide (2 ≤ Try.f18.ntmps) && (match Try.f18.body with | some c => goodC Try.prog Try.f18.ntmps c | none => false)) = true := by kernel_rfl
theorem good19 : (callable Try.prog 19 && tmpsOnly Try.f19 && decide (1 ≤ Try.f19.ntmps) && (match Try.f19.body with | some c => goodC Try.prog Try.f19.ntmps c | none => false)) = true := by kernel_rfl
theorem good20 : (callable Try.prog 20 && tmpsOnly Try.f20 && decide (2 ≤ Try.f20.ntmps) && (match Try.f20.body with | some c => goodC Try.prog Try.f20.ntmps c | none => false)) = true := by kernel_rfl
theorem good21 : (callable Try.prog 21 && tmpsOnly Try.f21 && decide (2 ≤ Try.f21.ntmps) && (match Try.f21.body with | some c => goodC Try.prog Try.f21.ntmps c | none => false)) = true := by kernel_rfl
theorem goodc22 : (callable Try.prog 22 && Try.f22.results.toList.all (rok Try.prog) && decide (1 ≤ Try.f22.ntmps) && (match Try.f22.body with | some c => goodC Try.prog Try.f22.ntmps c | none => false)) = true := by kernel_rfl
theorem good23 : (callable Try.prog 23 && tmpsOnly Try.f23 && decide (2 ≤ Try.f23.ntmps) && (match Try.f23.body with | some c => goodC Try.prog Try.f23.ntmps c | none => false)) = true := by kernel_rfl
theorem goodc24 : (callable Try.prog 24 && Try.f24.results.toList.all (rok Try.prog) && decide (1 ≤ Try.f24.ntmps) && (match Try.f24.body with | some c => goodC Try.prog Try.f24.ntmps c | none => false)) = true := by kernel_rfl
theorem good25 : (callable Try.prog 25 && tmpsOnly Try.f25 && decide (2 ≤ Try.f25.ntmps) && (match Try.f25.body with | some c => goodC Try.prog Try.f25.ntmps c | none => false)) = true := by kernel_rfl
theorem good26 : (callable Try.prog 26 && tmpsOnly Try.f26 && decide (2 ≤ Try.f26.ntmps) && (match Try.f26.body with | some c => goodC Try.prog Try.f26.ntmps c | none => false)) = true := by kernel_rfl
theorem goodc27 : (callable Try.prog 27 && Try.f27.results.toList.all (rok Try.prog) && decide (1 ≤ Try.f27.ntmps) && (match Try.f27.body with | some c => goodC Try.prog Try.f27.ntmps c | none => false)) = true := by kernel_rfl
theorem goodc28 : (callable Try.prog 28 && Try.f28.results.toList.all (rok Try.prog) && decide (2 ≤ Try.f28.ntmps) && (match Try.f28.body with | some c => goodC Try.prog Try.f28.ntmps c | none => false)) = true := by kernel_rfl
theorem goodc29 : (callable Try.prog 29 && Try.f29.results.toList.all (rok Try.prog) && decide (2 ≤ Try.f29.ntmps) && (match Try.f29.body with | some c => goodC Try.prog Try.f29.ntmps c | none => false)) = true := by kernel_rfl
theorem goodc30 : (callable Try.prog 30 && Try.f30.results.toList.all (rok Try.prog) && decide (1 ≤ Try.f30.ntmps) && (match Try.f30.body with | some c => goodC Try.prog Try.f30.ntmps c | none => false)) = true := by kernel_rfl
theorem goodc31 : (callable Try.prog 31 && Try.f31.results.toList.all (rok Try.prog) && decide (2 ≤ Try.f31.ntmps) && (match Try.f31.body with | some c => goodC Try.prog Try.f31.ntmps c | none => false)) = true := by kernel_rfl
theorem goodc32 : (callable Try.prog 32 && Try.f32.results.toList.all (rok Try.prog) && decide (2 ≤ Try.f32.ntmps) && (match Try.f32.body with | some c => goodC Try.prog Try.f32.ntmps c | none => false)) = true := by kernel_rfl
theorem goodc33 : (callable Try.prog 33 && Try.f33.results.toList.all (rok Try.prog) && decide (1 ≤ Try.f33.ntmps) && (match Try.f33.body with | some c => goodC Try.prog Try.f33.ntmps c | none => false)) = true := by kernel_rfl
theorem good34 : (callable Try.prog 34 && tmpsOnly Try.f34 && decide (1 ≤ Try.f34.ntmps) && (match Try.f34.body with | some c => goodC Try.prog Try.f34.ntmps c | none => false)) = true := by kernel_rfl
theorem good35 : (callable Try.prog 35 && tmpsOnly Try.f35 && decide (2 ≤ Try.f35.ntmps) && (match Try.f35.body with | some c => goodC Try.prog Try.f35.ntmps c | none => false)) = true := by kernel_rfl
theorem good36 : (callable Try.prog 36 && tmpsOnly Try.f36 && decide (1 ≤ Try.f36.ntmps) && (match Try.f36.body with | some c => goodC Try.prog Try.f36.ntmps c | none => false)) = true := by kernel_rfl
theorem good37 : (callable Try.prog 37 && tmpsOnly Try.f37 && decide (2 ≤ Try.f37.ntmps) && (match Try.f37.body with | some c => goodC Try.prog Try.f37.ntmps c | none => false)) = true := by kernel_rfl
theorem goodc38 : (callable Try.prog 38 && Try.f38.results.toList.all (rok Try.prog) && decide (2 ≤ Try.f38.ntmps) && (match Try.f38.body with | some c => goodC Try.prog Try.f38.ntmps c | none => false)) = true := by kernel_rfl
theorem good39 : (callable Try.prog 39 && tmpsOnly Try.f39 && decide (1 ≤ Try.f39.ntmps) && (match Try.f39.body with | some c => goodC Try.prog Try.f39.ntmps c | none => false)) = true := by kernel_rfl
theorem good40 : (callable Try.prog 40 && tmpsOnly Try.f40 && decide (1 ≤ Try.f40.ntmps) && (match Try.f40.body with | some c => goodC Try.prog Try.f40.ntmps c | none => false)) = true := by kernel_rfl
theorem good41 : (callable Try.prog 41 && tmpsOnly Try.f41 && decide (1 ≤ Try.f41.ntmps) && (match Try.f41.body with | some c => goodC Try.prog Try.f41.ntmps c | none => false)) = true := by kernel_rfl
theorem good42 : (callable Try.prog 42 && tmpsOnly Try.f42 && decide (2 ≤ Try.f42.ntmps) && (match Try.f42.body with | some c => goodC Try.prog Try.f42.ntmps c | none => false)) = true := by kernel_rfl
theorem good43 : (callable Try.prog 43 && tmpsOnly Try.f43 && decide (2 ≤ Try.f43.ntmps) && (match Try.f43.body with | some c => goodC Try.prog Try.f43.ntmps c | none => false)) = true := by kernel_rfl
theorem good44 : (callable Try.prog 44 && tmpsOnly Try.f44 && decide (2 ≤ Try.f44.ntmps) && (match Try.f44.body with | some c => goodC Try.prog Try.f44.ntmps c | none => false)) = true := by kernel_rfl
theorem good45 : (callable Try.prog 45 && tmpsOnly Try.f45 && decide (1 ≤ Try.f45.ntmps) && (match Try.f45.body with | some c => goodC Try.prog Try.f45.ntmps c | none => false)) = true := by kernel_rfl
theorem good46 : (callable Try.prog 46 && tmpsOnly Try.f46 && decide (1 ≤ Try.f46.ntmps) && (match Try.f46.body with | some c => goodC Try.prog Try.f46.ntmps c | none => false)) = true := by kernel_rfl
theorem good47 : (callable Try.prog 47 && tmpsOnly Try.f47 && decide (1 ≤ Try.f47.ntmps) && (match Try.f47.body with | some c => goodC Try.prog Try.f47.ntmps c | none => false)) = true := by kernel_rfl
theorem good48 : (callable Try.prog 48 && tmpsOnly Try.f48 && decide (2 ≤ Try.f48.ntmps) && (match Try.f48.body with | some c => goodC Try.prog Try.f48.ntmps c | none => false)) = true := by kernel_rfl
theorem good49 : (callable Try.prog 49 && tmpsOnly Try.f49 && decide (1 ≤ Try.f49.ntmps) && (match Try.f49.body with | some c => goodC Try.prog Try.f49.ntmps c | none => false)) = true := by kernel_rfl
theorem good50 : (callable Try.prog 50 && tmpsOnly Try.f50 && decide (2 ≤ Try.f50.ntmps) && (match Try.f50.body with | some c => goodC Try.prog Try.f50.ntmps c | none => false)) = true := by kernel_rfl
theorem good51 : (callable Try.prog 51 && tmpsOnly Try.f51 && decide (1 ≤ Try.f51.ntmps) && (match Try.f51.body with | some c => goodC Try.prog Try.f51.ntmps c | none => false)) = true := by kernel_rfl
theorem good52 : (callable Try.prog 52 && tmpsOnly Try.f52 && decide (2 ≤ Try.f52.ntmps) && (match Try.f52.body with | some c => goodC Try.prog Try.f52.ntmps c | none => false)) = true := by kernel_rfl
theorem good53 : (callable Try.prog 53 && tmpsOnly Try.f53 && decide (1 ≤ Try.f53.ntmps) && (match Try.f53.body with | some c => goodC Try.prog Try.f53.ntmps c | none => false)) = true := by kernel_rfl
theorem good54 : (callable Try.prog 54 && tmpsOnly Try.f54 && decide (2 ≤ Try.f54.ntmps) && (match Try.f54.body with | some c => goodC Try.prog Try.f54.ntmps c | none => false)) = true := by kernel_rfl
theorem good55 : (callable Try.prog 55 && tmpsOnly Try.f55 && decide (2 ≤ Try.f55.ntmps) && (match Try.f55.body with | some c => goodC Try.prog Try.f55.ntmps c | none => false)) = true := by kernel_rfl
theorem good56 : (callable Try.prog 56 && tmpsOnly Try.f56 && decide (2 ≤ Try.f56.ntmps) && (match Try.f56.body with | some c => goodC Try.prog Try.f56.ntmps c | none => false)) = true := by kernel_rfl
theorem good57 : (callable Try.prog 57 && tmpsOnly Try.f57 && decide (2 ≤ Try.f57.ntmps) && (match Try.f57.body with | some c => goodC Try.prog Try.f57.ntmps c | none => false)) = true := by kernel_rfl
theorem good58 : (callable Try.prog 58 && tmpsOnly Try.f58 && decide (1 ≤ Try.f58.ntmps) && (match Try.f58.body with | some c => goodC Try.prog Try.f58.ntmps c | none => false)) = true := by kernel_rfl
theorem good59 : (callable Try.prog 59 && tmpsOnly Try.f59 && decide (2 ≤ Try.f59.ntmps) && (match Try.f59.body with | some c => goodC Try.prog Try.f59.ntmps c | none => false)) = true := by kernel_rfl
theorem goodc60 : (callable Try.prog 60 && Try.f60.results.toList.all (rok Try.prog) && decide (2 ≤ Try.f60.ntmps) && (match Try.f60.body with | some c => goodC Try.prog Try.f60.ntmps c | none => false)) = true := by kernel_rfl
theorem good61 : (callable Try.prog 61 && tmpsOnly Try.f61 && decide (2 ≤ Try.f61.ntmps) && (match Try.f61.body with | some c => goodC Try.prog Try.f61.ntmps c | none => false)) = true := by kernel_rfl
theorem goodc62 : (callable Try.prog 62 && Try.f62.results.toList.all (rok Try.prog) && decide (1 ≤ Try.f62.ntmps) && (match Try.f62.body with | some c => goodC Try.prog Try.f62.ntmps c | none => false)) = true := by kernel_rfl
theorem goodc63 : (callable Try.prog 63 && Try.f63.results.toList.all (rok Try.prog) && decide (1 ≤ Try.f63.ntmps) && (match Try.f63.body with | some c => goodC Try.prog Try.f63.ntmps c | none => false)) = true := by kernel_rfl
theorem good64 : (callable Try.prog 64 && tmpsOnly Try.f64 && decide (3 ≤ Try.f64.ntmps) && (match Try.f64.body with | some c => goodC Try.prog Try.f64.ntmps c | none => false)) = true := by kernel_rfl
theorem good65 : (callable Try.prog 65 && tmpsOnly Try.f65 && decide (4 ≤ Try.f65.ntmps) && (match Try.f65.body with | some c => goodC Try.prog Try.f65.ntmps c | none => false)) = true := by kernel_rfl
theorem good66 : (callable Try.prog 66 && tmpsOnly Try.f66 && decide (3 ≤ Try.f66.ntmps) && (match Try.f66.body with | some c => goodC Try.prog Try.f66.ntmps c | none => false)) = true := by kernel_rfl
theorem good67 : (callable Try.prog 67 && tmpsOnly Try.f67 && decide (2 ≤ Try.f67.ntmps) && (match Try.f67.body with | some c => goodC Try.prog Try.f67.ntmps c | none => false)) = true := by kernel_rfl
theorem good68 : (callable Try.prog 68 && tmpsOnly Try.f68 && decide (1 ≤ Try.f68.ntmps) && (match Try.f68.body with | some c => goodC Try.prog Try.f68.ntmps c | none => false)) = true := by kernel_rfl
theorem good69 : (callable Try.prog 69 && tmpsOnly Try.f69 && decide (2 ≤ Try.f69.ntmps) && (match Try.f69.body with | some c => goodC Try.prog Try.f69.ntmps c | none => false)) = true := by kernel_rfl
theorem good70 : (callable Try.prog 70 && tmpsOnly Try.f70 && decide (1 ≤ Try.f70.ntmps) && (match Try.f70.body with | some c => goodC Try.prog Try.f70.ntmps c | none => false)) = true := by kernel_rfl
theorem good71 : (callable Try.prog 71 && tmpsOnly Try.f71 && decide (2 ≤ Try.f71.ntmps) && (match Try.f71.body with | some c => goodC Try.prog Try.f71.ntmps c | none => false)) = true := by kernel_rfl
theorem good72 : (callable Try.prog 72 && tmpsOnly Try.f72 && decide (3 ≤ Try.f72.ntmps) && (match Try.f72.body with | some c => goodC Try.prog Try.f72.ntmps c | none => false)) = true := by kernel_rfl
theorem good73 : (callable Try.prog 73 && tmpsOnly Try.f73 && decide (2 ≤ Try.f73.ntmps) && (match Try.f73.body with | some c => goodC Try.prog Try.f73.ntmps c | none => false)) = true := by kernel_rfl
theorem good74 : (callable Try.prog 74 && tmpsOnly Try.f74 && decide (1 ≤ Try.f74.ntmps) && (match Try.f74.body with | some c => goodC Try.prog Try.f74.ntmps c | none => false)) = true := by kernel_rfl
theorem good75 : (callable Try.prog 75 && tmpsOnly Try.f75 && decide (1 ≤ Try.f75.ntmps) && (match Try.f75.body with | some c => goodC Try.prog Try.f75.ntmps c | none => false)) = true := by kernel_rfl
theorem good76 : (callable Try.prog 76 && tmpsOnly Try.f76 && decide (2 ≤ Try.f76.ntmps) && (match Try.f76.body with | some c => goodC Try.prog Try.f76.ntmps c | none => false)) = true := by kernel_rfl
theorem good77 : (callable Try.prog 77 && tmpsOnly Try.f77 && decide (1 ≤ Try.f77.ntmps) && (match Try.f77.body with | some c => goodC Try.prog Try.f77.ntmps c | none => false)) = true := by kernel_rfl
theorem good78 : (callable Try.prog 78 && tmpsOnly Try.f78 && decide (2 ≤ Try.f78.ntmps) && (match Try.f78.body with | some c => goodC Try.prog Try.f78.ntmps c | none => false)) = true := by kernel_rfl
theorem good79 : (callable Try.prog 79 && tmpsOnly Try.f79 && decide (2 ≤ Try.f79.ntmps) && (match Try.f79.body with | some c => goodC Try.prog Try.f79.ntmps c | none => false)) = true := by kernel_rfl
theorem good80 : (callable Try.prog 80 && tmpsOnly Try.f80 && decide (2 ≤ Try.f80.ntmps) && (match Try.f80.body with | some c => goodC Try.prog Try.f80.ntmps c | none => false)) = true := by kernel_rfl
theorem good81 : (callable Try.prog 81 && tmpsOnly Try.f81 && decide (2 ≤ Try.f81.ntmps) && (match Try.f81.body with | some c => goodC Try.prog Try.f81.ntmps c | none => false)) = true := by kernel_rfl
theorem good82 : (callable Try.prog 82 && tmpsOnly Try.f82 && decide (2 ≤ Try.f82.ntmps) && (match Try.f82.body with | some c => goodC Try.prog Try.f82.ntmps c | none => false)) = true := by kernel_rfl
theorem good83 : (callable Try.prog 83 && tmpsOnly Try.f83 && decide (3 ≤ Try.f83.ntmps) && (match Try.f83.body with | some c => goodC Try.prog Try.f83.ntmps c | none => false)) = true := by kernel_rfl
theorem good84 : (callable Try.prog 84 && tmpsOnly Try.f84 && decide (2 ≤ Try.f84.ntmps) && (match Try.f84.body with | some c => goodC Try.prog Try.f84.ntmps c | none => false)) = true := by kernel_rfl
theorem good85 : (callable Try.prog 85 && tmpsOnly Try.f85 && decide (3 ≤ Try.f85.ntmps) && (match Try.f85.body with | some c => goodC Try.prog Try.f85.ntmps c | none => false)) = true := by kernel_rfl
theorem good86 : (callable Try.prog 86 && tmpsOnly Try.f86 && decide (3 ≤ Try.f86.ntmps) && (match Try.f86.body with | some c => goodC Try.prog Try.f86.ntmps c | none => false)) = true := by kernel_rfl
theorem good87 : (callable Try.prog 87 && tmpsOnly Try.f87 && decide (4 ≤ Try.f87.ntmps) && (match Try.f87.body with | some c => goodC Try.prog Try.f87.ntmps c | none => false)) = true := by kernel_rfl
theorem good88 : (callable Try.prog 88 && tmpsOnly Try.f88 && decide (2 ≤ Try.f88.ntmps) && (match Try.f88.body with | some c => goodC Try.prog Try.f88.ntmps c | none => false)) = true := by kernel_rfl
theorem good89 : (callable Try.prog 89 && tmpsOnly Try.f89 && decide (4 ≤ Try.f89.ntmps) && (match Try.f89.body with | some c => goodC Try.prog Try.f89.ntmps c | none => false)) = true := by kernel_rfl
theorem good90 : (callable Try.prog 90 && tmpsOnly Try.f90 && decide (2 ≤ Try.f90.ntmps) && (match Try.f90.body with | some c => goodC Try.prog Try.f90.ntmps c | none => false)) = true := by kernel_rfl
theorem good91 : (callable Try.prog 91 && tmpsOnly Try.f91 && decide (1 ≤ Try.f91.ntmps) && (match Try.f91.body with | some c => goodC Try.prog Try.f91.ntmps c | none => false)) = true := by kernel_rfl
theorem good92 : (callable Try.prog 92 && tmpsOnly Try.f92 && decide (1 ≤ Try.f92.ntmps) && (match Try.f92.body with | some c => goodC Try.prog Try.f92.ntmps c | none => false)) = true := by kernel_rfl
theorem good93 : (callable Try.prog 93 && tmpsOnly Try.f93 && decide (1 ≤ Try.f93.ntmps) && (match Try.f93.body with | some c => goodC Try.prog Try.f93.ntmps c | none => false)) = true := by kernel_rfl
theorem good94 : (callable Try.prog 94 && tmpsOnly Try.f94 && decide (2 ≤ Try.f94.ntmps) && (match Try.f94.body with | some c => goodC Try.prog Try.f94.ntmps c | none => false)) = true := by kernel_rfl
theorem good95 : (callable Try.prog 95 && tmpsOnly Try.f95 && decide (2 ≤ Try.f95.ntmps) && (match Try.f95.body with | some c => goodC Try.prog Try.f95.ntmps c | none => false)) = true := by kernel_rfl
theorem good96 : (callable Try.prog 96 && tmpsOnly Try.f96 && decide (2 ≤ Try.f96.ntmps) && (match Try.f96.body with | some c => goodC Try.prog Try.f96.ntmps c | none => false)) = true := by kernel_rfl
theorem good97 : (callable Try.prog 97 && tmpsOnly Try.f97 && decide (3 ≤ Try.f97.ntmps) && (match Try.f97.body with | some c => goodC Try.prog Try.f97.ntmps c | none => false)) = true := by kernel_rfl
theorem good98 : (callable Try.prog 98 && tmpsOnly Try.f98 && decide (3 ≤ Try.f98.ntmps) && (match Try.f98.body with | some c => goodC Try.prog Try.f98.ntmps c | none => false)) = true := by kernel_rfl
theorem good99 : (callable Try.prog 99 && tmpsOnly Try.f99 && decide (2 ≤ Try.f99.ntmps) && (match Try.f99.body with | some c => goodC Try.prog Try.f99.ntmps c | none => false)) = true := by kernel_rfl
theorem good100 : (callable Try.prog 100 && tmpsOnly Try.f100 && decide (4 ≤ Try.f100.ntmps) && (match Try.f100.body with | some c => goodC Try.prog Try.f100.ntmps c | none => false)) = true := by kernel_rfl
theorem good101 : (callable Try.prog 101 && tmpsOnly Try.f101 && decide (3 ≤ Try.f101.ntmps) && (match Try.f101.body with | some c => goodC Try.prog Try.f101.ntmps c | none => false)) = true := by kernel_rfl
theorem good102 : (callable Try.prog 102 && tmpsOnly Try.f102 && decide (4 ≤ Try.f102.ntmps) && (match Try.f102.body with | some c => goodC Try.prog Try.f102.ntmps c | none => false)) = true := by kernel_rfl
theorem good103 : (callable Try.prog 103 && tmpsOnly Try.f103 && decide (4 ≤ Try.f103.ntmps) && (match Try.f103.body with | some c => goodC Try.prog Try.f103.ntmps c | none => false)) = true := by kernel_rfl
theorem good104 : (callable Try.prog 104 && tmpsOnly Try.f104 && decide (2 ≤ Try.f104.ntmps) && (match Try.f104.body with | some c => goodC Try.prog Try.f104.ntmps c | none => false)) = true := by kernel_rfl
theorem good105 : (callable Try.prog 105 && tmpsOnly Try.f105 && decide (3 ≤ Try.f105.ntmps) && (match Try.f105.body with | some c => goodC Try.prog Try.f105.ntmps c | none => false)) = true := by kernel_rfl
theorem good106 : (callable Try.prog 106 && tmpsOnly Try.f106 && decide (3 ≤ Try.f106.ntmps) && (match Try.f106.body with | some c => goodC Try.prog Try.f106.ntmps c | none => false)) = true := by kernel_rfl
theorem good107 : (callable Try.prog 107 && tmpsOnly Try.f107 && decide (3 ≤ Try.f107.ntmps) && (match Try.f107.body with | some c => goodC Try.prog Try.f107.ntmps c | none => false)) = true := by kernel_rfl
theorem good108 : (callable Try.prog 108 && tmpsOnly Try.f108 && decide (2 ≤ Try.f108.ntmps) && (match Try.f108.body with | some c => goodC Try.prog Try.f108.ntmps c | none => false)) = true := by kernel_rfl
theorem good109 : (callable Try.prog 109 && tmpsOnly Try.f109 && decide (2 ≤ Try.f109.ntmps) && (match Try.f109.body with | some c => goodC Try.prog Try.f109.ntmps c | none => false)) = true := by kernel_rfl
theorem good110 : (callable Try.prog 110 && tmpsOnly Try.f110 && decide (4 ≤ Try.f110.ntmps) && (match Try.f110.body with | some c => goodC Try.prog Try.f110.ntmps c | none => false)) = true := by kernel_rfl
theorem good111 : (callable Try.prog 111 && tmpsOnly Try.f111 && decide (3 ≤ Try.f111.ntmps) && (match Try.f111.body with | some c => goodC Try.prog Try.f111.ntmps c | none => false)) = true := by kernel_rfl
theorem good112 : (callable Try.prog 112 && tmpsOnly Try.f112 && decide (3 ≤ Try.f112.ntmps) && (match Try.f112.body with | some c => goodC Try.prog Try.f112.ntmps c | none => false)) = true := by kernel_rfl
abbrev chr (n : Nat) : Char := Char.ofNat n
set_option maxRecDepth 20000 in
theorem initS : Try.prog.initOrder.toList = [chr 104, chr 97, chr 114, chr 110, chr 101, chr 115, chr 115, chr 32, chr 57, chr 54, chr 49, chr 52, chr 51, chr 51, chr 52, chr 102, chr 56, chr 99, chr 101, chr 97, chr 48, chr 98, chr 51, chr 97, chr 49, chr 50, chr 54, chr 52, chr 52, chr 53, chr 49, chr 53, chr 50, chr 54, chr 55, chr 51, chr 49, chr 102, chr 54, chr 52, chr 100, chr 99, chr 53, chr 56, chr 48, chr 99, chr 57, chr 100, chr 53, chr 97, chr 53, chr 102, chr 102, chr 51, chr 48, chr 99, chr 52, chr 97, chr 56, chr 101, chr 102, chr 51, chr 98, chr 97, chr 51, chr 97, chr 53, chr 56, chr 48, chr 48, chr 53, chr 49, chr 32, chr 99, chr 117, chr 116, chr 32, chr 97, chr 116, chr 32, chr 108, chr 111, chr 111, chr 112, chr 46, chr 101, chr 120, chr 97, chr 109, chr 112, chr 108, chr 101, chr 47, chr 99, chr 105, chr 114, chr 99, chr 117, chr 105, chr 116, chr 115, chr 119, chr 105, chr 116, chr 99, chr 104, chr 105, chr 110, chr 103, chr 47, chr 108, chr 97, chr 119, chr 115, chr 46, chr 70, chr 110, chr 69, chr 120, chr 99, chr 104, chr 97, chr 110, chr 103, chr 101, chr 86, chr 97, chr 108, chr 105, chr 100, chr 32, chr 108, chr 111, chr 111, chr 112, chr 46, chr 101, chr 120, chr 97, chr 109, chr 112, chr 108, chr 101, chr 47, chr 99, chr 105, chr 114, chr 99, chr 117, chr 105, chr 116, chr 115, chr 119, chr 105, chr 116, chr 99, chr 104, chr 105, chr 110, chr 103, chr 47, chr 108, chr 97, chr 119, chr 115, chr 46, chr 70, chr 110, chr 69, chr 120, chr 99, chr 104, chr 97, chr 110, chr 103, chr 101, chr 78, chr 101, chr 119, chr 32, chr 108, chr 111, chr 111, chr 112, chr 46, chr 101, chr 120, chr 97, chr 109, chr 112, chr 108, chr 101, chr 47, chr 99, chr 105, chr 114, chr 99, chr 117, chr 105, chr 116, chr 115, chr 119, chr 105, chr 116, chr 99, chr 104, chr 105, chr 110, chr 103, chr 47, chr 108, chr 97, chr 119, chr 115, chr 46, chr 70, chr 110, chr 80, chr 101, chr 101, chr 114, chr 79, chr 102, chr 32, chr 108, chr 111, chr 111, chr 112, chr 46, chr 101, chr 120, chr 97, chr 109, chr 112, chr 108, chr 101, chr 47, chr 99, chr 105, chr 114, chr 99, chr 117, chr 105, chr 116, chr 115, chr 119, chr 105, chr 116, chr 99, chr 104, chr 105, chr 110, chr 103, chr 47, chr 108, chr 97, chr 119, chr 115, chr 46, chr 70, chr 110, chr 76, chr 105, chr 110, chr 101, chr 79, chr 102, chr 32, chr 108, chr 111, chr 111, chr 112, chr 46, chr 101, chr 120, chr 97, chr 109, chr 112, chr 108, chr 101, chr 47, chr 99, chr 105, chr 114, chr 99, chr 117, chr 105, chr 116, chr 115, chr 119, chr 105, chr 116, chr 99, chr 104, chr 105, chr 110, chr 103, chr 47, chr 108, chr 97, chr 119, chr 115, chr 46, chr 70, chr 110, chr 69, chr 120, chr 68, chr 111, chr 32, chr 108, chr 111, chr 111, chr 112, chr 46, chr 101, chr 120, chr 97, chr 109, chr 112, chr 108, chr 101, chr 47, chr 99, chr 105, chr 114, chr 99, chr 117, chr 105, chr 116, chr 115, chr 119, chr 105, chr 116, chr 99, chr 104, chr 105, chr 110, chr 103, chr 47, chr 108, chr 97, chr 119, chr 115, chr 46, chr 70, chr 110, chr 69, chr 120, chr 82, chr 117, chr 110, chr 32, chr 108, chr 111, chr 111, chr 112, chr 46, chr 101, chr 120, chr 97, chr 109, chr 112, chr 108, chr 101, chr 47, chr 99, chr 105, chr 114, chr 99, chr 117, chr 105, chr 116, chr 115, chr 119, chr 105, chr 116, chr 99, chr 104, chr 105, chr 110, chr 103, chr 47, chr 108, chr 97, chr 119, chr 115, chr 46, chr 70, chr 110, chr 78, chr 105, chr 103, chr 104, chr 116, chr 68, chr 101, chr 101, chr 100, chr 115] := by
  rw [show Try.prog.initOrder = String.ofList [chr 104, chr 97, chr 114, chr 110, chr 101, chr 115, chr 115, chr 32, chr 57, chr 54, chr 49, chr 52, chr 51, chr 51, chr 52, chr 102, chr 56, chr 99, chr 101, chr 97, chr 48, chr 98, chr 51, chr 97, chr 49, chr 50, chr 54, chr 52, chr 52, chr 53, chr 49, chr 53, chr 50, chr 54, chr 55, chr 51, chr 49, chr 102, chr 54, chr 52, chr 100, chr 99, chr 53, chr 56, chr 48, chr 99, chr 57, chr 100, chr 53, chr 97, chr 53, chr 102, chr 102, chr 51, chr 48, chr 99, chr 52, chr 97, chr 56, chr 101, chr 102, chr 51, chr 98, chr 97, chr 51, chr 97, chr 53, chr 56, chr 48, chr 48, chr 53, chr 49, chr 32, chr 99, chr 117, chr 116, chr 32, chr 97, chr 116, chr 32, chr 108, chr 111, chr 111, chr 112, chr 46, chr 101, chr 120, chr 97, chr 109, chr 112, chr 108, chr 101, chr 47, chr 99, chr 105, chr 114, chr 99, chr 117, chr 105, chr 116, chr 115, chr 119, chr 105, chr 116, chr 99, chr 104, chr 105, chr 110, chr 103, chr 47, chr 108, chr 97, chr 119, chr 115, chr 46, chr 70, chr 110, chr 69, chr 120, chr 99, chr 104, chr 97, chr 110, chr 103, chr 101, chr 86, chr 97, chr 108, chr 105, chr 100, chr 32, chr 108, chr 111, chr 111, chr 112, chr 46, chr 101, chr 120, chr 97, chr 109, chr 112, chr 108, chr 101, chr 47, chr 99, chr 105, chr 114, chr 99, chr 117, chr 105, chr 116, chr 115, chr 119, chr 105, chr 116, chr 99, chr 104, chr 105, chr 110, chr 103, chr 47, chr 108, chr 97, chr 119, chr 115, chr 46, chr 70, chr 110, chr 69, chr 120, chr 99, chr 104, chr 97, chr 110, chr 103, chr 101, chr 78, chr 101, chr 119, chr 32, chr 108, chr 111, chr 111, chr 112, chr 46, chr 101, chr 120, chr 97, chr 109, chr 112, chr 108, chr 101, chr 47, chr 99, chr 105, chr 114, chr 99, chr 117, chr 105, chr 116, chr 115, chr 119, chr 105, chr 116, chr 99, chr 104, chr 105, chr 110, chr 103, chr 47, chr 108, chr 97, chr 119, chr 115, chr 46, chr 70, chr 110, chr 80, chr 101, chr 101, chr 114, chr 79, chr 102, chr 32, chr 108, chr 111, chr 111, chr 112, chr 46, chr 101, chr 120, chr 97, chr 109, chr 112, chr 108, chr 101, chr 47, chr 99, chr 105, chr 114, chr 99, chr 117, chr 105, chr 116, chr 115, chr 119, chr 105, chr 116, chr 99, chr 104, chr 105, chr 110, chr 103, chr 47, chr 108, chr 97, chr 119, chr 115, chr 46, chr 70, chr 110, chr 76, chr 105, chr 110, chr 101, chr 79, chr 102, chr 32, chr 108, chr 111, chr 111, chr 112, chr 46, chr 101, chr 120, chr 97, chr 109, chr 112, chr 108, chr 101, chr 47, chr 99, chr 105, chr 114, chr 99, chr 117, chr 105, chr 116, chr 115, chr 119, chr 105, chr 116, chr 99, chr 104, chr 105, chr 110, chr 103, chr 47, chr 108, chr 97, chr 119, chr 115, chr 46, chr 70, chr 110, chr 69, chr 120, chr 68, chr 111, chr 32, chr 108, chr 111, chr 111, chr 112, chr 46, chr 101, chr 120, chr 97, chr 109, chr 112, chr 108, chr 101, chr 47, chr 99, chr 105, chr 114, chr 99, chr 117, chr 105, chr 116, chr 115, chr 119, chr 105, chr 116, chr 99, chr 104, chr 105, chr 110, chr 103, chr 47, chr 108, chr 97, chr 119, chr 115, chr 46, chr 70, chr 110, chr 69, chr 120, chr 82, chr 117, chr 110, chr 32, chr 108, chr 111, chr 111, chr 112, chr 46, chr 101, chr 120, chr 97, chr 109, chr 112, chr 108, chr 101, chr 47, chr 99, chr 105, chr 114, chr 99, chr 117, chr 105, chr 116, chr 115, chr 119, chr 105, chr 116, chr 99, chr 104, chr 105, chr 110, chr 103, chr 47, chr 108, chr 97, chr 119, chr 115, chr 46, chr 70, chr 110, chr 78, chr 105, chr 103, chr 104, chr 116, chr 68, chr 101, chr 101, chr 100, chr 115] from by kernel_rfl, String.toList_ofList]
set_option maxRecDepth 20000 in
theorem behind : behindMainWord (wordsSigns Try.prog.initOrder.toList) = cutW :: [[chr 97, chr 116], [chr 108, chr 111, chr 111, chr 112, chr 46, chr 101, chr 120, chr 97, chr 109, chr 112, chr 108, chr 101, chr 47, chr 99, chr 105, chr 114, chr 99, chr 117, chr 105, chr 116, chr 115, chr 119, chr 105, chr 116, chr 99, chr 104, chr 105, chr 110, chr 103, chr 47, chr 108, chr 97, chr 119, chr 115, chr 46, chr 70, chr 110, chr 69, chr 120, chr 99, chr 104, chr 97, chr 110, chr 103, chr 101, chr 86, chr 97, chr 108, chr 105, chr 100], [chr 108, chr 111, chr 111, chr 112, chr 46, chr 101, chr 120, chr 97, chr 109, chr 112, chr 108, chr 101, chr 47, chr 99, chr 105, chr 114, chr 99, chr 117, chr 105, chr 116, chr 115, chr 119, chr 105, chr 116, chr 99, chr 104, chr 105, chr 110, chr 103, chr 47, chr 108, chr 97, chr 119, chr 115, chr 46, chr 70, chr 110, chr 69, chr 120, chr 99, chr 104, chr 97, chr 110, chr 103, chr 101, chr 78, chr 101, chr 119], [chr 108, chr 111, chr 111, chr 112, chr 46, chr 101, chr 120, chr 97, chr 109, chr 112, chr 108, chr 101, chr 47, chr 99, chr 105, chr 114, chr 99, chr 117, chr 105, chr 116, chr 115, chr 119, chr 105, chr 116, chr 99, chr 104, chr 105, chr 110, chr 103, chr 47, chr 108, chr 97, chr 119, chr 115, chr 46, chr 70, chr 110, chr 80, chr 101, chr 101, chr 114, chr 79, chr 102], [chr 108, chr 111, chr 111, chr 112, chr 46, chr 101, chr 120, chr 97, chr 109, chr 112, chr 108, chr 101, chr 47, chr 99, chr 105, chr 114, chr 99, chr 117, chr 105, chr 116, chr 115, chr 119, chr 105, chr 116, chr 99, chr 104, chr 105, chr 110, chr 103, chr 47, chr 108, chr 97, chr 119, chr 115, chr 46, chr 70, chr 110, chr 76, chr 105, chr 110, chr 101, chr 79, chr 102], [chr 108, chr 111, chr 111, chr 112, chr 46, chr 101, chr 120, chr 97, chr 109, chr 112, chr 108, chr 101, chr 47, chr 99, chr 105, chr 114, chr 99, chr 117, chr 105, chr 116, chr 115, chr 119, chr 105, chr 116, chr 99, chr 104, chr 105, chr 110, chr 103, chr 47, chr 108, chr 97, chr 119, chr 115, chr 46, chr 70, chr 110, chr 69, chr 120, chr 68, chr 111], [chr 108, chr 111, chr 111, chr 112, chr 46, chr 101, chr 120, chr 97, chr 109, chr 112, chr 108, chr 101, chr 47, chr 99, chr 105, chr 114, chr 99, chr 117, chr 105, chr 116, chr 115, chr 119, chr 105, chr 116, chr 99, chr 104, chr 105, chr 110, chr 103, chr 47, chr 108, chr 97, chr 119, chr 115, chr 46, chr 70, chr 110, chr 69, chr 120, chr 82, chr 117, chr 110], [chr 108, chr 111, chr 111, chr 112, chr 46, chr 101, chr 120, chr 97, chr 109, chr 112, chr 108, chr 101, chr 47, chr 99, chr 105, chr 114, chr 99, chr 117, chr 105, chr 116, chr 115, chr 119, chr 105, chr 116, chr 99, chr 104, chr 105, chr 110, chr 103, chr 47, chr 108, chr 97, chr 119, chr 115, chr 46, chr 70, chr 110, chr 78, chr 105, chr 103, chr 104, chr 116, chr 68, chr 101, chr 101, chr 100, chr 115]] := by
  rw [initS]; kernel_rfl
theorem mayE : Try.prog.mayEnter = true := may_of behind (by kernel_rfl) (by kernel_rfl) (by kernel_rfl)
theorem liftsE : Try.prog.liftsFinal = false := lifts_of behind
theorem makeE : Try.prog.make = some .cut := mk_of behind
theorem vcu0 : type_of% (And.intro (And.intro (And.intro (And.intro (@decide_true) (@decide_false)) (And.intro (@Bool.or_false) (@Bool.or_true))) (And.intro (And.intro (@Bool.false_or) (@Bool.true_or)) (And.intro (@noisy_nil) (@nq_move)))) (And.intro (And.intro (And.intro (@nq_assign) (@nq_pick)) (And.intro (@nq_binOp) (@nq_unOp))) (And.intro (And.intro (@nq_convert) (@nq_nilCheck)) (And.intro (@nq_indexAddr) (@nq_index))))) := (And.intro (And.intro (And.intro (And.intro (@decide_true) (@decide_false)) (And.intro (@Bool.or_false) (@Bool.or_true))) (And.intro (And.intro (@Bool.false_or) (@Bool.true_or)) (And.intro (@noisy_nil) (@nq_move)))) (And.intro (And.intro (And.intro (@nq_assign) (@nq_pick)) (And.intro (@nq_binOp) (@nq_unOp))) (And.intro (And.intro (@nq_convert) (@nq_nilCheck)) (And.intro (@nq_indexAddr) (@nq_index)))))
theorem vcu1 : type_of% (And.intro (And.intro (And.intro (And.intro (@nq_load) (@nq_field)) (And.intro (@nq_fieldAddr) (@nq_extract))) (And.intro (And.intro (@nq_build) (@nq_makeFunc)) (And.intro (@nq_slice) (@nq_len)))) (And.intro (And.intro (And.intro (@nq_min) (@nq_max)) (And.intro (@nq_call) (@nl_callv))) (And.intro (And.intro (@nl_append) (@nl_copy)) (And.intro (@nl_clear) (@nl_alloc))))) := (And.intro (And.intro (And.intro (And.intro (@nq_load) (@nq_field)) (And.intro (@nq_fieldAddr) (@nq_extract))) (And.intro (And.intro (@nq_build) (@nq_makeFunc)) (And.intro (@nq_slice) (@nq_len)))) (And.intro (And.intro (And.intro (@nq_min) (@nq_max)) (And.intro (@nq_call) (@nl_callv))) (And.intro (And.intro (@nl_append) (@nl_copy)) (And.intro (@nl_clear) (@nl_alloc)))))
theorem vcu2 : type_of% (And.intro (And.intro (And.intro (And.intro (@nl_box) (@nl_store)) (And.intro (@nl_makeSlice) (@nl_buildSlice))) (And.intro (And.intro (@nl_slice3) (@bindO_some)) (And.intro (@bindI_some) (@bindS_some)))) (And.intro (And.intro (And.intro (@pickR_yes) (@pickR_no)) (And.intro (@pickR_tt) (@pickR_ff))) (And.intro (And.intro (@gvb_some) (@vb_bool)) (And.intro (@vb_undef) (@gslot_zero))))) := (And.intro (And.intro (And.intro (And.intro (@nl_box) (@nl_store)) (And.intro (@nl_makeSlice) (@nl_buildSlice))) (And.intro (And.intro (@nl_slice3) (@bindO_some)) (And.intro (@bindI_some) (@bindS_some)))) (And.intro (And.intro (And.intro (@pickR_yes) (@pickR_no)) (And.intro (@pickR_tt) (@pickR_ff))) (And.intro (And.intro (@gvb_some) (@vb_bool)) (And.intro (@vb_undef) (@gslot_zero)))))
theorem vcu3 : type_of% (And.intro (And.intro (And.intro (And.intro (@gslot_succ) (@guardR_tt)) (And.intro (@guardR_ff) (@guardR_tf))) (And.intro (And.intro (@guardR_ft) (@guardR_nt)) (And.intro (@guardR_pt) (@guardR_pf)))) (And.intro (And.intro (And.intro (@guardR_nT) (@guardR_nF)) (And.intro (@aput_some) (@aput_none))) (And.intro (And.intro (@condR_true) (@condR_false)) (And.intro (@condR_yes) (@condR_no))))) := (And.intro (And.intro (And.intro (And.intro (@gslot_succ) (@guardR_tt)) (And.intro (@guardR_ff) (@guardR_tf))) (And.intro (And.intro (@guardR_ft) (@guardR_nt)) (And.intro (@guardR_pt) (@guardR_pf)))) (And.intro (And.intro (And.intro (@guardR_nT) (@guardR_nF)) (And.intro (@aput_some) (@aput_none))) (And.intro (And.intro (@condR_true) (@condR_false)) (And.intro (@condR_yes) (@condR_no)))))
theorem vcu4 : type_of% (And.intro (And.intro (And.intro (And.intro (@condR_not) (@Bool.not_true)) (And.intro (@Bool.not_false) (@ev_const))) (And.intro (And.intro (@ev_tmp) (@ev_func)) (And.intro (@fset_app) (@abin_add)))) (And.intro (And.intro (And.intro (@abin_sub) (@abin_mul)) (And.intro (@abin_quo) (@abin_rem))) (And.intro (And.intro (@abin_eql) (@abin_neq)) (And.intro (@abin_lss) (@abin_leq))))) := (And.intro (And.intro (And.intro (And.intro (@condR_not) (@Bool.not_true)) (And.intro (@Bool.not_false) (@ev_const))) (And.intro (And.intro (@ev_tmp) (@ev_func)) (And.intro (@fset_app) (@abin_add)))) (And.intro (And.intro (And.intro (@abin_sub) (@abin_mul)) (And.intro (@abin_quo) (@abin_rem))) (And.intro (And.intro (@abin_eql) (@abin_neq)) (And.intro (@abin_lss) (@abin_leq)))))
theorem vcu5 : type_of% (And.intro (And.intro (And.intro (And.intro (@abin_gtr) (@abin_geq)) (And.intro (@abin_seql) (@abin_sneq))) (And.intro (And.intro (@abin_sadd) (@bindX_some)) (And.intro (@tx_nil) (@tx_empty)))) (And.intro (And.intro (And.intro (@aun_not) (@aun_neg)) (And.intro (@aconvH_int) (@amin_two))) (And.intro (And.intro (@amax_two) (@anil_ptr)) (And.intro (@aextract_tuple) (@dec_true))))) := (And.intro (And.intro (And.intro (And.intro (@abin_gtr) (@abin_geq)) (And.intro (@abin_seql) (@abin_sneq))) (And.intro (And.intro (@abin_sadd) (@bindX_some)) (And.intro (@tx_nil) (@tx_empty)))) (And.intro (And.intro (And.intro (@aun_not) (@aun_neg)) (And.intro (@aconvH_int) (@amin_two))) (And.intro (And.intro (@amax_two) (@anil_ptr)) (And.intro (@aextract_tuple) (@dec_true)))))
theorem vcu6 : type_of% (And.intro (And.intro (And.intro (And.intro (@dec_false) (@Nat.mul_one)) (And.intro (@Int.toNat_natCast) (@not_not_p))) (And.intro (And.intro (@aenter_zero) (@aenter_succ)) (And.intro (abin_beql' bo4) (abin_bneq' bo4)))) (And.intro (And.intro (And.intro (alenV_tx' Try.underlying9) (aslice_thi' Try.underlying9)) (And.intro (aslice_tlo' Try.underlying9) (aslice_tlohi' Try.underlying9))) (And.intro (And.intro (alenV_tx' Try.underlying10) (aslice_thi' Try.underlying10)) (And.intro (aslice_tlo' Try.underlying10) (aslice_tlohi' Try.underlying10))))) := (And.intro (And.intro (And.intro (And.intro (@dec_false) (@Nat.mul_one)) (And.intro (@Int.toNat_natCast) (@not_not_p))) (And.intro (And.intro (@aenter_zero) (@aenter_succ)) (And.intro (abin_beql' bo4) (abin_bneq' bo4)))) (And.intro (And.intro (And.intro (alenV_tx' Try.underlying9) (aslice_thi' Try.underlying9)) (And.intro (aslice_tlo' Try.underlying9) (aslice_tlohi' Try.underlying9))) (And.intro (And.intro (alenV_tx' Try.underlying10) (aslice_thi' Try.underlying10)) (And.intro (aslice_tlo' Try.underlying10) (aslice_tlohi' Try.underlying10)))))
theorem vcu7 : type_of% (And.intro (And.intro (And.intro (And.intro (alenV_tx' Try.underlying11) (aslice_thi' Try.underlying11)) (And.intro (aslice_tlo' Try.underlying11) (aslice_tlohi' Try.underlying11))) (And.intro (And.intro (alenV_slice' Try.underlying22) (aidx_slice' Try.underlying22 co5)) (And.intro (@esz22) (aslice_hi' Try.underlying22 co5)))) (And.intro (And.intro (And.intro (aslice_lo' Try.underlying22 co5) (aslice_lohi' Try.underlying22 co5)) (And.intro (aslice_nhi' Try.underlying22) (aslice_nlo' Try.underlying22))) (And.intro (And.intro (aslice_nlohi' Try.underlying22) (@fl23_0)) (And.intro (@fl23_1) (@fl23_2))))) := (And.intro (And.intro (And.intro (And.intro (alenV_tx' Try.underlying11) (aslice_thi' Try.underlying11)) (And.intro (aslice_tlo' Try.underlying11) (aslice_tlohi' Try.underlying11))) (And.intro (And.intro (alenV_slice' Try.underlying22) (aidx_slice' Try.underlying22 co5)) (And.intro (@esz22) (aslice_hi' Try.underlying22 co5)))) (And.intro (And.intro (And.intro (aslice_lo' Try.underlying22 co5) (aslice_lohi' Try.underlying22 co5)) (And.intro (aslice_nhi' Try.underlying22) (aslice_nlo' Try.underlying22))) (And.intro (And.intro (aslice_nlohi' Try.underlying22) (@fl23_0)) (And.intro (@fl23_1) (@fl23_2)))))
theorem vcu8 : type_of% (And.intro (And.intro (And.intro (And.intro (@fv23_0) (@fv23_1)) (And.intro (@fv23_2) (@fl24_0))) (And.intro (And.intro (@fl24_1) (@fl24_2)) (And.intro (@fv24_0) (@fv24_1)))) (And.intro (And.intro (And.intro (@fv24_2) (alenV_slice' Try.underlying25)) (And.intro (aidx_slice' Try.underlying25 co9) (@esz25))) (And.intro (And.intro (aslice_hi' Try.underlying25 co9) (aslice_lo' Try.underlying25 co9)) (And.intro (aslice_lohi' Try.underlying25 co9) (aslice_nhi' Try.underlying25))))) := (And.intro (And.intro (And.intro (And.intro (@fv23_0) (@fv23_1)) (And.intro (@fv23_2) (@fl24_0))) (And.intro (And.intro (@fl24_1) (@fl24_2)) (And.intro (@fv24_0) (@fv24_1)))) (And.intro (And.intro (And.intro (@fv24_2) (alenV_slice' Try.underlying25)) (And.intro (aidx_slice' Try.underlying25 co9) (@esz25))) (And.intro (And.intro (aslice_hi' Try.underlying25 co9) (aslice_lo' Try.underlying25 co9)) (And.intro (aslice_lohi' Try.underlying25 co9) (aslice_nhi' Try.underlying25)))))
theorem vcu9 : type_of% (And.intro (And.intro (And.intro (And.intro (aslice_nlo' Try.underlying25) (aslice_nlohi' Try.underlying25)) (And.intro (alenV_slice' Try.underlying26) (aidx_slice' Try.underlying26 co35))) (And.intro (And.intro (@esz26) (aslice_hi' Try.underlying26 co35)) (And.intro (aslice_lo' Try.underlying26 co35) (aslice_lohi' Try.underlying26 co35)))) (And.intro (And.intro (And.intro (aslice_nhi' Try.underlying26) (aslice_nlo' Try.underlying26)) (And.intro (aslice_nlohi' Try.underlying26) (@fl27_0))) (And.intro (And.intro (@fl27_1) (@fl27_2)) (And.intro (@fv27_1) (@fv27_2))))) := (And.intro (And.intro (And.intro (And.intro (aslice_nlo' Try.underlying25) (aslice_nlohi' Try.underlying25)) (And.intro (alenV_slice' Try.underlying26) (aidx_slice' Try.underlying26 co35))) (And.intro (And.intro (@esz26) (aslice_hi' Try.underlying26 co35)) (And.intro (aslice_lo' Try.underlying26 co35) (aslice_lohi' Try.underlying26 co35)))) (And.intro (And.intro (And.intro (aslice_nhi' Try.underlying26) (aslice_nlo' Try.underlying26)) (And.intro (aslice_nlohi' Try.underlying26) (@fl27_0))) (And.intro (And.intro (@fl27_1) (@fl27_2)) (And.intro (@fv27_1) (@fv27_2)))))
theorem vcu10 : type_of% (And.intro (And.intro (And.intro (And.intro (@fl28_0) (@fl28_1)) (And.intro (@fl28_2) (@fv28_1))) (And.intro (And.intro (@fv28_2) (alenV_slice' Try.underlying32)) (And.intro (aidx_slice' Try.underlying32 co3) (@esz32)))) (And.intro (And.intro (And.intro (aslice_hi' Try.underlying32 co3) (aslice_lo' Try.underlying32 co3)) (And.intro (aslice_lohi' Try.underlying32 co3) (aslice_nhi' Try.underlying32))) (And.intro (And.intro (aslice_nlo' Try.underlying32) (aslice_nlohi' Try.underlying32)) (And.intro (@fl34_0) (@fl34_1))))) := (And.intro (And.intro (And.intro (And.intro (@fl28_0) (@fl28_1)) (And.intro (@fl28_2) (@fv28_1))) (And.intro (And.intro (@fv28_2) (alenV_slice' Try.underlying32)) (And.intro (aidx_slice' Try.underlying32 co3) (@esz32)))) (And.intro (And.intro (And.intro (aslice_hi' Try.underlying32 co3) (aslice_lo' Try.underlying32 co3)) (And.intro (aslice_lohi' Try.underlying32 co3) (aslice_nhi' Try.underlying32))) (And.intro (And.intro (aslice_nlo' Try.underlying32) (aslice_nlohi' Try.underlying32)) (And.intro (@fl34_0) (@fl34_1)))))
theorem vcu11 : type_of% (And.intro (And.intro (And.intro (And.intro (@fl34_2) (@fv34_0)) (And.intro (@fv34_1) (@fv34_2))) (And.intro (And.intro (@fl35_0) (@fl35_1)) (And.intro (@fl35_2) (@fv35_0)))) (And.intro (And.intro (And.intro (@fv35_1) (@fv35_2)) (And.intro (@fl49_0) (@fl49_1))) (And.intro (And.intro (@fl49_2) (@fv49_0)) (And.intro (@fv49_1) (@fv49_2))))) := (And.intro (And.intro (And.intro (And.intro (@fl34_2) (@fv34_0)) (And.intro (@fv34_1) (@fv34_2))) (And.intro (And.intro (@fl35_0) (@fl35_1)) (And.intro (@fl35_2) (@fv35_0)))) (And.intro (And.intro (And.intro (@fv35_1) (@fv35_2)) (And.intro (@fl49_0) (@fl49_1))) (And.intro (And.intro (@fl49_2) (@fv49_0)) (And.intro (@fv49_1) (@fv49_2)))))
theorem vcu12 : type_of% (And.intro (And.intro (And.intro (And.intro (@fl50_0) (@fl50_1)) (And.intro (@fl50_2) (@fv50_0))) (And.intro (And.intro (@fv50_1) (@fv50_2)) (And.intro (alenV_slice' Try.underlying55) (aidx_slice' Try.underlying55 co50)))) (And.intro (And.intro (And.intro (@esz55) (aslice_hi' Try.underlying55 co50)) (And.intro (aslice_lo' Try.underlying55 co50) (aslice_lohi' Try.underlying55 co50))) (And.intro (And.intro (aslice_nhi' Try.underlying55) (aslice_nlo' Try.underlying55)) (And.intro (aslice_nlohi' Try.underlying55) (@fl78_0))))) := (And.intro (And.intro (And.intro (And.intro (@fl50_0) (@fl50_1)) (And.intro (@fl50_2) (@fv50_0))) (And.intro (And.intro (@fv50_1) (@fv50_2)) (And.intro (alenV_slice' Try.underlying55) (aidx_slice' Try.underlying55 co50)))) (And.intro (And.intro (And.intro (@esz55) (aslice_hi' Try.underlying55 co50)) (And.intro (aslice_lo' Try.underlying55 co50) (aslice_lohi' Try.underlying55 co50))) (And.intro (And.intro (aslice_nhi' Try.underlying55) (aslice_nlo' Try.underlying55)) (And.intro (aslice_nlohi' Try.underlying55) (@fl78_0)))))
theorem vcu13 : type_of% (And.intro (And.intro (And.intro (And.intro (@fl78_1) (@fv78_1)) (And.intro (@fl79_0) (@fl79_1))) (And.intro (And.intro (@fv79_1) (alenV_slice' Try.underlying80)) (And.intro (aidx_slice' Try.underlying80 co9) (@esz80)))) (And.intro (And.intro (And.intro (aslice_hi' Try.underlying80 co9) (aslice_lo' Try.underlying80 co9)) (And.intro (aslice_lohi' Try.underlying80 co9) (aslice_nhi' Try.underlying80))) (And.intro (And.intro (aslice_nlo' Try.underlying80) (aslice_nlohi' Try.underlying80)) (And.intro (@fl81_0) (@fl81_1))))) := (And.intro (And.intro (And.intro (And.intro (@fl78_1) (@fv78_1)) (And.intro (@fl79_0) (@fl79_1))) (And.intro (And.intro (@fv79_1) (alenV_slice' Try.underlying80)) (And.intro (aidx_slice' Try.underlying80 co9) (@esz80)))) (And.intro (And.intro (And.intro (aslice_hi' Try.underlying80 co9) (aslice_lo' Try.underlying80 co9)) (And.intro (aslice_lohi' Try.underlying80 co9) (aslice_nhi' Try.underlying80))) (And.intro (And.intro (aslice_nlo' Try.underlying80) (aslice_nlohi' Try.underlying80)) (And.intro (@fl81_0) (@fl81_1)))))
theorem vcu14 : type_of% (And.intro (And.intro (And.intro (And.intro (@fv81_1) (@fl82_0)) (And.intro (@fl82_1) (@fv82_1))) (And.intro (And.intro (@fl99_0) (@fl99_1)) (And.intro (@fv99_0) (@fv99_1)))) (And.intro (And.intro (And.intro (@fl100_0) (@fl100_1)) (And.intro (@fv100_0) (@fv100_1))) (And.intro (And.intro (aidx_array' Try.underlying104 co4) (@esz104)) (And.intro (aidx_array' Try.underlying124 co16) (@esz124))))) := (And.intro (And.intro (And.intro (And.intro (@fv81_1) (@fl82_0)) (And.intro (@fl82_1) (@fv82_1))) (And.intro (And.intro (@fl99_0) (@fl99_1)) (And.intro (@fv99_0) (@fv99_1)))) (And.intro (And.intro (And.intro (@fl100_0) (@fl100_1)) (And.intro (@fv100_0) (@fv100_1))) (And.intro (And.intro (aidx_array' Try.underlying104 co4) (@esz104)) (And.intro (aidx_array' Try.underlying124 co16) (@esz124)))))
theorem vcu15 : type_of% (And.intro (And.intro (And.intro (And.intro (@pt0) (@pt1)) (And.intro (@pt2) (@pt3))) (And.intro (And.intro (@pt4) (@pt5)) (And.intro (@pt6) (@pt9)))) (And.intro (And.intro (And.intro (@pt10) (@pt11)) (And.intro (@pt12) (@pt15))) (And.intro (And.intro (@pt16) (@pt17)) (And.intro (@pt20) (@pt21))))) := (And.intro (And.intro (And.intro (And.intro (@pt0) (@pt1)) (And.intro (@pt2) (@pt3))) (And.intro (And.intro (@pt4) (@pt5)) (And.intro (@pt6) (@pt9)))) (And.intro (And.intro (And.intro (@pt10) (@pt11)) (And.intro (@pt12) (@pt15))) (And.intro (And.intro (@pt16) (@pt17)) (And.intro (@pt20) (@pt21)))))
theorem vcu16 : type_of% (And.intro (And.intro (And.intro (And.intro (@pt22) (@pt23)) (And.intro (@pt24) (@pt25))) (And.intro (And.intro (@pt26) (@pt27)) (And.intro (@pt28) (@pt29)))) (And.intro (And.intro (And.intro (@pt30) (@pt31)) (And.intro (@pt32) (@pt33))) (And.intro (And.intro (@pt34) (@pt35)) (And.intro (@pt36) (@pt37))))) := (And.intro (And.intro (And.intro (And.intro (@pt22) (@pt23)) (And.intro (@pt24) (@pt25))) (And.intro (And.intro (@pt26) (@pt27)) (And.intro (@pt28) (@pt29)))) (And.intro (And.intro (And.intro (@pt30) (@pt31)) (And.intro (@pt32) (@pt33))) (And.intro (And.intro (@pt34) (@pt35)) (And.intro (@pt36) (@pt37)))))
theorem vcu17 : type_of% (And.intro (And.intro (And.intro (And.intro (@pt38) (@pt39)) (And.intro (@pt40) (@pt41))) (And.intro (And.intro (@pt42) (@pt43)) (And.intro (@pt44) (@pt45)))) (And.intro (And.intro (And.intro (@pt46) (@pt47)) (And.intro (@pt48) (@pt49))) (And.intro (And.intro (@pt50) (@pt51)) (And.intro (@pt52) (@pt53))))) := (And.intro (And.intro (And.intro (And.intro (@pt38) (@pt39)) (And.intro (@pt40) (@pt41))) (And.intro (And.intro (@pt42) (@pt43)) (And.intro (@pt44) (@pt45)))) (And.intro (And.intro (And.intro (@pt46) (@pt47)) (And.intro (@pt48) (@pt49))) (And.intro (And.intro (@pt50) (@pt51)) (And.intro (@pt52) (@pt53)))))
theorem vcu18 : type_of% (And.intro (And.intro (And.intro (And.intro (@pt54) (@pt55)) (And.intro (@pt56) (@pt57))) (And.intro (And.intro (@pt58) (@pt59)) (And.intro (@pt60) (@pt61)))) (And.intro (And.intro (And.intro (@pt62) (@pt63)) (And.intro (@pt64) (@pt65))) (And.intro (And.intro (@pt66) (@pt67)) (And.intro (@pt68) (@pt69))))) := (And.intro (And.intro (And.intro (And.intro (@pt54) (@pt55)) (And.intro (@pt56) (@pt57))) (And.intro (And.intro (@pt58) (@pt59)) (And.intro (@pt60) (@pt61)))) (And.intro (And.intro (And.intro (@pt62) (@pt63)) (And.intro (@pt64) (@pt65))) (And.intro (And.intro (@pt66) (@pt67)) (And.intro (@pt68) (@pt69)))))
theorem vcu19 : type_of% (And.intro (And.intro (And.intro (And.intro (@pt70) (@pt71)) (And.intro (@pt72) (@pt73))) (And.intro (And.intro (@pt74) (@pt75)) (And.intro (@pt76) (@pt77)))) (And.intro (And.intro (And.intro (@pt78) (@pt79)) (And.intro (@pt80) (@pt81))) (And.intro (And.intro (@pt82) (@pt83)) (And.intro (@pt84) (@pt85))))) := (And.intro (And.intro (And.intro (And.intro (@pt70) (@pt71)) (And.intro (@pt72) (@pt73))) (And.intro (And.intro (@pt74) (@pt75)) (And.intro (@pt76) (@pt77)))) (And.intro (And.intro (And.intro (@pt78) (@pt79)) (And.intro (@pt80) (@pt81))) (And.intro (And.intro (@pt82) (@pt83)) (And.intro (@pt84) (@pt85)))))
theorem vcu20 : type_of% (And.intro (And.intro (And.intro (And.intro (@pt86) (@pt87)) (And.intro (@pt88) (@pt89))) (And.intro (And.intro (@pt90) (@pt91)) (And.intro (@pt92) (@pt93)))) (And.intro (And.intro (And.intro (@pt94) (@pt95)) (And.intro (@pt96) (@pt97))) (And.intro (And.intro (@pt98) (@pt99)) (And.intro (@pt100) (@pt101))))) := (And.intro (And.intro (And.intro (And.intro (@pt86) (@pt87)) (And.intro (@pt88) (@pt89))) (And.intro (And.intro (@pt90) (@pt91)) (And.intro (@pt92) (@pt93)))) (And.intro (And.intro (And.intro (@pt94) (@pt95)) (And.intro (@pt96) (@pt97))) (And.intro (And.intro (@pt98) (@pt99)) (And.intro (@pt100) (@pt101)))))
theorem vcu21 : type_of% (And.intro (And.intro (And.intro (And.intro (@pt102) (@pt103)) (And.intro (@pt104) (@pt105))) (And.intro (And.intro (@pt106) (@pt107)) (And.intro (@pt108) (@pt109)))) (And.intro (And.intro (And.intro (@pt110) (@pt111)) (And.intro (@pt112) (@pt113))) (And.intro (And.intro (@pt114) (@pt115)) (And.intro (@pt116) (@pt117))))) := (And.intro (And.intro (And.intro (And.intro (@pt102) (@pt103)) (And.intro (@pt104) (@pt105))) (And.intro (And.intro (@pt106) (@pt107)) (And.intro (@pt108) (@pt109)))) (And.intro (And.intro (And.intro (@pt110) (@pt111)) (And.intro (@pt112) (@pt113))) (And.intro (And.intro (@pt114) (@pt115)) (And.intro (@pt116) (@pt117)))))
theorem vcu22 : type_of% (And.intro (And.intro (And.intro (And.intro (@pt118) (@pt119)) (And.intro (@pt120) (@pt121))) (And.intro (And.intro (@pt124) (@pt127)) (And.intro (@pt128) (@pt129)))) (And.intro (And.intro (And.intro (@pt130) (@pt131)) (And.intro (@pt132) (@pt133))) (And.intro (And.intro (@pt134) (@pt137)) (And.intro (@pt138) (@sc0))))) := (And.intro (And.intro (And.intro (And.intro (@pt118) (@pt119)) (And.intro (@pt120) (@pt121))) (And.intro (And.intro (@pt124) (@pt127)) (And.intro (@pt128) (@pt129)))) (And.intro (And.intro (And.intro (@pt130) (@pt131)) (And.intro (@pt132) (@pt133))) (And.intro (And.intro (@pt134) (@pt137)) (And.intro (@pt138) (@sc0)))))
theorem vcu23 : type_of% (And.intro (And.intro (And.intro (And.intro (@sc1) (@sc2)) (And.intro (@sc3) (@sc4))) (And.intro (And.intro (@sc5) (@sc6)) (And.intro (@sc9) (@sc10)))) (And.intro (And.intro (And.intro (@sc11) (@sc12)) (And.intro (@sc15) (@sc16))) (And.intro (And.intro (@sc17) (@sc20)) (And.intro (@sc21) (@sc22))))) := (And.intro (And.intro (And.intro (And.intro (@sc1) (@sc2)) (And.intro (@sc3) (@sc4))) (And.intro (And.intro (@sc5) (@sc6)) (And.intro (@sc9) (@sc10)))) (And.intro (And.intro (And.intro (@sc11) (@sc12)) (And.intro (@sc15) (@sc16))) (And.intro (And.intro (@sc17) (@sc20)) (And.intro (@sc21) (@sc22)))))
theorem vcu24 : type_of% (And.intro (And.intro (And.intro (And.intro (@sc23) (@sc24)) (And.intro (@sc25) (@sc26))) (And.intro (And.intro (@sc27) (@sc28)) (And.intro (@sc29) (@sc30)))) (And.intro (And.intro (And.intro (@sc31) (@sc32)) (And.intro (@sc33) (@sc34))) (And.intro (And.intro (@sc35) (@sc36)) (And.intro (@sc37) (@sc38))))) := (And.intro (And.intro (And.intro (And.intro (@sc23) (@sc24)) (And.intro (@sc25) (@sc26))) (And.intro (And.intro (@sc27) (@sc28)) (And.intro (@sc29) (@sc30)))) (And.intro (And.intro (And.intro (@sc31) (@sc32)) (And.intro (@sc33) (@sc34))) (And.intro (And.intro (@sc35) (@sc36)) (And.intro (@sc37) (@sc38)))))
theorem vcu25 : type_of% (And.intro (And.intro (And.intro (And.intro (@sc39) (@sc40)) (And.intro (@sc41) (@sc42))) (And.intro (And.intro (@sc43) (@sc44)) (And.intro (@sc45) (@sc46)))) (And.intro (And.intro (And.intro (@sc47) (@sc48)) (And.intro (@sc49) (@sc50))) (And.intro (And.intro (@sc51) (@sc52)) (And.intro (@sc53) (@sc54))))) := (And.intro (And.intro (And.intro (And.intro (@sc39) (@sc40)) (And.intro (@sc41) (@sc42))) (And.intro (And.intro (@sc43) (@sc44)) (And.intro (@sc45) (@sc46)))) (And.intro (And.intro (And.intro (@sc47) (@sc48)) (And.intro (@sc49) (@sc50))) (And.intro (And.intro (@sc51) (@sc52)) (And.intro (@sc53) (@sc54)))))
theorem vcu26 : type_of% (And.intro (And.intro (And.intro (And.intro (@sc55) (@sc56)) (And.intro (@sc57) (@sc58))) (And.intro (And.intro (@sc59) (@sc60)) (And.intro (@sc61) (@sc62)))) (And.intro (And.intro (And.intro (@sc63) (@sc64)) (And.intro (@sc65) (@sc66))) (And.intro (And.intro (@sc67) (@sc68)) (And.intro (@sc69) (@sc70))))) := (And.intro (And.intro (And.intro (And.intro (@sc55) (@sc56)) (And.intro (@sc57) (@sc58))) (And.intro (And.intro (@sc59) (@sc60)) (And.intro (@sc61) (@sc62)))) (And.intro (And.intro (And.intro (@sc63) (@sc64)) (And.intro (@sc65) (@sc66))) (And.intro (And.intro (@sc67) (@sc68)) (And.intro (@sc69) (@sc70)))))
theorem vcu27 : type_of% (And.intro (And.intro (And.intro (And.intro (@sc71) (@sc72)) (And.intro (@sc73) (@sc74))) (And.intro (And.intro (@sc75) (@sc76)) (And.intro (@sc77) (@sc78)))) (And.intro (And.intro (And.intro (@sc79) (@sc80)) (And.intro (@sc81) (@sc82))) (And.intro (And.intro (@sc83) (@sc84)) (And.intro (@sc85) (@sc86))))) := (And.intro (And.intro (And.intro (And.intro (@sc71) (@sc72)) (And.intro (@sc73) (@sc74))) (And.intro (And.intro (@sc75) (@sc76)) (And.intro (@sc77) (@sc78)))) (And.intro (And.intro (And.intro (@sc79) (@sc80)) (And.intro (@sc81) (@sc82))) (And.intro (And.intro (@sc83) (@sc84)) (And.intro (@sc85) (@sc86)))))
theorem vcu28 : type_of% (And.intro (And.intro (And.intro (And.intro (@sc87) (@sc88)) (And.intro (@sc89) (@sc90))) (And.intro (And.intro (@sc91) (@sc92)) (And.intro (@sc93) (@sc94)))) (And.intro (And.intro (And.intro (@sc95) (@sc96)) (And.intro (@sc97) (@sc98))) (And.intro (And.intro (@sc99) (@sc100)) (And.intro (@sc101) (@sc102))))) := (And.intro (And.intro (And.intro (And.intro (@sc87) (@sc88)) (And.intro (@sc89) (@sc90))) (And.intro (And.intro (@sc91) (@sc92)) (And.intro (@sc93) (@sc94)))) (And.intro (And.intro (And.intro (@sc95) (@sc96)) (And.intro (@sc97) (@sc98))) (And.intro (And.intro (@sc99) (@sc100)) (And.intro (@sc101) (@sc102)))))
theorem vcu29 : type_of% (And.intro (And.intro (And.intro (And.intro (@sc103) (@sc104)) (And.intro (@sc105) (@sc106))) (And.intro (And.intro (@sc107) (@sc108)) (And.intro (@sc109) (@sc110)))) (And.intro (And.intro (And.intro (@sc111) (@sc112)) (And.intro (@sc113) (@sc114))) (And.intro (And.intro (@sc115) (@sc116)) (And.intro (@sc117) (@sc118))))) := (And.intro (And.intro (And.intro (And.intro (@sc103) (@sc104)) (And.intro (@sc105) (@sc106))) (And.intro (And.intro (@sc107) (@sc108)) (And.intro (@sc109) (@sc110)))) (And.intro (And.intro (And.intro (@sc111) (@sc112)) (And.intro (@sc113) (@sc114))) (And.intro (And.intro (@sc115) (@sc116)) (And.intro (@sc117) (@sc118)))))
theorem vcu30 : type_of% (And.intro (And.intro (And.intro (And.intro (@sc119) (@sc120)) (And.intro (@sc121) (@sc124))) (And.intro (And.intro (@sc127) (@sc128)) (And.intro (@sc129) (@sc130)))) (And.intro (And.intro (And.intro (@sc131) (@sc132)) (And.intro (@sc133) (@sc134))) (And.intro (And.intro (@sc137) (@sc138)) (And.intro (@nf3) (@nf4))))) := (And.intro (And.intro (And.intro (And.intro (@sc119) (@sc120)) (And.intro (@sc121) (@sc124))) (And.intro (And.intro (@sc127) (@sc128)) (And.intro (@sc129) (@sc130)))) (And.intro (And.intro (And.intro (@sc131) (@sc132)) (And.intro (@sc133) (@sc134))) (And.intro (And.intro (@sc137) (@sc138)) (And.intro (@nf3) (@nf4)))))
theorem vcu31 : type_of% (And.intro (And.intro (And.intro (And.intro (@nf5) (@nf6)) (And.intro (@nf7) (@nf8))) (And.intro (And.intro (@nf9) (@nf10)) (And.intro (@nf11) (@nf12)))) (And.intro (And.intro (And.intro (@nf13) (@nf14)) (And.intro (@nf15) (@nf16))) (And.intro (And.intro (@nf17) (@nf18)) (And.intro (@nf19) (@nf20))))) := (And.intro (And.intro (And.intro (And.intro (@nf5) (@nf6)) (And.intro (@nf7) (@nf8))) (And.intro (And.intro (@nf9) (@nf10)) (And.intro (@nf11) (@nf12)))) (And.intro (And.intro (And.intro (@nf13) (@nf14)) (And.intro (@nf15) (@nf16))) (And.intro (And.intro (@nf17) (@nf18)) (And.intro (@nf19) (@nf20)))))
theorem vcu32 : type_of% (And.intro (And.intro (And.intro (And.intro (@nf21) (@nf22)) (And.intro (@nf23) (@nf24))) (And.intro (And.intro (@nf25) (@nf26)) (And.intro (@nf27) (@nf28)))) (And.intro (And.intro (And.intro (@nf29) (@nf30)) (And.intro (@nf31) (@nf32))) (And.intro (And.intro (@nf33) (@nf34)) (And.intro (@nf35) (@nf36))))) := (And.intro (And.intro (And.intro (And.intro (@nf21) (@nf22)) (And.intro (@nf23) (@nf24))) (And.intro (And.intro (@nf25) (@nf26)) (And.intro (@nf27) (@nf28)))) (And.intro (And.intro (And.intro (@nf29) (@nf30)) (And.intro (@nf31) (@nf32))) (And.intro (And.intro (@nf33) (@nf34)) (And.intro (@nf35) (@nf36)))))
theorem vcu33 : type_of% (And.intro (And.intro (And.intro (And.intro (@nf37) (@nf38)) (And.intro (@nf39) (@nf40))) (And.intro (And.intro (@nf41) (@nf42)) (And.intro (@nf43) (@nf44)))) (And.intro (And.intro (And.intro (@nf45) (@nf46)) (And.intro (@nf47) (@nf48))) (And.intro (And.intro (@nf49) (@nf50)) (And.intro (@nf51) (@nf52))))) := (And.intro (And.intro (And.intro (And.intro (@nf37) (@nf38)) (And.intro (@nf39) (@nf40))) (And.intro (And.intro (@nf41) (@nf42)) (And.intro (@nf43) (@nf44)))) (And.intro (And.intro (And.intro (@nf45) (@nf46)) (And.intro (@nf47) (@nf48))) (And.intro (And.intro (@nf49) (@nf50)) (And.intro (@nf51) (@nf52)))))
theorem vcu34 : type_of% (And.intro (And.intro (And.intro (And.intro (@nf53) (@nf54)) (And.intro (@nf55) (@nf56))) (And.intro (And.intro (@nf57) (@nf58)) (And.intro (@nf59) (@nf60)))) (And.intro (And.intro (And.intro (@nf61) (@nf62)) (And.intro (@nf63) (@nf64))) (And.intro (And.intro (@nf65) (@nf66)) (And.intro (@nf67) (@nf68))))) := (And.intro (And.intro (And.intro (And.intro (@nf53) (@nf54)) (And.intro (@nf55) (@nf56))) (And.intro (And.intro (@nf57) (@nf58)) (And.intro (@nf59) (@nf60)))) (And.intro (And.intro (And.intro (@nf61) (@nf62)) (And.intro (@nf63) (@nf64))) (And.intro (And.intro (@nf65) (@nf66)) (And.intro (@nf67) (@nf68)))))
theorem vcu35 : type_of% (And.intro (And.intro (And.intro (And.intro (@nf69) (@nf70)) (And.intro (@nf71) (@nf72))) (And.intro (And.intro (@nf73) (@nf74)) (And.intro (@nf75) (@nf76)))) (And.intro (And.intro (And.intro (@nf77) (@nf78)) (And.intro (@nf79) (@nf80))) (And.intro (And.intro (@nf81) (@nf82)) (And.intro (@nf83) (@nf84))))) := (And.intro (And.intro (And.intro (And.intro (@nf69) (@nf70)) (And.intro (@nf71) (@nf72))) (And.intro (And.intro (@nf73) (@nf74)) (And.intro (@nf75) (@nf76)))) (And.intro (And.intro (And.intro (@nf77) (@nf78)) (And.intro (@nf79) (@nf80))) (And.intro (And.intro (@nf81) (@nf82)) (And.intro (@nf83) (@nf84)))))
theorem vcu36 : type_of% (And.intro (And.intro (And.intro (And.intro (@nf85) (@nf86)) (And.intro (@nf87) (@nf88))) (And.intro (And.intro (@nf89) (@nf90)) (And.intro (@nf91) (@nf92)))) (And.intro (And.intro (And.intro (@nf93) (@nf94)) (And.intro (@nf95) (@nf96))) (And.intro (And.intro (@nf97) (@nf98)) (And.intro (@nf99) (@nf100))))) := (And.intro (And.intro (And.intro (And.intro (@nf85) (@nf86)) (And.intro (@nf87) (@nf88))) (And.intro (And.intro (@nf89) (@nf90)) (And.intro (@nf91) (@nf92)))) (And.intro (And.intro (And.intro (@nf93) (@nf94)) (And.intro (@nf95) (@nf96))) (And.intro (And.intro (@nf97) (@nf98)) (And.intro (@nf99) (@nf100)))))
theorem vcu37 : type_of% (And.intro (And.intro (And.intro (And.intro (@nf101) (@nf102)) (And.intro (@nf103) (@nf104))) (And.intro (And.intro (@nf105) (@nf106)) (And.intro (@nf107) (@nf108)))) (And.intro (And.intro (And.intro (@nf109) (@nf110)) (And.intro (@nf111) (@nf112))) (And.intro (And.intro (@nf128) (aload_agg' ag23)) (And.intro (aload_agg' ag24) (aload_agg' ag27))))) := (And.intro (And.intro (And.intro (And.intro (@nf101) (@nf102)) (And.intro (@nf103) (@nf104))) (And.intro (And.intro (@nf105) (@nf106)) (And.intro (@nf107) (@nf108)))) (And.intro (And.intro (And.intro (@nf109) (@nf110)) (And.intro (@nf111) (@nf112))) (And.intro (And.intro (@nf128) (aload_agg' ag23)) (And.intro (aload_agg' ag24) (aload_agg' ag27)))))
theorem vcu38 : type_of% (And.intro (And.intro (And.intro (And.intro (aload_agg' ag28) (aload_agg' ag34)) (And.intro (aload_agg' ag35) (aload_agg' ag49))) (And.intro (And.intro (aload_agg' ag50) (aload_agg' ag78)) (And.intro (aload_agg' ag79) (aload_agg' ag81)))) (And.intro (And.intro (And.intro (aload_agg' ag82) (aload_agg' ag99)) (And.intro (aload_agg' ag100) (aload_agg' ag104))) (And.intro (And.intro (aload_cell' ag1) (aload_cell' ag2)) (And.intro (aload_cell' ag3) (aload_cell' ag4))))) := (And.intro (And.intro (And.intro (And.intro (aload_agg' ag28) (aload_agg' ag34)) (And.intro (aload_agg' ag35) (aload_agg' ag49))) (And.intro (And.intro (aload_agg' ag50) (aload_agg' ag78)) (And.intro (aload_agg' ag79) (aload_agg' ag81)))) (And.intro (And.intro (And.intro (aload_agg' ag82) (aload_agg' ag99)) (And.intro (aload_agg' ag100) (aload_agg' ag104))) (And.intro (And.intro (aload_cell' ag1) (aload_cell' ag2)) (And.intro (aload_cell' ag3) (aload_cell' ag4)))))
theorem vcu39 : type_of% (And.intro (And.intro (And.intro (And.intro (aload_cell' ag5) (aload_cell' ag6)) (And.intro (aload_cell' ag9) (aload_cell' ag10))) (And.intro (And.intro (aload_cell' ag11) (aload_cell' ag12)) (And.intro (aload_cell' ag15) (aload_cell' ag16)))) (And.intro (And.intro (And.intro (aload_cell' ag17) (aload_cell' ag21)) (And.intro (aload_cell' ag22) (aload_cell' ag25))) (And.intro (And.intro (aload_cell' ag26) (aload_cell' ag29)) (And.intro (aload_cell' ag30) (aload_cell' ag31))))) := (And.intro (And.intro (And.intro (And.intro (aload_cell' ag5) (aload_cell' ag6)) (And.intro (aload_cell' ag9) (aload_cell' ag10))) (And.intro (And.intro (aload_cell' ag11) (aload_cell' ag12)) (And.intro (aload_cell' ag15) (aload_cell' ag16)))) (And.intro (And.intro (And.intro (aload_cell' ag17) (aload_cell' ag21)) (And.intro (aload_cell' ag22) (aload_cell' ag25))) (And.intro (And.intro (aload_cell' ag26) (aload_cell' ag29)) (And.intro (aload_cell' ag30) (aload_cell' ag31)))))
theorem vcu40 : type_of% (And.intro (And.intro (And.intro (And.intro (aload_cell' ag32) (aload_cell' ag33)) (And.intro (aload_cell' ag36) (aload_cell' ag38))) (And.intro (And.intro (aload_cell' ag39) (aload_cell' ag40)) (And.intro (aload_cell' ag41) (aload_cell' ag42)))) (And.intro (And.intro (And.intro (aload_cell' ag44) (aload_cell' ag46)) (And.intro (aload_cell' ag48) (aload_cell' ag52))) (And.intro (And.intro (aload_cell' ag54) (aload_cell' ag55)) (And.intro (aload_cell' ag57) (aload_cell' ag58))))) := (And.intro (And.intro (And.intro (And.intro (aload_cell' ag32) (aload_cell' ag33)) (And.intro (aload_cell' ag36) (aload_cell' ag38))) (And.intro (And.intro (aload_cell' ag39) (aload_cell' ag40)) (And.intro (aload_cell' ag41) (aload_cell' ag42)))) (And.intro (And.intro (And.intro (aload_cell' ag44) (aload_cell' ag46)) (And.intro (aload_cell' ag48) (aload_cell' ag52))) (And.intro (And.intro (aload_cell' ag54) (aload_cell' ag55)) (And.intro (aload_cell' ag57) (aload_cell' ag58)))))
theorem vcu41 : type_of% (And.intro (And.intro (And.intro (And.intro (aload_cell' ag59) (aload_cell' ag60)) (And.intro (aload_cell' ag61) (aload_cell' ag62))) (And.intro (And.intro (aload_cell' ag63) (aload_cell' ag64)) (And.intro (aload_cell' ag65) (aload_cell' ag66)))) (And.intro (And.intro (And.intro (aload_cell' ag67) (aload_cell' ag68)) (And.intro (aload_cell' ag69) (aload_cell' ag70))) (And.intro (And.intro (aload_cell' ag71) (aload_cell' ag72)) (And.intro (aload_cell' ag73) (aload_cell' ag74))))) := (And.intro (And.intro (And.intro (And.intro (aload_cell' ag59) (aload_cell' ag60)) (And.intro (aload_cell' ag61) (aload_cell' ag62))) (And.intro (And.intro (aload_cell' ag63) (aload_cell' ag64)) (And.intro (aload_cell' ag65) (aload_cell' ag66)))) (And.intro (And.intro (And.intro (aload_cell' ag67) (aload_cell' ag68)) (And.intro (aload_cell' ag69) (aload_cell' ag70))) (And.intro (And.intro (aload_cell' ag71) (aload_cell' ag72)) (And.intro (aload_cell' ag73) (aload_cell' ag74)))))
theorem vcu42 : type_of% (And.intro (And.intro (And.intro (And.intro (aload_cell' ag75) (aload_cell' ag76)) (And.intro (aload_cell' ag77) (aload_cell' ag80))) (And.intro (And.intro (aload_cell' ag83) (aload_cell' ag84)) (And.intro (aload_cell' ag85) (aload_cell' ag86)))) (And.intro (And.intro (And.intro (aload_cell' ag87) (aload_cell' ag88)) (And.intro (aload_cell' ag89) (aload_cell' ag90))) (And.intro (And.intro (aload_cell' ag91) (aload_cell' ag93)) (And.intro (aload_cell' ag94) (aload_cell' ag95))))) := (And.intro (And.intro (And.intro (And.intro (aload_cell' ag75) (aload_cell' ag76)) (And.intro (aload_cell' ag77) (aload_cell' ag80))) (And.intro (And.intro (aload_cell' ag83) (aload_cell' ag84)) (And.intro (aload_cell' ag85) (aload_cell' ag86)))) (And.intro (And.intro (And.intro (aload_cell' ag87) (aload_cell' ag88)) (And.intro (aload_cell' ag89) (aload_cell' ag90))) (And.intro (And.intro (aload_cell' ag91) (aload_cell' ag93)) (And.intro (aload_cell' ag94) (aload_cell' ag95)))))
theorem vcu43 : type_of% (And.intro (And.intro (And.intro (And.intro (aload_cell' ag97) (aload_cell' ag98)) (And.intro (aload_cell' ag101) (aload_cell' ag102))) (And.intro (And.intro (aload_cell' ag103) (aload_cell' ag105)) (And.intro (aload_cell' ag106) (aload_cell' ag107)))) (And.intro (And.intro (And.intro (aload_cell' ag108) (aload_cell' ag109)) (And.intro (aload_cell' ag110) (aload_cell' ag111))) (And.intro (And.intro (aload_cell' ag112) (aload_cell' ag113)) (And.intro (aload_cell' ag114) (aload_cell' ag115))))) := (And.intro (And.intro (And.intro (And.intro (aload_cell' ag97) (aload_cell' ag98)) (And.intro (aload_cell' ag101) (aload_cell' ag102))) (And.intro (And.intro (aload_cell' ag103) (aload_cell' ag105)) (And.intro (aload_cell' ag106) (aload_cell' ag107)))) (And.intro (And.intro (And.intro (aload_cell' ag108) (aload_cell' ag109)) (And.intro (aload_cell' ag110) (aload_cell' ag111))) (And.intro (And.intro (aload_cell' ag112) (aload_cell' ag113)) (And.intro (aload_cell' ag114) (aload_cell' ag115)))))
theorem vcu44 : type_of% (And.intro (And.intro (And.intro (And.intro (aload_cell' ag116) (aload_cell' ag117)) (And.intro (aload_cell' ag118) (aload_cell' ag119))) (And.intro (And.intro (aload_cell' ag120) (aload_cell' ag121)) (And.intro (aload_cell' ag127) (aload_cell' ag128)))) (And.intro (And.intro (And.intro (aload_cell' ag129) (aload_cell' ag130)) (And.intro (aload_cell' ag131) (aload_cell' ag132))) (And.intro (And.intro (aload_cell' ag133) (aload_cell' ag134)) (And.intro (aload_cell' ag137) (@List.any_cons.{0}))))) := (And.intro (And.intro (And.intro (And.intro (aload_cell' ag116) (aload_cell' ag117)) (And.intro (aload_cell' ag118) (aload_cell' ag119))) (And.intro (And.intro (aload_cell' ag120) (aload_cell' ag121)) (And.intro (aload_cell' ag127) (aload_cell' ag128)))) (And.intro (And.intro (And.intro (aload_cell' ag129) (aload_cell' ag130)) (And.intro (aload_cell' ag131) (aload_cell' ag132))) (And.intro (And.intro (aload_cell' ag133) (aload_cell' ag134)) (And.intro (aload_cell' ag137) (@List.any_cons.{0})))))
theorem vcu45 : type_of% (And.intro (And.intro (@List.any_nil.{0}) (And.intro (@List.map_cons.{0, 0}) (@List.map_nil.{0, 0}))) (And.intro (@Option.map_some.{0, 0}) (And.intro (@Option.map_none.{0, 0}) (@List.nil_append.{0})))) := (And.intro (And.intro (@List.any_nil.{0}) (And.intro (@List.map_cons.{0, 0}) (@List.map_nil.{0, 0}))) (And.intro (@Option.map_some.{0, 0}) (And.intro (@Option.map_none.{0, 0}) (@List.nil_append.{0}))))
theorem vcd0 : type_of% (And.intro (And.intro (And.intro (And.intro (@cs_cons) (@cs_nil)) (And.intro (@retC_normal) (@retC_ret))) (And.intro (And.intro (@vc_seq) (@vc_block)) (And.intro (@vc_region) (@vc_regionD)))) (And.intro (And.intro (And.intro (@vcD_false) (@vcD_true)) (And.intro (@vc_loop_eq) (@vc_cond))) (And.intro (And.intro (@vc_skip) (@vc_exit)) (And.intro (@vc_ret) (@seqC_normal))))) := (And.intro (And.intro (And.intro (And.intro (@cs_cons) (@cs_nil)) (And.intro (@retC_normal) (@retC_ret))) (And.intro (And.intro (@vc_seq) (@vc_block)) (And.intro (@vc_region) (@vc_regionD)))) (And.intro (And.intro (And.intro (@vcD_false) (@vcD_true)) (And.intro (@vc_loop_eq) (@vc_cond))) (And.intro (And.intro (@vc_skip) (@vc_exit)) (And.intro (@vc_ret) (@seqC_normal)))))
theorem vcd1 : type_of% (And.intro (And.intro (And.intro (And.intro (@seqC_exit) (@seqC_ret)) (And.intro (@blockK_normal) (@blockK_exit))) (And.intro (And.intro (@blockK_ret) (@retK_normal)) (And.intro (@retK_ret) (@seqK_normal)))) (And.intro (And.intro (And.intro (@seqK_exit) (@seqK_ret)) (And.intro (@r_nil) (@r_assign))) (And.intro (And.intro (@r_move) (@r_len)) (And.intro (@r_binOpT) (@r_binOpI))))) := (And.intro (And.intro (And.intro (And.intro (@seqC_exit) (@seqC_ret)) (And.intro (@blockK_normal) (@blockK_exit))) (And.intro (And.intro (@blockK_ret) (@retK_normal)) (And.intro (@retK_ret) (@seqK_normal)))) (And.intro (And.intro (And.intro (@seqK_exit) (@seqK_ret)) (And.intro (@r_nil) (@r_assign))) (And.intro (And.intro (@r_move) (@r_len)) (And.intro (@r_binOpT) (@r_binOpI)))))
theorem vcd2 : type_of% (And.intro (And.intro (And.intro (And.intro (@r_binOpB) (@r_binOpS)) (And.intro (@r_unOp) (@r_convert))) (And.intro (And.intro (@r_indexAddr) (@r_load)) (And.intro (@r_pick) (@r_slice)))) (And.intro (And.intro (And.intro (@r_nilCheck) (@r_fieldAddr)) (And.intro (@r_field) (@r_extract))) (And.intro (And.intro (@r_min) (@r_max)) (And.intro (@r_call) (@r_makeFunc))))) := (And.intro (And.intro (And.intro (And.intro (@r_binOpB) (@r_binOpS)) (And.intro (@r_unOp) (@r_convert))) (And.intro (And.intro (@r_indexAddr) (@r_load)) (And.intro (@r_pick) (@r_slice)))) (And.intro (And.intro (And.intro (@r_nilCheck) (@r_fieldAddr)) (And.intro (@r_field) (@r_extract))) (And.intro (And.intro (@r_min) (@r_max)) (And.intro (@r_call) (@r_makeFunc)))))
theorem vcd3 : type_of% (And.intro (And.intro (@r_guard) (r_index' Try.underlying9)) (And.intro (r_index' Try.underlying10) (r_index' Try.underlying11))) := (And.intro (And.intro (@r_guard) (r_index' Try.underlying9)) (And.intro (r_index' Try.underlying10) (r_index' Try.underlying11)))
theorem vcu : type_of% (And.intro (And.intro (And.intro (And.intro (And.intro @vcu0 @vcu1) (And.intro @vcu2 (And.intro @vcu3 @vcu4))) (And.intro (And.intro @vcu5 (And.intro @vcu6 @vcu7)) (And.intro @vcu8 (And.intro @vcu9 @vcu10)))) (And.intro (And.intro (And.intro @vcu11 (And.intro @vcu12 @vcu13)) (And.intro @vcu14 (And.intro @vcu15 @vcu16))) (And.intro (And.intro @vcu17 (And.intro @vcu18 @vcu19)) (And.intro @vcu20 (And.intro @vcu21 @vcu22))))) (And.intro (And.intro (And.intro (And.intro @vcu23 @vcu24) (And.intro @vcu25 (And.intro @vcu26 @vcu27))) (And.intro (And.intro @vcu28 (And.intro @vcu29 @vcu30)) (And.intro @vcu31 (And.intro @vcu32 @vcu33)))) (And.intro (And.intro (And.intro @vcu34 (And.intro @vcu35 @vcu36)) (And.intro @vcu37 (And.intro @vcu38 @vcu39))) (And.intro (And.intro @vcu40 (And.intro @vcu41 @vcu42)) (And.intro @vcu43 (And.intro @vcu44 @vcu45)))))) := (And.intro (And.intro (And.intro (And.intro (And.intro @vcu0 @vcu1) (And.intro @vcu2 (And.intro @vcu3 @vcu4))) (And.intro (And.intro @vcu5 (And.intro @vcu6 @vcu7)) (And.intro @vcu8 (And.intro @vcu9 @vcu10)))) (And.intro (And.intro (And.intro @vcu11 (And.intro @vcu12 @vcu13)) (And.intro @vcu14 (And.intro @vcu15 @vcu16))) (And.intro (And.intro @vcu17 (And.intro @vcu18 @vcu19)) (And.intro @vcu20 (And.intro @vcu21 @vcu22))))) (And.intro (And.intro (And.intro (And.intro @vcu23 @vcu24) (And.intro @vcu25 (And.intro @vcu26 @vcu27))) (And.intro (And.intro @vcu28 (And.intro @vcu29 @vcu30)) (And.intro @vcu31 (And.intro @vcu32 @vcu33)))) (And.intro (And.intro (And.intro @vcu34 (And.intro @vcu35 @vcu36)) (And.intro @vcu37 (And.intro @vcu38 @vcu39))) (And.intro (And.intro @vcu40 (And.intro @vcu41 @vcu42)) (And.intro @vcu43 (And.intro @vcu44 @vcu45))))))
theorem vcd : type_of% (And.intro (And.intro @vcd0 @vcd1) (And.intro @vcd2 @vcd3)) := (And.intro (And.intro @vcd0 @vcd1) (And.intro @vcd2 @vcd3))
theorem z9q {p : Prop} (h : p := by simp -implicitDefEqProofs (disch := omega) only [Nat.reduceEqDiff, ↓reduceIte, vcu, ↓vcd]) : p := h
theorem z9r {p : Prop} (h : p := by simp -implicitDefEqProofs (disch := omega) only [Nat.reduceEqDiff, ↓reduceIte, vcu, ↓vcd]; rfl) : p := h
theorem z9z {p : Prop} (h : p := by simp -implicitDefEqProofs (disch := omega) only [Nat.reduceEqDiff, ↓reduceIte, vcu, ↓vcd]; exact Nat.zero_lt_succ _) : p := h
theorem z9l {p : Prop} (h : p := by simp -implicitDefEqProofs (disch := omega) only [Nat.reduceEqDiff, ↓reduceIte, vcu, ↓vcd]; exact Nat.le_refl _) : p := h
theorem z9co24 {p : Prop} (h : p := by simp -implicitDefEqProofs (disch := omega) only [Nat.reduceEqDiff, ↓reduceIte, vcu, ↓vcd, co24]; rfl) : p := h
theorem z9co28 {p : Prop} (h : p := by simp -implicitDefEqProofs (disch := omega) only [Nat.reduceEqDiff, ↓reduceIte, vcu, ↓vcd, co28]; rfl) : p := h
theorem z9co3 {p : Prop} (h : p := by simp -implicitDefEqProofs (disch := omega) only [Nat.reduceEqDiff, ↓reduceIte, vcu, ↓vcd, co3]; rfl) : p := h
theorem z9co35 {p : Prop} (h : p := by simp -implicitDefEqProofs (disch := omega) only [Nat.reduceEqDiff, ↓reduceIte, vcu, ↓vcd, co35]; rfl) : p := h
theorem z9co50 {p : Prop} (h : p := by simp -implicitDefEqProofs (disch := omega) only [Nat.reduceEqDiff, ↓reduceIte, vcu, ↓vcd, co50]; rfl) : p := h
end Go.Proofs.Ytofdnmlpfagibaa
namespace Go.Proofs.Ytofdnmlpfagibaa
open Go Go.Abs Go.RowKit
variable {w0 : World}
theorem in_calls (σ : AHeap) (n lo hi : Int) : ACall Try.prog w0 64 [.int .i64 n, .int .i64 lo, .int .i64 hi] σ fun r σ' => r = .bool (decide (lo ≤ n ∧ n ≤ hi)) ∧ σ' = σ := by
 refine acall_go mixed Try.func64 rfl good64 fun pr => ?_
 by_cases h : lo ≤ n
 ·simp -implicitDefEqProofs (disch := omega) only [Nat.reduceEqDiff, ↓reduceIte, vcu, ↓vcd]
  refine fin_one Try.results64 ⟨?_, rfl⟩
  simp -implicitDefEqProofs (disch := omega) only [Nat.reduceEqDiff, ↓reduceIte, vcu, ↓vcd]
  simp [h]
 ·simp -implicitDefEqProofs (disch := omega) only [Nat.reduceEqDiff, ↓reduceIte, vcu, ↓vcd]
  refine fin_one Try.results64 ⟨?_, rfl⟩
  simp -implicitDefEqProofs (disch := omega) only [Nat.reduceEqDiff, ↓reduceIte, vcu, ↓vcd]
  simp [h]
theorem has_at (σ : AHeap) (h o : Nat) (xs : List Int) (n : Int) (hv : IntsAt .i64 σ h o xs) (hl : xs.length ≤ 1048576) :
  ACall Try.prog w0 90 [.slice (some ⟨h, o, none⟩) xs.length 1, .int .i64 n] σ fun r σ' => r = .bool (decide (n ∈ xs)) ∧ σ' = σ := by
 refine acall_go mixed Try.func90 rfl good90 fun pr => ?_
 simp -implicitDefEqProofs (disch := omega) only [Nat.reduceEqDiff, ↓reduceIte, vcu, ↓vcd]
 refine vc_loop mixed (by kernel_rfl) (fun m a σ' => ∃ k : Nat, m + k = xs.length ∧ a 0 = .slice (some ⟨h, o, none⟩) xs.length 1 ∧ a 1 = .int .i64 n ∧ a 5 = .int .i64 k ∧ σ' = σ ∧ ∀ j, j < k → xs.getD j 0 ≠ n) xs.length ⟨0, by simp, rfl, rfl, rfl, rfl, by simp⟩ ?_
 rintro m a σ' ⟨k, hk, h0, h1, h5, rfl, hne⟩
 by_cases hlt : k < xs.length
 ·have hx := hv k hlt
  simp -implicitDefEqProofs (disch := omega) only [Nat.reduceEqDiff, ↓reduceIte, vcu, ↓vcd, h0, h1, h5, hx]
  rw [condR_dec]
  refine ⟨fun heq => ?_, fun hneq => ?_⟩
  ·rw [vcH_eq]
   simp -implicitDefEqProofs (disch := omega) only [Nat.reduceEqDiff, ↓reduceIte, vcu, ↓vcd]
   refine fin_one Try.results90 ⟨?_, rfl⟩
   simp -implicitDefEqProofs (disch := omega) only [Nat.reduceEqDiff, ↓reduceIte, vcu, ↓vcd]
   have : n ∈ xs := by rw [← heq]; simp [List.getD, hlt]
   simp [this]
  ·rw [vcH_eq]
   simp -implicitDefEqProofs (disch := omega) only [Nat.reduceEqDiff, ↓reduceIte, vcu, ↓vcd, h0, h1, h5]
   refine ⟨m - 1, by omega, k + 1, by omega, trivial, trivial, by simp, trivial, fun j hj => ?_⟩
   by_cases e : j = k
   ·subst e; exact hneq
   ·exact hne j (by omega)
 ·simp -implicitDefEqProofs (disch := omega) only [Nat.reduceEqDiff, ↓reduceIte, vcu, ↓vcd, h0, h1, h5]
  refine fin_one Try.results90 ⟨?_, rfl⟩
  simp -implicitDefEqProofs (disch := omega) only [Nat.reduceEqDiff, ↓reduceIte, vcu, ↓vcd]
  have : n ∉ xs := by
   intro hm
   obtain ⟨i, hi, rfl⟩ := List.getElem_of_mem hm
   exact hne i (by omega) (by simp [List.getD, hi])
  simp [this]
/-- each number from 0 on once -/
def Perm (xs : List Int) : Prop := (∀ x ∈ xs, 0 ≤ x ∧ x < xs.length) ∧ xs.Nodup
instance (xs : List Int) : Decidable (Perm xs) := by unfold Perm; infer_instance
theorem nodup_take {xs : List Int} : xs.Nodup ↔ ∀ j, j < xs.length → xs.getD j 0 ∉ xs.take j := by
 constructor
 ·intro h j hj hm
  obtain ⟨i, hi, he⟩ := List.getElem_of_mem hm
  simp at hi
  have e1 : xs.getD j 0 = xs[j] := by simp [List.getD, hj]
  rw [e1, List.getElem_take] at he
  exact absurd ((List.getElem_inj h).1 he) (by omega)
 ·intro h
  rw [List.nodup_iff_pairwise_ne, List.pairwise_iff_getElem]
  intro i j hi hj hij he
  refine h j hj ?_
  have e1 : xs.getD j 0 = xs[j] := by simp [List.getD, hj]
  rw [e1, ← he]
  rw [List.mem_take_iff_getElem]
  exact ⟨i, by omega, rfl⟩
def seq (k : Int) (n : Nat) : List Int := (List.range n).map fun (i : Nat) => k + i
end Go.Proofs.Ytofdnmlpfagibaa
namespace Go.Proofs.Ytofdnmlpfagibaa
open Go Go.Abs Go.RowKit
variable {w0 : World}
/-- a text of digits -/
def DgT (xs : List UInt8) : Prop := ∀ b ∈ xs, 48 ≤ b.toNat ∧ b.toNat ≤ 51
instance (xs : List UInt8) : Decidable (DgT xs) := inferInstanceAs (Decidable (∀ b ∈ xs, 48 ≤ b.toNat ∧ b.toNat ≤ 51))
theorem DgT.at {xs : List UInt8} (h : DgT xs) {k : Nat} (hk : k < xs.length) : 48 ≤ (xs.getD k 0).toNat ∧ (xs.getD k 0).toNat ≤ 51 := h _ (by simp [List.getD, hk])
theorem dgT_of {xs : List UInt8} (h : ∀ k, k < xs.length → 48 ≤ (xs.getD k 0).toNat ∧ (xs.getD k 0).toNat ≤ 51) : DgT xs := by
 intro b hb
 obtain ⟨k, hk, rfl⟩ := List.mem_iff_getElem.1 hb
 have := h k hk
 simpa [List.getD, hk] using this
theorem conv_u8 {b : Int} (h : 0 ≤ b ∧ b ≤ 255) : aconv Try.prog 5 3 (.int .u8 b) = some (.int .i64 b) := by
 simp only [aconv, Try.underlying5, Try.underlying3]
 rw [wrap_i64_ok (by omega)]
set_option maxRecDepth 8000 in
theorem abin_usub {t : TypeId} {a b : Int} : abin Try.prog t .sub (.int .u8 a) (.int .u8 b) = some (.int .u8 ((a - b) % 256)) := by
 simp only [abin, if_true]; congr 2
set_option maxRecDepth 8000 in
theorem abin_ulss {t : TypeId} {a b : Int} : abin Try.prog t .lss (.int .u8 a) (.int .u8 b) = some (.bool (decide (a < b))) := by simp [abin]
theorem u8_le (b : UInt8) : b.toNat ≤ 255 := by have := b.toNat_lt; omega
set_option maxRecDepth 8000 in
theorem digits_calls (σ : AHeap) (xs : List UInt8) (hl : xs.length ≤ 1048576) : ACall Try.prog w0 75 [.string (tx xs)] σ fun r σ' => r = .bool (decide (DgT xs)) ∧ σ' = σ := by
 refine acall_go mixed Try.func75 rfl good75 fun pr => ?_
 simp -implicitDefEqProofs (disch := omega) only [Nat.reduceEqDiff, ↓reduceIte, vcu, ↓vcd]
 refine vc_loop_c mixed (by kernel_rfl) [0] (fun m a σ' => ∃ k : Nat, m + k = xs.length ∧ a 3 = .int .i64 k ∧ (∀ j, j < k → 48 ≤ (xs.getD j 0).toNat ∧ (xs.getD j 0).toNat ≤ 51) ∧ σ' = σ) xs.length ⟨0, by simp, rfl, fun j hj => absurd hj (by omega), rfl⟩ ?_
 rintro m a σ' hc ⟨k, hk, h3, hd, rfl⟩
 simp -implicitDefEqProofs (disch := omega) only [Nat.reduceEqDiff, ↓reduceIte, vcu, ↓vcd] at hc
 obtain ⟨h0, -⟩ := hc
 by_cases hlt : k < xs.length
 ·have hb := u8_le (xs.getD k 0)
  by_cases hdg : 48 ≤ (xs.getD k 0).toNat ∧ (xs.getD k 0).toNat ≤ 51
  ·have hd1 : decide (0 ≤ (((xs.getD k 0).toNat : Int) - 48) % 256 ∧ (((xs.getD k 0).toNat : Int) - 48) % 256 ≤ 3) = true := decide_eq_true (by omega)
   simp -implicitDefEqProofs (disch := omega) only [Nat.reduceEqDiff, ↓reduceIte, vcu, ↓vcd, h0, h3, abin_usub, conv_u8]
   refine (in_calls _ _ 0 3).mono ?_
   rintro r τ ⟨rfl, rfl⟩
   simp -implicitDefEqProofs (disch := omega) only [Nat.reduceEqDiff, ↓reduceIte, vcu, ↓vcd, opK_some, h0, h3, abin_ulss, hd1]
   refine ⟨⟨trivial, trivial⟩, m - 1, by omega, k + 1, by omega, by simp, fun j hj => ?_, trivial⟩
   by_cases hjk : j = k
   ·subst hjk; exact hdg
   ·exact hd j (by omega)
  ·have hn : ¬DgT xs := fun h => hdg (h.at hlt)
   have hd1 : decide (0 ≤ (((xs.getD k 0).toNat : Int) - 48) % 256 ∧ (((xs.getD k 0).toNat : Int) - 48) % 256 ≤ 3) = false := decide_eq_false (by omega)
   simp -implicitDefEqProofs (disch := omega) only [Nat.reduceEqDiff, ↓reduceIte, vcu, ↓vcd, h0, h3, abin_usub, conv_u8]
   refine (in_calls _ _ 0 3).mono ?_
   rintro r τ ⟨rfl, rfl⟩
   simp -implicitDefEqProofs (disch := omega) only [Nat.reduceEqDiff, ↓reduceIte, vcu, ↓vcd, opK_some, h0, h3, abin_ulss, hd1]
   refine fin_one Try.results75 ⟨?_, rfl⟩
   simp -implicitDefEqProofs (disch := omega) only [Nat.reduceEqDiff, ↓reduceIte, vcu, ↓vcd]
   simp [hn]
 ·simp -implicitDefEqProofs (disch := omega) only [Nat.reduceEqDiff, ↓reduceIte, vcu, ↓vcd, h0, h3]
  have e : k = xs.length := by omega
  refine fin_one Try.results75 ⟨?_, rfl⟩
  simp -implicitDefEqProofs (disch := omega) only [Nat.reduceEqDiff, ↓reduceIte, vcu, ↓vcd]
  subst e
  simp [dgT_of hd]
/-- a text begins with another one -/
def Beg (s t : List UInt8) : Prop := t.length ≤ s.length ∧ s.take t.length = t
instance (s t : List UInt8) : Decidable (Beg s t) := inferInstanceAs (Decidable (_ ∧ _))
set_option maxRecDepth 8000 in
theorem begins_calls (σ : AHeap) (s t : List UInt8) : ACall Try.prog w0 76 [.string (tx s), .string (tx t)] σ fun r σ' => r = .bool (decide (Beg s t)) ∧ σ' = σ := by
 refine acall_go mixed Try.func76 rfl good76 fun pr => ?_
 by_cases h : t.length ≤ s.length
 ·simp -implicitDefEqProofs (disch := omega) only [Nat.reduceEqDiff, ↓reduceIte, vcu, ↓vcd]
  refine fin_one Try.results76 ⟨?_, rfl⟩
  simp -implicitDefEqProofs (disch := omega) only [Nat.reduceEqDiff, ↓reduceIte, vcu, ↓vcd]
  simp [Beg, h]
 ·simp -implicitDefEqProofs (disch := omega) only [Nat.reduceEqDiff, ↓reduceIte, vcu, ↓vcd]
  refine fin_one Try.results76 ⟨?_, rfl⟩
  simp -implicitDefEqProofs (disch := omega) only [Nat.reduceEqDiff, ↓reduceIte, vcu, ↓vcd]
  simp [Beg, h]
/-- a power of four -/
def pw (n : Nat) : Int := 4 ^ n
theorem pw_pos (n : Nat) : 1 ≤ pw n := by unfold pw; exact Int.le_of_lt_add_one (by have := Int.pow_pos (n := 4) (m := n) (by omega); omega)
theorem pw_succ (n : Nat) : pw (n + 1) = pw n * 4 := rfl
theorem pw_mono {m n : Nat} (h : m ≤ n) : pw m ≤ pw n := by
 induction h with
 | refl => exact Int.le_refl _
 | step _ ih => rw [pw_succ]; have := pw_pos m; omega
set_option maxRecDepth 8000 in
theorem power_calls (σ : AHeap) (n : Nat) (hn : n ≤ 3) : ACall Try.prog w0 93 [.int .i64 n] σ fun r σ' => r = .int .i64 (pw n) ∧ σ' = σ := by
 refine acall_go mixed Try.func93 rfl good93 fun pr => ?_
 simp -implicitDefEqProofs (disch := omega) only [Nat.reduceEqDiff, ↓reduceIte, vcu, ↓vcd]
 refine vc_loop_c mixed (by kernel_rfl) [0] (fun m a σ' => ∃ k : Nat, m + k = n ∧ a 4 = .int .i64 k ∧ a 3 = .int .i64 (pw k) ∧ σ' = σ) n ⟨0, by simp, rfl, rfl, rfl⟩ ?_
 rintro m a σ' hc ⟨k, hk, h4, h3, rfl⟩
 simp -implicitDefEqProofs (disch := omega) only [Nat.reduceEqDiff, ↓reduceIte, vcu, ↓vcd] at hc
 obtain ⟨h0, -⟩ := hc
 have hb := pw_pos k
 have hb2 : pw k ≤ 64 := pw_mono (n := 3) (by omega)
 by_cases hlt : k < n
 ·simp -implicitDefEqProofs (disch := omega) only [Nat.reduceEqDiff, ↓reduceIte, vcu, ↓vcd, h0, h3, h4]
  exact ⟨⟨trivial, trivial⟩, m - 1, by omega, k + 1, by omega, by simp, by rw [pw_succ], trivial⟩
 ·simp -implicitDefEqProofs (disch := omega) only [Nat.reduceEqDiff, ↓reduceIte, vcu, ↓vcd, h0, h3, h4]
  have e : k = n := by omega
  refine fin_one Try.results93 ⟨?_, rfl⟩
  simp -implicitDefEqProofs (disch := omega) only [Nat.reduceEqDiff, ↓reduceIte, vcu, ↓vcd, h3]
  rw [e]
/-- the digits of a value -/
def txV : Nat → Nat → List UInt8
 | _, 0 => []
 | v, n + 1 => txV (v / 4) n ++ [UInt8.ofNat (48 + v % 4)]
theorem txV_len : ∀ (n v : Nat), (txV v n).length = n
 | 0, _ => rfl
 | n + 1, v => by simp [txV, txV_len n]
theorem conv_to_u8 {b : Int} (h : 0 ≤ b ∧ b ≤ 255) : aconv Try.prog 3 5 (.int .i64 b) = some (.int .u8 b) := by
 simp only [aconv, Try.underlying5, Try.underlying3]
 congr 2
 show b % 256 = b
 omega
set_option maxRecDepth 8000 in
theorem text_calls (σ : AHeap) (v n : Nat) (hn : n ≤ 3) (hv : v ≤ 4096) : ACall Try.prog w0 94 [.int .i64 v, .int .i64 n] σ fun r σ' => r = .string (tx (txV v n)) ∧ σ' = σ := by
 refine acall_go mixed Try.func94 rfl good94 fun pr => ?_
 simp -implicitDefEqProofs (disch := omega) only [Nat.reduceEqDiff, ↓reduceIte, vcu, ↓vcd]
 refine vc_loop_c mixed (by kernel_rfl) [1] (fun m a σ' => ∃ (k w : Nat) (xs : List UInt8), m + k = n ∧ a 6 = .int .i64 k ∧ a 0 = .int .i64 w ∧ w ≤ 4096 ∧ a 5 = .string (tx xs) ∧ xs.length = k ∧ txV w m ++ xs = txV v n ∧ Sub σ σ') n ⟨0, v, [], by simp, rfl, rfl, hv, rfl, rfl, by simp, Sub.refl _⟩ ?_
 rintro m a σ' hc ⟨k, w, xs, hk, h6, h0, hw, h5, hx, he, hs⟩
 simp -implicitDefEqProofs (disch := omega) only [Nat.reduceEqDiff, ↓reduceIte, vcu, ↓vcd] at hc
 obtain ⟨h1, -⟩ := hc
 by_cases hlt : k < n
 ·obtain ⟨m', rfl⟩ : ∃ m', m = m' + 1 := ⟨m - 1, by omega⟩
  simp -implicitDefEqProofs (disch := omega) only [Nat.reduceEqDiff, ↓reduceIte, vcu, ↓vcd, h0, h1, h5, h6, conv_to_u8]
  refine r_lit el22 (out := #[.int .u8 (48 + (w % 4 : Nat))]) (by first | kernel_rfl | (simp -implicitDefEqProofs (disch := omega) only [Nat.reduceEqDiff, ↓reduceIte, vcu, ↓vcd]; kernel_rfl)) (by rfl) fun g τ n1 s1 v1 => ?_
  have l1 : lds τ g 0 1 = some ([((48 + (w % 4 : Nat) : Nat) : Int)].map (.int .u8)) := by
   rw [lds_of v1 (by simp)]; simp
  have hcv := aconvH_bytes (z := 1) Try.underlying22 Try.underlying5 Try.underlying9 l1
  have ha := abin_sadd (P := Try.prog) (t := 9) (xs := [UInt8.ofNat (48 + w % 4)]) (ys := xs) (by rw [List.length_singleton]; omega)
  simp -implicitDefEqProofs (disch := omega) only [Nat.reduceEqDiff, ↓reduceIte, vcu, ↓vcd, h0, h1, h5, h6, hcv, ha]
  refine ⟨⟨trivial, trivial⟩, m', by omega, k + 1, w / 4, _, by omega, by simp, by simp, by omega, rfl, by simp [hx], ?_, hs.trans s1⟩
  rw [← he, txV]
  simp
 ·simp -implicitDefEqProofs (disch := omega) only [Nat.reduceEqDiff, ↓reduceIte, vcu, ↓vcd, h0, h1, h5, h6]
  have e : m = 0 := by omega
  subst e
  refine fin_drop Try.results94 σ hs ⟨?_, rfl⟩
  simp -implicitDefEqProofs (disch := omega) only [Nat.reduceEqDiff, ↓reduceIte, vcu, ↓vcd, h5]
  rw [← he]; rfl
end Go.Proofs.Ytofdnmlpfagibaa
namespace Go.Proofs.Ytofdnmlpfagibaa
open Go Go.Abs Go.RowKit Go.Dial
variable {w0 : World}
/-- a deed as a value -/
def ddA (d : Dd) : Value := .agg #[.int .i64 d.k, .int .i64 d.l, .string (tx d.t)]
theorem fin_ct8 {P : Program} {fn : Func} {R : Value → AHeap → Prop} {a : AFrame} {σ : AHeap} {t u : Nat} {ty : TypeId} {v : Value} (h : fn.results = #[.cell t ty, .tmp u]) (σ'' : AHeap) (hs : Sub σ'' σ) (hv : aload P σ ty (a t) = some v) (hr : R (.tuple #[v, a u]) σ'') : finC P fn R a σ :=
 ⟨[v, a u], σ'', by simp [h, rvals, hv], hs, hr⟩
end Go.Proofs.Ytofdnmlpfagibaa
namespace Go.Proofs.Ytofdnmlpfagibaa
open Go Go.Abs Go.RowKit Go.Dial
variable {w0 : World}
theorem listD_eq {xs ys : List Dd} (hlen : xs.length = ys.length) (h : ∀ j, j < xs.length → xs.getD j dd0 = ys.getD j dd0) : xs = ys := by
 apply List.ext_getElem hlen
 intro i h1 h2
 have := h i h1
 simpa [List.getD, h1, h2] using this
end Go.Proofs.Ytofdnmlpfagibaa
namespace Go.Proofs.Ytofdnmlpfagibaa
open Go Go.Abs Go.RowKit
variable {w0 : World}
theorem sameS_at (σ : AHeap) (h o g p : Nat) (xs ys : List (List UInt8)) (hv : TextsAt σ h o xs) (hu : TextsAt σ g p ys) (hl : xs.length ≤ 1048576) (hl2 : ys.length ≤ 1048576) :
  ACall Try.prog w0 37 [.slice (some ⟨h, o, none⟩) xs.length 1, .slice (some ⟨g, p, none⟩) ys.length 1] σ fun r σ' => r = .bool (decide (xs = ys)) ∧ σ' = σ := by
 refine acall_go mixed Try.func37 rfl good37 fun pr => ?_
 by_cases hlen : xs.length = ys.length
 ·simp -implicitDefEqProofs (disch := omega) only [Nat.reduceEqDiff, ↓reduceIte, vcu, ↓vcd]
  refine vc_loop_c mixed (by kernel_rfl) [0, 1] (fun m a σ' => ∃ k : Nat, m + k = xs.length ∧ a 5 = .int .i64 k ∧ σ' = σ ∧ ∀ j, j < k → xs.getD j [] = ys.getD j []) xs.length ⟨0, by simp, rfl, rfl, by simp⟩ ?_
  rintro m a σ' hc ⟨k, hk, h5, rfl, he⟩
  simp -implicitDefEqProofs (disch := omega) only [Nat.reduceEqDiff, ↓reduceIte, vcu, ↓vcd] at hc
  obtain ⟨h0, h1, -⟩ := hc
  by_cases hlt : k < xs.length
  ·have hx := hv k hlt
   have hy := hu k (by omega)
   by_cases hxy : xs.getD k [] = ys.getD k []
   ·rw [hxy] at hx
    simp -implicitDefEqProofs (disch := omega) only [Nat.reduceEqDiff, ↓reduceIte, vcu, ↓vcd, h0, h1, h5, hx, hy, eq_self, decide_true, Bool.not_true]
    refine ⟨⟨trivial, trivial, trivial⟩, m - 1, by omega, k + 1, by omega, by simp, trivial, fun j hj => ?_⟩
    by_cases e : j = k
    ·subst e; exact hxy
    ·exact he j (by omega)
   ·have hnb : decide (xs.getD k [] = ys.getD k []) = false := decide_eq_false hxy
    simp -implicitDefEqProofs (disch := omega) only [Nat.reduceEqDiff, ↓reduceIte, vcu, ↓vcd, h0, h1, h5, hx, hy, hnb, Bool.not_false]
    refine fin_one Try.results37 ⟨?_, rfl⟩
    simp -implicitDefEqProofs (disch := omega) only [Nat.reduceEqDiff, ↓reduceIte, vcu, ↓vcd]
    have : xs ≠ ys := fun e => hxy (by rw [e])
    simp [this]
  ·simp -implicitDefEqProofs (disch := omega) only [Nat.reduceEqDiff, ↓reduceIte, vcu, ↓vcd, h0, h1, h5]
   refine fin_one Try.results37 ⟨?_, rfl⟩
   simp -implicitDefEqProofs (disch := omega) only [Nat.reduceEqDiff, ↓reduceIte, vcu, ↓vcd]
   have : xs = ys := by
    apply List.ext_getElem hlen
    intro i h1 h2
    have := he i (by omega)
    simpa [List.getD, h1, h2] using this
   simp [this]
 ·simp -implicitDefEqProofs (disch := omega) only [Nat.reduceEqDiff, ↓reduceIte, vcu, ↓vcd]
  refine fin_one Try.results37 ⟨?_, rfl⟩
  simp -implicitDefEqProofs (disch := omega) only [Nat.reduceEqDiff, ↓reduceIte, vcu, ↓vcd]
  have : xs ≠ ys := fun e => hlen (by rw [e])
  simp [this]
theorem sameS_calls (σ : AHeap) (v u : Value) (xs ys : List (List UInt8)) (hv : Texts σ v xs) (hu : Texts σ u ys) (hl : xs.length ≤ 1048576) (hl2 : ys.length ≤ 1048576) :
  ACall Try.prog w0 37 [v, u] σ fun r σ' => r = .bool (decide (xs = ys)) ∧ σ' = σ :=
 ACall.texts_quiet (pre := []) (post := [u]) (by kernel_rfl) hv fun σ1 h o hs hg =>
  ACall.texts_quiet (pre := [_]) (post := []) (by kernel_rfl) (hu.sub hs) fun σ2 g p hs2 hg2 => sameS_at σ2 h o g p xs ys (hg.sub hs2) hg2 hl hl2
end Go.Proofs.Ytofdnmlpfagibaa
namespace Go.Proofs.Ytofdnmlpfagibaa
open Go Go.Abs Go.RowKit
variable {w0 : World}
/-- a number of a plan -/
def PRow (ps : List (List UInt8)) (k : Nat) : Prop := DgT (ps.getD k []) ∧ (1 ≤ (ps.getD k []).length ∧ (ps.getD k []).length ≤ 3) ∧ ∀ j, j < ps.length → j ≠ k → ¬Beg (ps.getD k []) (ps.getD j [])
def PlanOk (ps : List (List UInt8)) : Prop := (∀ k, k < ps.length → PRow ps k) ∧ ps.length ≤ 10
instance (ps : List (List UInt8)) (k : Nat) : Decidable (PRow ps k) := inferInstanceAs (Decidable (_ ∧ _ ∧ _))
instance (ps : List (List UInt8)) : Decidable (PlanOk ps) := inferInstanceAs (Decidable (_ ∧ _))
theorem planValid_at (σ : AHeap) (h o : Nat) (ps : List (List UInt8)) (hv : TextsAt σ h o ps) (hl : ps.length ≤ 1048576) (hp : ∀ x ∈ ps, x.length ≤ 1048576) :
  ACall Try.prog w0 46 [.slice (some ⟨h, o, none⟩) ps.length 1] σ fun r σ' => r = .bool (decide (PlanOk ps)) ∧ σ' = σ := by
 refine acall_go mixed Try.func46 rfl good46 fun pr => ?_
 simp -implicitDefEqProofs (disch := omega) only [Nat.reduceEqDiff, ↓reduceIte, vcu, ↓vcd]
 refine vc_loop_c mixed (by kernel_rfl) [0] (fun m a σ' => ∃ k : Nat, m + k = ps.length ∧ a 3 = .int .i64 k ∧ (∀ j, j < k → PRow ps j) ∧ σ' = σ) ps.length ⟨0, by simp, rfl, fun j hj => absurd hj (by omega), rfl⟩ ?_
 rintro m a σ' hc ⟨k, hk, h3, hall, rfl⟩
 simp -implicitDefEqProofs (disch := omega) only [Nat.reduceEqDiff, ↓reduceIte, vcu, ↓vcd] at hc
 obtain ⟨h0, -⟩ := hc
 by_cases hlt : k < ps.length
 ·have hx := hv k hlt
  have hmem : ps.getD k [] ∈ ps := by simp [List.getD, hlt]
  have hb := hp _ hmem
  have stop : ∀ {P : Prop}, (PRow ps k → P) → ¬P → ¬PlanOk ps := fun h1 h2 h3 => h2 (h1 (h3.1 k hlt))
  by_cases hd : DgT (ps.getD k [])
  ·have hd1 : decide (DgT (ps.getD k [])) = true := decide_eq_true hd
   by_cases hr : 1 ≤ (ps.getD k []).length ∧ (ps.getD k []).length ≤ 3
   ·have hr1 : decide ((1 : Int) ≤ ((ps.getD k []).length : Int) ∧ ((ps.getD k []).length : Int) ≤ 3) = true := decide_eq_true (by omega)
    simp -implicitDefEqProofs (disch := omega) only [Nat.reduceEqDiff, ↓reduceIte, vcu, ↓vcd, h0, h3, hx]
    refine (digits_calls _ _ hb).mono ?_
    rintro r τ ⟨rfl, rfl⟩
    simp -implicitDefEqProofs (disch := omega) only [Nat.reduceEqDiff, ↓reduceIte, vcu, ↓vcd, opK_some, h0, h3, hx, hd1]
    refine (in_calls _ _ 1 3).mono ?_
    rintro r τ ⟨rfl, rfl⟩
    simp -implicitDefEqProofs (disch := omega) only [Nat.reduceEqDiff, ↓reduceIte, vcu, ↓vcd, opK_some, h0, h3, hx, hr1]
    refine vc_loop_c mixed (by kernel_rfl) [0, 3] (fun m a σ' => ∃ j : Nat, m + j = ps.length ∧ a 4 = .int .i64 j ∧ (∀ i, i < j → i ≠ k → ¬Beg (ps.getD k []) (ps.getD i [])) ∧ σ' = τ) ps.length ⟨0, by simp, rfl, fun j hj => absurd hj (by omega), rfl⟩ ?_
    rintro m2 a2 σ2 hc2 ⟨j, hj, h4, hin, rfl⟩
    simp -implicitDefEqProofs (disch := omega) only [Nat.reduceEqDiff, ↓reduceIte, vcu, ↓vcd, h0, h3] at hc2
    obtain ⟨g0, g3, -⟩ := hc2
    by_cases hjl : j < ps.length
    ·have hy := hv j hjl
     by_cases hjk : j = k
     ·subst hjk
      simp -implicitDefEqProofs (disch := omega) only [Nat.reduceEqDiff, ↓reduceIte, vcu, ↓vcd, g0, g3, h4, hx, hy]
      exact ⟨⟨h0.symm, h3.symm, trivial⟩, m2 - 1, by omega, j + 1, by omega, by simp, fun i hi hne => hin i (by omega) hne, trivial⟩
     ·have hne : decide ((j : Int) ≠ (k : Int)) = true := decide_eq_true (by omega)
      by_cases hbg : Beg (ps.getD k []) (ps.getD j [])
      ·have hb1 : decide (Beg (ps.getD k []) (ps.getD j [])) = true := decide_eq_true hbg
       simp -implicitDefEqProofs (disch := omega) only [Nat.reduceEqDiff, ↓reduceIte, vcu, ↓vcd, g0, g3, h4, hx, hy, hne]
       rw [r_callq]
       refine ⟨_, begins_calls _ _ _, ?_⟩
       simp -implicitDefEqProofs (disch := omega) only [Nat.reduceEqDiff, ↓reduceIte, vcu, ↓vcd, g0, g3, h4, hx, hy, hne, hb1]
       refine fin_one Try.results46 ⟨?_, rfl⟩
       simp -implicitDefEqProofs (disch := omega) only [Nat.reduceEqDiff, ↓reduceIte, vcu, ↓vcd]
       simp [stop (fun h => h.2.2 j hjl hjk) (fun h => h hbg)]
      ·have hb1 : decide (Beg (ps.getD k []) (ps.getD j [])) = false := decide_eq_false hbg
       simp -implicitDefEqProofs (disch := omega) only [Nat.reduceEqDiff, ↓reduceIte, vcu, ↓vcd, g0, g3, h4, hx, hy, hne]
       rw [r_callq]
       refine ⟨_, begins_calls _ _ _, ?_⟩
       simp -implicitDefEqProofs (disch := omega) only [Nat.reduceEqDiff, ↓reduceIte, vcu, ↓vcd, g0, g3, h4, hx, hy, hne, hb1]
       refine ⟨⟨h0.symm, h3.symm, trivial⟩, m2 - 1, by omega, j + 1, by omega, by simp, fun i hi hne' => ?_, trivial⟩
       by_cases e : i = j
       ·subst e; exact hbg
       ·exact hin i (by omega) hne'
    ·simp -implicitDefEqProofs (disch := omega) only [Nat.reduceEqDiff, ↓reduceIte, vcu, ↓vcd, g0, g3, h4]
     refine ⟨⟨trivial, trivial⟩, m - 1, by omega, k + 1, by omega, by simp, fun i hi => ?_, trivial⟩
     by_cases e : i = k
     ·subst e; exact ⟨hd, hr, fun i' h1 h2 => hin i' (by omega) h2⟩
     ·exact hall i (by omega)
   ·have hr1 : decide ((1 : Int) ≤ ((ps.getD k []).length : Int) ∧ ((ps.getD k []).length : Int) ≤ 3) = false := decide_eq_false (by omega)
    simp -implicitDefEqProofs (disch := omega) only [Nat.reduceEqDiff, ↓reduceIte, vcu, ↓vcd, h0, h3, hx]
    refine (digits_calls _ _ hb).mono ?_
    rintro r τ ⟨rfl, rfl⟩
    simp -implicitDefEqProofs (disch := omega) only [Nat.reduceEqDiff, ↓reduceIte, vcu, ↓vcd, opK_some, h0, h3, hx, hd1]
    refine (in_calls _ _ 1 3).mono ?_
    rintro r τ ⟨rfl, rfl⟩
    simp -implicitDefEqProofs (disch := omega) only [Nat.reduceEqDiff, ↓reduceIte, vcu, ↓vcd, opK_some, h0, h3, hx, hr1]
    refine fin_one Try.results46 ⟨?_, rfl⟩
    simp -implicitDefEqProofs (disch := omega) only [Nat.reduceEqDiff, ↓reduceIte, vcu, ↓vcd]
    simp [stop (fun h => h.2.1) hr]
  ·have hd1 : decide (DgT (ps.getD k [])) = false := decide_eq_false hd
   simp -implicitDefEqProofs (disch := omega) only [Nat.reduceEqDiff, ↓reduceIte, vcu, ↓vcd, h0, h3, hx]
   refine (digits_calls _ _ hb).mono ?_
   rintro r τ ⟨rfl, rfl⟩
   simp -implicitDefEqProofs (disch := omega) only [Nat.reduceEqDiff, ↓reduceIte, vcu, ↓vcd, opK_some, h0, h3, hx, hd1]
   refine fin_one Try.results46 ⟨?_, rfl⟩
   simp -implicitDefEqProofs (disch := omega) only [Nat.reduceEqDiff, ↓reduceIte, vcu, ↓vcd]
   simp [stop (fun h => h.1) hd]
 ·simp -implicitDefEqProofs (disch := omega) only [Nat.reduceEqDiff, ↓reduceIte, vcu, ↓vcd, h0, h3]
  refine fin_one Try.results46 ⟨?_, rfl⟩
  simp -implicitDefEqProofs (disch := omega) only [Nat.reduceEqDiff, ↓reduceIte, vcu, ↓vcd]
  congr 1
  rw [decide_eq_decide]
  exact ⟨fun h => ⟨fun j hj => hall j (by omega), by omega⟩, fun h => by have := h.2; omega⟩
end Go.Proofs.Ytofdnmlpfagibaa
namespace Go.Proofs.Ytofdnmlpfagibaa
open Go Go.Abs Go.RowKit
variable {w0 : World}
/-- valid lengths -/
def LnOk (xs : List Int) : Prop := (∀ k, k < xs.length → 1 ≤ xs.getD k 0 ∧ xs.getD k 0 ≤ 3) ∧ xs.length ≤ 10
instance (xs : List Int) : Decidable (LnOk xs) := inferInstanceAs (Decidable (_ ∧ _))
theorem lnValid_at (σ : AHeap) (h o : Nat) (xs : List Int) (hv : IntsAt .i64 σ h o xs) (hl : xs.length ≤ 1048576) :
  ACall Try.prog w0 91 [.slice (some ⟨h, o, none⟩) xs.length 1] σ fun r σ' => r = .bool (decide (LnOk xs)) ∧ σ' = σ := by
 refine acall_go mixed Try.func91 rfl good91 fun pr => ?_
 simp -implicitDefEqProofs (disch := omega) only [Nat.reduceEqDiff, ↓reduceIte, vcu, ↓vcd]
 refine vc_loop_c mixed (by kernel_rfl) [0] (fun m a σ' => ∃ k : Nat, m + k = xs.length ∧ a 3 = .int .i64 k ∧ (∀ j, j < k → 1 ≤ xs.getD j 0 ∧ xs.getD j 0 ≤ 3) ∧ σ' = σ) xs.length ⟨0, by simp, rfl, fun j hj => absurd hj (by omega), rfl⟩ ?_
 rintro m a σ' hc ⟨k, hk, h3, hall, rfl⟩
 simp -implicitDefEqProofs (disch := omega) only [Nat.reduceEqDiff, ↓reduceIte, vcu, ↓vcd] at hc
 obtain ⟨h0, -⟩ := hc
 by_cases hlt : k < xs.length
 ·have hx := hv k hlt
  by_cases hin : 1 ≤ xs.getD k 0 ∧ xs.getD k 0 ≤ 3
  ·have h1 : decide (1 ≤ xs.getD k 0 ∧ xs.getD k 0 ≤ 3) = true := decide_eq_true hin
   simp -implicitDefEqProofs (disch := omega) only [Nat.reduceEqDiff, ↓reduceIte, vcu, ↓vcd, h0, h3, hx]
   refine (in_calls _ _ 1 3).mono ?_
   rintro r τ ⟨rfl, rfl⟩
   simp -implicitDefEqProofs (disch := omega) only [Nat.reduceEqDiff, ↓reduceIte, vcu, ↓vcd, opK_some, h0, h3, hx, h1]
   refine ⟨⟨trivial, trivial⟩, m - 1, by omega, k + 1, by omega, by simp, fun j hj => ?_, trivial⟩
   by_cases e : j = k
   ·subst e; exact hin
   ·exact hall j (by omega)
  ·have h1 : decide (1 ≤ xs.getD k 0 ∧ xs.getD k 0 ≤ 3) = false := decide_eq_false hin
   simp -implicitDefEqProofs (disch := omega) only [Nat.reduceEqDiff, ↓reduceIte, vcu, ↓vcd, h0, h3, hx]
   refine (in_calls _ _ 1 3).mono ?_
   rintro r τ ⟨rfl, rfl⟩
   simp -implicitDefEqProofs (disch := omega) only [Nat.reduceEqDiff, ↓reduceIte, vcu, ↓vcd, opK_some, h0, h3, hx, h1]
   refine fin_one Try.results91 ⟨?_, rfl⟩
   simp -implicitDefEqProofs (disch := omega) only [Nat.reduceEqDiff, ↓reduceIte, vcu, ↓vcd]
   have : ¬LnOk xs := fun h => hin (h.1 k hlt)
   simp [this]
 ·simp -implicitDefEqProofs (disch := omega) only [Nat.reduceEqDiff, ↓reduceIte, vcu, ↓vcd, h0, h3]
  refine fin_one Try.results91 ⟨?_, rfl⟩
  simp -implicitDefEqProofs (disch := omega) only [Nat.reduceEqDiff, ↓reduceIte, vcu, ↓vcd]
  congr 1
  rw [decide_eq_decide]
  exact ⟨fun h => ⟨fun j hj => hall j (by omega), by omega⟩, fun h => by have := h.2; omega⟩
/-- sums of shares -/
def shS (xs : List Int) : Nat → Int
 | 0 => 0
 | k + 1 => shS xs k + pw (3 - xs.getD k 0).toNat
theorem pw_le {n : Nat} (h : n ≤ 3) : 1 ≤ pw n ∧ pw n ≤ 64 := ⟨pw_pos n, pw_mono (n := 3) h⟩
theorem shS_le {xs : List Int} (h : ∀ j, j < xs.length → 0 ≤ xs.getD j 0) : ∀ k, k ≤ xs.length → 0 ≤ shS xs k ∧ shS xs k ≤ 64 * k
 | 0, _ => by simp [shS]
 | k + 1, hk => by
  have h1 := shS_le h k (by omega)
  have h2 := h k (by omega)
  have h3 := pw_le (n := (3 - xs.getD k 0).toNat) (by omega)
  simp only [shS]; omega
def shareV (xs : List Int) : Int := if LnOk xs then shS xs xs.length else -1
theorem shareV_le (xs : List Int) : -1 ≤ shareV xs ∧ shareV xs ≤ 640 := by
 unfold shareV
 split
 ·rename_i h
  have := shS_le (fun j hj => by have := h.1 j hj; omega) xs.length (Nat.le_refl _)
  have := h.2
  omega
 ·omega
theorem share_at (σ : AHeap) (h o : Nat) (xs : List Int) (hv : IntsAt .i64 σ h o xs) (hl : xs.length ≤ 1048576) :
  ACall Try.prog w0 92 [.slice (some ⟨h, o, none⟩) xs.length 1] σ fun r σ' => r = .int .i64 (shareV xs) ∧ σ' = σ := by
 refine acall_go mixed Try.func92 rfl good92 fun pr => ?_
 simp -implicitDefEqProofs (disch := omega) only [Nat.reduceEqDiff, ↓reduceIte, vcu, ↓vcd]
 refine (lnValid_at _ h o xs hv hl).mono ?_
 rintro r τ ⟨rfl, rfl⟩
 by_cases hok : LnOk xs
 ·have h1 : decide (LnOk xs) = true := decide_eq_true hok
  simp -implicitDefEqProofs (disch := omega) only [Nat.reduceEqDiff, ↓reduceIte, vcu, ↓vcd, opK_some, h1]
  refine vc_loop_c mixed (by kernel_rfl) [0] (fun m a σ' => ∃ k : Nat, m + k = xs.length ∧ a 4 = .int .i64 k ∧ a 3 = .int .i64 (shS xs k) ∧ σ' = τ) xs.length ⟨0, by simp, rfl, rfl, rfl⟩ ?_
  rintro m a σ' hc ⟨k, hk, h4, h3, rfl⟩
  simp -implicitDefEqProofs (disch := omega) only [Nat.reduceEqDiff, ↓reduceIte, vcu, ↓vcd] at hc
  obtain ⟨h0, -⟩ := hc
  have hb := shS_le (fun j hj => by have := hok.1 j hj; omega) k (by omega)
  by_cases hlt : k < xs.length
  ·have hx := hv k hlt
   have hin := hok.1 k hlt
   have hp := pw_le (n := (3 - xs.getD k 0).toNat) (by omega)
   simp -implicitDefEqProofs (disch := omega) only [Nat.reduceEqDiff, ↓reduceIte, vcu, ↓vcd, h0, h3, h4, hx]
   rw [show (3 - xs.getD k 0) = (((3 - xs.getD k 0).toNat : Nat) : Int) by omega]
   refine (power_calls _ _ (by omega)).mono ?_
   rintro r τ ⟨rfl, rfl⟩
   simp -implicitDefEqProofs (disch := omega) only [Nat.reduceEqDiff, ↓reduceIte, vcu, ↓vcd, opK_some, h0, h3, h4, hx]
   exact ⟨⟨trivial, trivial⟩, m - 1, by omega, k + 1, by omega, by simp, by simp only [shS, Int.toNat_natCast], trivial⟩
  ·simp -implicitDefEqProofs (disch := omega) only [Nat.reduceEqDiff, ↓reduceIte, vcu, ↓vcd, h0, h3, h4]
   have e : k = xs.length := by omega
   refine fin_one Try.results92 ⟨?_, rfl⟩
   simp -implicitDefEqProofs (disch := omega) only [Nat.reduceEqDiff, ↓reduceIte, vcu, ↓vcd, h3]
   rw [shareV, if_pos hok, e]
 ·have h1 : decide (LnOk xs) = false := decide_eq_false hok
  simp -implicitDefEqProofs (disch := omega) only [Nat.reduceEqDiff, ↓reduceIte, vcu, ↓vcd, opK_some, h1]
  refine fin_one Try.results92 ⟨?_, rfl⟩
  simp -implicitDefEqProofs (disch := omega) only [Nat.reduceEqDiff, ↓reduceIte, vcu, ↓vcd]
  rw [shareV, if_neg hok]
end Go.Proofs.Ytofdnmlpfagibaa
namespace Go.Proofs.Ytofdnmlpfagibaa
open Go Go.Abs Go.RowKit
variable {w0 : World}
theorem own_textsI {σ : AHeap} {g : Nat} {xs : List (List UInt8)} (h : σ g = some ⟨texts xs, false⟩) : Texts σ (.slice (some ⟨g, 0, none⟩) xs.length 1) xs := .inr ⟨g, 0, rfl, textsAt_own h⟩
theorem planValid_calls (σ : AHeap) (v : Value) (ps : List (List UInt8)) (hv : Texts σ v ps) (hl : ps.length ≤ 1048576) (hp : ∀ x ∈ ps, x.length ≤ 1048576) : ACall Try.prog w0 46 [v] σ fun r σ' => r = .bool (decide (PlanOk ps)) ∧ σ' = σ :=
 ACall.texts_quiet (pre := []) (post := []) (by kernel_rfl) hv fun σ1 h o _ hg => planValid_at σ1 h o ps hg hl hp
end Go.Proofs.Ytofdnmlpfagibaa
namespace Go.Proofs.Ytofdnmlpfagibaa
open Go Go.Abs Go.RowKit
variable {w0 : World}
/-- the first from k on of which it holds -/
def fstN (p : Nat → Bool) : Nat → Nat → Option Nat
 | _, 0 => none
 | k, m + 1 => if p k = true then some k else fstN p (k + 1) m
theorem fstN_some {p : Nat → Bool} : ∀ {m k i : Nat}, fstN p k m = some i → k ≤ i ∧ i < k + m ∧ p i = true
 | 0, _, _, h => by cases h
 | m + 1, k, i, h => by
  unfold fstN at h
  split at h
  ·rename_i hp; cases h; exact ⟨Nat.le_refl _, by omega, hp⟩
  ·have := fstN_some h; exact ⟨by omega, by omega, this.2.2⟩
def begB (ps : List (List UInt8)) (s : List UInt8) (k : Nat) : Bool := decide (Beg s (ps.getD k []))
def dialN (ps : List (List UInt8)) (s : List UInt8) : Option Nat := if PlanOk ps ∧ DgT s then fstN (begB ps s) 0 ps.length else none
def dialK (ps : List (List UInt8)) (s : List UInt8) : Int := match dialN ps s with | some k => k | none => -1
def dialL (ps : List (List UInt8)) (s : List UInt8) : Nat := match dialN ps s with | some k => (ps.getD k []).length | none => 0
end Go.Proofs.Ytofdnmlpfagibaa
namespace Go.Proofs.Ytofdnmlpfagibaa
open Go Go.Abs Go.RowKit
variable {w0 : World}
/-- the lengths of a valid plan -/
def lensV (ps : List (List UInt8)) : List Int := if PlanOk ps then ps.map fun p => (p.length : Int) else []
theorem dialN_ok {ps : List (List UInt8)} {t : List UInt8} {k : Nat} (h : dialN ps t = some k) : PlanOk ps ∧ k < ps.length ∧ 1 ≤ (ps.getD k []).length ∧ (ps.getD k []).length ≤ t.length := by
 unfold dialN at h
 split at h
 ·rename_i hp
  obtain ⟨-, h1, h2⟩ := fstN_some h
  have := hp.1.1 k (by omega)
  exact ⟨hp.1, by omega, this.2.1.1, (of_decide_eq_true h2).1⟩
 ·cases h
end Go.Proofs.Ytofdnmlpfagibaa
namespace Go.Proofs.Ytofdnmlpfagibaa
open Go Go.Abs Go.RowKit
variable {w0 : World}
/-- numbers of one length, in their order -/
def pfK (xs : List Int) (L : Nat) (st : List (List UInt8) × Nat) : Nat → List (List UInt8) × Nat
 | 0 => st
 | k + 1 => if xs.getD k 0 = (L : Int) then ((pfK xs L st k).1.set k (txV ((pfK xs L st k).2 / 4 ^ (3 - L)) L), (pfK xs L st k).2 + 4 ^ (3 - L)) else pfK xs L st k
/-- numbers of the lengths up to one -/
def pfL (xs : List Int) : Nat → List (List UInt8) × Nat
 | 0 => (List.replicate xs.length [], 0)
 | L + 1 => pfK xs (L + 1) (pfL xs L) xs.length
theorem four_le {n : Nat} (h : n ≤ 3) : 1 ≤ 4 ^ n ∧ 4 ^ n ≤ 64 := ⟨Nat.pos_of_ne_zero (by simp), by have := Nat.pow_le_pow_right (n := 4) (by omega) h; simpa using this⟩
theorem pfK_facts (xs : List Int) (L : Nat) (st : List (List UInt8) × Nat) : ∀ k, (pfK xs L st k).1.length = st.1.length ∧ (pfK xs L st k).2 ≤ st.2 + 64 * k
 | 0 => by simp [pfK]
 | k + 1 => by
  have h := pfK_facts xs L st k
  have h2 := four_le (n := 3 - L) (by omega)
  unfold pfK
  split
  ·simp only [List.length_set]; exact ⟨h.1, by omega⟩
  ·exact ⟨h.1, by omega⟩
theorem pfL_facts (xs : List Int) (hx : xs.length ≤ 10) : ∀ L, (pfL xs L).1.length = xs.length ∧ (pfL xs L).2 ≤ 640 * L
 | 0 => by simp [pfL]
 | L + 1 => by
  have h := pfL_facts xs hx L
  have h2 := pfK_facts xs (L + 1) (pfL xs L) xs.length
  simp only [pfL]
  exact ⟨h2.1.trans h.1, by omega⟩
def pfOk (xs : List Int) : Prop := LnOk xs ∧ shareV xs ≤ 64
instance (xs : List Int) : Decidable (pfOk xs) := inferInstanceAs (Decidable (_ ∧ _))
/-- the plan for valid lengths -/
def planV (xs : List Int) : List (List UInt8) := if pfOk xs then (pfL xs 3).1 else []
theorem pw_nat (n : Nat) : pw n = ((4 ^ n : Nat) : Int) := by simp [pw]
theorem planFor_at (σ : AHeap) (h o : Nat) (xs : List Int) (hv : IntsAt .i64 σ h o xs) (hl : xs.length ≤ 1048576) :
  ACall Try.prog w0 68 [.slice (some ⟨h, o, none⟩) xs.length 1] σ fun r σ' => ∃ v, r = .tuple #[v, .bool (decide (pfOk xs))] ∧ Sub σ σ' ∧ OwnS σ σ' v (planV xs) := by
 refine acall_go mixed Try.func68 rfl good68 fun pr => ?_
 simp -implicitDefEqProofs (disch := omega) only [Nat.reduceEqDiff, ↓reduceIte, vcu, ↓vcd]
 refine (lnValid_at _ h o xs hv hl).mono ?_
 rintro r τ ⟨rfl, rfl⟩
 by_cases hln : LnOk xs
 case neg =>
  have d1 : decide (LnOk xs) = false := decide_eq_false hln
  have hno : ¬pfOk xs := fun h => hln h.1
  have hV : planV xs = [] := if_neg hno
  simp -implicitDefEqProofs (disch := omega) only [Nat.reduceEqDiff, ↓reduceIte, vcu, ↓vcd, opK_some, d1]
  refine r_lit el25 (out := #[]) (by kernel_rfl) (by kernel_rfl) fun e5 τ5 n5 s5 v5 => ?_
  simp -implicitDefEqProofs (disch := omega) only [Nat.reduceEqDiff, ↓reduceIte, vcu, ↓vcd]
  refine fin_two Try.results68 ⟨.slice (some ⟨e5, 0, none⟩) 0 1, ?_, s5, .inr ⟨e5, by rw [hV]; rfl, by rw [hV]; exact v5, n5⟩⟩
  simp -implicitDefEqProofs (disch := omega) only [Nat.reduceEqDiff, ↓reduceIte, vcu, ↓vcd]
  rw [decide_eq_false hno]
 have d1 : decide (LnOk xs) = true := decide_eq_true hln
 have hsv := shareV_le xs
 have hp3 : pw 3 = 64 := rfl
 simp -implicitDefEqProofs (disch := omega) only [Nat.reduceEqDiff, ↓reduceIte, vcu, ↓vcd, opK_some, d1]
 refine (share_at _ h o xs hv hl).mono ?_
 rintro r τ ⟨rfl, rfl⟩
 simp -implicitDefEqProofs (disch := omega) only [Nat.reduceEqDiff, ↓reduceIte, vcu, ↓vcd, opK_some]
 refine (power_calls _ 3 (by omega)).mono ?_
 rintro r τ ⟨rfl, rfl⟩
 by_cases hsh : shareV xs ≤ 64
 case neg =>
  have hno : ¬pfOk xs := fun h => hsh h.2
  have hV : planV xs = [] := if_neg hno
  simp -implicitDefEqProofs (disch := omega) only [Nat.reduceEqDiff, ↓reduceIte, vcu, ↓vcd, opK_some, hp3]
  refine r_lit el25 (out := #[]) (by kernel_rfl) (by kernel_rfl) fun e5 τ5 n5 s5 v5 => ?_
  simp -implicitDefEqProofs (disch := omega) only [Nat.reduceEqDiff, ↓reduceIte, vcu, ↓vcd]
  refine fin_two Try.results68 ⟨.slice (some ⟨e5, 0, none⟩) 0 1, ?_, s5, .inr ⟨e5, by rw [hV]; rfl, by rw [hV]; exact v5, n5⟩⟩
  simp -implicitDefEqProofs (disch := omega) only [Nat.reduceEqDiff, ↓reduceIte, vcu, ↓vcd]
  rw [decide_eq_false hno]
 have hok : pfOk xs := ⟨hln, hsh⟩
 have hx10 := hln.2
 simp -implicitDefEqProofs (disch := omega) only [Nat.reduceEqDiff, ↓reduceIte, vcu, ↓vcd, opK_some, hp3]
 refine r_makeX (kx := .i64) (ky := .i64) (l := xs.length) (c := xs.length) el25 (by omega) z9q z9q (by omega) fun g τ1 hg hs he => ?_
 simp -implicitDefEqProofs (disch := omega) only [Nat.reduceEqDiff, ↓reduceIte, vcu, ↓vcd]
 refine vc_loop_c mixed (by kernel_rfl) [0, 4] (fun m a σ' => ∃ L : Nat, m + L = 3 ∧ a 6 = .int .i64 ((L + 1 : Nat) : Int) ∧ a 5 = .int .i64 ((pfL xs L).2 : Int) ∧ Kept g τ1 σ' ∧ σ' g = some ⟨texts (pfL xs L).1, false⟩) 3 ⟨0, by simp, rfl, rfl, Kept.refl _ _, he⟩ ?_
 rintro m a σ1 hc ⟨L, hL, h6, h5, hkp, hgk⟩
 simp -implicitDefEqProofs (disch := omega) only [Nat.reduceEqDiff, ↓reduceIte, vcu, ↓vcd] at hc
 obtain ⟨h0, h4, -⟩ := hc
 have hLf := pfL_facts xs hx10 L
 by_cases hlt : L < 3
 ·have hq := four_le (n := 3 - (L + 1)) (by omega)
  simp -implicitDefEqProofs (disch := omega) only [Nat.reduceEqDiff, ↓reduceIte, vcu, ↓vcd, h0, h4, h5, h6]
  refine vc_loop_c mixed (by kernel_rfl) [0, 4, 6] (fun m a σ' => ∃ k : Nat, m + k = xs.length ∧ a 7 = .int .i64 k ∧ a 5 = .int .i64 ((pfK xs (L + 1) (pfL xs L) k).2 : Int) ∧ Kept g τ1 σ' ∧ σ' g = some ⟨texts (pfK xs (L + 1) (pfL xs L) k).1, false⟩) xs.length ⟨0, by simp, rfl, h5, hkp, hgk⟩ ?_
  rintro m2 a2 σ2 hc2 ⟨k, hk, g7, g5, kp2, gk2⟩
  simp -implicitDefEqProofs (disch := omega) only [Nat.reduceEqDiff, ↓reduceIte, vcu, ↓vcd, h0, h4, h6] at hc2
  obtain ⟨g0, g4, g6, -⟩ := hc2
  have hKf := pfK_facts xs (L + 1) (pfL xs L) k
  have hKs : pfK xs (L + 1) (pfL xs L) (k + 1) = if xs.getD k 0 = ((L + 1 : Nat) : Int) then ((pfK xs (L + 1) (pfL xs L) k).1.set k (txV ((pfK xs (L + 1) (pfL xs L) k).2 / 4 ^ (3 - (L + 1))) (L + 1)), (pfK xs (L + 1) (pfL xs L) k).2 + 4 ^ (3 - (L + 1))) else pfK xs (L + 1) (pfL xs L) k := rfl
  by_cases hkl : k < xs.length
  ·have hx := (hv.sub (kp2.sub hs hg)) k hkl
   generalize hst : pfK xs (L + 1) (pfL xs L) k = st at g5 gk2 hKf hKs
   generalize hqd : 4 ^ (3 - (L + 1)) = q at hq hKs
   by_cases hxe : xs.getD k 0 = ((L + 1 : Nat) : Int)
   ·rw [if_pos hxe] at hKs
    rw [hxe] at hx
    have hpw : pw (3 - (L + 1)) = (q : Int) := by rw [pw_nat, hqd]
    simp -implicitDefEqProofs (disch := omega) only [Nat.reduceEqDiff, ↓reduceIte, vcu, ↓vcd, g0, g4, g5, g6, g7, hx]
    rw [show ((3 : Int) - ((L + 1 : Nat) : Int)) = ((3 - (L + 1) : Nat) : Int) by omega]
    refine (power_calls _ (3 - (L + 1)) (by omega)).mono ?_
    rintro r τ ⟨rfl, rfl⟩
    simp -implicitDefEqProofs (disch := omega) only [Nat.reduceEqDiff, ↓reduceIte, vcu, ↓vcd, opK_some, g0, g4, g5, g6, g7, hx, hpw]
    have hdle : st.2 / q ≤ st.2 := Nat.div_le_self _ _
    rw [← Int.natCast_ediv]
    refine (text_calls _ (st.2 / q) (L + 1) (by omega) (by omega)).mono ?_
    rintro r τ ⟨rfl, rfl⟩
    simp -implicitDefEqProofs (disch := omega) only [Nat.reduceEqDiff, ↓reduceIte, vcu, ↓vcd, opK_some, g0, g4, g5, g6, g7]
    refine r_setX (g := g) (i := 0 + k) (v := txV (st.2 / q) (L + 1)) (by simp -implicitDefEqProofs (disch := omega) only [Nat.reduceEqDiff, ↓reduceIte, vcu, ↓vcd, g4]) z9q co9 gk2 (by rw [hKf.1, hLf.1]; omega) fun τ3 k3 e3 => ?_
    rw [Nat.zero_add] at e3
    simp -implicitDefEqProofs (disch := omega) only [Nat.reduceEqDiff, ↓reduceIte, vcu, ↓vcd, g0, g4, g5, g6, g7]
    rw [show ((3 : Int) - ((L + 1 : Nat) : Int)) = ((3 - (L + 1) : Nat) : Int) by omega]
    refine (power_calls _ (3 - (L + 1)) (by omega)).mono ?_
    rintro r τ ⟨rfl, rfl⟩
    simp -implicitDefEqProofs (disch := omega) only [Nat.reduceEqDiff, ↓reduceIte, vcu, ↓vcd, opK_some, g0, g4, g5, g6, g7, hpw]
    exact ⟨⟨h0.symm, h4.symm, h6.symm, trivial⟩, m2 - 1, by omega, k + 1, by omega, by simp, by rw [hKs]; simp, kp2.trans k3, by rw [hKs]; exact e3⟩
   ·rw [if_neg hxe] at hKs
    simp -implicitDefEqProofs (disch := omega) only [Nat.reduceEqDiff, ↓reduceIte, vcu, ↓vcd, g0, g4, g5, g6, g7, hx]
    exact ⟨⟨h0.symm, h4.symm, h6.symm, trivial⟩, m2 - 1, by omega, k + 1, by omega, by simp, by rw [hKs], kp2, by rw [hKs]; exact gk2⟩
  ·obtain rfl : k = xs.length := by omega
   simp -implicitDefEqProofs (disch := omega) only [Nat.reduceEqDiff, ↓reduceIte, vcu, ↓vcd, g0, g4, g5, g6, g7]
   exact ⟨⟨trivial, trivial, trivial⟩, m - 1, by omega, L + 1, by omega, by simp, rfl, kp2, gk2⟩
 ·obtain rfl : L = 3 := by omega
  simp -implicitDefEqProofs (disch := omega) only [Nat.reduceEqDiff, ↓reduceIte, vcu, ↓vcd, h0, h4, h5, h6]
  have hV : planV xs = (pfL xs 3).1 := if_pos hok
  refine fin_two Try.results68 ⟨.slice (some ⟨g, 0, none⟩) xs.length 1, ?_, hkp.sub hs hg, .inr ⟨g, by rw [hV, hLf.1], by rw [hV]; exact hgk, hg⟩⟩
  simp -implicitDefEqProofs (disch := omega) only [Nat.reduceEqDiff, ↓reduceIte, vcu, ↓vcd, h4]
  rw [decide_eq_true hok]
end Go.Proofs.Ytofdnmlpfagibaa
namespace Go.Proofs.Ytofdnmlpfagibaa
open Go Go.Abs Go.RowKit
variable {w0 : World}
theorem planFor_calls (σ : AHeap) (v : Value) (xs : List Int) (hv : Ints .i64 σ v xs) (hl : xs.length ≤ 1048576) :
  ACall Try.prog w0 68 [v] σ fun r σ' => ∃ v, r = .tuple #[v, .bool (decide (pfOk xs))] ∧ Sub σ σ' ∧ OwnS σ σ' v (planV xs) :=
 ACall.ints_arg (pre := []) (post := []) (by kernel_rfl) hv fun σ1 h o hs1 hg => (planFor_at σ1 h o xs hg hl).mono fun _ _ ⟨v, e, s, O⟩ => ⟨v, e, hs1.trans s, O.older hs1⟩
end Go.Proofs.Ytofdnmlpfagibaa
namespace Go.Proofs.Ytofdnmlpfagibaa
open Go Go.Abs Go.RowKit
def shr : List Int → Int
 | [] => 0
 | l :: ls => 4 ^ (3 - l).toNat + shr ls
end Go.Proofs.Ytofdnmlpfagibaa
namespace Go.Proofs.Ytofdnmlpfagibaa
open Go Go.Abs Go.RowKit
theorem Beg.refl (s : List UInt8) : Beg s s := ⟨Nat.le_refl _, List.take_length⟩
/-- of two beginnings of a text the shorter one is one of the longer one -/
theorem Beg.both {s t u : List UInt8} (h : Beg s t) (h2 : Beg s u) (hl : u.length ≤ t.length) : Beg t u := by
 refine ⟨hl, ?_⟩
 rw [← h.2, List.take_take, Nat.min_eq_left hl]
 exact h2.2
theorem Beg.append (s t : List UInt8) : Beg (s ++ t) s := ⟨by simp, by simp⟩
theorem DgT.app {a b : List UInt8} (ha : DgT a) (hb : DgT b) : DgT (a ++ b) := fun x hx => (List.mem_append.1 hx).elim (ha x) (hb x)
theorem txV_dg : ∀ (n v : Nat), DgT (txV v n)
 | 0, _ => fun x hx => by simp [txV] at hx
 | n + 1, v => (txV_dg n (v / 4)).app fun x hx => by
  rw [List.mem_singleton] at hx
  subst hx
  have : v % 4 < 4 := Nat.mod_lt _ (by omega)
  have e : (UInt8.ofNat (48 + v % 4)).toNat = 48 + v % 4 := by rw [UInt8.toNat_ofNat']; omega
  rw [e]; omega
theorem txV_take : ∀ (n m v : Nat), m ≤ n → (txV v n).take m = txV (v / 4 ^ (n - m)) m
  | 0, m, v, h => by obtain rfl : m = 0 := by omega
                     simp [txV]
  | n + 1, m, v, h => by
    by_cases e : m = n + 1
    · subst e
      rw [Nat.sub_self, Nat.pow_zero, Nat.div_one, List.take_of_length_le (by rw [txV_len]; exact Nat.le_refl _)]
    · rw [txV, List.take_append_of_le_length (by rw [txV_len]; omega), txV_take n m _ (by omega), Nat.div_div_eq_div_mul, show n + 1 - m = (n - m) + 1 by omega, Nat.pow_succ, Nat.mul_comm]
theorem txV_inj : ∀ (n v w : Nat), v < 4 ^ n → w < 4 ^ n → txV v n = txV w n → v = w
 | 0, v, w, hv, hw, _ => by simp at hv hw; omega
 | n + 1, v, w, hv, hw, h => by
  rw [Nat.pow_succ] at hv hw
  simp only [txV] at h
  obtain ⟨h1, h2⟩ := List.append_inj' h rfl
  have ih := txV_inj n (v / 4) (w / 4) (by omega) (by omega) h1
  have h3 : UInt8.ofNat (48 + v % 4) = UInt8.ofNat (48 + w % 4) := by simpa using h2
  have h4 := congrArg UInt8.toNat h3
  rw [UInt8.toNat_ofNat', UInt8.toNat_ofNat'] at h4
  omega
theorem beg_tx {n m v w : Nat} (hm : m ≤ n) (hw : w < 4 ^ n) (hv : v < 4 ^ m) : Beg (txV w n) (txV v m) ↔ w / 4 ^ (n - m) = v := by
 unfold Beg
 rw [txV_len, txV_len, txV_take n m w hm]
 have hlt : w / 4 ^ (n - m) < 4 ^ m := by
  apply Nat.div_lt_of_lt_mul
  rw [← Nat.pow_add, Nat.sub_add_cancel hm]; exact hw
 exact ⟨fun h => txV_inj m _ _ hlt hv h.2, fun h => ⟨hm, by rw [h]⟩⟩
theorem lens_getD {ps : List (List UInt8)} (h : PlanOk ps) {k : Nat} (hk : k < ps.length) : (lensV ps).getD k 0 = (ps.getD k []).length := by
 rw [lensV, if_pos h]; simp [List.getD, hk]
theorem lens_length {ps : List (List UInt8)} (h : PlanOk ps) : (lensV ps).length = ps.length := by rw [lensV, if_pos h]; simp
end Go.Proofs.Ytofdnmlpfagibaa
namespace Go.Proofs.Ytofdnmlpfagibaa
open Go Go.Abs Go.RowKit
/-- a sum over the first places -/
def sumN (f : Nat → Nat) : Nat → Nat
 | 0 => 0
 | n + 1 => sumN f n + f n
theorem sumN_congr {f g : Nat → Nat} : ∀ n, (∀ i, i < n → f i = g i) → sumN f n = sumN g n
 | 0, _ => rfl
 | n + 1, h => by rw [sumN, sumN, sumN_congr n fun i hi => h i (by omega), h n (by omega)]
theorem sumN_upd {f g : Nat → Nat} {k c : Nat} : ∀ n, k < n → (∀ i, i < n → i ≠ k → g i = f i) → g k = f k + c → sumN g n = sumN f n + c
 | 0, h, _, _ => by omega
 | n + 1, h, hne, hk => by
  rw [sumN, sumN]
  by_cases e : k = n
  ·subst e
   rw [sumN_congr k fun i hi => hne i (by omega) (by omega), hk]; omega
  ·rw [sumN_upd n (by omega) (fun i hi hn => hne i (by omega) hn) hk, hne n (by omega) (by omega)]; omega
/-- the length at a place; its share -/
def lnA (xs : List Int) (i : Nat) : Nat := (xs.getD i 0).toNat
def shA (xs : List Int) (i : Nat) : Nat := 4 ^ (3 - lnA xs i)
theorem shA_pos (xs : List Int) (i : Nat) : 0 < shA xs i := Nat.pos_of_ne_zero (by simp [shA])
theorem shS_sumN {xs : List Int} (h : LnOk xs) : ∀ k, k ≤ xs.length → shS xs k = (sumN (shA xs) k : Int)
 | 0, _ => rfl
 | k + 1, hk => by
  have h1 := h.1 k (by omega)
  rw [shS, shS_sumN h k (by omega), sumN, Int.natCast_add]
  congr 1
  unfold shA lnA pw
  rw [show (3 - xs.getD k 0).toNat = 3 - (xs.getD k 0).toNat by omega]
  simp
/-- which numbers are found before -/
def dn (xs : List Int) (L k i : Nat) : Prop := lnA xs i ≤ L ∨ (lnA xs i = L + 1 ∧ i < k)
instance (xs : List Int) (L k i : Nat) : Decidable (dn xs L k i) := inferInstanceAs (Decidable (_ ∨ _))
structure PfI (xs : List Int) (L k : Nat) (st : List (List UInt8) × Nat) : Prop where
 len : st.1.length = xs.length
 sum : st.2 = sumN (fun i => if dn xs L k i then shA xs i else 0) xs.length
 ex : ∃ a : Nat → Nat, (∀ i, i < xs.length → dn xs L k i → st.1.getD i [] = txV (a i / shA xs i) (lnA xs i) ∧ shA xs i ∣ a i ∧ a i + shA xs i ≤ st.2) ∧
  ∀ i j, i < xs.length → j < xs.length → dn xs L k i → dn xs L k j → i ≠ j → a i + shA xs i ≤ a j ∨ a j + shA xs j ≤ a i
theorem pfK_inv {xs : List Int} {L : Nat} (hL : L ≤ 2) {st : List (List UInt8) × Nat} (h0 : PfI xs L 0 st) (hd : 4 ^ (2 - L) ∣ st.2) : ∀ k, k ≤ xs.length → PfI xs L k (pfK xs (L + 1) st k) ∧ 4 ^ (2 - L) ∣ (pfK xs (L + 1) st k).2
 | 0, _ => ⟨h0, hd⟩
 | k + 1, hk => by
  obtain ⟨ih, id⟩ := pfK_inv hL h0 hd k (by omega)
  unfold pfK
  generalize pfK xs (L + 1) st k = s at *
  have hpw : 3 - (L + 1) = 2 - L := by omega
  by_cases e : xs.getD k 0 = ((L + 1 : Nat) : Int)
  ·rw [if_pos e]
   have hln : lnA xs k = L + 1 := by unfold lnA; rw [e]; rfl
   have hsh : shA xs k = 4 ^ (2 - L) := by unfold shA; rw [hln, hpw]
   rw [hpw, ← hsh]
   rw [← hsh] at id
   obtain ⟨a, a1, a2⟩ := ih.ex
   have hdn : ∀ i, i ≠ k → (dn xs L (k + 1) i ↔ dn xs L k i) := fun i hne => by unfold dn; omega
   have hdk : ¬ dn xs L k k := by unfold dn; omega
   have hdk1 : dn xs L (k + 1) k := .inr ⟨hln, by omega⟩
   refine ⟨⟨by simpa using ih.len, ?_, fun i => if i = k then s.2 else a i, fun i hi hdi => ?_, fun i j hi hj hdi hdj hne => ?_⟩, ?_⟩
   ·dsimp only
    rw [ih.sum]
    refine (sumN_upd (k := k) xs.length (by omega) (fun i hi hne => ?_) ?_).symm
    ·by_cases hh : dn xs L k i
     ·rw [if_pos hh, if_pos ((hdn i hne).2 hh)]
     ·rw [if_neg hh, if_neg fun h2 => hh ((hdn i hne).1 h2)]
    ·rw [if_neg hdk, if_pos hdk1, Nat.zero_add]
   ·dsimp only
    by_cases hik : i = k
    ·subst hik
     rw [if_pos rfl]
     refine ⟨?_, id, Nat.le_refl _⟩
     have : i < s.1.length := by rw [ih.len]; exact hi
     simp [List.getD, List.getElem?_set, this, hln]
    ·rw [if_neg hik]
     obtain ⟨c1, c2, c3⟩ := a1 i hi ((hdn i hik).1 hdi)
     refine ⟨?_, c2, by omega⟩
     rw [← c1]
     simp only [List.getD, List.getElem?_set, if_neg (show ¬ k = i by omega)]
   ·dsimp only
    by_cases hik : i = k
    ·subst hik
     have hjk : j ≠ i := fun e => hne e.symm
     have := (a1 j hj ((hdn j hjk).1 hdj)).2.2
     rw [if_pos rfl, if_neg hjk]
     exact .inr this
    ·by_cases hjk : j = k
     ·subst hjk
      have := (a1 i hi ((hdn i hik).1 hdi)).2.2
      rw [if_neg hik, if_pos rfl]
      exact .inl this
     ·rw [if_neg hik, if_neg hjk]
      exact a2 i j hi hj ((hdn i hik).1 hdi) ((hdn j hjk).1 hdj) hne
   ·exact Nat.dvd_add id (Nat.dvd_refl _)
  ·rw [if_neg e]
   refine ⟨?_, id⟩
   have hne : lnA xs k ≠ L + 1 := fun h => e (by unfold lnA at h; omega)
   have hdn : ∀ i, dn xs L (k + 1) i ↔ dn xs L k i := fun i => by
    by_cases h : i = k
    ·subst h; unfold dn; omega
    ·unfold dn; omega
   have hdf : dn xs L (k + 1) = dn xs L k := funext fun i => propext (hdn i)
   refine ⟨ih.len, ?_, ?_⟩
   ·rw [ih.sum]
    refine sumN_congr _ fun i _ => ?_
    by_cases hh : dn xs L k i
    ·rw [if_pos hh, if_pos ((hdn i).2 hh)]
    ·rw [if_neg hh, if_neg fun h2 => hh ((hdn i).1 h2)]
   ·rw [hdf]; exact ih.ex
theorem pfL_inv {xs : List Int} (h : LnOk xs) : ∀ L, L ≤ 3 → PfI xs L 0 (pfL xs L) ∧ 4 ^ (3 - L) ∣ (pfL xs L).2
 | 0, _ => by
  have hno : ∀ i, i < xs.length → ¬ dn xs 0 0 i := fun i hi => by have := h.1 i hi; unfold dn lnA; omega
  refine ⟨⟨by simp [pfL], ?_, fun _ => 0, fun i hi hd => absurd hd (hno i hi), fun i j hi hj hd => absurd hd (hno i hi)⟩, ⟨0, rfl⟩⟩
  rw [sumN_congr (g := fun _ => 0) _ fun i hi => if_neg (hno i hi)]
  have : ∀ n, sumN (fun _ => 0) n = 0 := fun n => by
   induction n with
   | zero => rfl
   | succ n ih => rw [sumN, ih]
  rw [this]; rfl
 | L + 1, hL => by
  obtain ⟨i1, i2⟩ := pfL_inv h L (by omega)
  have hd : 4 ^ (2 - L) ∣ (pfL xs L).2 := Nat.dvd_trans (Nat.pow_dvd_pow 4 (by omega)) i2
  obtain ⟨j1, j2⟩ := pfK_inv (by omega) i1 hd xs.length (Nat.le_refl _)
  refine ⟨?_, by rw [show 3 - (L + 1) = 2 - L by omega]; exact j2⟩
  have hdn : ∀ i, i < xs.length → (dn xs (L + 1) 0 i ↔ dn xs L xs.length i) := fun i hi => by unfold dn; omega
  refine ⟨j1.len, ?_, ?_⟩
  ·show (pfK xs (L + 1) (pfL xs L) xs.length).2 = _
   rw [j1.sum]
   refine sumN_congr _ fun i hi => ?_
   by_cases hh : dn xs L xs.length i
   ·rw [if_pos hh, if_pos ((hdn i hi).2 hh)]
   ·rw [if_neg hh, if_neg fun h2 => hh ((hdn i hi).1 h2)]
  ·obtain ⟨a, a1, a2⟩ := j1.ex
   exact ⟨a, fun i hi hdi => a1 i hi ((hdn i hi).1 hdi), fun i j hi hj hdi hdj => a2 i j hi hj ((hdn i hi).1 hdi) ((hdn j hj).1 hdj)⟩
/-- the plan for lengths: it is one, with these lengths -/
theorem planV_ok {xs : List Int} (h : pfOk xs) : PlanOk (planV xs) ∧ (planV xs).length = xs.length ∧ lensV (planV xs) = xs := by
 obtain ⟨hl, hs⟩ := h
 have hV : planV xs = (pfL xs 3).1 := if_pos ⟨hl, hs⟩
 obtain ⟨I, -⟩ := pfL_inv hl 3 (Nat.le_refl _)
 have hall : ∀ i, i < xs.length → dn xs 3 0 i := fun i hi => by have := hl.1 i hi; unfold dn lnA; omega
 have hsum : (pfL xs 3).2 ≤ 64 := by
  have h1 := I.sum
  rw [sumN_congr (g := shA xs) _ fun i hi => if_pos (hall i hi)] at h1
  unfold shareV at hs
  rw [if_pos hl, shS_sumN hl _ (Nat.le_refl _)] at hs
  omega
 obtain ⟨a, a1, a2⟩ := I.ex
 have hln : ∀ i, i < xs.length → 1 ≤ lnA xs i ∧ lnA xs i ≤ 3 := fun i hi => by have := hl.1 i hi; unfold lnA; omega
 have hval : ∀ i, i < xs.length → a i / shA xs i < 4 ^ lnA xs i := fun i hi => by
  apply Nat.div_lt_of_lt_mul
  have h1 := hln i hi
  have e : shA xs i * 4 ^ lnA xs i = 64 := by
   unfold shA
   rw [← Nat.pow_add, show 3 - lnA xs i + lnA xs i = 3 by omega]
  rw [e]
  have := (a1 i hi (hall i hi)).2.2
  have := shA_pos xs i
  omega
 have hlen : ∀ i, i < xs.length → ((planV xs).getD i []).length = lnA xs i := fun i hi => by rw [hV, (a1 i hi (hall i hi)).1, txV_len]
 have hll : (planV xs).length = xs.length := by rw [hV, I.len]
 have hok : PlanOk (planV xs) := by
  refine ⟨fun k hk => ?_, by rw [hll]; exact hl.2⟩
  rw [hll] at hk
  refine ⟨?_, by rw [hlen k hk]; exact hln k hk, fun j hj hne hb => ?_⟩
  ·rw [hV, (a1 k hk (hall k hk)).1]; exact txV_dg _ _
  ·rw [hll] at hj
   have hle := hb.1
   rw [hlen k hk, hlen j hj] at hle
   rw [hV, (a1 k hk (hall k hk)).1, (a1 j hj (hall j hj)).1, beg_tx hle (hval k hk) (hval j hj), Nat.div_div_eq_div_mul] at hb
   have e : shA xs k * 4 ^ (lnA xs k - lnA xs j) = shA xs j := by
    unfold shA
    have := hln k hk
    rw [← Nat.pow_add]; congr 1; omega
   rw [e] at hb
   obtain ⟨c, hc⟩ := (a1 j hj (hall j hj)).2.1
   have hp := shA_pos xs j
   have hpk := shA_pos xs k
   have h1 : a j / shA xs j = c := by rw [hc]; exact Nat.mul_div_cancel_left c hp
   rw [h1] at hb
   have h2 := Nat.div_add_mod (a k) (shA xs j)
   have h3 := Nat.mod_lt (a k) hp
   rw [hb] at h2
   rcases a2 k j hk hj (hall k hk) (hall j hj) (fun e => hne e.symm) with h4 | h4
   ·omega
   ·omega
 refine ⟨hok, hll, ?_⟩
 apply List.ext_getElem
 ·rw [lens_length hok, hll]
 ·intro i h1 h2
  have h3 := lens_getD hok (k := i) (by rw [hll]; exact h2)
  rw [hlen i h2] at h3
  have h4 := hl.1 i h2
  have h5 : (xs.getD i 0) = xs[i] := by simp [List.getD, h2]
  have h6 : (lensV (planV xs)).getD i 0 = (lensV (planV xs))[i] := by simp [List.getD, h1]
  rw [← h5, ← h6, h3]
  unfold lnA; omega
end Go.Proofs.Ytofdnmlpfagibaa
namespace Go.Proofs.Ytofdnmlpfagibaa
open Go Go.Abs Go.RowKit
theorem fstN_none {p : Nat → Bool} : ∀ {m k i : Nat}, fstN p k m = none → k ≤ i → i < k + m → p i = false
 | 0, k, i, _, h1, h2 => by omega
 | m + 1, k, i, h, h1, h2 => by
  unfold fstN at h
  split at h
  ·cases h
  ·rename_i hp
   by_cases e : i = k
   ·subst e; simpa using hp
   ·exact fstN_none h (by omega) (by omega)
/-- a text begins with at most one number of a plan -/
theorem plan_uniq {ps : List (List UInt8)} (h : PlanOk ps) {s : List UInt8} {j k : Nat} (hj : j < ps.length) (hk : k < ps.length) (bj : Beg s (ps.getD j [])) (bk : Beg s (ps.getD k [])) : j = k := by
 apply Classical.byContradiction
 intro hne
 rcases Nat.le_total (ps.getD j []).length (ps.getD k []).length with hl | hl
 ·exact (h.1 k hk).2.2 j hj hne (bk.both bj hl)
 ·exact (h.1 j hj).2.2 k hk (fun e => hne e.symm) (bj.both bk hl)
theorem dialN_of {ps : List (List UInt8)} (h : PlanOk ps) {s : List UInt8} (hd : DgT s) {k : Nat} (hk : k < ps.length) (hb : Beg s (ps.getD k [])) : dialN ps s = some k := by
 unfold dialN
 rw [if_pos ⟨h, hd⟩]
 cases e : fstN (begB ps s) 0 ps.length with
 | none =>
  have := fstN_none e (i := k) (by omega) (by omega)
  unfold begB at this
  rw [decide_eq_true hb] at this; cases this
 | some i =>
  obtain ⟨_, h1, h2⟩ := fstN_some e
  rw [plan_uniq h (by omega) hk (of_decide_eq_true h2) hb]
end Go.Proofs.Ytofdnmlpfagibaa
namespace Go.Clos
structure Sp where
 O : Int
 E : Int
 M : Int
deriving DecidableEq
def SV (s : Sp) : Prop := (1 ≤ s.O ∧ s.O ≤ 4) ∧ (1 ≤ s.E ∧ s.E ≤ 3) ∧ (1 ≤ s.M ∧ s.M ≤ 5)
instance (s : Sp) : Decidable (SV s) := by unfold SV; infer_instance
def Rg (s : Sp) (c : Cl) : Prop := (0 ≤ c.i ∧ c.i ≤ s.O * s.E - 1) ∧ (0 ≤ c.o ∧ c.o ≤ s.O * s.E - 1) ∧ (0 ≤ c.v ∧ c.v ≤ s.M - 1)
instance (s : Sp) (c : Cl) : Decidable (Rg s c) := by unfold Rg; infer_instance
/-- two calls that are not possible at the same time -/
def Hit (s : Sp) (c d : Cl) : Prop := c.i = d.i ∨ c.o = d.o ∨ c.v = d.v ∧ (c.i / s.E = d.i / s.E ∨ c.o / s.E = d.o / s.E)
instance (s : Sp) (c d : Cl) : Decidable (Hit s c d) := by unfold Hit; infer_instance
theorem Hit.symm {s : Sp} {c d : Cl} (h : Hit s c d) : Hit s d c := by
 rcases h with h | h | ⟨h, g | g⟩
 ·exact .inl h.symm
 ·exact .inr (.inl h.symm)
 ·exact .inr (.inr ⟨h.symm, .inl g.symm⟩)
 ·exact .inr (.inr ⟨h.symm, .inr g.symm⟩)
def CV (s : Sp) (cs : List Cl) : Prop := SV s ∧ (∀ c ∈ cs, Rg s c) ∧ cs.Pairwise fun d c => ¬ Hit s c d
instance (s : Sp) (cs : List Cl) : Decidable (CV s cs) := by unfold CV; infer_instance
theorem CV_nil {s : Sp} : CV s [] ↔ SV s := by simp [CV]
theorem CV_snoc {s : Sp} {cs : List Cl} {c : Cl} : CV s (cs ++ [c]) ↔ CV s cs ∧ Rg s c ∧ ∀ d ∈ cs, ¬ Hit s c d := by
 unfold CV
 simp only [List.mem_append, List.mem_singleton, List.pairwise_append, List.pairwise_cons, List.Pairwise.nil]
 constructor
 ·rintro ⟨h1, h2, h3, -, h4⟩
  exact ⟨⟨h1, fun d hd => h2 d (.inl hd), h3⟩, h2 c (.inr rfl), fun d hd => h4 d hd c rfl⟩
 ·rintro ⟨⟨h1, h2, h3⟩, h4, h5⟩
  exact ⟨h1, fun d hd => hd.elim (h2 d) (fun e => e ▸ h4), h3, ⟨fun _ h => absurd h (by simp), trivial⟩, fun d hd e he => he ▸ h5 d hd⟩
theorem CV.sub {s : Sp} {cs ds : List Cl} (h : CV s cs) (hs : ds.Sublist cs) : CV s ds := ⟨h.1, fun c hc => h.2.1 c (hs.subset hc), h.2.2.sublist hs⟩
theorem CV.two {s : Sp} {cs : List Cl} (h : CV s cs) {k l : Nat} {c d : Cl} (hk : cs[k]? = some c) (hl : cs[l]? = some d) (hne : k ≠ l) : ¬ Hit s c d := by
 obtain ⟨hk1, rfl⟩ := List.getElem?_eq_some_iff.1 hk
 obtain ⟨hl1, rfl⟩ := List.getElem?_eq_some_iff.1 hl
 have := List.pairwise_iff_getElem.1 h.2.2
 rcases Nat.lt_or_ge k l with hlt | hge
 ·exact fun hh => this k l hk1 hl1 hlt hh.symm
 ·exact fun hh => this l k hl1 hk1 (by omega) hh
theorem CV.one {s : Sp} {cs : List Cl} (h : CV s cs) {k l : Nat} {c d : Cl} (hk : cs[k]? = some c) (hl : cs[l]? = some d) (hh : Hit s c d) : k = l :=
 Classical.byContradiction fun hne => h.two hk hl hne hh
theorem CV.of_index {s : Sp} {cs : List Cl} (h1 : SV s) (h2 : ∀ c ∈ cs, Rg s c) (h3 : ∀ (k l : Nat) (c d : Cl), cs[k]? = some c → cs[l]? = some d → l < k → ¬ Hit s c d) : CV s cs := by
 refine ⟨h1, h2, List.pairwise_iff_getElem.2 fun i j hi hj hij => ?_⟩
 exact h3 j i _ _ (List.getElem?_eq_getElem hj) (List.getElem?_eq_getElem hi) hij
/-- a list without the same twice is not longer than one that has all of it -/
theorem sub_len {α : Type} [DecidableEq α] : ∀ {xs ys : List α}, xs.Nodup → (∀ x ∈ xs, x ∈ ys) → xs.length ≤ ys.length
 | [], ys, _, _ => Nat.zero_le _
 | x :: xs, ys, h, hs => by
  rw [List.nodup_cons] at h
  have hx : x ∈ ys := hs x (by simp)
  have := sub_len (ys := ys.erase x) h.2 fun y hy => (List.mem_erase_of_ne (fun (e : y = x) => h.1 (by rw [← e]; exact hy))).2 (hs y (by simp [hy]))
  rw [List.length_erase_of_mem hx] at this
  have := List.length_pos_of_mem hx
  simp only [List.length_cons]; omega
def rng (n : Nat) : List Int := (List.range n).map fun (k : Nat) => (k : Int)
theorem mem_rng {n : Nat} {x : Int} : x ∈ rng n ↔ 0 ≤ x ∧ x < n := by
 simp only [rng, List.mem_map, List.mem_range]
 constructor
 ·rintro ⟨k, h, rfl⟩; omega
 ·rintro ⟨h1, h2⟩; exact ⟨x.toNat, by omega, by omega⟩
theorem rng_length (n : Nat) : (rng n).length = n := by simp [rng]
theorem rng_nodup (n : Nat) : (rng n).Nodup := by
 unfold rng
 rw [List.nodup_iff_pairwise_ne, List.pairwise_map]
 exact (List.nodup_iff_pairwise_ne.1 List.nodup_range).imp fun h e => h (by omega)
theorem rng_succ (n : Nat) : rng (n + 1) = rng n ++ [(n : Int)] := by simp [rng, List.range_succ]
theorem pig {n : Nat} {lo : Int} {xs : List Int} (h : xs.Nodup) (hx : ∀ x ∈ xs, lo ≤ x ∧ x < lo + n) : xs.length ≤ n := by
 have := sub_len (xs := xs) (ys := (rng n).map (lo + ·)) h fun x hm => List.mem_map.2 ⟨x - lo, mem_rng.2 (by have := hx x hm; omega), by omega⟩
 simpa [rng] using this
theorem nodup_map {α : Type} {f : α → Int} {xs : List α} (h : xs.Pairwise fun d c => f d ≠ f c) : (xs.map f).Nodup := by
 rw [List.nodup_iff_pairwise_ne, List.pairwise_map]; exact h
section
variable {s : Sp} {cs : List Cl} (h : CV s cs)
include h
theorem CV.pw {P : Cl → Cl → Prop} (hp : ∀ c d, ¬ Hit s c d → P d c) : cs.Pairwise P := h.2.2.imp fun {a b} hh => hp b a hh
theorem CV.ins : (cs.map (·.i)).Nodup := nodup_map (h.pw fun c d hh e => hh (.inl e.symm))
theorem CV.outs : (cs.map (·.o)).Nodup := nodup_map (h.pw fun c d hh e => hh (.inr (.inl e.symm)))
theorem CV.len : cs.length ≤ 12 := by
 have := pig (lo := 0) (n := (s.O * s.E).toNat) h.ins fun x hx => by
  obtain ⟨c, hc, rfl⟩ := List.mem_map.1 hx
  have := (h.2.1 c hc).1
  omega
 rw [List.length_map] at this
 obtain ⟨⟨o1, o2⟩, ⟨e1, e2⟩, -⟩ := h.1
 have h12 : s.O * s.E ≤ 4 * 3 := Int.mul_le_mul o2 e2 (by omega) (by omega)
 omega
/-- the calls from an outer switch, of which a line is free -/
theorem CV.from_ {i : Int} (hi : ∀ c ∈ cs, c.i ≠ i) : (cs.filter fun c => c.i / s.E = i / s.E).length + 1 ≤ s.E.toNat := by
 obtain ⟨⟨o1, o2⟩, ⟨e1, e2⟩, -⟩ := h.1
 have hsub : (cs.filter fun c => decide (c.i / s.E = i / s.E)).Sublist cs := List.filter_sublist
 have hn : (i :: (cs.filter fun c => decide (c.i / s.E = i / s.E)).map (·.i)).Nodup := by
  rw [List.nodup_cons]
  refine ⟨fun hm => ?_, (h.sub hsub).ins⟩
  obtain ⟨c, hc, e⟩ := List.mem_map.1 hm
  exact hi c (hsub.subset hc) e
 have := pig (lo := i / s.E * s.E) (n := s.E.toNat) hn fun x hx => by
  have key : ∀ y : Int, y / s.E = i / s.E → i / s.E * s.E ≤ y ∧ y < i / s.E * s.E + s.E.toNat := fun y e => by
   rw [← e]
   have h1 := Int.emod_nonneg y (show s.E ≠ 0 by omega)
   have h2 := Int.emod_lt_of_pos y (show 0 < s.E by omega)
   have h3 := Int.mul_ediv_add_emod y s.E
   rw [Int.mul_comm] at h3
   omega
  rcases List.mem_cons.1 hx with rfl | hx
  ·exact key _ rfl
  ·obtain ⟨c, hc, rfl⟩ := List.mem_map.1 hx
   exact key _ (by simpa using (List.mem_filter.1 hc).2)
 simpa using this
theorem CV.to_ {o : Int} (ho : ∀ c ∈ cs, c.o ≠ o) : (cs.filter fun c => c.o / s.E = o / s.E).length + 1 ≤ s.E.toNat := by
 obtain ⟨⟨o1, o2⟩, ⟨e1, e2⟩, -⟩ := h.1
 have hsub : (cs.filter fun c => decide (c.o / s.E = o / s.E)).Sublist cs := List.filter_sublist
 have hn : (o :: (cs.filter fun c => decide (c.o / s.E = o / s.E)).map (·.o)).Nodup := by
  rw [List.nodup_cons]
  refine ⟨fun hm => ?_, (h.sub hsub).outs⟩
  obtain ⟨c, hc, e⟩ := List.mem_map.1 hm
  exact ho c (hsub.subset hc) e
 have := pig (lo := o / s.E * s.E) (n := s.E.toNat) hn fun x hx => by
  have key : ∀ y : Int, y / s.E = o / s.E → o / s.E * s.E ≤ y ∧ y < o / s.E * s.E + s.E.toNat := fun y e => by
   rw [← e]
   have h1 := Int.emod_nonneg y (show s.E ≠ 0 by omega)
   have h2 := Int.emod_lt_of_pos y (show 0 < s.E by omega)
   have h3 := Int.mul_ediv_add_emod y s.E
   rw [Int.mul_comm] at h3
   omega
  rcases List.mem_cons.1 hx with rfl | hx
  ·exact key _ rfl
  ·obtain ⟨c, hc, rfl⟩ := List.mem_map.1 hx
   exact key _ (by simpa using (List.mem_filter.1 hc).2)
 simpa using this
end
/-- the middle switches that the calls of an outer switch use -/
def usedI (s : Sp) (cs : List Cl) (x : Int) : List Int := (cs.filter fun c => c.i / s.E = x).map (·.v)
def usedO (s : Sp) (cs : List Cl) (x : Int) : List Int := (cs.filter fun c => c.o / s.E = x).map (·.v)
theorem mem_usedI {s : Sp} {cs : List Cl} {x v : Int} : v ∈ usedI s cs x ↔ ∃ c ∈ cs, c.i / s.E = x ∧ c.v = v := by
 unfold usedI
 simp only [List.mem_map, List.mem_filter, decide_eq_true_eq]
 exact ⟨fun ⟨c, ⟨a, b⟩, d⟩ => ⟨c, a, b, d⟩, fun ⟨c, a, b, d⟩ => ⟨c, ⟨a, b⟩, d⟩⟩
theorem mem_usedO {s : Sp} {cs : List Cl} {x v : Int} : v ∈ usedO s cs x ↔ ∃ c ∈ cs, c.o / s.E = x ∧ c.v = v := by
 unfold usedO
 simp only [List.mem_map, List.mem_filter, decide_eq_true_eq]
 exact ⟨fun ⟨c, ⟨a, b⟩, d⟩ => ⟨c, a, b, d⟩, fun ⟨c, a, b, d⟩ => ⟨c, ⟨a, b⟩, d⟩⟩
/-- the first middle switch that is not used -/
def firstN (used : List Int) : Nat → Nat → Int
 | 0, _ => -1
 | n + 1, k => if (k : Int) ∈ used then firstN used n (k + 1) else k
theorem firstN_cases (used : List Int) : ∀ n k : Nat, (firstN used n k = -1 ∧ ∀ j, k ≤ j → j < k + n → (j : Int) ∈ used) ∨ ∃ j : Nat, firstN used n k = j ∧ k ≤ j ∧ j < k + n ∧ (j : Int) ∉ used
 | 0, k => .inl ⟨rfl, fun j h1 h2 => absurd h2 (by omega)⟩
 | n + 1, k => by
  unfold firstN
  by_cases h : (k : Int) ∈ used
  ·rw [if_pos h]
   rcases firstN_cases used n (k + 1) with ⟨e, hj⟩ | ⟨j, e, h1, h2, h3⟩
   ·refine .inl ⟨e, fun j h1 h2 => ?_⟩
    rcases Nat.eq_or_lt_of_le h1 with rfl | h1
    ·exact h
    ·exact hj j (by omega) (by omega)
   ·exact .inr ⟨j, e, by omega, by omega, h3⟩
  ·rw [if_neg h]; exact .inr ⟨k, rfl, by omega, by omega, h⟩
theorem firstN_some {used : List Int} {n : Nat} (h : used.length < n) : ∃ j : Nat, firstN used n 0 = j ∧ j < n ∧ (j : Int) ∉ used := by
 rcases firstN_cases used n 0 with ⟨-, hj⟩ | ⟨j, e, -, h2, h3⟩
 ·exfalso
  have := sub_len (xs := rng n) (ys := used) (rng_nodup n) fun x hx => by
   obtain ⟨a, b⟩ := mem_rng.1 hx
   have := hj x.toNat (by omega) (by omega)
   rwa [Int.toNat_of_nonneg a] at this
  rw [rng_length] at this
  omega
 ·exact ⟨j, e, by omega, h3⟩
/-- a call can go through a middle switch -/
def Free (s : Sp) (cs : List Cl) (i o v : Int) : Prop := CV s (cs ++ [⟨i, o, v⟩])
instance (s : Sp) (cs : List Cl) (i o v : Int) : Decidable (Free s cs i o v) := by unfold Free; infer_instance
/-- a line has a call -/
def Busy (cs : List Cl) (i o : Int) : Prop := ∃ c ∈ cs, c.i = i ∨ c.o = o
instance (cs : List Cl) (i o : Int) : Decidable (Busy cs i o) := by unfold Busy; infer_instance
def Lines (s : Sp) (i o : Int) : Prop := (0 ≤ i ∧ i ≤ s.O * s.E - 1) ∧ (0 ≤ o ∧ o ≤ s.O * s.E - 1)
instance (s : Sp) (i o : Int) : Decidable (Lines s i o) := by unfold Lines; infer_instance
theorem Free.lines {s : Sp} {cs : List Cl} {i o v : Int} (h : Free s cs i o v) : CV s cs ∧ Lines s i o ∧ ¬ Busy cs i o ∧ 0 ≤ v ∧ v ≤ s.M - 1 := by
 obtain ⟨a, ⟨b, c, d⟩, e⟩ := CV_snoc.1 h
 refine ⟨a, ⟨b, c⟩, ?_, d⟩
 rintro ⟨x, hx, h1 | h1⟩
 ·exact e x hx (.inl h1.symm)
 ·exact e x hx (.inr (.inl h1.symm))
theorem free_iff {s : Sp} {cs : List Cl} {i o v : Int} (h : CV s cs) (hl : Lines s i o) (hb : ¬ Busy cs i o) (hv : 0 ≤ v ∧ v ≤ s.M - 1) : Free s cs i o v ↔ v ∉ usedI s cs (i / s.E) ∧ v ∉ usedO s cs (o / s.E) := by
 unfold Free
 rw [CV_snoc, mem_usedI, mem_usedO]
 constructor
 ·rintro ⟨-, -, e⟩
  exact ⟨fun ⟨c, hc, a, b⟩ => e c hc (.inr (.inr ⟨b.symm, .inl a.symm⟩)), fun ⟨c, hc, a, b⟩ => e c hc (.inr (.inr ⟨b.symm, .inr a.symm⟩))⟩
 ·rintro ⟨n1, n2⟩
  refine ⟨h, ⟨hl.1, hl.2, hv⟩, fun d hd hh => ?_⟩
  rcases hh with e | e | ⟨e, e2 | e2⟩
  ·exact hb ⟨d, hd, .inl e.symm⟩
  ·exact hb ⟨d, hd, .inr e.symm⟩
  ·exact n1 ⟨d, hd, e2.symm, e.symm⟩
  ·exact n2 ⟨d, hd, e2.symm, e.symm⟩
def freeL (s : Sp) (cs : List Cl) (i o : Int) (n : Nat) : List Int := (rng n).filter fun v => Free s cs i o v
theorem freeL_succ (s : Sp) (cs : List Cl) (i o : Int) (n : Nat) : freeL s cs i o (n + 1) = freeL s cs i o n ++ (if Free s cs i o n then [(n : Int)] else []) := by
 unfold freeL
 rw [rng_succ, List.filter_append]
 congr 1
 by_cases h : Free s cs i o n <;> simp [h]
/-- the middle switches that are free -/
def freeV (s : Sp) (cs : List Cl) (i o : Int) : List Int := freeL s cs i o s.M.toNat
theorem mem_freeV {s : Sp} {cs : List Cl} {i o v : Int} : v ∈ freeV s cs i o ↔ Free s cs i o v := by
 unfold freeV freeL
 rw [List.mem_filter, mem_rng, decide_eq_true_eq]
 exact ⟨fun h => h.2, fun h => ⟨by have := h.lines.2.2.2; omega, h⟩⟩
theorem freeV_no {s : Sp} {cs : List Cl} {i o : Int} (h : ¬ (CV s cs ∧ Lines s i o ∧ ¬ Busy cs i o)) : freeV s cs i o = [] :=
 List.eq_nil_iff_forall_not_mem.2 fun v hv => h (by have := (mem_freeV.1 hv).lines; exact ⟨this.1, this.2.1, this.2.2.1⟩)
def Enough (s : Sp) : Prop := SV s ∧ s.E ≤ s.M
instance (s : Sp) : Decidable (Enough s) := by unfold Enough; infer_instance
theorem not_busyI {cs : List Cl} {i o : Int} (h : ¬ Busy cs i o) : ∀ c ∈ cs, c.i ≠ i := fun c hc e => h ⟨c, hc, .inl e⟩
theorem not_busyO {cs : List Cl} {i o : Int} (h : ¬ Busy cs i o) : ∀ c ∈ cs, c.o ≠ o := fun c hc e => h ⟨c, hc, .inr e⟩
theorem SV.lines {s : Sp} (h : SV s) : 1 ≤ s.O * s.E ∧ s.O * s.E ≤ 12 := by
 obtain ⟨⟨o1, o2⟩, ⟨e1, e2⟩, -⟩ := h
 have h12 : s.O * s.E ≤ 4 * 3 := Int.mul_le_mul o2 e2 (by omega) (by omega)
 have h1 : 1 * 1 ≤ s.O * s.E := Int.mul_le_mul o1 e1 (by omega) (by omega)
 omega
/-- the numbers of a call that are divided are not below 0 -/
def Nng (c : Cl) : Prop := (0 ≤ c.i ∧ c.i ≤ 1000) ∧ (0 ≤ c.o ∧ c.o ≤ 1000)
theorem Rg.nng {s : Sp} {c : Cl} (hS : SV s) (h : Rg s c) : Nng c := by
 have := hS.lines
 obtain ⟨h1, h2, -⟩ := h
 exact ⟨⟨h1.1, by omega⟩, h2.1, by omega⟩
end Go.Clos
namespace Go.Clos
theorem b_ne {t sd : Bool} (h : ¬ t = sd) : t = !sd := by cases t <;> cases sd <;> simp_all
def gc (cs : List Cl) (k : Nat) : Cl := cs.getD k Go.Abs.cl0
theorem gc_some {cs : List Cl} {k : Nat} (h : k < cs.length) : cs[k]? = some (gc cs k) := by simp [gc, List.getD, h]
theorem gc_mem {cs : List Cl} {k : Nat} (h : k < cs.length) : gc cs k ∈ cs := List.mem_of_getElem? (gc_some h)
theorem mem_gc {cs : List Cl} {c : Cl} (h : c ∈ cs) : ∃ k, k < cs.length ∧ gc cs k = c := by
 obtain ⟨k, hk, rfl⟩ := List.getElem_of_mem h
 exact ⟨k, hk, by simp [gc, List.getD, hk]⟩
/-- the outer switch of a call on a side (true: of its output) -/
def sw (s : Sp) (sd : Bool) (c : Cl) : Int := bif sd then c.o / s.E else c.i / s.E
def AtC (s : Sp) (sd : Bool) (x w : Int) (c : Cl) : Prop := sw s sd c = x ∧ c.v = w
instance (s : Sp) (sd : Bool) (x w : Int) (c : Cl) : Decidable (AtC s sd x w c) := by unfold AtC; infer_instance
theorem hit_sw {s : Sp} {sd : Bool} {c d : Cl} (h1 : sw s sd c = sw s sd d) (h2 : c.v = d.v) : Hit s c d := by
 cases sd
 ·exact .inr (.inr ⟨h2, .inl h1⟩)
 ·exact .inr (.inr ⟨h2, .inr h1⟩)
theorem CV.sw_one {s : Sp} {cs : List Cl} (h : CV s cs) {sd : Bool} {k l : Nat} (hk : k < cs.length) (hl : l < cs.length) (h1 : sw s sd (gc cs k) = sw s sd (gc cs l)) (h2 : (gc cs k).v = (gc cs l).v) : k = l :=
 h.one (gc_some hk) (gc_some hl) (hit_sw h1 h2)
/-- the last of the first n calls at an outer switch through a middle switch that is not in the chain -/
def nxt (s : Sp) (cs : List Cl) (ch : List Nat) (sd : Bool) (x w : Int) : Nat → Option Nat
 | 0 => none
 | n + 1 => if AtC s sd x w (gc cs n) ∧ n ∉ ch then some n else nxt s cs ch sd x w n
theorem nxt_none {s : Sp} {cs : List Cl} {ch : List Nat} {sd : Bool} {x w : Int} : ∀ {n : Nat}, nxt s cs ch sd x w n = none → ∀ l, l < n → AtC s sd x w (gc cs l) → l ∈ ch
 | 0, _, l, hl, _ => absurd hl (by omega)
 | n + 1, h, l, hl, hc => by
  unfold nxt at h
  split at h
  ·cases h
  ·rename_i hn
   by_cases e : l = n
   ·subst e; exact Classical.byContradiction fun hm => hn ⟨hc, hm⟩
   ·exact nxt_none h l (by omega) hc
theorem nxt_some {s : Sp} {cs : List Cl} {ch : List Nat} {sd : Bool} {x w : Int} : ∀ {n k : Nat}, nxt s cs ch sd x w n = some k → k < n ∧ AtC s sd x w (gc cs k) ∧ k ∉ ch
 | 0, k, h => by cases h
 | n + 1, k, h => by
  unfold nxt at h
  split at h
  ·rename_i hn
   cases h; exact ⟨by omega, hn⟩
  ·obtain ⟨a, b⟩ := nxt_some h
   exact ⟨by omega, b⟩
def wantOf (a b : Int) (sd : Bool) : Int := bif sd then a else b
/-- the chain -/
def go (s : Sp) (cs : List Cl) (a b : Int) : Nat → List Nat → Bool → Int → List Nat
 | 0, ch, _, _ => ch
 | f + 1, ch, sd, x => match nxt s cs ch sd x (wantOf a b sd) cs.length with
  | none => ch
  | some k => go s cs a b f (ch ++ [k]) (!sd) (sw s (!sd) (gc cs k))
def chain (s : Sp) (cs : List Cl) (a b : Int) (B : Int) : List Nat := go s cs a b cs.length [] true B
structure Inv (s : Sp) (cs : List Cl) (a b B : Int) (ch : List Nat) (sd : Bool) (x : Int) : Prop where
 nd : ch.Nodup
 lt : ∀ k ∈ ch, k < cs.length
 ab : ∀ k ∈ ch, (gc cs k).v = a ∨ (gc cs k).v = b
 from_ : ∀ k ∈ ch, (gc cs k).v = b → ∃ l ∈ ch, (gc cs l).v = a ∧ sw s false (gc cs l) = sw s false (gc cs k)
 fr : sd = false → ∃ l ∈ ch, (gc cs l).v = a ∧ sw s false (gc cs l) = x
 cl : ∀ k ∈ ch, ∀ t l, l < cs.length → sw s t (gc cs l) = sw s t (gc cs k) → (gc cs l).v = a + b - (gc cs k).v → l ∈ ch ∨ AtC s sd x (wantOf a b sd) (gc cs l)
 st : ∀ l, l < cs.length → AtC s true B a (gc cs l) → l ∈ ch ∨ AtC s sd x (wantOf a b sd) (gc cs l)
 six : ∀ l, l < cs.length → sw s sd (gc cs l) = x → (gc cs l).v = a + b - wantOf a b sd → l ∈ ch
section
variable {s : Sp} {cs : List Cl} {a b B : Int} (h : CV s cs) (hab : a ≠ b) (hB : ∀ l, l < cs.length → sw s true (gc cs l) = B → (gc cs l).v ≠ b)
include h hab hB
theorem inv_start : Inv s cs a b B [] true B where
 nd := List.nodup_nil
 lt := fun k hk => absurd hk (by simp)
 ab := fun k hk => absurd hk (by simp)
 from_ := fun k hk => absurd hk (by simp)
 fr := fun e => by cases e
 cl := fun k hk => absurd hk (by simp)
 st := fun l hl hc => .inr hc
 six := fun l hl h1 h2 => absurd (show (gc cs l).v = b by rw [h2]; show a + b - a = b; omega) (hB l hl h1)
theorem Inv.step {ch : List Nat} {sd : Bool} {x : Int} {k : Nat} (hi : Inv s cs a b B ch sd x) (hn : nxt s cs ch sd x (wantOf a b sd) cs.length = some k) : Inv s cs a b B (ch ++ [k]) (!sd) (sw s (!sd) (gc cs k)) := by
 obtain ⟨hk, ⟨k1, k2⟩, k3⟩ := nxt_some hn
 have one : ∀ l, l < cs.length → AtC s sd x (wantOf a b sd) (gc cs l) → l = k := fun l hl hc => h.sw_one (sd := sd) hl hk (by rw [hc.1, k1]) (by rw [hc.2, k2])
 have hw : wantOf a b (!sd) = a + b - wantOf a b sd := by cases sd <;> simp [wantOf] <;> omega
 refine ⟨?_, ?_, ?_, ?_, ?_, ?_, ?_, ?_⟩
 ·rw [List.nodup_append]
  refine ⟨hi.nd, by simp, fun y hy z hz e => ?_⟩
  rw [List.mem_singleton] at hz
  exact k3 (by rw [← hz, ← e]; exact hy)
 ·intro l hl
  rcases List.mem_append.1 hl with hl | hl
  ·exact hi.lt l hl
  ·rw [List.mem_singleton] at hl; omega
 ·intro l hl
  rcases List.mem_append.1 hl with hl | hl
  ·exact hi.ab l hl
  ·rw [List.mem_singleton] at hl
   subst hl
   rw [k2]; cases sd
   ·exact .inr rfl
   ·exact .inl rfl
 ·intro l hl hv
  rcases List.mem_append.1 hl with hl | hl
  ·obtain ⟨m, hm, h1, h2⟩ := hi.from_ l hl hv
   exact ⟨m, List.mem_append.2 (.inl hm), h1, h2⟩
  ·rw [List.mem_singleton] at hl
   subst hl
   rw [k2] at hv
   cases sd with
   | true => exact absurd hv hab
   | false =>
    obtain ⟨m, hm, h1, h2⟩ := hi.fr rfl
    exact ⟨m, List.mem_append.2 (.inl hm), h1, by rw [h2, k1]⟩
 ·intro e
  cases sd with
  | false => cases e
  | true => exact ⟨k, List.mem_append.2 (.inr (by simp)), k2, rfl⟩
 ·intro j hj t l hl h1 h2
  rcases List.mem_append.1 hj with hj | hj
  ·rcases hi.cl j hj t l hl h1 h2 with h3 | h3
   ·exact .inl (List.mem_append.2 (.inl h3))
   ·exact .inl (List.mem_append.2 (.inr (by rw [one l hl h3]; simp)))
  ·rw [List.mem_singleton] at hj
   subst hj
   rw [k2] at h2
   by_cases e : t = sd
   ·subst e
    exact .inl (List.mem_append.2 (.inl (hi.six l hl (by rw [h1, k1]) h2)))
   ·have e2 : t = !sd := b_ne e
    subst e2
    exact .inr ⟨h1, by rw [hw]; exact h2⟩
 ·intro l hl hc
  rcases hi.st l hl hc with h3 | h3
  ·exact .inl (List.mem_append.2 (.inl h3))
  ·exact .inl (List.mem_append.2 (.inr (by rw [one l hl h3]; simp)))
 ·intro l hl h1 h2
  have : l = k := h.sw_one (sd := !sd) hl hk h1 (by rw [h2, k2, hw]; omega)
  exact List.mem_append.2 (.inr (by rw [this]; simp))
structure Closed (s : Sp) (cs : List Cl) (a b B : Int) (ch : List Nat) : Prop where
 nd : ch.Nodup
 lt : ∀ k ∈ ch, k < cs.length
 ab : ∀ k ∈ ch, (gc cs k).v = a ∨ (gc cs k).v = b
 from_ : ∀ k ∈ ch, (gc cs k).v = b → ∃ l ∈ ch, (gc cs l).v = a ∧ sw s false (gc cs l) = sw s false (gc cs k)
 cl : ∀ k ∈ ch, ∀ t l, l < cs.length → sw s t (gc cs l) = sw s t (gc cs k) → (gc cs l).v = a + b - (gc cs k).v → l ∈ ch
 st : ∀ l, l < cs.length → AtC s true B a (gc cs l) → l ∈ ch
omit h hab hB in
theorem Inv.stop {ch : List Nat} {sd : Bool} {x : Int} (hi : Inv s cs a b B ch sd x) (hn : ∀ l, l < cs.length → AtC s sd x (wantOf a b sd) (gc cs l) → l ∈ ch) : Closed s cs a b B ch :=
 ⟨hi.nd, hi.lt, hi.ab, hi.from_, fun k hk t l hl h1 h2 => (hi.cl k hk t l hl h1 h2).elim id (hn l hl), fun l hl hc => (hi.st l hl hc).elim id (hn l hl)⟩
omit h hab hB in
theorem all_in {ch : List Nat} {n : Nat} (h1 : ch.Nodup) (h2 : ∀ k ∈ ch, k < n) (h3 : n ≤ ch.length) {l : Nat} (hl : l < n) : l ∈ ch :=
 Classical.byContradiction fun hm => by
  have := sub_len (xs := l :: ch) (ys := List.range n) (List.nodup_cons.2 ⟨hm, h1⟩) fun y hy => by
   rcases List.mem_cons.1 hy with rfl | hy
   ·exact List.mem_range.2 hl
   ·exact List.mem_range.2 (h2 y hy)
  simp at this; omega
theorem go_closed : ∀ (f : Nat) {ch : List Nat} {sd : Bool} {x : Int}, Inv s cs a b B ch sd x → cs.length ≤ ch.length + f → Closed s cs a b B (go s cs a b f ch sd x)
 | 0, ch, sd, x, hi, hf => hi.stop fun l hl _ => all_in hi.nd hi.lt hf hl
 | f + 1, ch, sd, x, hi, hf => by
  unfold go
  cases hn : nxt s cs ch sd x (wantOf a b sd) cs.length with
  | none => exact hi.stop (nxt_none hn)
  | some k => exact go_closed f (Inv.step h hab hB hi hn) (by simp; omega)
theorem chain_closed : Closed s cs a b B (chain s cs a b B) := go_closed h hab hB cs.length (inv_start h hab hB) (by simp)
end
/-- the calls, those of a chain moved -/
def flip (a b : Int) (ch : List Nat) (cs : List Cl) : List Cl := cs.mapIdx fun k c => if k ∈ ch then ⟨c.i, c.o, a + b - c.v⟩ else c
theorem flip_length (a b : Int) (ch : List Nat) (cs : List Cl) : (flip a b ch cs).length = cs.length := by simp [flip]
theorem flip_some {a b : Int} {ch : List Nat} {cs : List Cl} {k : Nat} {c : Cl} (h : (flip a b ch cs)[k]? = some c) : k < cs.length ∧ c.i = (gc cs k).i ∧ c.o = (gc cs k).o ∧ ((k ∈ ch ∧ c.v = a + b - (gc cs k).v) ∨ (k ∉ ch ∧ c.v = (gc cs k).v)) := by
 have hk : k < cs.length := by
  have := (List.getElem?_eq_some_iff.1 h).1
  rwa [flip_length] at this
 unfold flip at h
 rw [List.getElem?_mapIdx, gc_some hk] at h
 simp only [Option.map_some, Option.some.injEq] at h
 subst h
 refine ⟨hk, ?_⟩
 by_cases hm : k ∈ ch
 ·simp [hm]
 ·simp [hm]
theorem flip_gc {a b : Int} {ch : List Nat} {cs : List Cl} {k : Nat} (hk : k < cs.length) : gc (flip a b ch cs) k = if k ∈ ch then ⟨(gc cs k).i, (gc cs k).o, a + b - (gc cs k).v⟩ else gc cs k := by
 have h1 := gc_some (cs := flip a b ch cs) (k := k) (by rw [flip_length]; exact hk)
 unfold flip at h1
 rw [List.getElem?_mapIdx, gc_some hk] at h1
 simp only [Option.map_some, Option.some.injEq] at h1
 exact h1.symm
/-- with the chain moved the further call is possible -/
theorem flip_CV {s : Sp} {cs : List Cl} {a b i o : Int} {ch : List Nat} (h : CV s cs) (hl : Lines s i o) (hb : ¬ Busy cs i o) (ha : 0 ≤ a ∧ a ≤ s.M - 1) (hb2 : 0 ≤ b ∧ b ≤ s.M - 1)
  (hA : a ∉ usedI s cs (i / s.E)) (hB : b ∉ usedO s cs (o / s.E)) (hc : Closed s cs a b (o / s.E) ch) : CV s (flip a b ch cs ++ [⟨i, o, a⟩]) := by
 have hAk : ∀ k, k < cs.length → sw s false (gc cs k) = i / s.E → (gc cs k).v ≠ a := fun k hk e e2 => hA (mem_usedI.2 ⟨_, gc_mem hk, e, e2⟩)
 have hBk : ∀ k, k < cs.length → sw s true (gc cs k) = o / s.E → (gc cs k).v ≠ b := fun k hk e e2 => hB (mem_usedO.2 ⟨_, gc_mem hk, e, e2⟩)
 rw [CV_snoc]
 refine ⟨CV.of_index h.1 (fun c hcm => ?_) (fun k l c d hk hl2 hlt hh => ?_), ⟨hl.1, hl.2, ha⟩, fun d hd hh => ?_⟩
 ·obtain ⟨k, hk⟩ := List.mem_iff_getElem?.1 hcm
  obtain ⟨hk1, e1, e2, e3⟩ := flip_some hk
  have hr := h.2.1 _ (gc_mem hk1)
  refine ⟨by rw [e1]; exact hr.1, by rw [e2]; exact hr.2.1, ?_⟩
  rcases e3 with ⟨hm, e3⟩ | ⟨hm, e3⟩
  ·rw [e3]
   rcases hc.ab k hm with e | e <;> rw [e]
   ·rw [show a + b - a = b by omega]; exact hb2
   ·rw [show a + b - b = a by omega]; exact ha
  ·rw [e3]; exact hr.2.2
 ·obtain ⟨hk1, e1, e2, e3⟩ := flip_some hk
  obtain ⟨hl1, f1, f2, f3⟩ := flip_some hl2
  have hno := h.two (gc_some hk1) (gc_some hl1) (by omega)
  have key : ∀ t, sw s t (gc cs k) = sw s t (gc cs l) → c.v = d.v → False := fun t ht hv => by
   rcases e3 with ⟨m1, e3⟩ | ⟨m1, e3⟩ <;> rcases f3 with ⟨m2, f3⟩ | ⟨m2, f3⟩
   ·exact hno (hit_sw (sd := t) ht (by omega))
   ·exact m2 (hc.cl k m1 t l hl1 ht.symm (by omega))
   ·exact m1 (hc.cl l m2 t k hk1 ht (by omega))
   ·exact hno (hit_sw (sd := t) ht (by omega))
  rcases hh with e | e | ⟨e, g | g⟩
  ·exact hno (.inl (by rw [← e1, ← f1]; exact e))
  ·exact hno (.inr (.inl (by rw [← e2, ← f2]; exact e)))
  ·exact key false (by rw [e1, f1] at g; exact g) e
  ·exact key true (by rw [e2, f2] at g; exact g) e
 ·obtain ⟨k, hk⟩ := List.mem_iff_getElem?.1 hd
  obtain ⟨hk1, e1, e2, e3⟩ := flip_some hk
  rcases hh with e | e | ⟨e, g⟩
  ·exact hb ⟨_, gc_mem hk1, .inl (by rw [← e1]; exact e.symm)⟩
  ·exact hb ⟨_, gc_mem hk1, .inr (by rw [← e2]; exact e.symm)⟩
  ·rcases e3 with ⟨m1, e3⟩ | ⟨m1, e3⟩
   ·have hv : (gc cs k).v = b := by have : a = a + b - (gc cs k).v := e.trans e3; omega
    rcases g with g | g
    ·obtain ⟨m, hm, h1, h2⟩ := hc.from_ k m1 hv
     exact hAk m (hc.lt m hm) (by rw [h2]; rw [e1] at g; exact g.symm) h1
    ·exact hBk k hk1 (by rw [e2] at g; exact g.symm) hv
   ·have hv : (gc cs k).v = a := (e.trans e3).symm
    rcases g with g | g
    ·exact hAk k hk1 (by rw [e1] at g; exact g.symm) hv
    ·exact m1 (hc.st k hk1 ⟨by rw [e2] at g; exact g.symm, hv⟩)
end Go.Clos
namespace Go.Clos
theorem gc_append {cs ds : List Cl} {k : Nat} (h : k < cs.length) : gc (cs ++ ds) k = gc cs k := by simp [gc, List.getD, List.getElem?_append_left h]
theorem gc_last {cs : List Cl} {c : Cl} : gc (cs ++ [c]) cs.length = c := by simp [gc, List.getD]
/-- with a further call, if there are enough middle switches -/
def wayA (s : Sp) (cs : List Cl) (i : Int) : Int := firstN (usedI s cs (i / s.E)) s.M.toNat 0
def wayB (s : Sp) (cs : List Cl) (o : Int) : Int := firstN (usedO s cs (o / s.E)) s.M.toNat 0
def moveL (s : Sp) (cs : List Cl) (i o : Int) : List Cl :=
 match freeV s cs i o with
 | v :: _ => cs ++ [⟨i, o, v⟩]
 | [] => flip (wayA s cs i) (wayB s cs o) (chain s cs (wayA s cs i) (wayB s cs o) (o / s.E)) cs ++ [⟨i, o, wayA s cs i⟩]
section
variable {s : Sp} {cs : List Cl} {i o : Int} (hs : Enough s) (h : CV s cs) (hl : Lines s i o) (hb : ¬ Busy cs i o)
include hs h hl hb
theorem wayA_ok : (0 ≤ wayA s cs i ∧ wayA s cs i ≤ s.M - 1) ∧ wayA s cs i ∉ usedI s cs (i / s.E) := by
 have f1 := h.from_ (not_busyI hb)
 obtain ⟨⟨-, ⟨e1, e2⟩, -⟩, hm⟩ := hs
 obtain ⟨j, hj, h1, h2⟩ := firstN_some (used := usedI s cs (i / s.E)) (n := s.M.toNat) (by unfold usedI; rw [List.length_map]; omega)
 unfold wayA; rw [hj]; exact ⟨by omega, h2⟩
theorem wayB_ok : (0 ≤ wayB s cs o ∧ wayB s cs o ≤ s.M - 1) ∧ wayB s cs o ∉ usedO s cs (o / s.E) := by
 have f1 := h.to_ (not_busyO hb)
 obtain ⟨⟨-, ⟨e1, e2⟩, -⟩, hm⟩ := hs
 obtain ⟨j, hj, h1, h2⟩ := firstN_some (used := usedO s cs (o / s.E)) (n := s.M.toNat) (by unfold usedO; rw [List.length_map]; omega)
 unfold wayB; rw [hj]; exact ⟨by omega, h2⟩
theorem way_ne (hf : freeV s cs i o = []) : wayA s cs i ≠ wayB s cs o := fun e => by
 obtain ⟨a1, a2⟩ := wayA_ok hs h hl hb
 obtain ⟨b1, b2⟩ := wayB_ok hs h hl hb
 have := mem_freeV.2 ((free_iff h hl hb a1).2 ⟨a2, by rw [e]; exact b2⟩)
 rw [hf] at this; cases this
theorem way_free : ∀ l, l < cs.length → sw s true (gc cs l) = o / s.E → (gc cs l).v ≠ wayB s cs o := fun l hl2 e e2 =>
 (wayB_ok hs h hl hb).2 (mem_usedO.2 ⟨_, gc_mem hl2, e, e2⟩)
theorem chain_ok (hf : freeV s cs i o = []) : Closed s cs (wayA s cs i) (wayB s cs o) (o / s.E) (chain s cs (wayA s cs i) (wayB s cs o) (o / s.E)) :=
 chain_closed h (way_ne hs h hl hb hf) (way_free hs h hl hb)
theorem moveL_CV : CV s (moveL s cs i o) := by
 unfold moveL
 cases hf : freeV s cs i o with
 | cons v vs => exact mem_freeV.1 (by rw [hf]; simp)
 | nil =>
  obtain ⟨a1, a2⟩ := wayA_ok hs h hl hb
  obtain ⟨b1, b2⟩ := wayB_ok hs h hl hb
  exact flip_CV h hl hb a1 b1 a2 b2 (chain_ok hs h hl hb hf)
omit hs h hl hb in
theorem moveL_length : (moveL s cs i o).length = cs.length + 1 := by
 unfold moveL
 split
 ·simp
 ·simp [flip_length]
omit hs h hl hb in
theorem moveL_last : (gc (moveL s cs i o) cs.length).i = i ∧ (gc (moveL s cs i o) cs.length).o = o := by
 unfold moveL
 split
 ·rw [gc_last]; exact ⟨rfl, rfl⟩
 ·have := gc_last (cs := flip (wayA s cs i) (wayB s cs o) (chain s cs (wayA s cs i) (wayB s cs o) (o / s.E)) cs) (c := ⟨i, o, wayA s cs i⟩)
  rw [flip_length] at this
  rw [this]; exact ⟨rfl, rfl⟩
omit hs h hl hb in
theorem moveL_old {k : Nat} (hk : k < cs.length) : (gc (moveL s cs i o) k).i = (gc cs k).i ∧ (gc (moveL s cs i o) k).o = (gc cs k).o := by
 unfold moveL
 split
 ·rw [gc_append hk]; exact ⟨rfl, rfl⟩
 ·rw [gc_append (by rw [flip_length]; exact hk), flip_gc hk]
  split <;> exact ⟨rfl, rfl⟩
end
/-- without the call from an input -/
def dropL (cs : List Cl) (i : Int) : List Cl := cs.filter fun c => c.i ≠ i
theorem dropL_sub (cs : List Cl) (i : Int) : (dropL cs i).Sublist cs := List.filter_sublist
theorem dropL_no {cs : List Cl} {i : Int} (h : ∀ c ∈ cs, c.i ≠ i) : dropL cs i = cs := List.filter_eq_self.2 fun c hc => by simpa using h c hc
theorem dropL_gone {cs : List Cl} {i : Int} {c : Cl} (h : c ∈ dropL cs i) : c.i ≠ i := by simpa using (List.mem_filter.1 h).2
theorem dropL_take (cs : List Cl) (i : Int) {k : Nat} (hk : k < cs.length) : dropL (cs.take (k + 1)) i = dropL (cs.take k) i ++ if (gc cs k).i = i then [] else [gc cs k] := by
 unfold dropL
 rw [List.take_add_one, gc_some hk, List.filter_append]
 congr 1
 by_cases h : (gc cs k).i = i <;> simp [h]
theorem dropL_len {s : Sp} {cs : List Cl} (h : CV s cs) {i : Int} (hi : ∃ c ∈ cs, c.i = i) : (dropL cs i).length + 1 = cs.length := by
 obtain ⟨c, hc, rfl⟩ := hi
 have hn := h.ins
 clear h
 induction cs with
 | nil => cases hc
 | cons d ds ih =>
  rw [List.map_cons, List.nodup_cons] at hn
  unfold dropL
  rcases List.mem_cons.1 hc with rfl | hc
  ·have : dropL ds c.i = ds := dropL_no fun d hd e => hn.1 (List.mem_map.2 ⟨d, hd, e⟩)
   rw [List.filter_cons_of_neg (by simp)]
   unfold dropL at this; rw [this]; rfl
  ·have hne : d.i ≠ c.i := fun e => hn.1 (List.mem_map.2 ⟨c, hc, e.symm⟩)
   have := ih hc hn.2
   rw [List.filter_cons_of_pos (by simpa using hne)]
   unfold dropL at this
   simp only [List.length_cons]; omega
end Go.Clos
namespace Go.Proofs.Ytofdnmlpfagibaa
open Go Go.Abs Go.RowKit Go.Dial Go.Clos
/-- an exchange -/
structure Ex where
 s : Sp
 ps : List (List UInt8)
 cs : List Cl
deriving DecidableEq
def ex0 : Ex := ⟨⟨0, 0, 0⟩, [], []⟩
/-- nobody's input is an output -/
def SepC (cs : List Cl) : Prop := ∀ c ∈ cs, ∀ d ∈ cs, c.i ≠ d.o
instance (cs : List Cl) : Decidable (SepC cs) := inferInstanceAs (Decidable (∀ c ∈ cs, ∀ d ∈ cs, c.i ≠ d.o))
def ExOk (e : Ex) : Prop := Enough e.s ∧ PlanOk e.ps ∧ (e.ps.length : Int) = e.s.O * e.s.E ∧ CV e.s e.cs ∧ SepC e.cs
instance (e : Ex) : Decidable (ExOk e) := inferInstanceAs (Decidable (_ ∧ _ ∧ _ ∧ _ ∧ _))
theorem ex0_no : ¬ ExOk ex0 := by decide
/-- connected -/
def Pr (cs : List Cl) (x y : Int) : Prop := ∃ c ∈ cs, (c.i = x ∧ c.o = y) ∨ (c.o = x ∧ c.i = y)
theorem Pr.symm {cs : List Cl} {x y : Int} (h : Pr cs x y) : Pr cs y x := by
 obtain ⟨c, hc, ⟨h1, h2⟩ | ⟨h1, h2⟩⟩ := h
 ·exact ⟨c, hc, .inr ⟨h2, h1⟩⟩
 ·exact ⟨c, hc, .inl ⟨h2, h1⟩⟩
theorem ins_inj {s : Sp} {cs : List Cl} (h : CV s cs) {c d : Cl} (hc : c ∈ cs) (hd : d ∈ cs) (e : c.i = d.i) : c = d := by
 obtain ⟨k, hk, rfl⟩ := mem_gc hc
 obtain ⟨l, hl, rfl⟩ := mem_gc hd
 rw [h.one (gc_some hk) (gc_some hl) (.inl e)]
theorem outs_inj {s : Sp} {cs : List Cl} (h : CV s cs) {c d : Cl} (hc : c ∈ cs) (hd : d ∈ cs) (e : c.o = d.o) : c = d := by
 obtain ⟨k, hk, rfl⟩ := mem_gc hc
 obtain ⟨l, hl, rfl⟩ := mem_gc hd
 rw [h.one (gc_some hk) (gc_some hl) (.inr (.inl e))]
theorem Pr.uniq {s : Sp} {cs : List Cl} (h : CV s cs) (hs : SepC cs) {x y z : Int} (h1 : Pr cs x y) (h2 : Pr cs x z) : y = z := by
 obtain ⟨c, hc, ⟨a1, a2⟩ | ⟨a1, a2⟩⟩ := h1 <;> obtain ⟨d, hd, ⟨b1, b2⟩ | ⟨b1, b2⟩⟩ := h2
 ·rw [← a2, ← b2, ins_inj h hc hd (by rw [a1, b1])]
 ·exact absurd (by rw [a1, b1]) (hs c hc d hd)
 ·exact absurd (by rw [a1, b1]) (hs d hd c hc)
 ·rw [← a2, ← b2, outs_inj h hc hd (by rw [a1, b1])]
theorem Pr.lines {s : Sp} {cs : List Cl} (h : CV s cs) {x y : Int} (h1 : Pr cs x y) : (0 ≤ x ∧ x ≤ s.O * s.E - 1) ∧ (0 ≤ y ∧ y ≤ s.O * s.E - 1) := by
 obtain ⟨c, hc, ⟨a1, a2⟩ | ⟨a1, a2⟩⟩ := h1
 ·have := h.2.1 c hc; rw [← a1, ← a2]; exact ⟨this.1, this.2.1⟩
 ·have := h.2.1 c hc; rw [← a1, ← a2]; exact ⟨this.2.1, this.1⟩
theorem Pr.ne {cs : List Cl} (hs : SepC cs) {x y : Int} (h1 : Pr cs x y) : x ≠ y := by
 obtain ⟨c, hc, ⟨a1, a2⟩ | ⟨a1, a2⟩⟩ := h1
 ·rw [← a1, ← a2]; exact hs c hc c hc
 ·rw [← a1, ← a2]; exact (hs c hc c hc).symm
/-- the peer of a line: the first call that has it -/
def peerS : List Cl → Int → Int
 | [], _ => -1
 | c :: cs, x => if c.i = x then c.o else if c.o = x then c.i else peerS cs x
def peerV (e : Ex) (x : Int) : Int := if ExOk e then peerS e.cs x else -1
theorem peerS_spec : ∀ (cs : List Cl) (x : Int), Pr cs x (peerS cs x) ∨ (peerS cs x = -1 ∧ ∀ y, ¬ Pr cs x y)
 | [], x => .inr ⟨rfl, fun y ⟨c, hc, _⟩ => by cases hc⟩
 | c :: cs, x => by
  unfold peerS
  by_cases h1 : c.i = x
  ·rw [if_pos h1]; exact .inl ⟨c, by simp, .inl ⟨h1, rfl⟩⟩
  rw [if_neg h1]
  by_cases h2 : c.o = x
  ·rw [if_pos h2]; exact .inl ⟨c, by simp, .inr ⟨h2, rfl⟩⟩
  rw [if_neg h2]
  rcases peerS_spec cs x with ⟨d, hd, h⟩ | ⟨e, h⟩
  ·exact .inl ⟨d, by simp [hd], h⟩
  ·refine .inr ⟨e, fun y ⟨d, hd, hh⟩ => ?_⟩
   rcases List.mem_cons.1 hd with rfl | hd
   ·rcases hh with hh | hh
    ·exact h1 hh.1
    ·exact h2 hh.1
   ·exact h y ⟨d, hd, hh⟩
section
variable {s : Sp} {cs : List Cl} (h : CV s cs) (hs : SepC cs)
include h hs
theorem peer_of {x y : Int} (hp : Pr cs x y) : peerS cs x = y := by
 rcases peerS_spec cs x with h1 | ⟨_, h1⟩
 ·exact h1.uniq h hs hp
 ·exact absurd hp (h1 y)
omit hs in
theorem peer_neg {x : Int} : peerS cs x < 0 ↔ ∀ y, ¬ Pr cs x y := by
 constructor
 ·intro hn y hy
  rcases peerS_spec cs x with h1 | ⟨_, h1⟩
  ·have := (h1.lines h).2; omega
  ·exact h1 y hy
 ·intro hn
  rcases peerS_spec cs x with h1 | ⟨e, _⟩
  ·exact absurd h1 (hn _)
  ·omega
omit hs in
theorem peer_pos {x : Int} (hx : 0 ≤ peerS cs x) : Pr cs x (peerS cs x) := by
 rcases peerS_spec cs x with h1 | ⟨e, _⟩
 ·exact h1
 ·omega
omit hs h in
theorem peer_m1 {x : Int} (hx : peerS cs x < 0) (hc : CV s cs) : peerS cs x = -1 := by
 rcases peerS_spec cs x with h1 | ⟨e, _⟩
 ·have := (h1.lines hc).2; omega
 ·exact e
end
/-- the same connections, the same peers -/
theorem peer_congr {s s' : Sp} {cs ds : List Cl} (h : CV s cs) (hs : SepC cs) (h' : CV s' ds) (hs' : SepC ds) {x : Int} (e : ∀ y, Pr cs x y ↔ Pr ds x y) : peerS cs x = peerS ds x := by
 rcases peerS_spec cs x with h1 | ⟨e1, h1⟩
 ·exact (peer_of h' hs' ((e _).1 h1)).symm
 ·rcases peerS_spec ds x with h2 | ⟨e2, _⟩
  ·exact absurd ((e _).2 h2) (h1 _)
  ·rw [e1, e2]
/-- a further call -/
theorem pr_move {s : Sp} {cs : List Cl} {i o x y : Int} : Pr (moveL s cs i o) x y ↔ Pr cs x y ∨ (x = i ∧ y = o) ∨ (x = o ∧ y = i) := by
 have hl := moveL_length (s := s) (cs := cs) (i := i) (o := o)
 have hlast := moveL_last (s := s) (cs := cs) (i := i) (o := o)
 have hold := fun k hk => moveL_old (s := s) (cs := cs) (i := i) (o := o) (k := k) hk
 constructor
 ·rintro ⟨c, hc, hh⟩
  obtain ⟨k, hk, rfl⟩ := mem_gc hc
  by_cases hkl : k < cs.length
  ·obtain ⟨e1, e2⟩ := hold k hkl
   rw [e1, e2] at hh
   exact .inl ⟨_, gc_mem hkl, hh⟩
  ·obtain rfl : k = cs.length := by omega
   rw [hlast.1, hlast.2] at hh
   rcases hh with ⟨a, b⟩ | ⟨a, b⟩
   ·exact .inr (.inl ⟨a.symm, b.symm⟩)
   ·exact .inr (.inr ⟨a.symm, b.symm⟩)
 ·rintro (⟨c, hc, hh⟩ | ⟨rfl, rfl⟩ | ⟨rfl, rfl⟩)
  ·obtain ⟨k, hk, rfl⟩ := mem_gc hc
   obtain ⟨e1, e2⟩ := hold k hk
   exact ⟨_, gc_mem (show k < _ by omega), by rw [e1, e2]; exact hh⟩
  ·exact ⟨_, gc_mem (show cs.length < _ by omega), .inl hlast⟩
  ·exact ⟨_, gc_mem (show cs.length < _ by omega), .inr ⟨hlast.2, hlast.1⟩⟩
theorem move_ends {s : Sp} {cs : List Cl} {i o : Int} {c : Cl} (hc : c ∈ moveL s cs i o) : (c.i = i ∧ c.o = o) ∨ ∃ d ∈ cs, c.i = d.i ∧ c.o = d.o := by
 obtain ⟨k, hk, rfl⟩ := mem_gc hc
 rw [moveL_length] at hk
 by_cases hkl : k < cs.length
 ·exact .inr ⟨_, gc_mem hkl, moveL_old hkl⟩
 ·obtain rfl : k = cs.length := by omega
  exact .inl moveL_last
theorem move_sep {s : Sp} {cs : List Cl} (hs : SepC cs) {i o : Int} (hne : i ≠ o) (hi : ∀ y, ¬ Pr cs i y) (ho : ∀ y, ¬ Pr cs o y) : SepC (moveL s cs i o) := by
 intro c hc d hd
 rcases move_ends hc with ⟨a1, a2⟩ | ⟨c', hc', a1, a2⟩ <;> rcases move_ends hd with ⟨b1, b2⟩ | ⟨d', hd', b1, b2⟩
 ·rw [a1, b2]; exact hne
 ·rw [a1, b2]; exact fun e => hi d'.i ⟨d', hd', .inr ⟨e.symm, rfl⟩⟩
 ·rw [a1, b2]; exact fun e => ho c'.o ⟨c', hc', .inl ⟨e, rfl⟩⟩
 ·rw [a1, b2]; exact hs c' hc' d' hd'
/-- without a call -/
theorem pr_drop {s : Sp} {cs : List Cl} (h : CV s cs) (hs : SepC cs) {i o : Int} (hp : ∃ c ∈ cs, c.i = i ∧ c.o = o) {x y : Int} : Pr (dropL cs i) x y ↔ Pr cs x y ∧ x ≠ i ∧ x ≠ o := by
 obtain ⟨c0, h0, rfl, rfl⟩ := hp
 constructor
 ·rintro ⟨c, hc, hh⟩
  have hm := (dropL_sub cs c0.i).subset hc
  have hg := dropL_gone hc
  have hne : c.o ≠ c0.o := fun e => hg (by rw [outs_inj h hm h0 e])
  refine ⟨⟨c, hm, hh⟩, ?_⟩
  rcases hh with ⟨rfl, rfl⟩ | ⟨rfl, rfl⟩
  ·exact ⟨hg, hs c hm c0 h0⟩
  ·exact ⟨(hs c0 h0 c hm).symm, hne⟩
 ·rintro ⟨⟨c, hc, hh⟩, n1, n2⟩
  refine ⟨c, ?_, hh⟩
  unfold dropL
  refine List.mem_filter.2 ⟨hc, ?_⟩
  rcases hh with ⟨rfl, rfl⟩ | ⟨rfl, rfl⟩
  ·simpa using n1
  ·have : c.i ≠ c0.i := fun e => n2 (by rw [ins_inj h hc h0 e])
   simpa using this
theorem sep_sub {cs ds : List Cl} (hs : SepC cs) (hsub : ∀ c ∈ ds, c ∈ cs) : SepC ds := fun c hc d hd => hs c (hsub c hc) d (hsub d hd)
end Go.Proofs.Ytofdnmlpfagibaa
namespace Go.Proofs.Ytofdnmlpfagibaa
open Go Go.Abs Go.RowKit Go.Clos
variable {w0 : World}
theorem azeros_tris (l : Nat) : azeros (.agg #[.int .i64 0, .int .i64 0, .int .i64 0]) (l * 3) = tris (List.replicate l cl0) := by
 apply List.ext_getElem?
 intro j
 by_cases hj : j < l * 3
 ·obtain ⟨q, r, rfl, hr⟩ : ∃ q r, j = q * 3 + r ∧ r < 3 := ⟨j / 3, j % 3, by omega, by omega⟩
  have hq : q < l := by omega
  have g := tris_get (List.replicate l cl0) q (by simpa using hq)
  have e : (List.replicate l cl0).getD q cl0 = cl0 := by simp [List.getD, hq]
  rw [e] at g
  have hr' : r = 0 ∨ r = 1 ∨ r = 2 := by omega
  rcases hr' with rfl | rfl | rfl
  ·rw [Nat.add_zero, g.1]
   have : q * 3 % 3 = 0 := by omega
   simp [azeros, madeCells, Value.cells, this, hq, cl0]
  ·rw [g.2.1]
   have h1 : q * 3 + 1 < l * 3 := by omega
   have : (q * 3 + 1) % 3 = 1 := by omega
   simp [azeros, madeCells, Value.cells, this, h1, cl0]
  ·rw [g.2.2]
   have h1 : q * 3 + 2 < l * 3 := by omega
   have : (q * 3 + 2) % 3 = 2 := by omega
   simp [azeros, madeCells, Value.cells, this, h1, cl0]
 ·rw [List.getElem?_eq_none (by rw [azeros_length]; omega), List.getElem?_eq_none (by rw [tris_length]; simp; omega)]
/-- a whole record is written -/
theorem tris_write : ∀ (cs : List Cl) (i : Nat), i < cs.length → ∀ c : Cl, lwrite (tris cs) (i * 3) [.int .i64 c.i, .int .i64 c.o, .int .i64 c.v] = tris (cs.set i c) := by
 intro cs i h c
 have hl := tris_length cs
 apply List.ext_getElem?
 intro j
 rw [lwrite_get _ _ _ (by simp; omega)]
 by_cases hj : j < cs.length * 3
 ·obtain ⟨q, r, rfl, hr⟩ : ∃ q r, j = q * 3 + r ∧ r < 3 := ⟨j / 3, j % 3, by omega, by omega⟩
  have hq : q < cs.length := by omega
  have g := tris_get (cs.set i c) q (by simpa using hq)
  have g0 := tris_get cs q hq
  have hget : (cs.set i c).getD q cl0 = if i = q then c else cs.getD q cl0 := by
   simp only [List.getD, List.getElem?_set]
   by_cases e : i = q
   ·subst e; simp [h]
   ·simp [e]
  rw [hget] at g
  have hr' : r = 0 ∨ r = 1 ∨ r = 2 := by omega
  rcases hr' with rfl | rfl | rfl
  ·rw [Nat.add_zero, g.1]
   by_cases e : i = q
   ·subst e; rw [if_pos ⟨Nat.le_refl _, by simp⟩, if_pos rfl]; simp
   ·rw [if_neg (by simp; omega), if_neg e]; exact g0.1
  ·rw [g.2.1]
   by_cases e : i = q
   ·subst e; rw [if_pos ⟨by omega, by simp⟩, if_pos rfl]; simp
   ·rw [if_neg (by simp; omega), if_neg e]; exact g0.2.1
  ·rw [g.2.2]
   by_cases e : i = q
   ·subst e; rw [if_pos ⟨by omega, by simp⟩, if_pos rfl]; simp
   ·rw [if_neg (by simp; omega), if_neg e]; exact g0.2.2
 ·rw [if_neg (by simp; omega), List.getElem?_eq_none (by omega), List.getElem?_eq_none (by rw [tris_length]; simp; omega)]
theorem list_eq {xs ys : List Cl} (hlen : xs.length = ys.length) (he : ∀ j, j < xs.length → xs.getD j cl0 = ys.getD j cl0) : xs = ys := by
 apply List.ext_getElem hlen
 intro i h1 h2
 have := he i h1
 simpa [List.getD, h1, h2] using this
end Go.Proofs.Ytofdnmlpfagibaa
namespace Go.Proofs.Ytofdnmlpfagibaa
open Go Go.Abs Go.RowKit Go.Dial Go.Clos
variable {w0 : World}
/-- an exchange as a value -/
def exV (v1 v2 : Value) (e : Ex) : Value := .agg #[.int .i64 e.s.O, .int .i64 e.s.E, .int .i64 e.s.M, v1, v2]
/-- an exchange of one's own -/
def OwnX (β σ : AHeap) (v : Value) (e : Ex) : Prop := ∃ v1 v2, v = exV v1 v2 e ∧ OwnS β σ v1 e.ps ∧ OwnC β σ v2 e.cs
/-- an exchange that is only read -/
def ExV (σ : AHeap) (v : Value) (e : Ex) : Prop := ∃ v1 v2, v = exV v1 v2 e ∧ Texts σ v1 e.ps ∧ Tris σ v2 e.cs
/-- not too big -/
def ExB (e : Ex) : Prop := e.ps.length ≤ 1048576 ∧ (∀ x ∈ e.ps, x.length ≤ 1048576) ∧ e.cs.length ≤ 1048576
theorem OwnX.ex {β σ : AHeap} {v : Value} {e : Ex} (h : OwnX β σ v e) : ExV σ v e := let ⟨v1, v2, h1, h2, h3⟩ := h; ⟨v1, v2, h1, h2.texts, h3.tris⟩
theorem OwnX.sub {β σ τ : AHeap} {v : Value} {e : Ex} (h : OwnX β σ v e) (hs : Sub σ τ) : OwnX β τ v e := let ⟨v1, v2, h1, h2, h3⟩ := h; ⟨v1, v2, h1, h2.sub hs, h3.sub hs⟩
theorem OwnX.older {β β' σ : AHeap} {v : Value} {e : Ex} (h : OwnX β σ v e) (hs : Sub β' β) : OwnX β' σ v e := let ⟨v1, v2, h1, h2, h3⟩ := h; ⟨v1, v2, h1, h2.older hs, h3.older hs⟩
theorem ExV.sub {σ τ : AHeap} {v : Value} {e : Ex} (h : ExV σ v e) (hs : Sub σ τ) : ExV τ v e := let ⟨v1, v2, h1, h2, h3⟩ := h; ⟨v1, v2, h1, h2.sub hs, h3.sub hs⟩
theorem texts_cellV {σ : AHeap} {v : Value} {xs : List (List UInt8)} (h : Texts σ v xs) : v.cells = #[v] ∧ Value.oneCell' v = true := by
 rcases h with ⟨rfl, rfl⟩ | ⟨g, o, rfl, -⟩ <;> exact ⟨rfl, rfl⟩
theorem tris_cellV {σ : AHeap} {v : Value} {xs : List Cl} (h : Tris σ v xs) : v.cells = #[v] ∧ Value.oneCell' v = true := by
 rcases h with ⟨rfl, rfl⟩ | ⟨g, o, rfl, -⟩ <;> exact ⟨rfl, rfl⟩
end Go.Proofs.Ytofdnmlpfagibaa
namespace Go.Proofs.Ytofdnmlpfagibaa
open Go Go.Abs Go.RowKit Go.Dial Go.Clos
def lineS (ps : List (List UInt8)) (t : List UInt8) : Int := match fstN (fun k => decide (ps.getD k [] = t)) 0 ps.length with | some k => k | none => -1
def lineV (e : Ex) (t : List UInt8) : Int := if ExOk e then lineS e.ps t else -1
theorem lineS_spec (ps : List (List UInt8)) (t : List UInt8) : (∃ k : Nat, k < ps.length ∧ lineS ps t = k ∧ ps.getD k [] = t) ∨ (lineS ps t = -1 ∧ ∀ k, k < ps.length → ps.getD k [] ≠ t) := by
 unfold lineS
 cases h : fstN (fun k => decide (ps.getD k [] = t)) 0 ps.length with
 | none => exact .inr ⟨rfl, fun k hk e => by have := fstN_none h (Nat.zero_le k) (by omega); exact absurd e (of_decide_eq_false this)⟩
 | some k =>
  obtain ⟨_, h1, h2⟩ := fstN_some h
  exact .inl ⟨k, by omega, rfl, by simpa using h2⟩
theorem plan_inj {ps : List (List UInt8)} (h : PlanOk ps) {j k : Nat} (hj : j < ps.length) (hk : k < ps.length) (e : ps.getD j [] = ps.getD k []) : j = k :=
 plan_uniq h (s := ps.getD j []) hj hk (Beg.refl _) (by rw [e]; exact Beg.refl _)
theorem lineS_at {ps : List (List UInt8)} (h : PlanOk ps) {k : Nat} (hk : k < ps.length) : lineS ps (ps.getD k []) = k := by
 rcases lineS_spec ps (ps.getD k []) with ⟨j, hj, e1, e2⟩ | ⟨_, hn⟩
 ·rw [e1, plan_inj h hj hk e2]
 ·exact absurd rfl (hn k hk)
theorem lineS_lt {ps : List (List UInt8)} {t : List UInt8} : lineS ps t < ps.length := by
 rcases lineS_spec ps t with ⟨j, hj, e1, e2⟩ | ⟨e, _⟩
 ·omega
 ·omega
theorem lineS_ge {ps : List (List UInt8)} {t : List UInt8} : -1 ≤ lineS ps t := by
 rcases lineS_spec ps t with ⟨j, hj, e1, e2⟩ | ⟨e, _⟩ <;> omega
/-- a number that there is, dialled, is that of its line, whatever is dialled behind it -/
theorem line_dial {ps : List (List UInt8)} (h : PlanOk ps) {t u : List UInt8} (hu : DgT u) {k : Nat} (hk : lineS ps t = k) : k < ps.length ∧ ps.getD k [] = t ∧ dialN ps (t ++ u) = some k := by
 rcases lineS_spec ps t with ⟨j, hj, e1, e2⟩ | ⟨e, _⟩
 ·have : j = k := by omega
  subst this
  refine ⟨hj, e2, dialN_of h (DgT.app (by rw [← e2]; exact (h.1 j hj).1) hu) hj ?_⟩
  rw [e2]; exact Beg.append _ _
 ·omega
/-- the exchange after a deed that can be done -/
def doO (e : Ex) (d : Dd) : Option Ex :=
 if ¬ (0 ≤ d.l ∧ d.l ≤ (e.ps.length : Int) - 1) then none
 else if d.k = 0 then
  if lineS e.ps d.t < 0 ∨ lineS e.ps d.t = d.l ∨ 0 ≤ peerS e.cs d.l ∨ 0 ≤ peerS e.cs (lineS e.ps d.t) then none
  else some ⟨e.s, e.ps, moveL e.s e.cs d.l (lineS e.ps d.t)⟩
 else if d.k = 1 then
  if peerS e.cs d.l < 0 ∨ d.t ≠ [] then none
  else some ⟨e.s, e.ps, if (dropL e.cs d.l).length < e.cs.length then dropL e.cs d.l else dropL e.cs (peerS e.cs d.l)⟩
 else if d.k = 2 then
  if d.t = e.ps.getD d.l.toNat [] ∨ ¬ PlanOk (e.ps.set d.l.toNat d.t) then none
  else some ⟨e.s, e.ps.set d.l.toNat d.t, e.cs⟩
 else none
def exDo (e : Ex) (d : Dd) : Ex × Bool := if ExOk e then (match doO e d with | some x => (x, true) | none => (e, false)) else (ex0, false)
/-- what a deed that was done has done -/
structure Did (e : Ex) (d : Dd) (x : Ex) : Prop where
 ok : ExOk x
 s : x.s = e.s
 len : x.ps.length = e.ps.length
 ne : x ≠ e
 line : 0 ≤ d.l ∧ d.l < e.ps.length
 call : d.k = 0 → x.ps = e.ps ∧ (0 ≤ lineS e.ps d.t ∧ lineS e.ps d.t ≠ d.l) ∧ (∀ a b, Pr x.cs a b ↔ Pr e.cs a b ∨ (a = d.l ∧ b = lineS e.ps d.t) ∨ (a = lineS e.ps d.t ∧ b = d.l)) ∧ (∀ y, ¬ Pr e.cs d.l y) ∧ ∀ y, ¬ Pr e.cs (lineS e.ps d.t) y
 drop : d.k = 1 → x.ps = e.ps ∧ Pr e.cs d.l (peerS e.cs d.l) ∧ ∀ a b, Pr x.cs a b ↔ Pr e.cs a b ∧ a ≠ d.l ∧ a ≠ peerS e.cs d.l
 num : d.k = 2 → x.cs = e.cs
 kind : d.k = 0 ∨ d.k = 1 ∨ d.k = 2
/-- a call between two lines without calls can be put -/
theorem free_move {e : Ex} (h : ExOk e) {i o : Int} (hi : 0 ≤ i ∧ i < e.ps.length) (ho : 0 ≤ o ∧ o < e.ps.length) (hne : i ≠ o) (pi : ∀ y, ¬ Pr e.cs i y) (po : ∀ y, ¬ Pr e.cs o y) :
  Lines e.s i o ∧ ¬ Busy e.cs i o ∧ CV e.s (moveL e.s e.cs i o) ∧ SepC (moveL e.s e.cs i o) := by
 obtain ⟨h1, h2, h3, h4, h5⟩ := h
 have hl : Lines e.s i o := ⟨by omega, by omega⟩
 have hb : ¬ Busy e.cs i o := by
  rintro ⟨c, hc, rfl | rfl⟩
  ·exact pi c.o ⟨c, hc, .inl ⟨rfl, rfl⟩⟩
  ·exact po c.i ⟨c, hc, .inr ⟨rfl, rfl⟩⟩
 exact ⟨hl, hb, moveL_CV h1 h4 hl hb, move_sep h5 hne pi po⟩
theorem doO_did {e x : Ex} {d : Dd} (h : ExOk e) (hd : doO e d = some x) : Did e d x := by
 obtain ⟨h1, h2, h3, h4, h5⟩ := id h
 unfold doO at hd
 split at hd
 ·cases hd
 rename_i hl
 have hl : 0 ≤ d.l ∧ d.l < e.ps.length := by omega
 split at hd
 ·rename_i hk
  split at hd
  ·cases hd
  rename_i hn
  simp only [not_or] at hn
  obtain ⟨n1, n2, n3, n4⟩ := hn
  cases hd
  have pi := (peer_neg h4 (x := d.l)).1 (by omega)
  have po := (peer_neg h4 (x := lineS e.ps d.t)).1 (by omega)
  have hlt := lineS_lt (ps := e.ps) (t := d.t)
  obtain ⟨m1, m2, m3, m4⟩ := free_move h hl (show 0 ≤ lineS e.ps d.t ∧ lineS e.ps d.t < e.ps.length by omega) (fun e => n2 e.symm) pi po
  refine ⟨⟨h1, h2, h3, m3, m4⟩, rfl, rfl, fun ee => ?_, hl, fun _ => ⟨rfl, ⟨by omega, n2⟩, fun a b => pr_move, pi, po⟩, fun e => by omega, fun e => by omega, .inl hk⟩
  have := congrArg (fun e => e.cs.length) ee
  simp only [moveL_length] at this
  omega
 rename_i hk0
 split at hd
 ·rename_i hk
  split at hd
  ·cases hd
  rename_i hn
  simp only [not_or] at hn
  obtain ⟨n1, n2⟩ := hn
  cases hd
  have hp := peer_pos (s := e.s) (cs := e.cs) (x := d.l) h4 (by omega)
  -- the call that ends
  have key : ∃ i o, (∃ c ∈ e.cs, c.i = i ∧ c.o = o) ∧ ((i = d.l ∧ o = peerS e.cs d.l) ∨ (o = d.l ∧ i = peerS e.cs d.l)) ∧ (if (dropL e.cs d.l).length < e.cs.length then dropL e.cs d.l else dropL e.cs (peerS e.cs d.l)) = dropL e.cs i := by
   obtain ⟨c, hc, ⟨a1, a2⟩ | ⟨a1, a2⟩⟩ := hp
   ·have hlen := dropL_len h4 ⟨c, hc, a1⟩
    exact ⟨d.l, peerS e.cs d.l, ⟨c, hc, a1, a2⟩, .inl ⟨rfl, rfl⟩, if_pos (by omega)⟩
   ·have hno : dropL e.cs d.l = e.cs := dropL_no fun c' hc' e' => h5 c' hc' c hc (by rw [e', a1])
    exact ⟨peerS e.cs d.l, d.l, ⟨c, hc, a2, a1⟩, .inr ⟨rfl, rfl⟩, if_neg (by rw [hno]; omega)⟩
  obtain ⟨i, o, hio, hor, he⟩ := key
  rw [he]
  have hlen := dropL_len h4 (i := i) (by obtain ⟨c, hc, a, _⟩ := hio; exact ⟨c, hc, a⟩)
  refine ⟨⟨h1, h2, h3, h4.sub (dropL_sub _ _), sep_sub h5 fun c hc => (dropL_sub _ _).subset hc⟩, rfl, rfl, fun ee => ?_, hl, fun e => by omega, fun _ => ⟨rfl, hp, fun a b => ?_⟩, fun e => by omega, .inr (.inl hk)⟩
  ·have := congrArg (fun e => e.cs.length) ee
   simp only at this
   omega
  ·rw [pr_drop h4 h5 hio]
   rcases hor with ⟨rfl, rfl⟩ | ⟨rfl, rfl⟩
   ·exact Iff.rfl
   ·exact and_congr_right fun _ => And.comm
 rename_i hk1
 split at hd
 ·rename_i hk
  split at hd
  ·cases hd
  rename_i hn
  simp only [not_or] at hn
  obtain ⟨n1, n2⟩ := hn
  cases hd
  refine ⟨⟨h1, Classical.byContradiction n2, by rw [List.length_set]; exact h3, h4, h5⟩, rfl, by rw [List.length_set], fun ee => ?_, hl, fun e => by omega, fun e => by omega, fun _ => rfl, .inr (.inr hk)⟩
  have := congrArg (fun e => e.ps.getD d.l.toNat []) ee
  simp only [List.getD, List.getElem?_set, if_true] at this
  rw [if_pos (by omega)] at this
  exact n1 (by simpa [List.getD] using this)
 ·cases hd
/-- a call is put exactly if both lines are there and free, and two -/
theorem doO_call {e : Ex} {d : Dd} (h : ExOk e) (hk : d.k = 0) : (doO e d).isSome = true ↔ (0 ≤ d.l ∧ d.l < e.ps.length ∧ 0 ≤ lineS e.ps d.t ∧ lineS e.ps d.t ≠ d.l ∧ peerS e.cs d.l < 0 ∧ peerS e.cs (lineS e.ps d.t) < 0) := by
 unfold doO
 by_cases hl : 0 ≤ d.l ∧ d.l ≤ (e.ps.length : Int) - 1
 ·rw [if_neg (fun hh => hh hl), if_pos hk]
  by_cases hn : lineS e.ps d.t < 0 ∨ lineS e.ps d.t = d.l ∨ 0 ≤ peerS e.cs d.l ∨ 0 ≤ peerS e.cs (lineS e.ps d.t)
  ·rw [if_pos hn]; simp; omega
  ·rw [if_neg hn]; simp; omega
 ·rw [if_pos hl]; simp; omega
section
variable {e x : Ex} {d : Dd} (h : ExOk e) (D : Did e d x)
include h D
theorem Did.peer {k : Int} (h0 : k ≠ d.l) (h1 : d.k = 0 → k ≠ lineS e.ps d.t) (h2 : d.k = 1 → peerS e.cs k ≠ d.l) : peerS x.cs k = peerS e.cs k := by
 obtain ⟨a1, a2, a3, a4, a5⟩ := D.ok
 obtain ⟨b1, b2, b3, b4, b5⟩ := h
 refine (peer_congr b4 b5 a4 a5 fun y => ?_).symm
 rcases D.kind with hk | hk | hk
 ·rw [(D.call hk).2.2.1]
  exact ⟨fun hh => .inl hh, fun hh => hh.elim id fun hh => hh.elim (fun hh => absurd hh.1 h0) fun hh => absurd hh.1 (h1 hk)⟩
 ·obtain ⟨_, p1, p2⟩ := D.drop hk
  rw [p2]
  refine ⟨fun hh => ⟨hh, h0, fun ee => h2 hk ?_⟩, fun hh => hh.1⟩
  rw [ee]; exact peer_of b4 b5 p1.symm
 ·rw [D.num hk]
theorem Did.peer_num (hk : d.k = 2) (k : Int) : peerS x.cs k = peerS e.cs k := by rw [D.num hk]
theorem Did.peer_call (hk : d.k = 0) : peerS x.cs d.l = lineS e.ps d.t :=
 peer_of D.ok.2.2.2.1 D.ok.2.2.2.2 (((D.call hk).2.2.1 _ _).2 (.inr (.inl ⟨rfl, rfl⟩)))
theorem Did.peer_drop (hk : d.k = 1) : peerS x.cs d.l = -1 := by
 refine peer_m1 ((peer_neg D.ok.2.2.2.1).2 fun y hy => ?_) D.ok.2.2.2.1
 exact (((D.drop hk).2.2 _ _).1 hy).2.1 rfl
end
/-- deeds one after the other -/
def runN (e : Ex) : List Dd → Ex × Nat
 | [] => (e, 0)
 | d :: ds => match doO e d with
  | some x => ((runN x ds).1, (runN x ds).2 + 1)
  | none => runN e ds
def exRun (e : Ex) (ds : List Dd) : Ex × Nat := if ExOk e then runN e ds else (ex0, 0)
theorem runN_ok : ∀ (ds : List Dd) {e : Ex}, ExOk e → ExOk (runN e ds).1 ∧ (runN e ds).1.s = e.s ∧ (runN e ds).1.ps.length = e.ps.length ∧ (runN e ds).2 ≤ ds.length
 | [], e, h => ⟨h, rfl, rfl, Nat.le_refl _⟩
 | d :: ds, e, h => by
  unfold runN
  cases hd : doO e d with
  | none => obtain ⟨a, b, c, f⟩ := runN_ok ds h; exact ⟨a, b, c, by simp; omega⟩
  | some x =>
   have D := doO_did h hd
   obtain ⟨a, b, c, f⟩ := runN_ok ds D.ok
   exact ⟨a, by rw [b, D.s], by rw [c, D.len], by simp; omega⟩
theorem runN_app : ∀ (us bs : List Dd) (e : Ex), runN e (us ++ bs) = ((runN (runN e us).1 bs).1, (runN e us).2 + (runN (runN e us).1 bs).2)
 | [], bs, e => by simp [runN]
 | d :: us, bs, e => by
  rw [List.cons_append, runN, runN]
  cases hd : doO e d with
  | none => simp only; exact runN_app us bs e
  | some x =>
   simp only
   rw [runN_app us bs x]
   refine Prod.ext rfl ?_
   simp only; omega
/-- the deeds of the night -/
def nightL (cs : List Cl) : List Dd := cs.map fun c => ⟨1, c.i, []⟩
theorem night_run : ∀ (cs : List Cl) (s : Sp) (ps : List (List UInt8)), ExOk ⟨s, ps, cs⟩ → runN ⟨s, ps, cs⟩ (nightL cs) = (⟨s, ps, []⟩, cs.length)
 | [], s, ps, h => rfl
 | c :: cs, s, ps, h => by
  obtain ⟨h1, h2, h3, h4, h5⟩ := id h
  have hc : c ∈ c :: cs := by simp
  obtain ⟨r1, r2, -⟩ := h4.2.1 c hc
  have hp : peerS (c :: cs) c.i = c.o := by simp [peerS]
  have hdr : dropL (c :: cs) c.i = cs := by
   unfold dropL
   rw [List.filter_cons_of_neg (by simp)]
   refine List.filter_eq_self.2 fun d hd => ?_
   have hne : d.i ≠ c.i := fun e => by
    have hn := h4.ins
    rw [List.map_cons, List.nodup_cons] at hn
    exact hn.1 (List.mem_map.2 ⟨d, hd, e⟩)
   simpa using hne
  have hdo : doO ⟨s, ps, c :: cs⟩ ⟨1, c.i, []⟩ = some ⟨s, ps, cs⟩ := by
   unfold doO
   simp only at h3 r1 r2 ⊢
   rw [if_neg (fun hh => hh (by omega)), if_neg (by decide), if_pos trivial, hp, if_neg (by simp; omega), hdr, if_pos (by simp)]
  have ih := night_run cs s ps ⟨h1, h2, h3, h4.sub (List.sublist_cons_self _ _), sep_sub h5 fun d hd => by simp [hd]⟩
  show runN ⟨s, ps, c :: cs⟩ (⟨1, c.i, []⟩ :: nightL cs) = _
  rw [runN, hdo]
  simp only [ih]
  rfl
end Go.Proofs.Ytofdnmlpfagibaa
namespace Go.Proofs.Ytofdnmlpfagibaa
open Go Go.Abs Go.RowKit Go.Dial Go.Clos
def w_no : List UInt8 := [110, 111]
def w_wrong : List UInt8 := [119, 114, 111, 110, 103]
def w_busy : List UInt8 := [98, 117, 115, 121]
def refuse (e : Ex) (d : Dd) : List UInt8 := if d.k ≠ 0 ∨ (e.ps.length : Int) ≤ d.l then w_no else if lineS e.ps d.t < 0 then w_wrong else w_busy
theorem ex_quiet {e : Ex} (h : ExOk e) : ExOk ⟨e.s, e.ps, []⟩ := ⟨h.1, h.2.1, h.2.2.1, CV_nil.2 h.1.1, fun c hc => by cases hc⟩
theorem night_is {e : Ex} (h : ExOk e) : runN e (nightL e.cs) = (⟨e.s, e.ps, []⟩, e.cs.length) := night_run e.cs e.s e.ps h
theorem ex_plan {e : Ex} (h : ExOk e) : 1 ≤ e.ps.length ∧ e.ps.length ≤ 10 ∧ e.ps.getD 0 [] ≠ [] := by
 obtain ⟨h1, h2, h3, -⟩ := h
 have := h1.1.lines
 have hl : 1 ≤ e.ps.length := by omega
 refine ⟨hl, h2.2, fun e0 => ?_⟩
 have := (h2.1 0 (by omega)).2.1.1
 rw [e0] at this; simp at this
end Go.Proofs.Ytofdnmlpfagibaa
namespace Go.Clos
theorem take_gc {cs : List Cl} {k : Nat} (h : k < cs.length) : cs.take (k + 1) = cs.take k ++ [gc cs k] := by
 rw [List.take_succ_eq_append_getElem h]; simp [gc, List.getD, h]
/-- one call more is possible -/
theorem CV_take {s : Sp} {cs : List Cl} {k : Nat} (hk : k < cs.length) : CV s (cs.take (k + 1)) ↔ CV s (cs.take k) ∧ Rg s (gc cs k) ∧ ∀ d ∈ cs.take k, ¬ Hit s (gc cs k) d := by
 rw [take_gc hk, CV_snoc]
theorem CV.take {s : Sp} {cs : List Cl} (h : CV s cs) (k : Nat) : CV s (cs.take k) := h.sub (List.take_sublist _ _)
end Go.Clos
namespace Go.Clos
theorem flip_nil (a b : Int) (cs : List Cl) : flip a b [] cs = cs := by
 apply List.ext_getElem?
 intro j
 unfold flip
 rw [List.getElem?_mapIdx]
 cases cs[j]? <;> simp
theorem flip_step {a b : Int} {ch : List Nat} {cs : List Cl} {k : Nat} (hk : k < cs.length) (hm : k ∉ ch) : (flip a b ch cs).set k ⟨(gc cs k).i, (gc cs k).o, a + b - (gc cs k).v⟩ = flip a b (ch ++ [k]) cs ∧ gc (flip a b ch cs) k = gc cs k := by
 refine ⟨?_, by rw [flip_gc hk, if_neg hm]⟩
 apply List.ext_getElem?
 intro j
 rw [List.getElem?_set]
 have hl := flip_length a b ch cs
 by_cases e : k = j
 ·subst e
  rw [if_pos rfl, if_pos (by omega)]
  unfold flip
  rw [List.getElem?_mapIdx, gc_some hk]
  simp
 ·rw [if_neg e]
  unfold flip
  rw [List.getElem?_mapIdx, List.getElem?_mapIdx]
  cases hj : cs[j]? with
  | none => rfl
  | some c =>
   have : j ≠ k := fun h => e h.symm
   simp [this]
/-- an index, or that there is none, as the reference writes it -/
def nI : Option Nat → Int
 | none => -1
 | some k => k
theorem nxt_succ (s : Sp) (cs : List Cl) (ch : List Nat) (sd : Bool) (x w : Int) (n : Nat) : nI (nxt s cs ch sd x w (n + 1)) = if AtC s sd x w (gc cs n) ∧ n ∉ ch then (n : Int) else nI (nxt s cs ch sd x w n) := by
 conv => lhs; rw [nxt]
 split <;> rfl
def chI (ch : List Nat) : List Int := ch.map fun (k : Nat) => (k : Int)
theorem chI_length (ch : List Nat) : (chI ch).length = ch.length := by simp [chI]
theorem chI_getD {ch : List Nat} {k : Nat} (h : k < ch.length) : (chI ch).getD k 0 = (ch.getD k 0 : Nat) := by simp [chI, List.getD, h]
theorem mem_chI {ch : List Nat} {k : Nat} : (k : Int) ∈ chI ch ↔ k ∈ ch := by
 simp only [chI, List.mem_map]
 constructor
 ·rintro ⟨j, hj, e⟩
  have : j = k := by omega
  rw [← this]; exact hj
 ·intro h; exact ⟨k, h, rfl⟩
theorem chI_snoc (ch : List Nat) (k : Nat) : chI (ch ++ [k]) = chI ch ++ [(k : Int)] := by simp [chI]
theorem go_none {s : Sp} {cs : List Cl} {a b : Int} {f : Nat} {ch : List Nat} {sd : Bool} {x : Int} (h : nxt s cs ch sd x (wantOf a b sd) cs.length = none) : go s cs a b f ch sd x = ch := by
 cases f with
 | zero => rfl
 | succ f => rw [go, h]
theorem go_some {s : Sp} {cs : List Cl} {a b : Int} {f : Nat} {ch : List Nat} {sd : Bool} {x : Int} {k : Nat} (h : nxt s cs ch sd x (wantOf a b sd) cs.length = some k) : go s cs a b (f + 1) ch sd x = go s cs a b f (ch ++ [k]) (!sd) (sw s (!sd) (gc cs k)) := by
 rw [go, h]
/-- there is room for a next one -/
theorem Inv.room {s : Sp} {cs : List Cl} {a b B : Int} {ch : List Nat} {sd : Bool} {x w : Int} {k : Nat} (hi : Inv s cs a b B ch sd x) (h : nxt s cs ch sd x w cs.length = some k) : ch.length < cs.length := by
 obtain ⟨h1, -, h3⟩ := nxt_some h
 have := sub_len (xs := k :: ch) (ys := List.range cs.length) (List.nodup_cons.2 ⟨h3, hi.nd⟩) fun y hy => by
  rcases List.mem_cons.1 hy with rfl | hy
  ·exact List.mem_range.2 h1
  ·exact List.mem_range.2 (hi.lt y hy)
 simp at this; omega
theorem wantOf_not (a b : Int) (sd : Bool) : wantOf a b (!sd) = a + b - wantOf a b sd := by cases sd <;> simp [wantOf] <;> omega
theorem usedI_take {s : Sp} {cs : List Cl} {x : Int} {k : Nat} (h : k < cs.length) : usedI s (cs.take (k + 1)) x = usedI s (cs.take k) x ++ if (gc cs k).i / s.E = x then [(gc cs k).v] else [] := by
 unfold usedI
 rw [take_gc h, List.filter_append, List.map_append]
 congr 1
 by_cases e : (gc cs k).i / s.E = x <;> simp [e]
theorem usedO_take {s : Sp} {cs : List Cl} {x : Int} {k : Nat} (h : k < cs.length) : usedO s (cs.take (k + 1)) x = usedO s (cs.take k) x ++ if (gc cs k).o / s.E = x then [(gc cs k).v] else [] := by
 unfold usedO
 rw [take_gc h, List.filter_append, List.map_append]
 congr 1
 by_cases e : (gc cs k).o / s.E = x <;> simp [e]
theorem used_length (s : Sp) (cs : List Cl) (x : Int) : (usedI s cs x).length ≤ cs.length ∧ (usedO s cs x).length ≤ cs.length := by
 unfold usedI usedO
 rw [List.length_map, List.length_map]
 exact ⟨List.length_filter_le _ _, List.length_filter_le _ _⟩
theorem firstN_step (used : List Int) (n k : Nat) : firstN used (n + 1) k = if (k : Int) ∈ used then firstN used n (k + 1) else k := rfl
end Go.Clos
namespace Go.Proofs.Ytofdnmlpfagibaa
open Go Go.Abs Go.RowKit Go.Clos
variable {w0 : World}
set_option maxRecDepth 8000 in
theorem specSV_at (σ : AHeap) (O E M : Int) : ACall Try.prog w0 74 [.agg #[.int .i64 O, .int .i64 E, .int .i64 M]] σ fun r σ' => r = .bool (decide (SV ⟨O, E, M⟩)) ∧ σ' = σ := by
 refine acall_go mixed Try.func74 rfl good74 fun pr => ?_
 simp -implicitDefEqProofs (disch := omega) only [Nat.reduceEqDiff, ↓reduceIte, vcu, ↓vcd]
 refine r_boxed fun b τ nb s1 e1 => ?_
 replace e1 : τ b = some ⟨[.int .i64 O, .int .i64 E, .int .i64 M], false⟩ := e1
 have lO : ld τ b (0 + 0) = some (.int .i64 O) := ld_of e1 rfl
 have lE : ld τ b (0 + 1) = some (.int .i64 E) := ld_of e1 rfl
 have lM : ld τ b (0 + 2) = some (.int .i64 M) := ld_of e1 rfl
 simp -implicitDefEqProofs (disch := omega) only [Nat.reduceEqDiff, ↓reduceIte, vcu, ↓vcd, lO, lE, lM]
 refine (in_calls τ O 1 4).mono ?_
 rintro r _ ⟨rfl, rfl⟩
 rename_i τ
 by_cases h1 : 1 ≤ O ∧ O ≤ 4
 case neg =>
  have hS : ¬ SV ⟨O, E, M⟩ := fun h => h1 h.1
  rw [decide_eq_false h1, decide_eq_false hS]
  simp -implicitDefEqProofs (disch := omega) only [Nat.reduceEqDiff, ↓reduceIte, vcu, ↓vcd, opK_some]
  refine fin_drop Try.results74 σ s1 ⟨?_, rfl⟩
  simp -implicitDefEqProofs (disch := omega) only [Nat.reduceEqDiff, ↓reduceIte, vcu, ↓vcd]
 rw [decide_eq_true h1]
 simp -implicitDefEqProofs (disch := omega) only [Nat.reduceEqDiff, ↓reduceIte, vcu, ↓vcd, opK_some, lO, lE, lM]
 refine (in_calls τ E 1 3).mono ?_
 rintro r _ ⟨rfl, rfl⟩
 rename_i τ
 by_cases h2 : 1 ≤ E ∧ E ≤ 3
 case neg =>
  have hS : ¬ SV ⟨O, E, M⟩ := fun h => h2 h.2.1
  rw [decide_eq_false h2, decide_eq_false hS]
  simp -implicitDefEqProofs (disch := omega) only [Nat.reduceEqDiff, ↓reduceIte, vcu, ↓vcd, opK_some]
  refine fin_drop Try.results74 σ s1 ⟨?_, rfl⟩
  simp -implicitDefEqProofs (disch := omega) only [Nat.reduceEqDiff, ↓reduceIte, vcu, ↓vcd]
 rw [decide_eq_true h2]
 simp -implicitDefEqProofs (disch := omega) only [Nat.reduceEqDiff, ↓reduceIte, vcu, ↓vcd, opK_some, lO, lE, lM]
 refine (in_calls τ M 1 5).mono ?_
 rintro r _ ⟨rfl, rfl⟩
 by_cases h3 : 1 ≤ M ∧ M ≤ 5
 ·have hS : SV ⟨O, E, M⟩ := ⟨h1, h2, h3⟩
  rw [decide_eq_true h3, decide_eq_true hS]
  simp -implicitDefEqProofs (disch := omega) only [Nat.reduceEqDiff, ↓reduceIte, vcu, ↓vcd, opK_some]
  refine fin_drop Try.results74 σ s1 ⟨?_, rfl⟩
  simp -implicitDefEqProofs (disch := omega) only [Nat.reduceEqDiff, ↓reduceIte, vcu, ↓vcd]
 ·have hS : ¬ SV ⟨O, E, M⟩ := fun h => h3 h.2.2
  rw [decide_eq_false h3, decide_eq_false hS]
  simp -implicitDefEqProofs (disch := omega) only [Nat.reduceEqDiff, ↓reduceIte, vcu, ↓vcd, opK_some]
  refine fin_drop Try.results74 σ s1 ⟨?_, rfl⟩
  simp -implicitDefEqProofs (disch := omega) only [Nat.reduceEqDiff, ↓reduceIte, vcu, ↓vcd]
set_option maxRecDepth 8000 in
theorem specLines_at (σ : AHeap) (O E M : Int) (hS : SV ⟨O, E, M⟩) : ACall Try.prog w0 47 [.agg #[.int .i64 O, .int .i64 E, .int .i64 M]] σ fun r σ' => r = .int .i64 (O * E) ∧ σ' = σ := by
 have hL := hS.lines
 dsimp only at hL
 refine acall_go mixed Try.func47 rfl good47 fun pr => ?_
 simp -implicitDefEqProofs (disch := omega) only [Nat.reduceEqDiff, ↓reduceIte, vcu, ↓vcd]
 refine r_boxed fun b τ nb s1 e1 => ?_
 replace e1 : τ b = some ⟨[.int .i64 O, .int .i64 E, .int .i64 M], false⟩ := e1
 have lO : ld τ b (0 + 0) = some (.int .i64 O) := ld_of e1 rfl
 have lE : ld τ b (0 + 1) = some (.int .i64 E) := ld_of e1 rfl
 simp -implicitDefEqProofs (disch := omega) only [Nat.reduceEqDiff, ↓reduceIte, vcu, ↓vcd, lO, lE]
 refine fin_drop Try.results47 σ s1 ⟨?_, rfl⟩
 simp -implicitDefEqProofs (disch := omega) only [Nat.reduceEqDiff, ↓reduceIte, vcu, ↓vcd]
set_option maxRecDepth 8000 in
theorem specEnough_at (σ : AHeap) (O E M : Int) : ACall Try.prog w0 45 [.agg #[.int .i64 O, .int .i64 E, .int .i64 M]] σ fun r σ' => r = .bool (decide (Enough ⟨O, E, M⟩)) ∧ σ' = σ := by
 refine acall_go mixed Try.func45 rfl good45 fun pr => ?_
 simp -implicitDefEqProofs (disch := omega) only [Nat.reduceEqDiff, ↓reduceIte, vcu, ↓vcd]
 refine r_boxed fun b τ nb s1 e1 => ?_
 replace e1 : τ b = some ⟨[.int .i64 O, .int .i64 E, .int .i64 M], false⟩ := e1
 have lE : ld τ b (0 + 1) = some (.int .i64 E) := ld_of e1 rfl
 have lM : ld τ b (0 + 2) = some (.int .i64 M) := ld_of e1 rfl
 have l3 : lds τ b 0 3 = some [.int .i64 O, .int .i64 E, .int .i64 M] := lds_three (ld_of e1 rfl) (ld_of e1 rfl) (ld_of e1 rfl)
 simp -implicitDefEqProofs (disch := omega) only [Nat.reduceEqDiff, ↓reduceIte, vcu, ↓vcd, l3, co24]
 refine (specSV_at τ O E M).mono ?_
 rintro r _ ⟨rfl, rfl⟩
 rename_i τ
 by_cases hS : SV ⟨O, E, M⟩
 case neg =>
  have hE : ¬ Enough ⟨O, E, M⟩ := fun h => hS h.1
  rw [decide_eq_false hS, decide_eq_false hE]
  simp -implicitDefEqProofs (disch := omega) only [Nat.reduceEqDiff, ↓reduceIte, vcu, ↓vcd, opK_some]
  refine fin_drop Try.results45 σ s1 ⟨?_, rfl⟩
  simp -implicitDefEqProofs (disch := omega) only [Nat.reduceEqDiff, ↓reduceIte, vcu, ↓vcd]
 rw [decide_eq_true hS]
 have hd : decide (Enough ⟨O, E, M⟩) = decide (E ≤ M) := by
  by_cases h : E ≤ M
  ·rw [decide_eq_true h, decide_eq_true (show Enough ⟨O, E, M⟩ from ⟨hS, h⟩)]
  ·rw [decide_eq_false h, decide_eq_false (fun hE : Enough ⟨O, E, M⟩ => h hE.2)]
 rw [hd]
 simp -implicitDefEqProofs (disch := omega) only [Nat.reduceEqDiff, ↓reduceIte, vcu, ↓vcd, opK_some, lE, lM]
 refine fin_drop Try.results45 σ s1 ⟨?_, rfl⟩
 simp -implicitDefEqProofs (disch := omega) only [Nat.reduceEqDiff, ↓reduceIte, vcu, ↓vcd]
set_option maxRecDepth 8000 in
theorem specCV_at (σ : AHeap) (O E M : Int) (h o : Nat) (cs : List Cl) (hv : TrisAt σ h o cs) (hl : cs.length ≤ 1048576) :
  ACall Try.prog w0 48 [.agg #[.int .i64 O, .int .i64 E, .int .i64 M], .slice (some ⟨h, o, none⟩) cs.length 3] σ fun r σ' => r = .bool (decide (CV ⟨O, E, M⟩ cs)) ∧ σ' = σ := by
 refine acall_go mixed Try.func48 rfl good48 fun pr => ?_
 simp -implicitDefEqProofs (disch := omega) only [Nat.reduceEqDiff, ↓reduceIte, vcu, ↓vcd]
 refine r_boxed fun b τ nb s1 e1 => ?_
 replace e1 : τ b = some ⟨[.int .i64 O, .int .i64 E, .int .i64 M], false⟩ := e1
 have l3 : lds τ b 0 3 = some [.int .i64 O, .int .i64 E, .int .i64 M] := lds_three (ld_of e1 rfl) (ld_of e1 rfl) (ld_of e1 rfl)
 simp -implicitDefEqProofs (disch := omega) only [Nat.reduceEqDiff, ↓reduceIte, vcu, ↓vcd, l3, co24]
 refine (specSV_at τ O E M).mono ?_
 rintro r _ ⟨rfl, rfl⟩
 rename_i τ
 by_cases hS : SV ⟨O, E, M⟩
 case neg =>
  rw [decide_eq_false hS, decide_eq_false (fun hC : CV ⟨O, E, M⟩ cs => hS hC.1)]
  simp -implicitDefEqProofs (disch := omega) only [Nat.reduceEqDiff, ↓reduceIte, vcu, ↓vcd, opK_some, Bool.not_false]
  refine fin_drop Try.results48 σ s1 ⟨?_, rfl⟩
  simp -implicitDefEqProofs (disch := omega) only [Nat.reduceEqDiff, ↓reduceIte, vcu, ↓vcd]
 rw [decide_eq_true hS]
 have hL := hS.lines
 have hS' := hS
 obtain ⟨-, ⟨hE1, hE2⟩, hM1, hM2⟩ := hS'
 dsimp only at hL hE1 hE2 hM1 hM2
 simp -implicitDefEqProofs (disch := omega) only [Nat.reduceEqDiff, ↓reduceIte, vcu, ↓vcd, opK_some, Bool.not_true]
 refine vc_loop_c mixed (by kernel_rfl) [1, 2] (fun m a τ' => ∃ k : Nat, m + k = cs.length ∧ a 5 = .int .i64 k ∧ Sub τ τ' ∧ CV ⟨O, E, M⟩ (cs.take k)) cs.length ⟨0, by simp, rfl, Sub.refl _, by simpa using CV_nil.2 hS⟩ ?_
 rintro m a τ1 hc ⟨k, hk, h5, hs, hC⟩
 simp -implicitDefEqProofs (disch := omega) only [Nat.reduceEqDiff, ↓reduceIte, vcu, ↓vcd] at hc
 obtain ⟨h1, h2, -⟩ := hc
 by_cases hlt : k < cs.length
 case neg =>
  obtain rfl : k = cs.length := by omega
  rw [List.take_length] at hC
  rw [decide_eq_true hC]
  simp -implicitDefEqProofs (disch := omega) only [Nat.reduceEqDiff, ↓reduceIte, vcu, ↓vcd, h1, h2, h5]
  refine fin_drop Try.results48 σ (s1.trans hs) ⟨?_, rfl⟩
  simp -implicitDefEqProofs (disch := omega) only [Nat.reduceEqDiff, ↓reduceIte, vcu, ↓vcd]
 have hx := ((hv.sub s1).sub hs).all hlt
 have hgk : cs.getD k cl0 = gc cs k := rfl
 have htk := CV_take (s := ⟨O, E, M⟩) hlt
 have bad : ¬ (Rg ⟨O, E, M⟩ (gc cs k) ∧ ∀ d ∈ cs.take k, ¬ Hit ⟨O, E, M⟩ (gc cs k) d) → ¬ CV ⟨O, E, M⟩ cs := fun hn hC => hn (htk.1 (hC.take (k + 1))).2
 rw [hgk] at hx
 generalize gc cs k = c at hx htk bad
 obtain ⟨ci, co, cv⟩ := c
 dsimp only at hx
 simp -implicitDefEqProofs (disch := omega) only [Nat.reduceEqDiff, ↓reduceIte, vcu, ↓vcd, h1, h2, h5, hx, co35]
 refine r_local (cs := #[.int .i64 ci, .int .i64 co, .int .i64 cv]) ze35 (by decide) z9q (by rw [co35]; rfl) rfl rfl (Nat.zero_lt_succ _) fun g τ2 ng s2 e2 => ?_
 replace e2 : τ2 g = some ⟨[.int .i64 ci, .int .i64 co, .int .i64 cv], false⟩ := e2
 have li : ld τ2 g (0 + 0) = some (.int .i64 ci) := ld_of e2 rfl
 have lo : ld τ2 g (0 + 1) = some (.int .i64 co) := ld_of e2 rfl
 have lv : ld τ2 g (0 + 2) = some (.int .i64 cv) := ld_of e2 rfl
 have hs2 := hs.trans s2
 have f1 := hs2 _ _ e1
 have m3 : lds τ2 b 0 3 = some [.int .i64 O, .int .i64 E, .int .i64 M] := lds_three (ld_of f1 rfl) (ld_of f1 rfl) (ld_of f1 rfl)
 have mM : ld τ2 b (0 + 2) = some (.int .i64 M) := ld_of f1 rfl
 simp -implicitDefEqProofs (disch := omega) only [Nat.reduceEqDiff, ↓reduceIte, vcu, ↓vcd, h1, h2, h5, li, lo, lv, m3, mM, co24]
 rw [r_callq]
 refine ⟨_, specLines_at τ2 O E M hS, ?_⟩
 simp -implicitDefEqProofs (disch := omega) only [Nat.reduceEqDiff, ↓reduceIte, vcu, ↓vcd, h1, h2, h5, li, lo, lv, m3, mM, co24]
 rw [r_callq]
 refine ⟨_, in_calls τ2 _ _ _, ?_⟩
 by_cases hI : 0 ≤ ci ∧ ci ≤ O * E - 1
 case neg =>
  have hn := bad fun hh => hI hh.1.1
  rw [decide_eq_false hI, decide_eq_false hn]
  simp -implicitDefEqProofs (disch := omega) only [Nat.reduceEqDiff, ↓reduceIte, vcu, ↓vcd, Bool.not_false]
  refine fin_drop Try.results48 σ (s1.trans hs2) ⟨?_, rfl⟩
  simp -implicitDefEqProofs (disch := omega) only [Nat.reduceEqDiff, ↓reduceIte, vcu, ↓vcd]
 rw [decide_eq_true hI]
 simp -implicitDefEqProofs (disch := omega) only [Nat.reduceEqDiff, ↓reduceIte, vcu, ↓vcd, h1, h2, h5, li, lo, lv, m3, mM, co24, Bool.not_true]
 rw [r_callq]
 refine ⟨_, specLines_at τ2 O E M hS, ?_⟩
 simp -implicitDefEqProofs (disch := omega) only [Nat.reduceEqDiff, ↓reduceIte, vcu, ↓vcd, h1, h2, h5, li, lo, lv, m3, mM, co24]
 rw [r_callq]
 refine ⟨_, in_calls τ2 _ _ _, ?_⟩
 by_cases hO : 0 ≤ co ∧ co ≤ O * E - 1
 case neg =>
  have hn := bad fun hh => hO hh.1.2.1
  rw [decide_eq_false hO, decide_eq_false hn]
  simp -implicitDefEqProofs (disch := omega) only [Nat.reduceEqDiff, ↓reduceIte, vcu, ↓vcd, Bool.not_false]
  refine fin_drop Try.results48 σ (s1.trans hs2) ⟨?_, rfl⟩
  simp -implicitDefEqProofs (disch := omega) only [Nat.reduceEqDiff, ↓reduceIte, vcu, ↓vcd]
 rw [decide_eq_true hO]
 simp -implicitDefEqProofs (disch := omega) only [Nat.reduceEqDiff, ↓reduceIte, vcu, ↓vcd, h1, h2, h5, li, lo, lv, m3, mM, co24, Bool.not_true]
 rw [r_callq]
 refine ⟨_, in_calls τ2 _ _ _, ?_⟩
 by_cases hV : 0 ≤ cv ∧ cv ≤ M - 1
 case neg =>
  have hn := bad fun hh => hV hh.1.2.2
  rw [decide_eq_false hV, decide_eq_false hn]
  simp -implicitDefEqProofs (disch := omega) only [Nat.reduceEqDiff, ↓reduceIte, vcu, ↓vcd, Bool.not_false]
  refine fin_drop Try.results48 σ (s1.trans hs2) ⟨?_, rfl⟩
  simp -implicitDefEqProofs (disch := omega) only [Nat.reduceEqDiff, ↓reduceIte, vcu, ↓vcd]
 rw [decide_eq_true hV]
 have hRg : Rg ⟨O, E, M⟩ ⟨ci, co, cv⟩ := ⟨hI, hO, hV⟩
 simp -implicitDefEqProofs (disch := omega) only [Nat.reduceEqDiff, ↓reduceIte, vcu, ↓vcd, h1, h2, h5, Bool.not_true]
 refine vc_loop_c mixed (by kernel_rfl) [1, 2, 5, 6] (fun m a τ' => ∃ j : Nat, m + j = k ∧ a 7 = .int .i64 j ∧ Sub τ2 τ' ∧ ∀ d ∈ cs.take j, ¬ Hit ⟨O, E, M⟩ ⟨ci, co, cv⟩ d) k ⟨0, by simp, rfl, Sub.refl _, by simp⟩ ?_
 rintro m2 a2 τ3 hc2 ⟨j, hj, h7, hs3, hN⟩
 simp -implicitDefEqProofs (disch := omega) only [Nat.reduceEqDiff, ↓reduceIte, vcu, ↓vcd, h1, h2, h5] at hc2
 obtain ⟨q1, q2, q5, q6, -⟩ := hc2
 by_cases hjk : j < k
 case neg =>
  obtain rfl : j = k := by omega
  simp -implicitDefEqProofs (disch := omega) only [Nat.reduceEqDiff, ↓reduceIte, vcu, ↓vcd, q1, q2, q5, q6, h7]
  refine ⟨⟨trivial, trivial, trivial⟩, m - 1, by omega, j + 1, by omega, by simp, hs2.trans hs3, ?_⟩
  rw [htk]
  exact ⟨hC, hRg, hN⟩
 have hjl : j < cs.length := by omega
 have hy := (((hv.sub s1).sub hs2).sub hs3).all hjl
 have hgj : cs.getD j cl0 = gc cs j := rfl
 have hdk : gc cs j ∈ cs.take k := List.mem_of_getElem? (i := j) (by rw [List.getElem?_take, if_pos hjk]; exact gc_some hjl)
 have hdr := hC.2.1 _ hdk
 have bad2 : Hit ⟨O, E, M⟩ ⟨ci, co, cv⟩ (gc cs j) → ¬ CV ⟨O, E, M⟩ cs := fun hh => bad fun h2 => h2.2 _ hdk hh
 have hjt := take_gc hjl
 rw [hgj] at hy
 generalize gc cs j = d at hy hdk hdr bad2 hjt
 obtain ⟨di, do', dv⟩ := d
 obtain ⟨⟨d1, d2⟩, ⟨d3, d4⟩, d5, d6⟩ := hdr
 dsimp only at hy d1 d2 d3 d4 d5 d6
 simp -implicitDefEqProofs (disch := omega) only [Nat.reduceEqDiff, ↓reduceIte, vcu, ↓vcd, q1, q2, q5, q6, h7, hy, co35]
 refine r_local (cs := #[.int .i64 di, .int .i64 do', .int .i64 dv]) ze35 (by decide) z9q (by rw [co35]; rfl) rfl rfl (Nat.zero_lt_succ _) fun g2 τ4 ng4 s4 e4 => ?_
 replace e4 : τ4 g2 = some ⟨[.int .i64 di, .int .i64 do', .int .i64 dv], false⟩ := e4
 have hs4 := hs3.trans s4
 have f2 := hs4 _ _ e2
 have f3 := hs4 _ _ f1
 have ki : ld τ4 g (0 + 0) = some (.int .i64 ci) := ld_of f2 rfl
 have ko : ld τ4 g (0 + 1) = some (.int .i64 co) := ld_of f2 rfl
 have kv : ld τ4 g (0 + 2) = some (.int .i64 cv) := ld_of f2 rfl
 have ji : ld τ4 g2 (0 + 0) = some (.int .i64 di) := ld_of e4 rfl
 have jo : ld τ4 g2 (0 + 1) = some (.int .i64 do') := ld_of e4 rfl
 have jv : ld τ4 g2 (0 + 2) = some (.int .i64 dv) := ld_of e4 rfl
 have lE : ld τ4 b (0 + 1) = some (.int .i64 E) := ld_of f3 rfl
 have fine : ¬ Hit ⟨O, E, M⟩ ⟨ci, co, cv⟩ ⟨di, do', dv⟩ → ∀ d ∈ cs.take (j + 1), ¬ Hit ⟨O, E, M⟩ ⟨ci, co, cv⟩ d := fun hn d hd => by
  rw [hjt] at hd
  rcases List.mem_append.1 hd with hd | hd
  ·exact hN d hd
  ·rw [List.mem_singleton] at hd; subst hd; exact hn
 by_cases c1 : ci = di
 ·rw [decide_eq_false (bad2 (.inl c1))]
  simp -implicitDefEqProofs (disch := omega) only [Nat.reduceEqDiff, ↓reduceIte, vcu, ↓vcd, q1, q2, q5, q6, h7, ki, ko, kv, ji, jo, jv, lE]
  refine fin_drop Try.results48 σ (s1.trans (hs2.trans hs4)) ⟨?_, rfl⟩
  simp -implicitDefEqProofs (disch := omega) only [Nat.reduceEqDiff, ↓reduceIte, vcu, ↓vcd]
 by_cases c2 : co = do'
 ·rw [decide_eq_false (bad2 (.inr (.inl c2)))]
  simp -implicitDefEqProofs (disch := omega) only [Nat.reduceEqDiff, ↓reduceIte, vcu, ↓vcd, q1, q2, q5, q6, h7, ki, ko, kv, ji, jo, jv, lE]
  refine fin_drop Try.results48 σ (s1.trans (hs2.trans hs4)) ⟨?_, rfl⟩
  simp -implicitDefEqProofs (disch := omega) only [Nat.reduceEqDiff, ↓reduceIte, vcu, ↓vcd]
 by_cases c3 : cv = dv
 case neg =>
  have hn := fine fun hh => hh.elim c1 fun hh => hh.elim c2 fun hh => c3 hh.1
  simp -implicitDefEqProofs (disch := omega) only [Nat.reduceEqDiff, ↓reduceIte, vcu, ↓vcd, q1, q2, q5, q6, h7, ki, ko, kv, ji, jo, jv, lE]
  exact ⟨⟨h1.symm, h2.symm, h5.symm, trivial, trivial⟩, m2 - 1, by omega, j + 1, by omega, by simp, hs4, hn⟩
 by_cases c4 : ci / E = di / E
 ·rw [decide_eq_false (bad2 (.inr (.inr ⟨c3, .inl c4⟩)))]
  simp -implicitDefEqProofs (disch := omega) only [Nat.reduceEqDiff, ↓reduceIte, vcu, ↓vcd, q1, q2, q5, q6, h7, ki, ko, kv, ji, jo, jv, lE]
  refine fin_drop Try.results48 σ (s1.trans (hs2.trans hs4)) ⟨?_, rfl⟩
  simp -implicitDefEqProofs (disch := omega) only [Nat.reduceEqDiff, ↓reduceIte, vcu, ↓vcd]
 by_cases c5 : co / E = do' / E
 ·rw [decide_eq_false (bad2 (.inr (.inr ⟨c3, .inr c5⟩)))]
  simp -implicitDefEqProofs (disch := omega) only [Nat.reduceEqDiff, ↓reduceIte, vcu, ↓vcd, q1, q2, q5, q6, h7, ki, ko, kv, ji, jo, jv, lE]
  refine fin_drop Try.results48 σ (s1.trans (hs2.trans hs4)) ⟨?_, rfl⟩
  simp -implicitDefEqProofs (disch := omega) only [Nat.reduceEqDiff, ↓reduceIte, vcu, ↓vcd]
 have hn := fine fun hh => hh.elim c1 fun hh => hh.elim c2 fun hh => hh.2.elim c4 c5
 simp -implicitDefEqProofs (disch := omega) only [Nat.reduceEqDiff, ↓reduceIte, vcu, ↓vcd, q1, q2, q5, q6, h7, ki, ko, kv, ji, jo, jv, lE]
 exact ⟨⟨h1.symm, h2.symm, h5.symm, trivial, trivial⟩, m2 - 1, by omega, j + 1, by omega, by simp, hs4, hn⟩
end Go.Proofs.Ytofdnmlpfagibaa
namespace Go.Proofs.Ytofdnmlpfagibaa
open Go Go.Abs Go.RowKit Go.Dial Go.Clos
variable {w0 : World}
theorem rowC {σ : AHeap} {v : Value} {cs : List Cl} (h : Tris σ v cs) (h0 : 0 < cs.length) : ∃ g o, v = .slice (some ⟨g, o, none⟩) cs.length 3 ∧ TrisAt σ g o cs := by
 rcases h with ⟨_, rfl⟩ | h
 ·simp at h0
 ·exact h
theorem rowT {σ : AHeap} {v : Value} {xs : List (List UInt8)} (h : Texts σ v xs) (h0 : 0 < xs.length) : ∃ g o, v = .slice (some ⟨g, o, none⟩) xs.length 1 ∧ TextsAt σ g o xs := by
 rcases h with ⟨_, rfl⟩ | h
 ·simp at h0
 ·exact h
theorem lenC {σ : AHeap} {v : Value} {cs : List Cl} (h : Tris σ v cs) : alenV Try.prog 26 v = some (.int .i64 (cs.length : Int)) := by
 rcases h with ⟨rfl, rfl⟩ | ⟨g, o, rfl, -⟩ <;> exact alenV_slice Try.underlying26
theorem lenT {σ : AHeap} {v : Value} {xs : List (List UInt8)} (h : Texts σ v xs) : alenV Try.prog 25 v = some (.int .i64 (xs.length : Int)) := by
 rcases h with ⟨rfl, rfl⟩ | ⟨g, o, rfl, -⟩ <;> exact alenV_slice Try.underlying25
theorem specCV_calls (σ : AHeap) (O E M : Int) (v : Value) (cs : List Cl) (hv : Tris σ v cs) (hl : cs.length ≤ 1048576) :
  ACall Try.prog w0 48 [.agg #[.int .i64 O, .int .i64 E, .int .i64 M], v] σ fun r σ' => r = .bool (decide (CV ⟨O, E, M⟩ cs)) ∧ σ' = σ :=
 ACall.tris_quiet (pre := [_]) (post := []) (by kernel_rfl) hv fun σ1 h o _ hg => specCV_at σ1 O E M h o cs hg hl
theorem sep_of {cs : List Cl} (h : ∀ k, k < cs.length → ∀ j, j < cs.length → (gc cs k).i ≠ (gc cs j).o) : SepC cs := by
 intro c hc d hd
 obtain ⟨k, hk, rfl⟩ := mem_gc hc
 obtain ⟨j, hj, rfl⟩ := mem_gc hd
 exact h k hk j hj
set_option maxRecDepth 8000 in
theorem exVal_calls (σ : AHeap) (v : Value) (e : Ex) (hv : ExV σ v e) (hb : ExB e) :
  ACall Try.prog w0 12 [v] σ fun r σ' => r = .bool (decide (ExOk e)) ∧ σ' = σ := by
 obtain ⟨⟨O, E, M⟩, ps, cs⟩ := e
 obtain ⟨v1, v2, rfl, t1, t2⟩ := hv
 obtain ⟨b1, b2, b3⟩ := hb
 dsimp only at t1 t2 b1 b2 b3
 unfold exV
 refine acall_go mixed Try.func12 rfl good12 fun pr => ?_
 simp -implicitDefEqProofs (disch := omega) only [Nat.reduceEqDiff, ↓reduceIte, vcu, ↓vcd]
 refine r_boxed fun b τ nb s1 e1 => ?_
 replace e1 : τ b = some ⟨[.int .i64 O, .int .i64 E, .int .i64 M, v1, v2], false⟩ := e1
 have x0 : lds τ b 0 3 = some [.int .i64 O, .int .i64 E, .int .i64 M] := lds_three (ld_of e1 rfl) (ld_of e1 rfl) (ld_of e1 rfl)
 have x3 : ld τ b (0 + 3) = some v1 := ld_of e1 rfl
 have x4 : ld τ b (0 + 4) = some v2 := ld_of e1 rfl
 have l1 := lenT (t1.sub s1)
 have l2 := lenC (t2.sub s1)
 simp -implicitDefEqProofs (disch := omega) only [Nat.reduceEqDiff, ↓reduceIte, vcu, ↓vcd, x0, co24, Nat.add_zero]
 rw [r_callq]
 refine ⟨_, specEnough_at τ O E M, ?_⟩
 by_cases hE : Enough ⟨O, E, M⟩
 case neg =>
  rw [decide_eq_false hE]
  simp -implicitDefEqProofs (disch := omega) only [Nat.reduceEqDiff, ↓reduceIte, vcu, ↓vcd, Bool.not_false]
  refine fin_drop Try.results12 σ s1 ⟨?_, rfl⟩
  simp -implicitDefEqProofs (disch := omega) only [Nat.reduceEqDiff, ↓reduceIte, vcu, ↓vcd]
  rw [decide_eq_false fun h => hE h.1]
 rw [decide_eq_true hE]
 simp -implicitDefEqProofs (disch := omega) only [Nat.reduceEqDiff, ↓reduceIte, vcu, ↓vcd, Bool.not_true, x3]
 rw [r_callq]
 refine ⟨_, planValid_calls τ v1 ps (t1.sub s1) b1 b2, ?_⟩
 by_cases hP : PlanOk ps
 case neg =>
  rw [decide_eq_false hP]
  simp -implicitDefEqProofs (disch := omega) only [Nat.reduceEqDiff, ↓reduceIte, vcu, ↓vcd, Bool.not_false]
  refine fin_drop Try.results12 σ s1 ⟨?_, rfl⟩
  simp -implicitDefEqProofs (disch := omega) only [Nat.reduceEqDiff, ↓reduceIte, vcu, ↓vcd]
  rw [decide_eq_false fun h => hP h.2.1]
 rw [decide_eq_true hP]
 simp -implicitDefEqProofs (disch := omega) only [Nat.reduceEqDiff, ↓reduceIte, vcu, ↓vcd, Bool.not_true, x3, x0, l1, co24, Nat.add_zero]
 rw [r_callq]
 refine ⟨_, specLines_at τ O E M hE.1, ?_⟩
 by_cases hL : (ps.length : Int) = O * E
 case neg =>
  have d : decide ((ps.length : Int) ≠ O * E) = true := decide_eq_true hL
  simp -implicitDefEqProofs (disch := omega) only [Nat.reduceEqDiff, ↓reduceIte, vcu, ↓vcd, d]
  refine fin_drop Try.results12 σ s1 ⟨?_, rfl⟩
  simp -implicitDefEqProofs (disch := omega) only [Nat.reduceEqDiff, ↓reduceIte, vcu, ↓vcd]
  rw [decide_eq_false fun h => hL h.2.2.1]
 have d : decide ((ps.length : Int) ≠ O * E) = false := decide_eq_false fun h => h hL
 simp -implicitDefEqProofs (disch := omega) only [Nat.reduceEqDiff, ↓reduceIte, vcu, ↓vcd, d, x0, x4, co24, Nat.add_zero]
 rw [r_callq]
 refine ⟨_, specCV_calls τ O E M v2 cs (t2.sub s1) b3, ?_⟩
 by_cases hC : CV ⟨O, E, M⟩ cs
 case neg =>
  rw [decide_eq_false hC]
  simp -implicitDefEqProofs (disch := omega) only [Nat.reduceEqDiff, ↓reduceIte, vcu, ↓vcd, Bool.not_false]
  refine fin_drop Try.results12 σ s1 ⟨?_, rfl⟩
  simp -implicitDefEqProofs (disch := omega) only [Nat.reduceEqDiff, ↓reduceIte, vcu, ↓vcd]
  rw [decide_eq_false fun h => hC h.2.2.2.1]
 rw [decide_eq_true hC]
 simp -implicitDefEqProofs (disch := omega) only [Nat.reduceEqDiff, ↓reduceIte, vcu, ↓vcd, Bool.not_true]
 refine vc_loop_c mixed (by kernel_rfl) [1] (fun m a σ' => ∃ k : Nat, m + k = cs.length ∧ a 3 = .int .i64 k ∧ (∀ i, i < k → ∀ j, j < cs.length → (gc cs i).i ≠ (gc cs j).o) ∧ σ' = τ) cs.length ⟨0, by simp, rfl, fun i hi => absurd hi (by omega), rfl⟩ ?_
 rintro m a _ hc ⟨k, hk, h3, hall, rfl⟩
 rename_i τ
 simp -implicitDefEqProofs (disch := omega) only [Nat.reduceEqDiff, ↓reduceIte, vcu, ↓vcd] at hc
 obtain ⟨h1, -⟩ := hc
 by_cases hlt : k < cs.length
 case neg =>
  simp -implicitDefEqProofs (disch := omega) only [Nat.reduceEqDiff, ↓reduceIte, vcu, ↓vcd, h1, h3, x4, l2]
  refine fin_drop Try.results12 σ s1 ⟨?_, rfl⟩
  simp -implicitDefEqProofs (disch := omega) only [Nat.reduceEqDiff, ↓reduceIte, vcu, ↓vcd]
  rw [decide_eq_true ⟨hE, hP, hL, hC, sep_of (cs := cs) fun i hi j hj => hall i (by omega) j hj⟩]
 simp -implicitDefEqProofs (disch := omega) only [Nat.reduceEqDiff, ↓reduceIte, vcu, ↓vcd, h1, h3, x4, l2]
 refine vc_loop_c mixed (by kernel_rfl) [1, 3] (fun m a σ' => ∃ j : Nat, m + j = cs.length ∧ a 4 = .int .i64 j ∧ (∀ i, i < j → (gc cs k).i ≠ (gc cs i).o) ∧ σ' = τ) cs.length ⟨0, by simp, rfl, fun i hi => absurd hi (by omega), rfl⟩ ?_
 rintro m2 a2 _ hc2 ⟨j, hj, h4, hin, rfl⟩
 rename_i τ
 simp -implicitDefEqProofs (disch := omega) only [Nat.reduceEqDiff, ↓reduceIte, vcu, ↓vcd, h1, h3] at hc2
 obtain ⟨g1, g3, -⟩ := hc2
 by_cases hjl : j < cs.length
 case neg =>
  simp -implicitDefEqProofs (disch := omega) only [Nat.reduceEqDiff, ↓reduceIte, vcu, ↓vcd, g1, g3, h4, x4, l2]
  refine ⟨⟨by first | trivial | exact h1.symm, trivial⟩, m - 1, by omega, k + 1, by omega, by simp, fun i hi j' hj' => ?_, trivial⟩
  by_cases e : i = k
  ·subst e; exact hin j' (by omega)
  ·exact hall i (by omega) j' hj'
 obtain ⟨hg, ho, rfl, hrow⟩ := rowC (t2.sub s1) (by omega)
 have hx := (hrow k hlt).1
 have hy := (hrow j hjl).2.1
 have hgk : cs.getD k cl0 = gc cs k := rfl
 have hgj : cs.getD j cl0 = gc cs j := rfl
 rw [hgk] at hx
 rw [hgj] at hy
 by_cases hij : (gc cs k).i = (gc cs j).o
 ·have d2 : decide ((gc cs k).i = (gc cs j).o) = true := decide_eq_true hij
  simp -implicitDefEqProofs (disch := omega) only [Nat.reduceEqDiff, ↓reduceIte, vcu, ↓vcd, g1, g3, h4, x4, hx, hy, d2, Nat.add_zero]
  refine fin_drop Try.results12 σ s1 ⟨?_, rfl⟩
  simp -implicitDefEqProofs (disch := omega) only [Nat.reduceEqDiff, ↓reduceIte, vcu, ↓vcd]
  rw [decide_eq_false fun h => h.2.2.2.2 _ (gc_mem hlt) _ (gc_mem hjl) hij]
 ·have d2 : decide ((gc cs k).i = (gc cs j).o) = false := decide_eq_false hij
  simp -implicitDefEqProofs (disch := omega) only [Nat.reduceEqDiff, ↓reduceIte, vcu, ↓vcd, g1, g3, h4, x4, hx, hy, d2, Nat.add_zero]
  refine ⟨⟨by first | trivial | exact h1.symm, by first | trivial | exact h3.symm, trivial⟩, m2 - 1, by omega, j + 1, by omega, by simp, fun i hi => ?_, trivial⟩
  by_cases e : i = j
  ·subst e; exact hij
  ·exact hin i (by omega)
theorem drop_gc {cs : List Cl} {k : Nat} (h : k < cs.length) : cs.drop k = gc cs k :: cs.drop (k + 1) := by
 rw [List.drop_eq_getElem_cons h]; simp [gc, List.getD, h]
set_option maxRecDepth 8000 in
theorem peerOf_calls (σ : AHeap) (v : Value) (e : Ex) (x : Int) (hv : ExV σ v e) (hb : ExB e) :
  ACall Try.prog w0 23 [v, .int .i64 x] σ fun r σ' => r = .int .i64 (peerV e x) ∧ σ' = σ := by
 have hv0 := hv
 obtain ⟨⟨O, E, M⟩, ps, cs⟩ := e
 obtain ⟨v1, v2, rfl, t1, t2⟩ := hv
 have hb0 := hb
 obtain ⟨b1, b2, b3⟩ := hb
 dsimp only at t1 t2 b1 b2 b3
 unfold exV
 refine acall_go mixed Try.func23 rfl good23 fun pr => ?_
 simp -implicitDefEqProofs (disch := omega) only [Nat.reduceEqDiff, ↓reduceIte, vcu, ↓vcd]
 refine r_boxed fun b τ nb s1 e1 => ?_
 replace e1 : τ b = some ⟨[.int .i64 O, .int .i64 E, .int .i64 M, v1, v2], false⟩ := e1
 have x5 : lds τ b 0 5 = some [.int .i64 O, .int .i64 E, .int .i64 M, v1, v2] := by rw [lds_of e1 (by simp)]; rfl
 have x4 : ld τ b (0 + 4) = some v2 := ld_of e1 rfl
 have l2 := lenC (t2.sub s1)
 have hval := exVal_calls (w0 := w0) τ (exV v1 v2 ⟨⟨O, E, M⟩, ps, cs⟩) ⟨⟨O, E, M⟩, ps, cs⟩ (hv0.sub s1) hb0
 unfold exV at hval
 dsimp only at hval
 simp -implicitDefEqProofs (disch := omega) only [Nat.reduceEqDiff, ↓reduceIte, vcu, ↓vcd]
 refine vc_loop_c mixed (by kernel_rfl) [1, 2] (fun m a σ' => ∃ k : Nat, m + k = cs.length ∧ a 5 = .int .i64 k ∧ (0 < k → ExOk ⟨⟨O, E, M⟩, ps, cs⟩) ∧ peerS cs x = peerS (cs.drop k) x ∧ σ' = τ) cs.length ⟨0, by simp, rfl, fun h => absurd h (by omega), rfl, rfl⟩ ?_
 rintro m a _ hc ⟨k, hk, h5, hk0, hp, rfl⟩
 rename_i τ
 simp -implicitDefEqProofs (disch := omega) only [Nat.reduceEqDiff, ↓reduceIte, vcu, ↓vcd] at hc
 obtain ⟨h1, h2, -⟩ := hc
 by_cases hlt : k < cs.length
 case neg =>
  obtain rfl : k = cs.length := by omega
  simp -implicitDefEqProofs (disch := omega) only [Nat.reduceEqDiff, ↓reduceIte, vcu, ↓vcd, h1, h2, h5, x4, l2]
  refine fin_drop Try.results23 σ s1 ⟨?_, rfl⟩
  simp -implicitDefEqProofs (disch := omega) only [Nat.reduceEqDiff, ↓reduceIte, vcu, ↓vcd]
  rw [List.drop_length] at hp
  unfold peerV
  split
  ·show _ = Value.int .i64 (peerS cs x); rw [hp]; rfl
  ·rfl
 by_cases hok : ExOk ⟨⟨O, E, M⟩, ps, cs⟩
 case neg =>
  rw [decide_eq_false hok] at hval
  simp -implicitDefEqProofs (disch := omega) only [Nat.reduceEqDiff, ↓reduceIte, vcu, ↓vcd, h1, h2, h5, x4, l2, x5, co28]
  refine hval.mono ?_
  rintro _ _ ⟨rfl, rfl⟩
  simp -implicitDefEqProofs (disch := omega) only [Nat.reduceEqDiff, ↓reduceIte, vcu, ↓vcd, opK_some]
  refine fin_drop Try.results23 σ s1 ⟨?_, rfl⟩
  simp -implicitDefEqProofs (disch := omega) only [Nat.reduceEqDiff, ↓reduceIte, vcu, ↓vcd]
  rw [peerV, if_neg hok]
 rw [decide_eq_true hok] at hval
 have hpv : peerV ⟨⟨O, E, M⟩, ps, cs⟩ x = peerS cs x := if_pos hok
 rw [drop_gc hlt] at hp
 obtain ⟨hg, ho, rfl, hrow⟩ := rowC (t2.sub s1) (by omega)
 obtain ⟨hx, hy, -⟩ := hrow k hlt
 have hgk : cs.getD k cl0 = gc cs k := rfl
 rw [hgk] at hx hy
 have hpc : peerS (gc cs k :: cs.drop (k + 1)) x = if (gc cs k).i = x then (gc cs k).o else if (gc cs k).o = x then (gc cs k).i else peerS (cs.drop (k + 1)) x := rfl
 rw [hpc] at hp
 simp -implicitDefEqProofs (disch := omega) only [Nat.reduceEqDiff, ↓reduceIte, vcu, ↓vcd, h1, h2, h5, x4, l2, x5, co28]
 refine hval.mono ?_
 rintro _ _ ⟨rfl, rfl⟩
 rename_i τ
 by_cases hi : (gc cs k).i = x
 ·have d : decide ((gc cs k).i = x) = true := decide_eq_true hi
  rw [if_pos hi] at hp
  simp -implicitDefEqProofs (disch := omega) only [Nat.reduceEqDiff, ↓reduceIte, vcu, ↓vcd, opK_some, h1, h2, h5, x4, hx, hy, d, Nat.add_zero]
  refine fin_drop Try.results23 σ s1 ⟨?_, rfl⟩
  simp -implicitDefEqProofs (disch := omega) only [Nat.reduceEqDiff, ↓reduceIte, vcu, ↓vcd]
  rw [hpv, hp]
 have d : decide ((gc cs k).i = x) = false := decide_eq_false hi
 rw [if_neg hi] at hp
 by_cases ho' : (gc cs k).o = x
 ·have d2 : decide ((gc cs k).o = x) = true := decide_eq_true ho'
  rw [if_pos ho'] at hp
  simp -implicitDefEqProofs (disch := omega) only [Nat.reduceEqDiff, ↓reduceIte, vcu, ↓vcd, opK_some, h1, h2, h5, x4, hx, hy, d, d2, Nat.add_zero]
  refine fin_drop Try.results23 σ s1 ⟨?_, rfl⟩
  simp -implicitDefEqProofs (disch := omega) only [Nat.reduceEqDiff, ↓reduceIte, vcu, ↓vcd]
  rw [hpv, hp]
 have d2 : decide ((gc cs k).o = x) = false := decide_eq_false ho'
 rw [if_neg ho'] at hp
 simp -implicitDefEqProofs (disch := omega) only [Nat.reduceEqDiff, ↓reduceIte, vcu, ↓vcd, opK_some, h1, h2, h5, x4, hx, hy, d, d2, Nat.add_zero]
 exact ⟨⟨trivial, trivial, trivial⟩, m - 1, by omega, k + 1, by omega, by simp, fun _ => hok, hp, trivial⟩
end Go.Proofs.Ytofdnmlpfagibaa
namespace Go.Proofs.Ytofdnmlpfagibaa
open Go Go.Abs Go.RowKit Go.Dial Go.Clos
section
variable {P : Program} {w0 : Base} {n : NR} {a : AFrame} {σ : AHeap} {K : AK} {Q : AQ} {q : Bool} {all os : List Oper}
variable {d : Nat} {dd : Option Tmp} {ty : TypeId} {pos : String} {af : Array Edge}
/-- append a row of texts that may be nil to a row of one's own -/
theorem r_pushXV {t u : TypeId} {zv : Value} {b : Nat} {x y : Operand} {g len : Nat} {xs ys : List (List UInt8)} (hE : Elems P t 1 zv b) (hb : b ≤ 64) (hu : ∃ e2, P.underlying u = some (.slice e2))
  (hx : ev a x = .slice (some ⟨g, 0, none⟩) len 1) (hg : σ g = some ⟨texts xs, false⟩) (hn : xs.length = len) (hy : Texts σ (ev a y) ys) (hl : len + ys.length ≤ 4294967296)
  (hk : ∀ g' τ, σ g' = none → Kept g σ τ → τ g' = some ⟨texts (xs ++ ys), false⟩ → vcR P w0 false all os (fset a d (.slice (some ⟨g', 0, none⟩) (len + ys.length) 1)) τ K) :
  vcR P w0 false all (⟨some d, .call ⟨.builtin .append, #[x, y], #[t, u]⟩, ty, pos, af, none⟩ :: os) a σ K := by
 rcases hy with ⟨e, rfl⟩ | ⟨h, o, e, hat⟩
 ·subst hn
  refine r_push hE hu hx hg (by rw [texts_length]; omega) (D := []) (by rw [e]; rfl) rfl ?_ fun g' τ h1 h2 h3 => ?_
  ·have : xs.length * 1 * b ≤ 4294967296 * 64 := Nat.mul_le_mul (by simp at hl; omega) hb
   simp at hl
   refine ⟨?_, ?_⟩
   ·show (xs.length * 1 + 0) * b ≤ _
    rw [Nat.add_zero]; omega
   ·show xs.length * 1 + 0 ≤ _
    omega
  ·exact hk g' τ h1 h2 (by rw [List.append_nil]; rwa [List.append_nil] at h3)
 ·exact r_pushX hE hb hu hx hg hn e hat rfl hl hk
/-- the same of calls -/
theorem r_pushCV {t u : TypeId} {zv : Value} {b : Nat} {x y : Operand} {g len : Nat} {xs ys : List Cl} (hE : Elems P t 3 zv b) (hb : b ≤ 64) (hu : ∃ e2, P.underlying u = some (.slice e2))
  (hx : ev a x = .slice (some ⟨g, 0, none⟩) len 3) (hg : σ g = some ⟨tris xs, false⟩) (hn : xs.length = len) (hy : Tris σ (ev a y) ys) (hl : len + ys.length ≤ 4294967296)
  (hk : ∀ g' τ, σ g' = none → Kept g σ τ → τ g' = some ⟨tris (xs ++ ys), false⟩ → vcR P w0 false all os (fset a d (.slice (some ⟨g', 0, none⟩) (len + ys.length) 3)) τ K) :
  vcR P w0 false all (⟨some d, .call ⟨.builtin .append, #[x, y], #[t, u]⟩, ty, pos, af, none⟩ :: os) a σ K := by
 rcases hy with ⟨e, rfl⟩ | ⟨h, o, e, hat⟩
 ·subst hn
  refine r_push hE hu hx hg (by rw [tris_length]) (D := []) (by rw [e]; rfl) rfl ?_ fun g' τ h1 h2 h3 => ?_
  ·have : xs.length * 3 * b ≤ 4294967296 * 3 * 64 := Nat.mul_le_mul (by simp at hl; omega) hb
   simp at hl
   refine ⟨?_, ?_⟩
   ·show (xs.length * 3 + 0) * b ≤ _
    rw [Nat.add_zero]; omega
   ·show xs.length * 3 + 0 ≤ _
    omega
  ·exact hk g' τ h1 h2 (by rw [List.append_nil]; rwa [List.append_nil] at h3)
 ·exact r_pushC hE hb hu hx hg hn e hat rfl hl hk
end
variable {w0 : World}
set_option maxRecDepth 8000 in
theorem lineOf_calls (σ : AHeap) (v : Value) (e : Ex) (t : List UInt8) (hv : ExV σ v e) (hb : ExB e) :
  ACall Try.prog w0 25 [v, .string (tx t)] σ fun r σ' => r = .int .i64 (lineV e t) ∧ σ' = σ := by
 have hv0 := hv
 obtain ⟨⟨O, E, M⟩, ps, cs⟩ := e
 obtain ⟨v1, v2, rfl, t1, t2⟩ := hv
 have hb0 := hb
 obtain ⟨b1, b2, b3⟩ := hb
 dsimp only at t1 t2 b1 b2 b3
 unfold exV
 refine acall_go mixed Try.func25 rfl good25 fun pr => ?_
 simp -implicitDefEqProofs (disch := omega) only [Nat.reduceEqDiff, ↓reduceIte, vcu, ↓vcd]
 refine r_boxed fun b τ nb s1 e1 => ?_
 replace e1 : τ b = some ⟨[.int .i64 O, .int .i64 E, .int .i64 M, v1, v2], false⟩ := e1
 have x5 : lds τ b 0 5 = some [.int .i64 O, .int .i64 E, .int .i64 M, v1, v2] := by rw [lds_of e1 (by simp)]; rfl
 have x3 : ld τ b (0 + 3) = some v1 := ld_of e1 rfl
 have l1 := lenT (t1.sub s1)
 have hval := exVal_calls (w0 := w0) τ (exV v1 v2 ⟨⟨O, E, M⟩, ps, cs⟩) ⟨⟨O, E, M⟩, ps, cs⟩ (hv0.sub s1) hb0
 unfold exV at hval
 dsimp only at hval
 simp -implicitDefEqProofs (disch := omega) only [Nat.reduceEqDiff, ↓reduceIte, vcu, ↓vcd]
 refine vc_loop_c mixed (by kernel_rfl) [1, 2] (fun m a σ' => ∃ k : Nat, m + k = ps.length ∧ a 5 = .int .i64 k ∧ (0 < k → ExOk ⟨⟨O, E, M⟩, ps, cs⟩) ∧ fstN (fun k => decide (ps.getD k [] = t)) 0 ps.length = fstN (fun k => decide (ps.getD k [] = t)) k m ∧ σ' = τ) ps.length ⟨0, by simp, rfl, fun h => absurd h (by omega), rfl, rfl⟩ ?_
 rintro m a _ hc ⟨k, hk, h5, hk0, hp, rfl⟩
 rename_i τ
 simp -implicitDefEqProofs (disch := omega) only [Nat.reduceEqDiff, ↓reduceIte, vcu, ↓vcd] at hc
 obtain ⟨h1, h2, -⟩ := hc
 by_cases hlt : k < ps.length
 case neg =>
  obtain rfl : m = 0 := by omega
  simp -implicitDefEqProofs (disch := omega) only [Nat.reduceEqDiff, ↓reduceIte, vcu, ↓vcd, h1, h2, h5, x3, l1]
  refine fin_drop Try.results25 σ s1 ⟨?_, rfl⟩
  simp -implicitDefEqProofs (disch := omega) only [Nat.reduceEqDiff, ↓reduceIte, vcu, ↓vcd]
  unfold lineV
  split
  ·show _ = Value.int .i64 (lineS ps t)
   unfold lineS; rw [hp]; rfl
  ·rfl
 by_cases hok : ExOk ⟨⟨O, E, M⟩, ps, cs⟩
 case neg =>
  rw [decide_eq_false hok] at hval
  simp -implicitDefEqProofs (disch := omega) only [Nat.reduceEqDiff, ↓reduceIte, vcu, ↓vcd, h1, h2, h5, x3, l1, x5, co28]
  refine hval.mono ?_
  rintro _ _ ⟨rfl, rfl⟩
  simp -implicitDefEqProofs (disch := omega) only [Nat.reduceEqDiff, ↓reduceIte, vcu, ↓vcd, opK_some]
  refine fin_drop Try.results25 σ s1 ⟨?_, rfl⟩
  simp -implicitDefEqProofs (disch := omega) only [Nat.reduceEqDiff, ↓reduceIte, vcu, ↓vcd]
  rw [lineV, if_neg hok]
 rw [decide_eq_true hok] at hval
 have hpv : lineV ⟨⟨O, E, M⟩, ps, cs⟩ t = lineS ps t := if_pos hok
 obtain ⟨m', rfl⟩ : ∃ m', m = m' + 1 := ⟨m - 1, by omega⟩
 rw [fstN] at hp
 obtain ⟨hg, ho, rfl, hrow⟩ := rowT (t1.sub s1) (by omega)
 have hx := hrow k hlt
 simp -implicitDefEqProofs (disch := omega) only [Nat.reduceEqDiff, ↓reduceIte, vcu, ↓vcd, h1, h2, h5, x3, l1, x5, co28]
 refine hval.mono ?_
 rintro _ _ ⟨rfl, rfl⟩
 rename_i τ
 by_cases hi : ps.getD k [] = t
 ·have d : decide (ps.getD k [] = t) = true := decide_eq_true hi
  rw [d, if_pos rfl] at hp
  simp -implicitDefEqProofs (disch := omega) only [Nat.reduceEqDiff, ↓reduceIte, vcu, ↓vcd, opK_some, h1, h2, h5, x3, hx, abin_seql, d]
  refine fin_drop Try.results25 σ s1 ⟨?_, rfl⟩
  simp -implicitDefEqProofs (disch := omega) only [Nat.reduceEqDiff, ↓reduceIte, vcu, ↓vcd]
  rw [hpv]; unfold lineS; rw [hp]
 have d : decide (ps.getD k [] = t) = false := decide_eq_false hi
 rw [d, if_neg (by simp)] at hp
 simp -implicitDefEqProofs (disch := omega) only [Nat.reduceEqDiff, ↓reduceIte, vcu, ↓vcd, opK_some, h1, h2, h5, x3, hx, abin_seql, d]
 exact ⟨⟨trivial, trivial, trivial⟩, m', by omega, k + 1, by omega, by simp, fun _ => hok, hp, trivial⟩
/-- the deeds of the night, none for exchanges that are not valid -/
def nightV (e : Ex) : List Dd := if ExOk e then nightL e.cs else []
set_option maxRecDepth 8000 in
theorem night_calls (σ : AHeap) (v : Value) (e : Ex) (hv : ExV σ v e) (hb : ExB e) :
  ACall Try.prog w0 36 [v] σ fun r σ' => Sub σ σ' ∧ OwnD σ σ' r (nightV e) := by
 have hv0 := hv
 obtain ⟨⟨O, E, M⟩, ps, cs⟩ := e
 obtain ⟨v1, v2, rfl, t1, t2⟩ := hv
 have hb0 := hb
 obtain ⟨b1, b2, b3⟩ := hb
 dsimp only at t1 t2 b1 b2 b3
 unfold exV
 refine acall_go mixed Try.func36 rfl good36 fun pr => ?_
 simp -implicitDefEqProofs (disch := omega) only [Nat.reduceEqDiff, ↓reduceIte, vcu, ↓vcd]
 refine r_boxed fun b τ nb s1 e1 => ?_
 replace e1 : τ b = some ⟨[.int .i64 O, .int .i64 E, .int .i64 M, v1, v2], false⟩ := e1
 simp -implicitDefEqProofs (disch := omega) only [Nat.reduceEqDiff, ↓reduceIte, vcu, ↓vcd]
 refine r_lit el55 (out := #[]) (by kernel_rfl) (by kernel_rfl) fun e0 τ1 n1 s2 w1 => ?_
 have x5 : ∀ τ', Sub τ τ' → lds τ' b 0 5 = some [.int .i64 O, .int .i64 E, .int .i64 M, v1, v2] := fun τ' hs => by rw [lds_of (hs _ _ e1) (by simp)]; rfl
 have x4 : ∀ τ', Sub τ τ' → ld τ' b (0 + 4) = some v2 := fun τ' hs => ld_of (hs _ _ e1) rfl
 have l2 := lenC (t2.sub s1)
 have hval := fun (τ' : AHeap) (hs : Sub τ τ') => exVal_calls (w0 := w0) τ' (exV v1 v2 ⟨⟨O, E, M⟩, ps, cs⟩) ⟨⟨O, E, M⟩, ps, cs⟩ (hv0.sub (s1.trans hs)) hb0
 unfold exV at hval
 dsimp only at hval
 simp -implicitDefEqProofs (disch := omega) only [Nat.reduceEqDiff, ↓reduceIte, vcu, ↓vcd]
 refine vc_loop_c mixed (by kernel_rfl) [1] (fun m a τ' => ∃ (k g : Nat), m + k = cs.length ∧ a 4 = .int .i64 k ∧ (0 < k → ExOk ⟨⟨O, E, M⟩, ps, cs⟩) ∧ a 3 = .slice (some ⟨g, 0, none⟩) k 3 ∧ Sub τ τ' ∧ τ' g = some ⟨dds (nightL (cs.take k)), false⟩ ∧ τ g = none) cs.length ⟨0, e0, by simp, rfl, fun h => absurd h (by omega), rfl, s2, w1, n1⟩ ?_
 rintro m a τ2 hc ⟨k, g, hk, h4, hk0, h3, hs, hg, hn⟩
 simp -implicitDefEqProofs (disch := omega) only [Nat.reduceEqDiff, ↓reduceIte, vcu, ↓vcd] at hc
 obtain ⟨h1, -⟩ := hc
 have y4 := x4 τ2 hs
 have y5 := x5 τ2 hs
 have hval := hval τ2 hs
 have hlen : (nightL (cs.take k)).length = k := by simp [nightL]; omega
 by_cases hlt : k < cs.length
 case neg =>
  obtain rfl : k = cs.length := by omega
  simp -implicitDefEqProofs (disch := omega) only [Nat.reduceEqDiff, ↓reduceIte, vcu, ↓vcd, h1, h3, h4, y4, l2]
  rw [List.take_length] at hg
  have hV : nightV ⟨⟨O, E, M⟩, ps, cs⟩ = nightL cs := by
   unfold nightV
   split
   ·rfl
   ·rename_i hno
    have h0 : cs = [] := by
     rcases Nat.eq_zero_or_pos cs.length with h | h
     ·exact List.eq_nil_of_length_eq_zero h
     ·exact absurd (hk0 h) hno
    rw [h0]; rfl
  refine fin_one Try.results36 ⟨s1.trans hs, .inr ⟨g, ?_, by rw [hV]; exact hg, free_sub s1 hn⟩⟩
  simp -implicitDefEqProofs (disch := omega) only [Nat.reduceEqDiff, ↓reduceIte, vcu, ↓vcd, h3]
  rw [hV]; simp [nightL]
 by_cases hok : ExOk ⟨⟨O, E, M⟩, ps, cs⟩
 case neg =>
  rw [decide_eq_false hok] at hval
  have hV : nightV ⟨⟨O, E, M⟩, ps, cs⟩ = [] := if_neg hok
  obtain rfl : k = 0 := by
   rcases Nat.eq_zero_or_pos k with h | h
   ·exact h
   ·exact absurd (hk0 h) hok
  simp -implicitDefEqProofs (disch := omega) only [Nat.reduceEqDiff, ↓reduceIte, vcu, ↓vcd, h1, h3, h4, y4, l2, y5, co28]
  refine hval.mono ?_
  rintro _ _ ⟨rfl, rfl⟩
  simp -implicitDefEqProofs (disch := omega) only [Nat.reduceEqDiff, ↓reduceIte, vcu, ↓vcd, opK_some, h3]
  refine fin_one Try.results36 ⟨s1.trans hs, .inr ⟨g, ?_, by rw [hV]; exact hg, free_sub s1 hn⟩⟩
  simp -implicitDefEqProofs (disch := omega) only [Nat.reduceEqDiff, ↓reduceIte, vcu, ↓vcd, h3]
  rw [hV]; rfl
 rw [decide_eq_true hok] at hval
 obtain ⟨hg', ho, rfl, hrow⟩ := rowC ((t2.sub s1).sub hs) (by omega)
 obtain ⟨hx, -, -⟩ := hrow k hlt
 have hgk : cs.getD k cl0 = gc cs k := rfl
 rw [hgk] at hx
 have htk : nightL (cs.take (k + 1)) = nightL (cs.take k) ++ [⟨1, (gc cs k).i, []⟩] := by
  rw [take_gc hlt]; simp [nightL]
 simp -implicitDefEqProofs (disch := omega) only [Nat.reduceEqDiff, ↓reduceIte, vcu, ↓vcd, h1, h3, h4, y4, l2, y5, co28]
 refine hval.mono ?_
 rintro _ _ ⟨rfl, rfl⟩
 rename_i τ2
 simp -implicitDefEqProofs (disch := omega) only [Nat.reduceEqDiff, ↓reduceIte, vcu, ↓vcd, opK_some, h1, h3, h4, y4, hx, Nat.add_zero]
 rw [r_build]
 refine ⟨(_, #[.int .i64 1, .int .i64 (gc cs k).i, .string (tx [])]), ⟨ze50, by simp -implicitDefEqProofs (disch := omega) only [Nat.reduceEqDiff, ↓reduceIte, vcu, ↓vcd]; kernel_rfl⟩, ?_⟩
 simp -implicitDefEqProofs (disch := omega) only [Nat.reduceEqDiff, ↓reduceIte, vcu, ↓vcd]
 refine r_lit el55 (out := #[.int .i64 1, .int .i64 (gc cs k).i, .string (tx [])]) (by first | kernel_rfl | (simp -implicitDefEqProofs (disch := omega) only [Nat.reduceEqDiff, ↓reduceIte, vcu, ↓vcd]; kernel_rfl)) (by rfl) fun e3 τ3 n3 s3 w3 => ?_
 replace w3 : τ3 e3 = some ⟨dds [⟨1, (gc cs k).i, []⟩], false⟩ := w3
 refine r_pushD (g := g) (e := e3) (o := 0) (cs := nightL (cs.take k)) (ds := [⟨1, (gc cs k).i, []⟩]) (m := 1) (len := k) el55 (by omega) sl55 (by simp -implicitDefEqProofs (disch := omega) only [Nat.reduceEqDiff, ↓reduceIte, vcu, ↓vcd, h3]) (s3 _ _ hg) hlen z9q (ddsAt_own w3) rfl (by omega) fun g6 τ6 n6 k6 w6 => ?_
 rw [← htk] at w6
 simp -implicitDefEqProofs (disch := omega) only [Nat.reduceEqDiff, ↓reduceIte, vcu, ↓vcd, h1, h4]
 exact ⟨⟨trivial, trivial⟩, m - 1, by omega, k + 1, g6, by omega, by simp, fun _ => hok, rfl, k6.sub (hs.trans s3) hn, w6, free_sub (hs.trans s3) n6⟩
end Go.Proofs.Ytofdnmlpfagibaa
