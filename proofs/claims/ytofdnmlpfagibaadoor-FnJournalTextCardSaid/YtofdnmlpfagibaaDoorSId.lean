/- Parts. -/
import Derived.Test.YtofdnmlpfagibaaDoorSIc
import Derived.Test.YtofdnmlpfagibaaDoorRows
import Derived.KernelRfl
set_option linter.unusedSimpArgs false
set_option linter.unusedVariables false
set_option linter.unusedSectionVars false
namespace Go.Proofs.YtofdnmlpfagibaaDoor
open Go Go.Abs
theorem mixed : Tryd.prog.follows .mixedOrders = true := by kernel_rfl
theorem own : ownKnob Tryd.prog.godebug = none := by kernel_rfl
theorem laidOut : laidOutB Tryd.prog = true := by kernel_rfl
theorem pt0 : isPtr Tryd.prog 0 = false := by kernel_rfl
theorem sc0 : isSlc Tryd.prog 0 = false := by kernel_rfl
theorem ag1 : aisAgg Tryd.prog 1 = false := by kernel_rfl
theorem pt1 : isPtr Tryd.prog 1 = false := by kernel_rfl
theorem sc1 : isSlc Tryd.prog 1 = false := by kernel_rfl
theorem ag2 : aisAgg Tryd.prog 2 = false := by kernel_rfl
theorem pt2 : isPtr Tryd.prog 2 = false := by kernel_rfl
theorem sc2 : isSlc Tryd.prog 2 = false := by kernel_rfl
theorem co3 : Tryd.prog.cellsOf 3 = 1 := by kernel_rfl
theorem ag3 : aisAgg Tryd.prog 3 = false := by kernel_rfl
theorem pt3 : isPtr Tryd.prog 3 = false := by kernel_rfl
theorem sc3 : isSlc Tryd.prog 3 = false := by kernel_rfl
theorem ze3 : azero Tryd.prog 3 = some (Value.int IntKind.i64 0) := by kernel_rfl
theorem co4 : Tryd.prog.cellsOf 4 = 1 := by kernel_rfl
theorem ag4 : aisAgg Tryd.prog 4 = false := by kernel_rfl
theorem pt4 : isPtr Tryd.prog 4 = false := by kernel_rfl
theorem sc4 : isSlc Tryd.prog 4 = false := by kernel_rfl
theorem bo4 : isBool Tryd.prog 4 = true := by kernel_rfl
theorem co5 : Tryd.prog.cellsOf 5 = 1 := by kernel_rfl
theorem ag5 : aisAgg Tryd.prog 5 = false := by kernel_rfl
theorem pt5 : isPtr Tryd.prog 5 = false := by kernel_rfl
theorem sc5 : isSlc Tryd.prog 5 = false := by kernel_rfl
theorem ag6 : aisAgg Tryd.prog 6 = false := by kernel_rfl
theorem pt6 : isPtr Tryd.prog 6 = false := by kernel_rfl
theorem sc6 : isSlc Tryd.prog 6 = false := by kernel_rfl
theorem co9 : Tryd.prog.cellsOf 9 = 1 := by kernel_rfl
theorem ag9 : aisAgg Tryd.prog 9 = false := by kernel_rfl
theorem pt9 : isPtr Tryd.prog 9 = false := by kernel_rfl
theorem sc9 : isSlc Tryd.prog 9 = false := by kernel_rfl
theorem ag10 : aisAgg Tryd.prog 10 = false := by kernel_rfl
theorem pt10 : isPtr Tryd.prog 10 = false := by kernel_rfl
theorem sc10 : isSlc Tryd.prog 10 = false := by kernel_rfl
theorem ag11 : aisAgg Tryd.prog 11 = false := by kernel_rfl
theorem pt11 : isPtr Tryd.prog 11 = false := by kernel_rfl
theorem sc11 : isSlc Tryd.prog 11 = false := by kernel_rfl
theorem ag12 : aisAgg Tryd.prog 12 = false := by kernel_rfl
theorem pt12 : isPtr Tryd.prog 12 = false := by kernel_rfl
theorem sc12 : isSlc Tryd.prog 12 = false := by kernel_rfl
theorem ag15 : aisAgg Tryd.prog 15 = false := by kernel_rfl
theorem pt15 : isPtr Tryd.prog 15 = true := by kernel_rfl
theorem sc15 : isSlc Tryd.prog 15 = false := by kernel_rfl
theorem co16 : Tryd.prog.cellsOf 16 = 1 := by kernel_rfl
theorem ag16 : aisAgg Tryd.prog 16 = false := by kernel_rfl
theorem pt16 : isPtr Tryd.prog 16 = true := by kernel_rfl
theorem sc16 : isSlc Tryd.prog 16 = false := by kernel_rfl
theorem ag17 : aisAgg Tryd.prog 17 = false := by kernel_rfl
theorem pt17 : isPtr Tryd.prog 17 = true := by kernel_rfl
theorem sc17 : isSlc Tryd.prog 17 = false := by kernel_rfl
theorem pt20 : isPtr Tryd.prog 20 = false := by kernel_rfl
theorem sc20 : isSlc Tryd.prog 20 = false := by kernel_rfl
theorem ag21 : aisAgg Tryd.prog 21 = false := by kernel_rfl
theorem pt21 : isPtr Tryd.prog 21 = false := by kernel_rfl
theorem sc21 : isSlc Tryd.prog 21 = false := by kernel_rfl
theorem co22 : Tryd.prog.cellsOf 22 = 1 := by kernel_rfl
theorem ag22 : aisAgg Tryd.prog 22 = false := by kernel_rfl
theorem pt22 : isPtr Tryd.prog 22 = false := by kernel_rfl
theorem sc22 : isSlc Tryd.prog 22 = true := by kernel_rfl
theorem esz22 : aesz Tryd.prog 22 = 1 := by kernel_rfl
theorem el22 : Elems Tryd.prog 22 1 (Value.int IntKind.u8 0) 1 := ⟨⟨5, Tryd.t5, Tryd.underlying22, by kernel_rfl, rfl, rfl, rfl⟩, ⟨5, Tryd.underlying22, by kernel_rfl, by kernel_rfl⟩⟩
theorem ag23 : aisAgg Tryd.prog 23 = true := by kernel_rfl
theorem pt23 : isPtr Tryd.prog 23 = false := by kernel_rfl
theorem sc23 : isSlc Tryd.prog 23 = false := by kernel_rfl
theorem fv23_0 {x0 x1 x2 : Value} : afieldV Tryd.prog 23 0 (.agg #[x0, x1, x2]) = some x0 := by simp [afieldV, Tryd.underlying23, apart, Tryd.underlying3, ag3, co3, aisAgg]
theorem fl23_0 {h b : Nat} : afield Tryd.prog 23 0 (.pointer (some ⟨h, b, none⟩)) = some (.pointer (some ⟨h, b + 0, none⟩)) := by simp [afield, Tryd.underlying23]
theorem fv23_1 {x0 x1 x2 : Value} : afieldV Tryd.prog 23 1 (.agg #[x0, x1, x2]) = some x1 := by simp [afieldV, Tryd.underlying23, apart, Tryd.underlying3, ag3, co3, aisAgg]
theorem fl23_1 {h b : Nat} : afield Tryd.prog 23 1 (.pointer (some ⟨h, b, none⟩)) = some (.pointer (some ⟨h, b + 1, none⟩)) := by simp [afield, Tryd.underlying23]
theorem fv23_2 {x0 x1 x2 : Value} : afieldV Tryd.prog 23 2 (.agg #[x0, x1, x2]) = some x2 := by simp [afieldV, Tryd.underlying23, apart, Tryd.underlying9, ag9, co9, aisAgg]
theorem fl23_2 {h b : Nat} : afield Tryd.prog 23 2 (.pointer (some ⟨h, b, none⟩)) = some (.pointer (some ⟨h, b + 2, none⟩)) := by simp [afield, Tryd.underlying23]
theorem co24 : Tryd.prog.cellsOf 24 = 3 := by kernel_rfl
theorem ag24 : aisAgg Tryd.prog 24 = true := by kernel_rfl
theorem pt24 : isPtr Tryd.prog 24 = false := by kernel_rfl
theorem sc24 : isSlc Tryd.prog 24 = false := by kernel_rfl
theorem ze24 : azero Tryd.prog 24 = some (Value.agg #[Value.int IntKind.i64 0, Value.int IntKind.i64 0, Value.string { data := #[] }]) := by kernel_rfl
theorem fv24_0 {x0 x1 x2 : Value} : afieldV Tryd.prog 24 0 (.agg #[x0, x1, x2]) = some x0 := by simp [afieldV, Tryd.underlying24, apart, Tryd.underlying3, ag3, co3, aisAgg]
theorem fl24_0 {h b : Nat} : afield Tryd.prog 24 0 (.pointer (some ⟨h, b, none⟩)) = some (.pointer (some ⟨h, b + 0, none⟩)) := by simp [afield, Tryd.underlying24]
theorem fv24_1 {x0 x1 x2 : Value} : afieldV Tryd.prog 24 1 (.agg #[x0, x1, x2]) = some x1 := by simp [afieldV, Tryd.underlying24, apart, Tryd.underlying3, ag3, co3, aisAgg]
theorem fl24_1 {h b : Nat} : afield Tryd.prog 24 1 (.pointer (some ⟨h, b, none⟩)) = some (.pointer (some ⟨h, b + 1, none⟩)) := by simp [afield, Tryd.underlying24]
theorem fv24_2 {x0 x1 x2 : Value} : afieldV Tryd.prog 24 2 (.agg #[x0, x1, x2]) = some x2 := by simp [afieldV, Tryd.underlying24, apart, Tryd.underlying9, ag9, co9, aisAgg]
theorem fl24_2 {h b : Nat} : afield Tryd.prog 24 2 (.pointer (some ⟨h, b, none⟩)) = some (.pointer (some ⟨h, b + 2, none⟩)) := by simp [afield, Tryd.underlying24]
theorem ag25 : aisAgg Tryd.prog 25 = false := by kernel_rfl
theorem pt25 : isPtr Tryd.prog 25 = false := by kernel_rfl
theorem sc25 : isSlc Tryd.prog 25 = false := by kernel_rfl
theorem ag26 : aisAgg Tryd.prog 26 = false := by kernel_rfl
theorem pt26 : isPtr Tryd.prog 26 = false := by kernel_rfl
theorem sc26 : isSlc Tryd.prog 26 = false := by kernel_rfl
theorem ag27 : aisAgg Tryd.prog 27 = false := by kernel_rfl
theorem pt27 : isPtr Tryd.prog 27 = false := by kernel_rfl
theorem sc27 : isSlc Tryd.prog 27 = false := by kernel_rfl
theorem pt28 : isPtr Tryd.prog 28 = false := by kernel_rfl
theorem sc28 : isSlc Tryd.prog 28 = false := by kernel_rfl
theorem ag29 : aisAgg Tryd.prog 29 = false := by kernel_rfl
theorem pt29 : isPtr Tryd.prog 29 = false := by kernel_rfl
theorem sc29 : isSlc Tryd.prog 29 = false := by kernel_rfl
theorem ag30 : aisAgg Tryd.prog 30 = false := by kernel_rfl
theorem pt30 : isPtr Tryd.prog 30 = false := by kernel_rfl
theorem sc30 : isSlc Tryd.prog 30 = false := by kernel_rfl
theorem ag31 : aisAgg Tryd.prog 31 = false := by kernel_rfl
theorem pt31 : isPtr Tryd.prog 31 = false := by kernel_rfl
theorem sc31 : isSlc Tryd.prog 31 = false := by kernel_rfl
theorem ag32 : aisAgg Tryd.prog 32 = false := by kernel_rfl
theorem pt32 : isPtr Tryd.prog 32 = false := by kernel_rfl
theorem sc32 : isSlc Tryd.prog 32 = true := by kernel_rfl
theorem esz32 : aesz Tryd.prog 32 = 3 := by kernel_rfl
theorem el32 : Elems Tryd.prog 32 3 (Value.agg #[Value.int IntKind.i64 0, Value.int IntKind.i64 0, Value.string { data := #[] }]) 32 := ⟨⟨24, Tryd.t24, Tryd.underlying32, by kernel_rfl, rfl, rfl, rfl⟩, ⟨24, Tryd.underlying32, by kernel_rfl, by kernel_rfl⟩⟩
theorem sl32 : ∃ e, Tryd.prog.underlying 32 = some (.slice e) := ⟨24, Tryd.underlying32⟩
theorem ag33 : aisAgg Tryd.prog 33 = false := by kernel_rfl
theorem pt33 : isPtr Tryd.prog 33 = false := by kernel_rfl
theorem sc33 : isSlc Tryd.prog 33 = false := by kernel_rfl
theorem ag34 : aisAgg Tryd.prog 34 = false := by kernel_rfl
theorem pt34 : isPtr Tryd.prog 34 = false := by kernel_rfl
theorem sc34 : isSlc Tryd.prog 34 = false := by kernel_rfl
theorem pt35 : isPtr Tryd.prog 35 = false := by kernel_rfl
theorem sc35 : isSlc Tryd.prog 35 = true := by kernel_rfl
theorem ag36 : aisAgg Tryd.prog 36 = false := by kernel_rfl
theorem pt36 : isPtr Tryd.prog 36 = false := by kernel_rfl
theorem sc36 : isSlc Tryd.prog 36 = false := by kernel_rfl
theorem ag37 : aisAgg Tryd.prog 37 = false := by kernel_rfl
theorem pt37 : isPtr Tryd.prog 37 = false := by kernel_rfl
theorem sc37 : isSlc Tryd.prog 37 = false := by kernel_rfl
theorem ag38 : aisAgg Tryd.prog 38 = false := by kernel_rfl
theorem pt38 : isPtr Tryd.prog 38 = true := by kernel_rfl
theorem sc38 : isSlc Tryd.prog 38 = false := by kernel_rfl
theorem ag39 : aisAgg Tryd.prog 39 = false := by kernel_rfl
theorem pt39 : isPtr Tryd.prog 39 = false := by kernel_rfl
theorem sc39 : isSlc Tryd.prog 39 = false := by kernel_rfl
theorem ag40 : aisAgg Tryd.prog 40 = false := by kernel_rfl
theorem pt40 : isPtr Tryd.prog 40 = false := by kernel_rfl
theorem sc40 : isSlc Tryd.prog 40 = false := by kernel_rfl
theorem ag41 : aisAgg Tryd.prog 41 = true := by kernel_rfl
theorem pt41 : isPtr Tryd.prog 41 = false := by kernel_rfl
theorem sc41 : isSlc Tryd.prog 41 = false := by kernel_rfl
theorem fv41_0 {x0 x1 x2 : Value} : afieldV Tryd.prog 41 0 (.agg #[x0, x1, x2]) = some x0 := by simp [afieldV, Tryd.underlying41, apart, Tryd.underlying3, ag3, co3, aisAgg]
theorem fl41_0 {h b : Nat} : afield Tryd.prog 41 0 (.pointer (some ⟨h, b, none⟩)) = some (.pointer (some ⟨h, b + 0, none⟩)) := by simp [afield, Tryd.underlying41]
theorem fv41_1 {x0 x1 x2 : Value} : afieldV Tryd.prog 41 1 (.agg #[x0, x1, x2]) = some x1 := by simp [afieldV, Tryd.underlying41, apart, Tryd.underlying3, ag3, co3, aisAgg]
theorem fl41_1 {h b : Nat} : afield Tryd.prog 41 1 (.pointer (some ⟨h, b, none⟩)) = some (.pointer (some ⟨h, b + 1, none⟩)) := by simp [afield, Tryd.underlying41]
theorem fv41_2 {x0 x1 x2 : Value} : afieldV Tryd.prog 41 2 (.agg #[x0, x1, x2]) = some x2 := by simp [afieldV, Tryd.underlying41, apart, Tryd.underlying3, ag3, co3, aisAgg]
theorem fl41_2 {h b : Nat} : afield Tryd.prog 41 2 (.pointer (some ⟨h, b, none⟩)) = some (.pointer (some ⟨h, b + 2, none⟩)) := by simp [afield, Tryd.underlying41]
theorem co42 : Tryd.prog.cellsOf 42 = 3 := by kernel_rfl
theorem ag42 : aisAgg Tryd.prog 42 = true := by kernel_rfl
theorem pt42 : isPtr Tryd.prog 42 = false := by kernel_rfl
theorem sc42 : isSlc Tryd.prog 42 = false := by kernel_rfl
theorem ze42 : azero Tryd.prog 42 = some (Value.agg #[Value.int IntKind.i64 0, Value.int IntKind.i64 0, Value.int IntKind.i64 0]) := by kernel_rfl
theorem fv42_0 {x0 x1 x2 : Value} : afieldV Tryd.prog 42 0 (.agg #[x0, x1, x2]) = some x0 := by simp [afieldV, Tryd.underlying42, apart, Tryd.underlying3, ag3, co3, aisAgg]
theorem fl42_0 {h b : Nat} : afield Tryd.prog 42 0 (.pointer (some ⟨h, b, none⟩)) = some (.pointer (some ⟨h, b + 0, none⟩)) := by simp [afield, Tryd.underlying42]
theorem fv42_1 {x0 x1 x2 : Value} : afieldV Tryd.prog 42 1 (.agg #[x0, x1, x2]) = some x1 := by simp [afieldV, Tryd.underlying42, apart, Tryd.underlying3, ag3, co3, aisAgg]
theorem fl42_1 {h b : Nat} : afield Tryd.prog 42 1 (.pointer (some ⟨h, b, none⟩)) = some (.pointer (some ⟨h, b + 1, none⟩)) := by simp [afield, Tryd.underlying42]
theorem fv42_2 {x0 x1 x2 : Value} : afieldV Tryd.prog 42 2 (.agg #[x0, x1, x2]) = some x2 := by simp [afieldV, Tryd.underlying42, apart, Tryd.underlying3, ag3, co3, aisAgg]
theorem fl42_2 {h b : Nat} : afield Tryd.prog 42 2 (.pointer (some ⟨h, b, none⟩)) = some (.pointer (some ⟨h, b + 2, none⟩)) := by simp [afield, Tryd.underlying42]
theorem co43 : Tryd.prog.cellsOf 43 = 1 := by kernel_rfl
theorem ag43 : aisAgg Tryd.prog 43 = false := by kernel_rfl
theorem pt43 : isPtr Tryd.prog 43 = false := by kernel_rfl
theorem sc43 : isSlc Tryd.prog 43 = true := by kernel_rfl
theorem esz43 : aesz Tryd.prog 43 = 1 := by kernel_rfl
theorem el43 : Elems Tryd.prog 43 1 (Value.string { data := #[] }) 16 := ⟨⟨9, Tryd.t9, Tryd.underlying43, by kernel_rfl, rfl, rfl, rfl⟩, ⟨9, Tryd.underlying43, by kernel_rfl, by kernel_rfl⟩⟩
theorem sl43 : ∃ e, Tryd.prog.underlying 43 = some (.slice e) := ⟨9, Tryd.underlying43⟩
theorem co44 : Tryd.prog.cellsOf 44 = 1 := by kernel_rfl
theorem ag44 : aisAgg Tryd.prog 44 = false := by kernel_rfl
theorem pt44 : isPtr Tryd.prog 44 = false := by kernel_rfl
theorem sc44 : isSlc Tryd.prog 44 = true := by kernel_rfl
theorem esz44 : aesz Tryd.prog 44 = 3 := by kernel_rfl
theorem el44 : Elems Tryd.prog 44 3 (Value.agg #[Value.int IntKind.i64 0, Value.int IntKind.i64 0, Value.int IntKind.i64 0]) 24 := ⟨⟨79, Tryd.t79, Tryd.underlying44, by kernel_rfl, rfl, rfl, rfl⟩, ⟨79, Tryd.underlying44, by kernel_rfl, by kernel_rfl⟩⟩
theorem sl44 : ∃ e, Tryd.prog.underlying 44 = some (.slice e) := ⟨79, Tryd.underlying44⟩
theorem ag45 : aisAgg Tryd.prog 45 = true := by kernel_rfl
theorem pt45 : isPtr Tryd.prog 45 = false := by kernel_rfl
theorem sc45 : isSlc Tryd.prog 45 = true := by kernel_rfl
theorem fl45_0 {h b : Nat} : afield Tryd.prog 45 0 (.pointer (some ⟨h, b, none⟩)) = some (.pointer (some ⟨h, b + 0, none⟩)) := by simp [afield, Tryd.underlying45]
theorem fv45_1 {x0 x1 x2 x3 x4 : Value} : afieldV Tryd.prog 45 1 (.agg #[x0, x1, x2, x3, x4]) = some x3 := by simp [afieldV, Tryd.underlying45, apart, Tryd.underlying43, ag43, co43, aisAgg]
theorem fl45_1 {h b : Nat} : afield Tryd.prog 45 1 (.pointer (some ⟨h, b, none⟩)) = some (.pointer (some ⟨h, b + 3, none⟩)) := by simp [afield, Tryd.underlying45]
theorem fv45_2 {x0 x1 x2 x3 x4 : Value} : afieldV Tryd.prog 45 2 (.agg #[x0, x1, x2, x3, x4]) = some x4 := by simp [afieldV, Tryd.underlying45, apart, Tryd.underlying44, ag44, co44, aisAgg]
theorem fl45_2 {h b : Nat} : afield Tryd.prog 45 2 (.pointer (some ⟨h, b, none⟩)) = some (.pointer (some ⟨h, b + 4, none⟩)) := by simp [afield, Tryd.underlying45]
theorem co46 : Tryd.prog.cellsOf 46 = 5 := by kernel_rfl
theorem ag46 : aisAgg Tryd.prog 46 = true := by kernel_rfl
theorem pt46 : isPtr Tryd.prog 46 = false := by kernel_rfl
theorem sc46 : isSlc Tryd.prog 46 = true := by kernel_rfl
theorem ze46 : azero Tryd.prog 46 = some (Value.agg #[Value.int IntKind.i64 0, Value.int IntKind.i64 0, Value.int IntKind.i64 0, Value.slice none 0 0, Value.slice none 0 0]) := by kernel_rfl
theorem fl46_0 {h b : Nat} : afield Tryd.prog 46 0 (.pointer (some ⟨h, b, none⟩)) = some (.pointer (some ⟨h, b + 0, none⟩)) := by simp [afield, Tryd.underlying46]
theorem fv46_1 {x0 x1 x2 x3 x4 : Value} : afieldV Tryd.prog 46 1 (.agg #[x0, x1, x2, x3, x4]) = some x3 := by simp [afieldV, Tryd.underlying46, apart, Tryd.underlying43, ag43, co43, aisAgg]
theorem fl46_1 {h b : Nat} : afield Tryd.prog 46 1 (.pointer (some ⟨h, b, none⟩)) = some (.pointer (some ⟨h, b + 3, none⟩)) := by simp [afield, Tryd.underlying46]
theorem fv46_2 {x0 x1 x2 x3 x4 : Value} : afieldV Tryd.prog 46 2 (.agg #[x0, x1, x2, x3, x4]) = some x4 := by simp [afieldV, Tryd.underlying46, apart, Tryd.underlying44, ag44, co44, aisAgg]
theorem fl46_2 {h b : Nat} : afield Tryd.prog 46 2 (.pointer (some ⟨h, b, none⟩)) = some (.pointer (some ⟨h, b + 4, none⟩)) := by simp [afield, Tryd.underlying46]
theorem ag47 : aisAgg Tryd.prog 47 = false := by kernel_rfl
theorem pt47 : isPtr Tryd.prog 47 = false := by kernel_rfl
theorem sc47 : isSlc Tryd.prog 47 = false := by kernel_rfl
theorem ag48 : aisAgg Tryd.prog 48 = false := by kernel_rfl
theorem pt48 : isPtr Tryd.prog 48 = false := by kernel_rfl
theorem sc48 : isSlc Tryd.prog 48 = false := by kernel_rfl
theorem ag49 : aisAgg Tryd.prog 49 = false := by kernel_rfl
theorem pt49 : isPtr Tryd.prog 49 = false := by kernel_rfl
theorem sc49 : isSlc Tryd.prog 49 = false := by kernel_rfl
theorem ag50 : aisAgg Tryd.prog 50 = false := by kernel_rfl
theorem pt50 : isPtr Tryd.prog 50 = false := by kernel_rfl
theorem sc50 : isSlc Tryd.prog 50 = false := by kernel_rfl
theorem ag51 : aisAgg Tryd.prog 51 = false := by kernel_rfl
theorem pt51 : isPtr Tryd.prog 51 = false := by kernel_rfl
theorem sc51 : isSlc Tryd.prog 51 = false := by kernel_rfl
theorem ag52 : aisAgg Tryd.prog 52 = false := by kernel_rfl
theorem pt52 : isPtr Tryd.prog 52 = false := by kernel_rfl
theorem sc52 : isSlc Tryd.prog 52 = false := by kernel_rfl
theorem ag53 : aisAgg Tryd.prog 53 = false := by kernel_rfl
theorem pt53 : isPtr Tryd.prog 53 = false := by kernel_rfl
theorem sc53 : isSlc Tryd.prog 53 = false := by kernel_rfl
theorem ag54 : aisAgg Tryd.prog 54 = false := by kernel_rfl
theorem pt54 : isPtr Tryd.prog 54 = false := by kernel_rfl
theorem sc54 : isSlc Tryd.prog 54 = true := by kernel_rfl
theorem esz54 : aesz Tryd.prog 54 = 1 := by kernel_rfl
theorem el54 : Elems Tryd.prog 54 1 (Value.int IntKind.i64 0) 8 := ⟨⟨3, Tryd.t3, Tryd.underlying54, by kernel_rfl, rfl, rfl, rfl⟩, ⟨3, Tryd.underlying54, by kernel_rfl, by kernel_rfl⟩⟩
theorem sl54 : ∃ e, Tryd.prog.underlying 54 = some (.slice e) := ⟨3, Tryd.underlying54⟩
theorem pt55 : isPtr Tryd.prog 55 = false := by kernel_rfl
theorem sc55 : isSlc Tryd.prog 55 = false := by kernel_rfl
theorem ag56 : aisAgg Tryd.prog 56 = false := by kernel_rfl
theorem pt56 : isPtr Tryd.prog 56 = false := by kernel_rfl
theorem sc56 : isSlc Tryd.prog 56 = false := by kernel_rfl
theorem pt57 : isPtr Tryd.prog 57 = false := by kernel_rfl
theorem sc57 : isSlc Tryd.prog 57 = false := by kernel_rfl
theorem pt58 : isPtr Tryd.prog 58 = false := by kernel_rfl
theorem sc58 : isSlc Tryd.prog 58 = false := by kernel_rfl
theorem pt59 : isPtr Tryd.prog 59 = false := by kernel_rfl
theorem sc59 : isSlc Tryd.prog 59 = false := by kernel_rfl
theorem ag60 : aisAgg Tryd.prog 60 = false := by kernel_rfl
theorem pt60 : isPtr Tryd.prog 60 = false := by kernel_rfl
theorem sc60 : isSlc Tryd.prog 60 = false := by kernel_rfl
theorem ag61 : aisAgg Tryd.prog 61 = false := by kernel_rfl
theorem pt61 : isPtr Tryd.prog 61 = false := by kernel_rfl
theorem sc61 : isSlc Tryd.prog 61 = false := by kernel_rfl
theorem ag62 : aisAgg Tryd.prog 62 = false := by kernel_rfl
theorem pt62 : isPtr Tryd.prog 62 = false := by kernel_rfl
theorem sc62 : isSlc Tryd.prog 62 = false := by kernel_rfl
theorem ag63 : aisAgg Tryd.prog 63 = false := by kernel_rfl
theorem pt63 : isPtr Tryd.prog 63 = false := by kernel_rfl
theorem sc63 : isSlc Tryd.prog 63 = false := by kernel_rfl
theorem ag64 : aisAgg Tryd.prog 64 = false := by kernel_rfl
theorem pt64 : isPtr Tryd.prog 64 = false := by kernel_rfl
theorem sc64 : isSlc Tryd.prog 64 = false := by kernel_rfl
theorem ag65 : aisAgg Tryd.prog 65 = false := by kernel_rfl
theorem pt65 : isPtr Tryd.prog 65 = true := by kernel_rfl
theorem sc65 : isSlc Tryd.prog 65 = false := by kernel_rfl
theorem ag68 : aisAgg Tryd.prog 68 = false := by kernel_rfl
theorem pt68 : isPtr Tryd.prog 68 = false := by kernel_rfl
theorem sc68 : isSlc Tryd.prog 68 = false := by kernel_rfl
theorem ag69 : aisAgg Tryd.prog 69 = true := by kernel_rfl
theorem pt69 : isPtr Tryd.prog 69 = false := by kernel_rfl
theorem sc69 : isSlc Tryd.prog 69 = true := by kernel_rfl
theorem fv69_0 {x0 x1 : Value} : afieldV Tryd.prog 69 0 (.agg #[x0, x1]) = some x0 := by simp [afieldV, Tryd.underlying69, apart, Tryd.underlying22, ag22, co22, aisAgg]
theorem fl69_0 {h b : Nat} : afield Tryd.prog 69 0 (.pointer (some ⟨h, b, none⟩)) = some (.pointer (some ⟨h, b + 0, none⟩)) := by simp [afield, Tryd.underlying69]
theorem fv69_1 {x0 x1 : Value} : afieldV Tryd.prog 69 1 (.agg #[x0, x1]) = some x1 := by simp [afieldV, Tryd.underlying69, apart, Tryd.underlying3, ag3, co3, aisAgg]
theorem fl69_1 {h b : Nat} : afield Tryd.prog 69 1 (.pointer (some ⟨h, b, none⟩)) = some (.pointer (some ⟨h, b + 1, none⟩)) := by simp [afield, Tryd.underlying69]
theorem ag70 : aisAgg Tryd.prog 70 = true := by kernel_rfl
theorem pt70 : isPtr Tryd.prog 70 = false := by kernel_rfl
theorem sc70 : isSlc Tryd.prog 70 = true := by kernel_rfl
theorem ze70 : azero Tryd.prog 70 = some (Value.agg #[Value.slice none 0 0, Value.int IntKind.i64 0]) := by kernel_rfl
theorem fv70_0 {x0 x1 : Value} : afieldV Tryd.prog 70 0 (.agg #[x0, x1]) = some x0 := by simp [afieldV, Tryd.underlying70, apart, Tryd.underlying22, ag22, co22, aisAgg]
theorem fl70_0 {h b : Nat} : afield Tryd.prog 70 0 (.pointer (some ⟨h, b, none⟩)) = some (.pointer (some ⟨h, b + 0, none⟩)) := by simp [afield, Tryd.underlying70]
theorem fv70_1 {x0 x1 : Value} : afieldV Tryd.prog 70 1 (.agg #[x0, x1]) = some x1 := by simp [afieldV, Tryd.underlying70, apart, Tryd.underlying3, ag3, co3, aisAgg]
theorem fl70_1 {h b : Nat} : afield Tryd.prog 70 1 (.pointer (some ⟨h, b, none⟩)) = some (.pointer (some ⟨h, b + 1, none⟩)) := by simp [afield, Tryd.underlying70]
theorem ag71 : aisAgg Tryd.prog 71 = false := by kernel_rfl
theorem pt71 : isPtr Tryd.prog 71 = false := by kernel_rfl
theorem sc71 : isSlc Tryd.prog 71 = false := by kernel_rfl
theorem pt72 : isPtr Tryd.prog 72 = false := by kernel_rfl
theorem sc72 : isSlc Tryd.prog 72 = true := by kernel_rfl
theorem ag73 : aisAgg Tryd.prog 73 = false := by kernel_rfl
theorem pt73 : isPtr Tryd.prog 73 = false := by kernel_rfl
theorem sc73 : isSlc Tryd.prog 73 = false := by kernel_rfl
theorem ag74 : aisAgg Tryd.prog 74 = false := by kernel_rfl
theorem pt74 : isPtr Tryd.prog 74 = false := by kernel_rfl
theorem sc74 : isSlc Tryd.prog 74 = false := by kernel_rfl
theorem ag75 : aisAgg Tryd.prog 75 = false := by kernel_rfl
theorem pt75 : isPtr Tryd.prog 75 = false := by kernel_rfl
theorem sc75 : isSlc Tryd.prog 75 = false := by kernel_rfl
theorem pt76 : isPtr Tryd.prog 76 = false := by kernel_rfl
theorem sc76 : isSlc Tryd.prog 76 = true := by kernel_rfl
theorem ag77 : aisAgg Tryd.prog 77 = false := by kernel_rfl
theorem pt77 : isPtr Tryd.prog 77 = false := by kernel_rfl
theorem sc77 : isSlc Tryd.prog 77 = false := by kernel_rfl
theorem ag78 : aisAgg Tryd.prog 78 = true := by kernel_rfl
theorem pt78 : isPtr Tryd.prog 78 = false := by kernel_rfl
theorem sc78 : isSlc Tryd.prog 78 = false := by kernel_rfl
theorem fv78_0 {x0 x1 x2 : Value} : afieldV Tryd.prog 78 0 (.agg #[x0, x1, x2]) = some x0 := by simp [afieldV, Tryd.underlying78, apart, Tryd.underlying3, ag3, co3, aisAgg]
theorem fl78_0 {h b : Nat} : afield Tryd.prog 78 0 (.pointer (some ⟨h, b, none⟩)) = some (.pointer (some ⟨h, b + 0, none⟩)) := by simp [afield, Tryd.underlying78]
theorem fv78_1 {x0 x1 x2 : Value} : afieldV Tryd.prog 78 1 (.agg #[x0, x1, x2]) = some x1 := by simp [afieldV, Tryd.underlying78, apart, Tryd.underlying3, ag3, co3, aisAgg]
theorem fl78_1 {h b : Nat} : afield Tryd.prog 78 1 (.pointer (some ⟨h, b, none⟩)) = some (.pointer (some ⟨h, b + 1, none⟩)) := by simp [afield, Tryd.underlying78]
theorem fv78_2 {x0 x1 x2 : Value} : afieldV Tryd.prog 78 2 (.agg #[x0, x1, x2]) = some x2 := by simp [afieldV, Tryd.underlying78, apart, Tryd.underlying3, ag3, co3, aisAgg]
theorem fl78_2 {h b : Nat} : afield Tryd.prog 78 2 (.pointer (some ⟨h, b, none⟩)) = some (.pointer (some ⟨h, b + 2, none⟩)) := by simp [afield, Tryd.underlying78]
theorem co79 : Tryd.prog.cellsOf 79 = 3 := by kernel_rfl
theorem ag79 : aisAgg Tryd.prog 79 = true := by kernel_rfl
theorem pt79 : isPtr Tryd.prog 79 = false := by kernel_rfl
theorem sc79 : isSlc Tryd.prog 79 = false := by kernel_rfl
theorem ze79 : azero Tryd.prog 79 = some (Value.agg #[Value.int IntKind.i64 0, Value.int IntKind.i64 0, Value.int IntKind.i64 0]) := by kernel_rfl
theorem fv79_0 {x0 x1 x2 : Value} : afieldV Tryd.prog 79 0 (.agg #[x0, x1, x2]) = some x0 := by simp [afieldV, Tryd.underlying79, apart, Tryd.underlying3, ag3, co3, aisAgg]
theorem fl79_0 {h b : Nat} : afield Tryd.prog 79 0 (.pointer (some ⟨h, b, none⟩)) = some (.pointer (some ⟨h, b + 0, none⟩)) := by simp [afield, Tryd.underlying79]
theorem fv79_1 {x0 x1 x2 : Value} : afieldV Tryd.prog 79 1 (.agg #[x0, x1, x2]) = some x1 := by simp [afieldV, Tryd.underlying79, apart, Tryd.underlying3, ag3, co3, aisAgg]
theorem fl79_1 {h b : Nat} : afield Tryd.prog 79 1 (.pointer (some ⟨h, b, none⟩)) = some (.pointer (some ⟨h, b + 1, none⟩)) := by simp [afield, Tryd.underlying79]
theorem fv79_2 {x0 x1 x2 : Value} : afieldV Tryd.prog 79 2 (.agg #[x0, x1, x2]) = some x2 := by simp [afieldV, Tryd.underlying79, apart, Tryd.underlying3, ag3, co3, aisAgg]
theorem fl79_2 {h b : Nat} : afield Tryd.prog 79 2 (.pointer (some ⟨h, b, none⟩)) = some (.pointer (some ⟨h, b + 2, none⟩)) := by simp [afield, Tryd.underlying79]
theorem ag80 : aisAgg Tryd.prog 80 = true := by kernel_rfl
theorem pt80 : isPtr Tryd.prog 80 = false := by kernel_rfl
theorem sc80 : isSlc Tryd.prog 80 = false := by kernel_rfl
theorem esz80 : aesz Tryd.prog 80 = 1 := by kernel_rfl
theorem ze80 : azero Tryd.prog 80 = some (Value.agg #[Value.bool false, Value.bool false, Value.bool false, Value.bool false, Value.bool false, Value.bool false]) := by kernel_rfl
theorem ag81 : aisAgg Tryd.prog 81 = false := by kernel_rfl
theorem pt81 : isPtr Tryd.prog 81 = false := by kernel_rfl
theorem sc81 : isSlc Tryd.prog 81 = false := by kernel_rfl
theorem ag82 : aisAgg Tryd.prog 82 = false := by kernel_rfl
theorem pt82 : isPtr Tryd.prog 82 = false := by kernel_rfl
theorem sc82 : isSlc Tryd.prog 82 = false := by kernel_rfl
theorem ag83 : aisAgg Tryd.prog 83 = false := by kernel_rfl
theorem pt83 : isPtr Tryd.prog 83 = true := by kernel_rfl
theorem sc83 : isSlc Tryd.prog 83 = false := by kernel_rfl
theorem ag84 : aisAgg Tryd.prog 84 = false := by kernel_rfl
theorem pt84 : isPtr Tryd.prog 84 = false := by kernel_rfl
theorem sc84 : isSlc Tryd.prog 84 = false := by kernel_rfl
theorem ag85 : aisAgg Tryd.prog 85 = false := by kernel_rfl
theorem pt85 : isPtr Tryd.prog 85 = false := by kernel_rfl
theorem sc85 : isSlc Tryd.prog 85 = false := by kernel_rfl
theorem ag86 : aisAgg Tryd.prog 86 = false := by kernel_rfl
theorem pt86 : isPtr Tryd.prog 86 = false := by kernel_rfl
theorem sc86 : isSlc Tryd.prog 86 = false := by kernel_rfl
theorem ag87 : aisAgg Tryd.prog 87 = false := by kernel_rfl
theorem pt87 : isPtr Tryd.prog 87 = false := by kernel_rfl
theorem sc87 : isSlc Tryd.prog 87 = false := by kernel_rfl
theorem ag88 : aisAgg Tryd.prog 88 = false := by kernel_rfl
theorem pt88 : isPtr Tryd.prog 88 = false := by kernel_rfl
theorem sc88 : isSlc Tryd.prog 88 = false := by kernel_rfl
theorem ag89 : aisAgg Tryd.prog 89 = false := by kernel_rfl
theorem pt89 : isPtr Tryd.prog 89 = false := by kernel_rfl
theorem sc89 : isSlc Tryd.prog 89 = false := by kernel_rfl
theorem pt90 : isPtr Tryd.prog 90 = false := by kernel_rfl
theorem sc90 : isSlc Tryd.prog 90 = true := by kernel_rfl
theorem ag91 : aisAgg Tryd.prog 91 = false := by kernel_rfl
theorem pt91 : isPtr Tryd.prog 91 = false := by kernel_rfl
theorem sc91 : isSlc Tryd.prog 91 = false := by kernel_rfl
theorem ag92 : aisAgg Tryd.prog 92 = false := by kernel_rfl
theorem pt92 : isPtr Tryd.prog 92 = false := by kernel_rfl
theorem sc92 : isSlc Tryd.prog 92 = false := by kernel_rfl
theorem ag93 : aisAgg Tryd.prog 93 = false := by kernel_rfl
theorem pt93 : isPtr Tryd.prog 93 = false := by kernel_rfl
theorem sc93 : isSlc Tryd.prog 93 = false := by kernel_rfl
theorem ag94 : aisAgg Tryd.prog 94 = false := by kernel_rfl
theorem pt94 : isPtr Tryd.prog 94 = false := by kernel_rfl
theorem sc94 : isSlc Tryd.prog 94 = false := by kernel_rfl
theorem ag95 : aisAgg Tryd.prog 95 = false := by kernel_rfl
theorem pt95 : isPtr Tryd.prog 95 = false := by kernel_rfl
theorem sc95 : isSlc Tryd.prog 95 = false := by kernel_rfl
theorem ag96 : aisAgg Tryd.prog 96 = false := by kernel_rfl
theorem pt96 : isPtr Tryd.prog 96 = false := by kernel_rfl
theorem sc96 : isSlc Tryd.prog 96 = false := by kernel_rfl
theorem pt97 : isPtr Tryd.prog 97 = false := by kernel_rfl
theorem sc97 : isSlc Tryd.prog 97 = false := by kernel_rfl
theorem ag98 : aisAgg Tryd.prog 98 = false := by kernel_rfl
theorem pt98 : isPtr Tryd.prog 98 = false := by kernel_rfl
theorem sc98 : isSlc Tryd.prog 98 = false := by kernel_rfl
theorem ag99 : aisAgg Tryd.prog 99 = false := by kernel_rfl
theorem pt99 : isPtr Tryd.prog 99 = true := by kernel_rfl
theorem sc99 : isSlc Tryd.prog 99 = false := by kernel_rfl
theorem ag100 : aisAgg Tryd.prog 100 = false := by kernel_rfl
theorem pt100 : isPtr Tryd.prog 100 = false := by kernel_rfl
theorem sc100 : isSlc Tryd.prog 100 = false := by kernel_rfl
theorem ag101 : aisAgg Tryd.prog 101 = false := by kernel_rfl
theorem pt101 : isPtr Tryd.prog 101 = false := by kernel_rfl
theorem sc101 : isSlc Tryd.prog 101 = false := by kernel_rfl
theorem pt102 : isPtr Tryd.prog 102 = false := by kernel_rfl
theorem sc102 : isSlc Tryd.prog 102 = false := by kernel_rfl
theorem ag103 : aisAgg Tryd.prog 103 = false := by kernel_rfl
theorem pt103 : isPtr Tryd.prog 103 = false := by kernel_rfl
theorem sc103 : isSlc Tryd.prog 103 = false := by kernel_rfl
theorem ag104 : aisAgg Tryd.prog 104 = false := by kernel_rfl
theorem pt104 : isPtr Tryd.prog 104 = false := by kernel_rfl
theorem sc104 : isSlc Tryd.prog 104 = false := by kernel_rfl
theorem ag105 : aisAgg Tryd.prog 105 = false := by kernel_rfl
theorem pt105 : isPtr Tryd.prog 105 = false := by kernel_rfl
theorem sc105 : isSlc Tryd.prog 105 = false := by kernel_rfl
theorem ag106 : aisAgg Tryd.prog 106 = false := by kernel_rfl
theorem pt106 : isPtr Tryd.prog 106 = false := by kernel_rfl
theorem sc106 : isSlc Tryd.prog 106 = false := by kernel_rfl
theorem ag107 : aisAgg Tryd.prog 107 = false := by kernel_rfl
theorem pt107 : isPtr Tryd.prog 107 = false := by kernel_rfl
theorem sc107 : isSlc Tryd.prog 107 = false := by kernel_rfl
theorem ag108 : aisAgg Tryd.prog 108 = false := by kernel_rfl
theorem pt108 : isPtr Tryd.prog 108 = false := by kernel_rfl
theorem sc108 : isSlc Tryd.prog 108 = false := by kernel_rfl
theorem ag109 : aisAgg Tryd.prog 109 = false := by kernel_rfl
theorem pt109 : isPtr Tryd.prog 109 = false := by kernel_rfl
theorem sc109 : isSlc Tryd.prog 109 = false := by kernel_rfl
theorem ag110 : aisAgg Tryd.prog 110 = false := by kernel_rfl
theorem pt110 : isPtr Tryd.prog 110 = false := by kernel_rfl
theorem sc110 : isSlc Tryd.prog 110 = false := by kernel_rfl
theorem ag111 : aisAgg Tryd.prog 111 = false := by kernel_rfl
theorem pt111 : isPtr Tryd.prog 111 = false := by kernel_rfl
theorem sc111 : isSlc Tryd.prog 111 = false := by kernel_rfl
theorem ag112 : aisAgg Tryd.prog 112 = true := by kernel_rfl
theorem pt112 : isPtr Tryd.prog 112 = false := by kernel_rfl
theorem sc112 : isSlc Tryd.prog 112 = false := by kernel_rfl
theorem esz112 : aesz Tryd.prog 112 = 1 := by kernel_rfl
theorem co113 : Tryd.prog.cellsOf 113 = 1 := by kernel_rfl
theorem ag113 : aisAgg Tryd.prog 113 = false := by kernel_rfl
theorem pt113 : isPtr Tryd.prog 113 = false := by kernel_rfl
theorem sc113 : isSlc Tryd.prog 113 = false := by kernel_rfl
theorem ag114 : aisAgg Tryd.prog 114 = false := by kernel_rfl
theorem pt114 : isPtr Tryd.prog 114 = false := by kernel_rfl
theorem sc114 : isSlc Tryd.prog 114 = false := by kernel_rfl
theorem ag115 : aisAgg Tryd.prog 115 = false := by kernel_rfl
theorem pt115 : isPtr Tryd.prog 115 = false := by kernel_rfl
theorem sc115 : isSlc Tryd.prog 115 = false := by kernel_rfl
theorem pt116 : isPtr Tryd.prog 116 = false := by kernel_rfl
theorem sc116 : isSlc Tryd.prog 116 = true := by kernel_rfl
theorem ag117 : aisAgg Tryd.prog 117 = false := by kernel_rfl
theorem pt117 : isPtr Tryd.prog 117 = false := by kernel_rfl
theorem sc117 : isSlc Tryd.prog 117 = false := by kernel_rfl
theorem ag118 : aisAgg Tryd.prog 118 = false := by kernel_rfl
theorem pt118 : isPtr Tryd.prog 118 = false := by kernel_rfl
theorem sc118 : isSlc Tryd.prog 118 = false := by kernel_rfl
theorem ag119 : aisAgg Tryd.prog 119 = false := by kernel_rfl
theorem pt119 : isPtr Tryd.prog 119 = false := by kernel_rfl
theorem sc119 : isSlc Tryd.prog 119 = false := by kernel_rfl
theorem pt120 : isPtr Tryd.prog 120 = false := by kernel_rfl
theorem sc120 : isSlc Tryd.prog 120 = false := by kernel_rfl
theorem ag121 : aisAgg Tryd.prog 121 = false := by kernel_rfl
theorem pt121 : isPtr Tryd.prog 121 = false := by kernel_rfl
theorem sc121 : isSlc Tryd.prog 121 = false := by kernel_rfl
theorem ag122 : aisAgg Tryd.prog 122 = false := by kernel_rfl
theorem pt122 : isPtr Tryd.prog 122 = false := by kernel_rfl
theorem sc122 : isSlc Tryd.prog 122 = false := by kernel_rfl
theorem ag125 : aisAgg Tryd.prog 125 = false := by kernel_rfl
theorem pt125 : isPtr Tryd.prog 125 = false := by kernel_rfl
theorem sc125 : isSlc Tryd.prog 125 = false := by kernel_rfl
theorem ag126 : aisAgg Tryd.prog 126 = false := by kernel_rfl
theorem pt126 : isPtr Tryd.prog 126 = false := by kernel_rfl
theorem sc126 : isSlc Tryd.prog 126 = false := by kernel_rfl
theorem ag127 : aisAgg Tryd.prog 127 = true := by kernel_rfl
theorem pt127 : isPtr Tryd.prog 127 = false := by kernel_rfl
theorem sc127 : isSlc Tryd.prog 127 = false := by kernel_rfl
theorem esz127 : aesz Tryd.prog 127 = 1 := by kernel_rfl
theorem ag128 : aisAgg Tryd.prog 128 = false := by kernel_rfl
theorem pt128 : isPtr Tryd.prog 128 = false := by kernel_rfl
theorem sc128 : isSlc Tryd.prog 128 = false := by kernel_rfl
theorem ag129 : aisAgg Tryd.prog 129 = true := by kernel_rfl
theorem pt129 : isPtr Tryd.prog 129 = false := by kernel_rfl
theorem sc129 : isSlc Tryd.prog 129 = false := by kernel_rfl
theorem esz129 : aesz Tryd.prog 129 = 1 := by kernel_rfl
theorem ag130 : aisAgg Tryd.prog 130 = false := by kernel_rfl
theorem pt130 : isPtr Tryd.prog 130 = false := by kernel_rfl
theorem sc130 : isSlc Tryd.prog 130 = false := by kernel_rfl
theorem pt131 : isPtr Tryd.prog 131 = false := by kernel_rfl
theorem sc131 : isSlc Tryd.prog 131 = false := by kernel_rfl
theorem ag132 : aisAgg Tryd.prog 132 = false := by kernel_rfl
theorem pt132 : isPtr Tryd.prog 132 = false := by kernel_rfl
theorem sc132 : isSlc Tryd.prog 132 = false := by kernel_rfl
theorem ag133 : aisAgg Tryd.prog 133 = false := by kernel_rfl
theorem pt133 : isPtr Tryd.prog 133 = false := by kernel_rfl
theorem sc133 : isSlc Tryd.prog 133 = false := by kernel_rfl
theorem ag134 : aisAgg Tryd.prog 134 = false := by kernel_rfl
theorem pt134 : isPtr Tryd.prog 134 = true := by kernel_rfl
theorem sc134 : isSlc Tryd.prog 134 = false := by kernel_rfl
theorem ag137 : aisAgg Tryd.prog 137 = false := by kernel_rfl
theorem pt137 : isPtr Tryd.prog 137 = false := by kernel_rfl
theorem sc137 : isSlc Tryd.prog 137 = false := by kernel_rfl
theorem ag138 : aisAgg Tryd.prog 138 = true := by kernel_rfl
theorem pt138 : isPtr Tryd.prog 138 = false := by kernel_rfl
theorem sc138 : isSlc Tryd.prog 138 = false := by kernel_rfl
theorem esz138 : aesz Tryd.prog 138 = 1 := by kernel_rfl
theorem ag139 : aisAgg Tryd.prog 139 = true := by kernel_rfl
theorem pt139 : isPtr Tryd.prog 139 = false := by kernel_rfl
theorem sc139 : isSlc Tryd.prog 139 = false := by kernel_rfl
theorem esz139 : aesz Tryd.prog 139 = 1 := by kernel_rfl
theorem pt142 : isPtr Tryd.prog 142 = false := by kernel_rfl
theorem sc142 : isSlc Tryd.prog 142 = false := by kernel_rfl
theorem esz142 : aesz Tryd.prog 142 = 1 := by kernel_rfl
theorem ag145 : aisAgg Tryd.prog 145 = false := by kernel_rfl
theorem pt145 : isPtr Tryd.prog 145 = false := by kernel_rfl
theorem sc145 : isSlc Tryd.prog 145 = false := by kernel_rfl
theorem ag146 : aisAgg Tryd.prog 146 = false := by kernel_rfl
theorem pt146 : isPtr Tryd.prog 146 = false := by kernel_rfl
theorem sc146 : isSlc Tryd.prog 146 = false := by kernel_rfl
theorem ag147 : aisAgg Tryd.prog 147 = false := by kernel_rfl
theorem pt147 : isPtr Tryd.prog 147 = false := by kernel_rfl
theorem sc147 : isSlc Tryd.prog 147 = false := by kernel_rfl
theorem ag148 : aisAgg Tryd.prog 148 = false := by kernel_rfl
theorem pt148 : isPtr Tryd.prog 148 = false := by kernel_rfl
theorem sc148 : isSlc Tryd.prog 148 = false := by kernel_rfl
theorem ag149 : aisAgg Tryd.prog 149 = false := by kernel_rfl
theorem pt149 : isPtr Tryd.prog 149 = false := by kernel_rfl
theorem sc149 : isSlc Tryd.prog 149 = false := by kernel_rfl
theorem ag150 : aisAgg Tryd.prog 150 = false := by kernel_rfl
theorem pt150 : isPtr Tryd.prog 150 = false := by kernel_rfl
theorem sc150 : isSlc Tryd.prog 150 = false := by kernel_rfl
theorem nf3 : noisyF Tryd.prog 3 = false := by kernel_rfl
theorem nf4 : noisyF Tryd.prog 4 = false := by kernel_rfl
theorem nf5 : noisyF Tryd.prog 5 = false := by kernel_rfl
theorem nf6 : noisyF Tryd.prog 6 = false := by kernel_rfl
theorem nf7 : noisyF Tryd.prog 7 = false := by kernel_rfl
theorem nf8 : noisyF Tryd.prog 8 = false := by kernel_rfl
theorem nf9 : noisyF Tryd.prog 9 = false := by kernel_rfl
theorem nf10 : noisyF Tryd.prog 10 = false := by kernel_rfl
theorem nf11 : noisyF Tryd.prog 11 = false := by kernel_rfl
theorem nf12 : noisyF Tryd.prog 12 = false := by kernel_rfl
theorem nf13 : noisyF Tryd.prog 13 = false := by kernel_rfl
theorem nf14 : noisyF Tryd.prog 14 = false := by kernel_rfl
theorem nf15 : noisyF Tryd.prog 15 = false := by kernel_rfl
theorem nf16 : noisyF Tryd.prog 16 = false := by kernel_rfl
theorem nf17 : noisyF Tryd.prog 17 = false := by kernel_rfl
theorem nf18 : noisyF Tryd.prog 18 = false := by kernel_rfl
theorem nf19 : noisyF Tryd.prog 19 = true := by kernel_rfl
theorem nf20 : noisyF Tryd.prog 20 = true := by kernel_rfl
theorem nf21 : noisyF Tryd.prog 21 = true := by kernel_rfl
theorem nf22 : noisyF Tryd.prog 22 = true := by kernel_rfl
theorem nf23 : noisyF Tryd.prog 23 = false := by kernel_rfl
theorem nf24 : noisyF Tryd.prog 24 = false := by kernel_rfl
theorem nf25 : noisyF Tryd.prog 25 = false := by kernel_rfl
theorem nf26 : noisyF Tryd.prog 26 = false := by kernel_rfl
theorem nf27 : noisyF Tryd.prog 27 = false := by kernel_rfl
theorem nf28 : noisyF Tryd.prog 28 = false := by kernel_rfl
theorem nf29 : noisyF Tryd.prog 29 = false := by kernel_rfl
theorem nf30 : noisyF Tryd.prog 30 = false := by kernel_rfl
theorem nf31 : noisyF Tryd.prog 31 = true := by kernel_rfl
theorem nf32 : noisyF Tryd.prog 32 = false := by kernel_rfl
theorem nf33 : noisyF Tryd.prog 33 = false := by kernel_rfl
theorem nf34 : noisyF Tryd.prog 34 = true := by kernel_rfl
theorem nf35 : noisyF Tryd.prog 35 = true := by kernel_rfl
theorem nf36 : noisyF Tryd.prog 36 = true := by kernel_rfl
theorem nf37 : noisyF Tryd.prog 37 = true := by kernel_rfl
theorem nf38 : noisyF Tryd.prog 38 = false := by kernel_rfl
theorem nf39 : noisyF Tryd.prog 39 = true := by kernel_rfl
theorem nf40 : noisyF Tryd.prog 40 = false := by kernel_rfl
theorem nf41 : noisyF Tryd.prog 41 = false := by kernel_rfl
theorem nf42 : noisyF Tryd.prog 42 = false := by kernel_rfl
theorem nf43 : noisyF Tryd.prog 43 = false := by kernel_rfl
theorem nf44 : noisyF Tryd.prog 44 = false := by kernel_rfl
theorem nf45 : noisyF Tryd.prog 45 = false := by kernel_rfl
theorem nf46 : noisyF Tryd.prog 46 = false := by kernel_rfl
theorem nf47 : noisyF Tryd.prog 47 = true := by kernel_rfl
theorem nf48 : noisyF Tryd.prog 48 = true := by kernel_rfl
theorem nf49 : noisyF Tryd.prog 49 = false := by kernel_rfl
theorem nf50 : noisyF Tryd.prog 50 = false := by kernel_rfl
theorem nf51 : noisyF Tryd.prog 51 = false := by kernel_rfl
theorem nf52 : noisyF Tryd.prog 52 = false := by kernel_rfl
theorem nf53 : noisyF Tryd.prog 53 = false := by kernel_rfl
theorem nf54 : noisyF Tryd.prog 54 = false := by kernel_rfl
theorem nf55 : noisyF Tryd.prog 55 = false := by kernel_rfl
theorem nf56 : noisyF Tryd.prog 56 = false := by kernel_rfl
theorem nf57 : noisyF Tryd.prog 57 = false := by kernel_rfl
theorem nf58 : noisyF Tryd.prog 58 = false := by kernel_rfl
theorem nf59 : noisyF Tryd.prog 59 = false := by kernel_rfl
theorem nf60 : noisyF Tryd.prog 60 = false := by kernel_rfl
theorem nf61 : noisyF Tryd.prog 61 = false := by kernel_rfl
theorem nf62 : noisyF Tryd.prog 62 = false := by kernel_rfl
theorem nf63 : noisyF Tryd.prog 63 = false := by kernel_rfl
theorem nf64 : noisyF Tryd.prog 64 = false := by kernel_rfl
theorem nf65 : noisyF Tryd.prog 65 = false := by kernel_rfl
theorem nf66 : noisyF Tryd.prog 66 = false := by kernel_rfl
theorem nf68 : noisyF Tryd.prog 68 = false := by kernel_rfl
theorem nf69 : noisyF Tryd.prog 69 = false := by kernel_rfl
theorem nf70 : noisyF Tryd.prog 70 = false := by kernel_rfl
theorem nf71 : noisyF Tryd.prog 71 = false := by kernel_rfl
theorem nf72 : noisyF Tryd.prog 72 = false := by kernel_rfl
theorem nf73 : noisyF Tryd.prog 73 = false := by kernel_rfl
theorem nf74 : noisyF Tryd.prog 74 = false := by kernel_rfl
theorem nf75 : noisyF Tryd.prog 75 = false := by kernel_rfl
theorem nf76 : noisyF Tryd.prog 76 = false := by kernel_rfl
theorem nf77 : noisyF Tryd.prog 77 = false := by kernel_rfl
theorem nf78 : noisyF Tryd.prog 78 = false := by kernel_rfl
theorem nf79 : noisyF Tryd.prog 79 = false := by kernel_rfl
theorem nf80 : noisyF Tryd.prog 80 = false := by kernel_rfl
theorem nf81 : noisyF Tryd.prog 81 = false := by kernel_rfl
theorem nf85 : noisyF Tryd.prog 85 = false := by kernel_rfl
theorem nf86 : noisyF Tryd.prog 86 = false := by kernel_rfl
theorem nf88 : noisyF Tryd.prog 88 = false := by kernel_rfl
theorem nf89 : noisyF Tryd.prog 89 = false := by kernel_rfl
theorem nf90 : noisyF Tryd.prog 90 = false := by kernel_rfl
theorem nf91 : noisyF Tryd.prog 91 = false := by kernel_rfl
theorem nf92 : noisyF Tryd.prog 92 = false := by kernel_rfl
theorem nf93 : noisyF Tryd.prog 93 = false := by kernel_rfl
theorem nf96 : noisyF Tryd.prog 96 = false := by kernel_rfl
theorem nf97 : noisyF Tryd.prog 97 = false := by kernel_rfl
theorem nf98 : noisyF Tryd.prog 98 = false := by kernel_rfl
theorem nf99 : noisyF Tryd.prog 99 = false := by kernel_rfl
theorem nf115 : noisyF Tryd.prog 115 = true := by kernel_rfl
theorem nf116 : noisyF Tryd.prog 116 = false := by kernel_rfl
theorem nf117 : noisyF Tryd.prog 117 = true := by kernel_rfl
theorem nf121 : noisyF Tryd.prog 121 = false := by kernel_rfl
theorem nf122 : noisyF Tryd.prog 122 = false := by kernel_rfl
theorem nf123 : noisyF Tryd.prog 123 = false := by kernel_rfl
theorem nf124 : noisyF Tryd.prog 124 = false := by kernel_rfl
theorem nf125 : noisyF Tryd.prog 125 = false := by kernel_rfl
theorem good5 : (callable Tryd.prog 5 && tmpsOnly Tryd.f5 && decide (1 ≤ Tryd.f5.ntmps) && (match Tryd.f5.body with | some c => goodC Tryd.prog Tryd.f5.ntmps c | none => false)) = true := by kernel_rfl
theorem good7 : (callable Tryd.prog 7 && tmpsOnly Tryd.f7 && decide (1 ≤ Tryd.f7.ntmps) && (match Tryd.f7.body with | some c => goodC Tryd.prog Tryd.f7.ntmps c | none => false)) = true := by kernel_rfl
theorem good8 : (callable Tryd.prog 8 && tmpsOnly Tryd.f8 && decide (1 ≤ Tryd.f8.ntmps) && (match Tryd.f8.body with | some c => goodC Tryd.prog Tryd.f8.ntmps c | none => false)) = true := by kernel_rfl
theorem good9 : (callable Tryd.prog 9 && tmpsOnly Tryd.f9 && decide (0 ≤ Tryd.f9.ntmps) && (match Tryd.f9.body with | some c => goodC Tryd.prog Tryd.f9.ntmps c | none => false)) = true := by kernel_rfl
theorem goodc10 : (callable Tryd.prog 10 && Tryd.f10.results.toList.all (rok Tryd.prog) && decide (1 ≤ Tryd.f10.ntmps) && (match Tryd.f10.body with | some c => goodC Tryd.prog Tryd.f10.ntmps c | none => false)) = true := by kernel_rfl
theorem good13 : (callable Tryd.prog 13 && tmpsOnly Tryd.f13 && decide (1 ≤ Tryd.f13.ntmps) && (match Tryd.f13.body with | some c => goodC Tryd.prog Tryd.f13.ntmps c | none => false)) = true := by kernel_rfl
theorem good15 : (callable Tryd.prog 15 && tmpsOnly Tryd.f15 && decide (1 ≤ Tryd.f15.ntmps) && (match Tryd.f15.body with | some c => goodC Tryd.prog Tryd.f15.ntmps c | none => false)) = true := by kernel_rfl
theorem good16 : (callable Tryd.prog 16 && tmpsOnly Tryd.f16 && decide (1 ≤ Tryd.f16.ntmps) && (match Tryd.f16.body with | some c => goodC Tryd.prog Tryd.f16.ntmps c | none => false)) = true := by kernel_rfl
theorem good17 : (callable Tryd.prog 17 && tmpsOnly Tryd.f17 && decide (2 ≤ Tryd.f17.ntmps) && (match Tryd.f17.body with | some c => goodC Tryd.prog Tryd.f17.ntmps c | none => false)) = true := by kernel_rfl
theorem good18 : (callable Tryd.prog 18 && tmpsOnly Tryd.f18 && decide (1 ≤ Tryd.f18.ntmps) && (match Tryd.f18.body with | some c => goodC Tryd.prog Tryd.f18.ntmps c | none => false)) = true := by kernel_rfl
theorem goodc19 : (callable Tryd.prog 19 && Tryd.f19.results.toList.all (rok Tryd.prog) && decide (2 ≤ Tryd.f19.ntmps) && (match Tryd.f19.body with | some c => goodC Tryd.prog Tryd.f19.ntmps c | none => false)) = true := by kernel_rfl
theorem goodc20 : (callable Tryd.prog 20 && Tryd.f20.results.toList.all (rok Tryd.prog) && decide (2 ≤ Tryd.f20.ntmps) && (match Tryd.f20.body with | some c => goodC Tryd.prog Tryd.f20.ntmps c | none => false)) = true := by kernel_rfl
theorem good21 : (callable Tryd.prog 21 && tmpsOnly Tryd.f21 && decide (2 ≤ Tryd.f21.ntmps) && (match Tryd.f21.body with | some c => goodC Tryd.prog Tryd.f21.ntmps c | none => false)) = true := by kernel_rfl
theorem good22 : (callable Tryd.prog 22 && tmpsOnly Tryd.f22 && decide (2 ≤ Tryd.f22.ntmps) && (match Tryd.f22.body with | some c => goodC Tryd.prog Tryd.f22.ntmps c | none => false)) = true := by kernel_rfl
theorem good24 : (callable Tryd.prog 24 && tmpsOnly Tryd.f24 && decide (1 ≤ Tryd.f24.ntmps) && (match Tryd.f24.body with | some c => goodC Tryd.prog Tryd.f24.ntmps c | none => false)) = true := by kernel_rfl
theorem good25 : (callable Tryd.prog 25 && tmpsOnly Tryd.f25 && decide (3 ≤ Tryd.f25.ntmps) && (match Tryd.f25.body with | some c => goodC Tryd.prog Tryd.f25.ntmps c | none => false)) = true := by kernel_rfl
theorem good26 : (callable Tryd.prog 26 && tmpsOnly Tryd.f26 && decide (1 ≤ Tryd.f26.ntmps) && (match Tryd.f26.body with | some c => goodC Tryd.prog Tryd.f26.ntmps c | none => false)) = true := by kernel_rfl
theorem good27 : (callable Tryd.prog 27 && tmpsOnly Tryd.f27 && decide (1 ≤ Tryd.f27.ntmps) && (match Tryd.f27.body with | some c => goodC Tryd.prog Tryd.f27.ntmps c | none => false)) = true := by kernel_rfl
theorem good28 : (callable Tryd.prog 28 && tmpsOnly Tryd.f28 && decide (1 ≤ Tryd.f28.ntmps) && (match Tryd.f28.body with | some c => goodC Tryd.prog Tryd.f28.ntmps c | none => false)) = true := by kernel_rfl
theorem good34 : (callable Tryd.prog 34 && tmpsOnly Tryd.f34 && decide (1 ≤ Tryd.f34.ntmps) && (match Tryd.f34.body with | some c => goodC Tryd.prog Tryd.f34.ntmps c | none => false)) = true := by kernel_rfl
theorem good37 : (callable Tryd.prog 37 && tmpsOnly Tryd.f37 && decide (2 ≤ Tryd.f37.ntmps) && (match Tryd.f37.body with | some c => goodC Tryd.prog Tryd.f37.ntmps c | none => false)) = true := by kernel_rfl
theorem good38 : (callable Tryd.prog 38 && tmpsOnly Tryd.f38 && decide (1 ≤ Tryd.f38.ntmps) && (match Tryd.f38.body with | some c => goodC Tryd.prog Tryd.f38.ntmps c | none => false)) = true := by kernel_rfl
theorem good39 : (callable Tryd.prog 39 && tmpsOnly Tryd.f39 && decide (2 ≤ Tryd.f39.ntmps) && (match Tryd.f39.body with | some c => goodC Tryd.prog Tryd.f39.ntmps c | none => false)) = true := by kernel_rfl
theorem goodc40 : (callable Tryd.prog 40 && Tryd.f40.results.toList.all (rok Tryd.prog) && decide (2 ≤ Tryd.f40.ntmps) && (match Tryd.f40.body with | some c => goodC Tryd.prog Tryd.f40.ntmps c | none => false)) = true := by kernel_rfl
theorem goodc41 : (callable Tryd.prog 41 && Tryd.f41.results.toList.all (rok Tryd.prog) && decide (2 ≤ Tryd.f41.ntmps) && (match Tryd.f41.body with | some c => goodC Tryd.prog Tryd.f41.ntmps c | none => false)) = true := by kernel_rfl
theorem good43 : (callable Tryd.prog 43 && tmpsOnly Tryd.f43 && decide (1 ≤ Tryd.f43.ntmps) && (match Tryd.f43.body with | some c => goodC Tryd.prog Tryd.f43.ntmps c | none => false)) = true := by kernel_rfl
theorem good47 : (callable Tryd.prog 47 && tmpsOnly Tryd.f47 && decide (2 ≤ Tryd.f47.ntmps) && (match Tryd.f47.body with | some c => goodC Tryd.prog Tryd.f47.ntmps c | none => false)) = true := by kernel_rfl
theorem good49 : (callable Tryd.prog 49 && tmpsOnly Tryd.f49 && decide (1 ≤ Tryd.f49.ntmps) && (match Tryd.f49.body with | some c => goodC Tryd.prog Tryd.f49.ntmps c | none => false)) = true := by kernel_rfl
theorem good50 : (callable Tryd.prog 50 && tmpsOnly Tryd.f50 && decide (1 ≤ Tryd.f50.ntmps) && (match Tryd.f50.body with | some c => goodC Tryd.prog Tryd.f50.ntmps c | none => false)) = true := by kernel_rfl
theorem good51 : (callable Tryd.prog 51 && tmpsOnly Tryd.f51 && decide (1 ≤ Tryd.f51.ntmps) && (match Tryd.f51.body with | some c => goodC Tryd.prog Tryd.f51.ntmps c | none => false)) = true := by kernel_rfl
theorem good52 : (callable Tryd.prog 52 && tmpsOnly Tryd.f52 && decide (2 ≤ Tryd.f52.ntmps) && (match Tryd.f52.body with | some c => goodC Tryd.prog Tryd.f52.ntmps c | none => false)) = true := by kernel_rfl
theorem good53 : (callable Tryd.prog 53 && tmpsOnly Tryd.f53 && decide (1 ≤ Tryd.f53.ntmps) && (match Tryd.f53.body with | some c => goodC Tryd.prog Tryd.f53.ntmps c | none => false)) = true := by kernel_rfl
theorem goodc54 : (callable Tryd.prog 54 && Tryd.f54.results.toList.all (rok Tryd.prog) && decide (1 ≤ Tryd.f54.ntmps) && (match Tryd.f54.body with | some c => goodC Tryd.prog Tryd.f54.ntmps c | none => false)) = true := by kernel_rfl
theorem good55 : (callable Tryd.prog 55 && tmpsOnly Tryd.f55 && decide (2 ≤ Tryd.f55.ntmps) && (match Tryd.f55.body with | some c => goodC Tryd.prog Tryd.f55.ntmps c | none => false)) = true := by kernel_rfl
theorem good56 : (callable Tryd.prog 56 && tmpsOnly Tryd.f56 && decide (2 ≤ Tryd.f56.ntmps) && (match Tryd.f56.body with | some c => goodC Tryd.prog Tryd.f56.ntmps c | none => false)) = true := by kernel_rfl
theorem good57 : (callable Tryd.prog 57 && tmpsOnly Tryd.f57 && decide (4 ≤ Tryd.f57.ntmps) && (match Tryd.f57.body with | some c => goodC Tryd.prog Tryd.f57.ntmps c | none => false)) = true := by kernel_rfl
theorem good58 : (callable Tryd.prog 58 && tmpsOnly Tryd.f58 && decide (3 ≤ Tryd.f58.ntmps) && (match Tryd.f58.body with | some c => goodC Tryd.prog Tryd.f58.ntmps c | none => false)) = true := by kernel_rfl
theorem good59 : (callable Tryd.prog 59 && tmpsOnly Tryd.f59 && decide (1 ≤ Tryd.f59.ntmps) && (match Tryd.f59.body with | some c => goodC Tryd.prog Tryd.f59.ntmps c | none => false)) = true := by kernel_rfl
theorem good68 : (callable Tryd.prog 68 && tmpsOnly Tryd.f68 && decide (1 ≤ Tryd.f68.ntmps) && (match Tryd.f68.body with | some c => goodC Tryd.prog Tryd.f68.ntmps c | none => false)) = true := by kernel_rfl
theorem good69 : (callable Tryd.prog 69 && tmpsOnly Tryd.f69 && decide (1 ≤ Tryd.f69.ntmps) && (match Tryd.f69.body with | some c => goodC Tryd.prog Tryd.f69.ntmps c | none => false)) = true := by kernel_rfl
theorem good70 : (callable Tryd.prog 70 && tmpsOnly Tryd.f70 && decide (2 ≤ Tryd.f70.ntmps) && (match Tryd.f70.body with | some c => goodC Tryd.prog Tryd.f70.ntmps c | none => false)) = true := by kernel_rfl
theorem good71 : (callable Tryd.prog 71 && tmpsOnly Tryd.f71 && decide (3 ≤ Tryd.f71.ntmps) && (match Tryd.f71.body with | some c => goodC Tryd.prog Tryd.f71.ntmps c | none => false)) = true := by kernel_rfl
theorem good72 : (callable Tryd.prog 72 && tmpsOnly Tryd.f72 && decide (4 ≤ Tryd.f72.ntmps) && (match Tryd.f72.body with | some c => goodC Tryd.prog Tryd.f72.ntmps c | none => false)) = true := by kernel_rfl
theorem good73 : (callable Tryd.prog 73 && tmpsOnly Tryd.f73 && decide (2 ≤ Tryd.f73.ntmps) && (match Tryd.f73.body with | some c => goodC Tryd.prog Tryd.f73.ntmps c | none => false)) = true := by kernel_rfl
theorem good74 : (callable Tryd.prog 74 && tmpsOnly Tryd.f74 && decide (4 ≤ Tryd.f74.ntmps) && (match Tryd.f74.body with | some c => goodC Tryd.prog Tryd.f74.ntmps c | none => false)) = true := by kernel_rfl
theorem good75 : (callable Tryd.prog 75 && tmpsOnly Tryd.f75 && decide (2 ≤ Tryd.f75.ntmps) && (match Tryd.f75.body with | some c => goodC Tryd.prog Tryd.f75.ntmps c | none => false)) = true := by kernel_rfl
theorem good76 : (callable Tryd.prog 76 && tmpsOnly Tryd.f76 && decide (2 ≤ Tryd.f76.ntmps) && (match Tryd.f76.body with | some c => goodC Tryd.prog Tryd.f76.ntmps c | none => false)) = true := by kernel_rfl
theorem good88 : (callable Tryd.prog 88 && tmpsOnly Tryd.f88 && decide (1 ≤ Tryd.f88.ntmps) && (match Tryd.f88.body with | some c => goodC Tryd.prog Tryd.f88.ntmps c | none => false)) = true := by kernel_rfl
abbrev chr (n : Nat) : Char := Char.ofNat n
set_option maxRecDepth 20000 in
theorem initS : Tryd.prog.initOrder.toList = [chr 104, chr 97, chr 114, chr 110, chr 101, chr 115, chr 115, chr 32, chr 97, chr 52, chr 97, chr 52, chr 57, chr 52, chr 100, chr 98, chr 51, chr 50, chr 102, chr 56, chr 54, chr 57, chr 49, chr 100, chr 101, chr 99, chr 56, chr 54, chr 50, chr 97, chr 50, chr 57, chr 50, chr 50, chr 57, chr 52, chr 99, chr 49, chr 57, chr 51, chr 102, chr 99, chr 57, chr 57, chr 50, chr 57, chr 55, chr 101, chr 57, chr 98, chr 101, chr 48, chr 48, chr 55, chr 57, chr 99, chr 101, chr 55, chr 97, chr 101, chr 48, chr 52, chr 48, chr 49, chr 57, chr 53, chr 97, chr 55, chr 51, chr 99, chr 51, chr 48, chr 32, chr 99, chr 117, chr 116, chr 32, chr 97, chr 116, chr 32, chr 108, chr 111, chr 111, chr 112, chr 46, chr 101, chr 120, chr 97, chr 109, chr 112, chr 108, chr 101, chr 47, chr 99, chr 105, chr 114, chr 99, chr 117, chr 105, chr 116, chr 115, chr 119, chr 105, chr 116, chr 99, chr 104, chr 105, chr 110, chr 103, chr 47, chr 108, chr 97, chr 119, chr 115, chr 46, chr 70, chr 110, chr 68, chr 101, chr 101, chr 100, chr 84, chr 101, chr 120, chr 116, chr 32, chr 108, chr 111, chr 111, chr 112, chr 46, chr 101, chr 120, chr 97, chr 109, chr 112, chr 108, chr 101, chr 47, chr 99, chr 105, chr 114, chr 99, chr 117, chr 105, chr 116, chr 115, chr 119, chr 105, chr 116, chr 99, chr 104, chr 105, chr 110, chr 103, chr 47, chr 108, chr 97, chr 119, chr 115, chr 46, chr 70, chr 110, chr 82, chr 101, chr 97, chr 100, chr 68, chr 101, chr 101, chr 100, chr 32, chr 108, chr 111, chr 111, chr 112, chr 46, chr 101, chr 120, chr 97, chr 109, chr 112, chr 108, chr 101, chr 47, chr 99, chr 105, chr 114, chr 99, chr 117, chr 105, chr 116, chr 115, chr 119, chr 105, chr 116, chr 99, chr 104, chr 105, chr 110, chr 103, chr 47, chr 108, chr 97, chr 119, chr 115, chr 46, chr 70, chr 110, chr 74, chr 111, chr 117, chr 114, chr 110, chr 97, chr 108, chr 84, chr 101, chr 120, chr 116] := by
  rw [show Tryd.prog.initOrder = String.ofList [chr 104, chr 97, chr 114, chr 110, chr 101, chr 115, chr 115, chr 32, chr 97, chr 52, chr 97, chr 52, chr 57, chr 52, chr 100, chr 98, chr 51, chr 50, chr 102, chr 56, chr 54, chr 57, chr 49, chr 100, chr 101, chr 99, chr 56, chr 54, chr 50, chr 97, chr 50, chr 57, chr 50, chr 50, chr 57, chr 52, chr 99, chr 49, chr 57, chr 51, chr 102, chr 99, chr 57, chr 57, chr 50, chr 57, chr 55, chr 101, chr 57, chr 98, chr 101, chr 48, chr 48, chr 55, chr 57, chr 99, chr 101, chr 55, chr 97, chr 101, chr 48, chr 52, chr 48, chr 49, chr 57, chr 53, chr 97, chr 55, chr 51, chr 99, chr 51, chr 48, chr 32, chr 99, chr 117, chr 116, chr 32, chr 97, chr 116, chr 32, chr 108, chr 111, chr 111, chr 112, chr 46, chr 101, chr 120, chr 97, chr 109, chr 112, chr 108, chr 101, chr 47, chr 99, chr 105, chr 114, chr 99, chr 117, chr 105, chr 116, chr 115, chr 119, chr 105, chr 116, chr 99, chr 104, chr 105, chr 110, chr 103, chr 47, chr 108, chr 97, chr 119, chr 115, chr 46, chr 70, chr 110, chr 68, chr 101, chr 101, chr 100, chr 84, chr 101, chr 120, chr 116, chr 32, chr 108, chr 111, chr 111, chr 112, chr 46, chr 101, chr 120, chr 97, chr 109, chr 112, chr 108, chr 101, chr 47, chr 99, chr 105, chr 114, chr 99, chr 117, chr 105, chr 116, chr 115, chr 119, chr 105, chr 116, chr 99, chr 104, chr 105, chr 110, chr 103, chr 47, chr 108, chr 97, chr 119, chr 115, chr 46, chr 70, chr 110, chr 82, chr 101, chr 97, chr 100, chr 68, chr 101, chr 101, chr 100, chr 32, chr 108, chr 111, chr 111, chr 112, chr 46, chr 101, chr 120, chr 97, chr 109, chr 112, chr 108, chr 101, chr 47, chr 99, chr 105, chr 114, chr 99, chr 117, chr 105, chr 116, chr 115, chr 119, chr 105, chr 116, chr 99, chr 104, chr 105, chr 110, chr 103, chr 47, chr 108, chr 97, chr 119, chr 115, chr 46, chr 70, chr 110, chr 74, chr 111, chr 117, chr 114, chr 110, chr 97, chr 108, chr 84, chr 101, chr 120, chr 116] from by kernel_rfl, String.toList_ofList]
set_option maxRecDepth 20000 in
theorem behind : behindMainWord (wordsSigns Tryd.prog.initOrder.toList) = cutW :: [[chr 97, chr 116], [chr 108, chr 111, chr 111, chr 112, chr 46, chr 101, chr 120, chr 97, chr 109, chr 112, chr 108, chr 101, chr 47, chr 99, chr 105, chr 114, chr 99, chr 117, chr 105, chr 116, chr 115, chr 119, chr 105, chr 116, chr 99, chr 104, chr 105, chr 110, chr 103, chr 47, chr 108, chr 97, chr 119, chr 115, chr 46, chr 70, chr 110, chr 68, chr 101, chr 101, chr 100, chr 84, chr 101, chr 120, chr 116], [chr 108, chr 111, chr 111, chr 112, chr 46, chr 101, chr 120, chr 97, chr 109, chr 112, chr 108, chr 101, chr 47, chr 99, chr 105, chr 114, chr 99, chr 117, chr 105, chr 116, chr 115, chr 119, chr 105, chr 116, chr 99, chr 104, chr 105, chr 110, chr 103, chr 47, chr 108, chr 97, chr 119, chr 115, chr 46, chr 70, chr 110, chr 82, chr 101, chr 97, chr 100, chr 68, chr 101, chr 101, chr 100], [chr 108, chr 111, chr 111, chr 112, chr 46, chr 101, chr 120, chr 97, chr 109, chr 112, chr 108, chr 101, chr 47, chr 99, chr 105, chr 114, chr 99, chr 117, chr 105, chr 116, chr 115, chr 119, chr 105, chr 116, chr 99, chr 104, chr 105, chr 110, chr 103, chr 47, chr 108, chr 97, chr 119, chr 115, chr 46, chr 70, chr 110, chr 74, chr 111, chr 117, chr 114, chr 110, chr 97, chr 108, chr 84, chr 101, chr 120, chr 116]] := by
  rw [initS]; kernel_rfl
theorem mayE : Tryd.prog.mayEnter = true := may_of behind (by kernel_rfl) (by kernel_rfl) (by kernel_rfl)
theorem liftsE : Tryd.prog.liftsFinal = false := lifts_of behind
theorem makeE : Tryd.prog.make = some .cut := mk_of behind
theorem vcu0 : type_of% (And.intro (And.intro (And.intro (And.intro (@decide_true) (@decide_false)) (And.intro (@Bool.or_false) (@Bool.or_true))) (And.intro (And.intro (@Bool.false_or) (@Bool.true_or)) (And.intro (@noisy_nil) (@nq_move)))) (And.intro (And.intro (And.intro (@nq_assign) (@nq_pick)) (And.intro (@nq_binOp) (@nq_unOp))) (And.intro (And.intro (@nq_convert) (@nq_nilCheck)) (And.intro (@nq_indexAddr) (@nq_index))))) := (And.intro (And.intro (And.intro (And.intro (@decide_true) (@decide_false)) (And.intro (@Bool.or_false) (@Bool.or_true))) (And.intro (And.intro (@Bool.false_or) (@Bool.true_or)) (And.intro (@noisy_nil) (@nq_move)))) (And.intro (And.intro (And.intro (@nq_assign) (@nq_pick)) (And.intro (@nq_binOp) (@nq_unOp))) (And.intro (And.intro (@nq_convert) (@nq_nilCheck)) (And.intro (@nq_indexAddr) (@nq_index)))))
theorem vcu1 : type_of% (And.intro (And.intro (And.intro (And.intro (@nq_load) (@nq_field)) (And.intro (@nq_fieldAddr) (@nq_extract))) (And.intro (And.intro (@nq_build) (@nq_makeFunc)) (And.intro (@nq_slice) (@nq_len)))) (And.intro (And.intro (And.intro (@nq_min) (@nq_max)) (And.intro (@nq_call) (@nl_callv))) (And.intro (And.intro (@nl_append) (@nl_copy)) (And.intro (@nl_clear) (@nl_alloc))))) := (And.intro (And.intro (And.intro (And.intro (@nq_load) (@nq_field)) (And.intro (@nq_fieldAddr) (@nq_extract))) (And.intro (And.intro (@nq_build) (@nq_makeFunc)) (And.intro (@nq_slice) (@nq_len)))) (And.intro (And.intro (And.intro (@nq_min) (@nq_max)) (And.intro (@nq_call) (@nl_callv))) (And.intro (And.intro (@nl_append) (@nl_copy)) (And.intro (@nl_clear) (@nl_alloc)))))
theorem vcu2 : type_of% (And.intro (And.intro (And.intro (And.intro (@nl_box) (@nl_store)) (And.intro (@nl_makeSlice) (@nl_buildSlice))) (And.intro (And.intro (@nl_slice3) (@bindO_some)) (And.intro (@bindI_some) (@bindS_some)))) (And.intro (And.intro (And.intro (@pickR_yes) (@pickR_no)) (And.intro (@pickR_tt) (@pickR_ff))) (And.intro (And.intro (@gvb_some) (@vb_bool)) (And.intro (@vb_undef) (@gslot_zero))))) := (And.intro (And.intro (And.intro (And.intro (@nl_box) (@nl_store)) (And.intro (@nl_makeSlice) (@nl_buildSlice))) (And.intro (And.intro (@nl_slice3) (@bindO_some)) (And.intro (@bindI_some) (@bindS_some)))) (And.intro (And.intro (And.intro (@pickR_yes) (@pickR_no)) (And.intro (@pickR_tt) (@pickR_ff))) (And.intro (And.intro (@gvb_some) (@vb_bool)) (And.intro (@vb_undef) (@gslot_zero)))))
theorem vcu3 : type_of% (And.intro (And.intro (And.intro (And.intro (@gslot_succ) (@guardR_tt)) (And.intro (@guardR_ff) (@guardR_tf))) (And.intro (And.intro (@guardR_ft) (@guardR_nt)) (And.intro (@guardR_pt) (@guardR_pf)))) (And.intro (And.intro (And.intro (@guardR_nT) (@guardR_nF)) (And.intro (@aput_some) (@aput_none))) (And.intro (And.intro (@condR_true) (@condR_false)) (And.intro (@condR_yes) (@condR_no))))) := (And.intro (And.intro (And.intro (And.intro (@gslot_succ) (@guardR_tt)) (And.intro (@guardR_ff) (@guardR_tf))) (And.intro (And.intro (@guardR_ft) (@guardR_nt)) (And.intro (@guardR_pt) (@guardR_pf)))) (And.intro (And.intro (And.intro (@guardR_nT) (@guardR_nF)) (And.intro (@aput_some) (@aput_none))) (And.intro (And.intro (@condR_true) (@condR_false)) (And.intro (@condR_yes) (@condR_no)))))
theorem vcu4 : type_of% (And.intro (And.intro (And.intro (And.intro (@condR_not) (@Bool.not_true)) (And.intro (@Bool.not_false) (@ev_const))) (And.intro (And.intro (@ev_tmp) (@ev_func)) (And.intro (@fset_app) (@abin_add)))) (And.intro (And.intro (And.intro (@abin_sub) (@abin_mul)) (And.intro (@abin_quo) (@abin_rem))) (And.intro (And.intro (@abin_eql) (@abin_neq)) (And.intro (@abin_lss) (@abin_leq))))) := (And.intro (And.intro (And.intro (And.intro (@condR_not) (@Bool.not_true)) (And.intro (@Bool.not_false) (@ev_const))) (And.intro (And.intro (@ev_tmp) (@ev_func)) (And.intro (@fset_app) (@abin_add)))) (And.intro (And.intro (And.intro (@abin_sub) (@abin_mul)) (And.intro (@abin_quo) (@abin_rem))) (And.intro (And.intro (@abin_eql) (@abin_neq)) (And.intro (@abin_lss) (@abin_leq)))))
theorem vcu5 : type_of% (And.intro (And.intro (And.intro (And.intro (@abin_gtr) (@abin_geq)) (And.intro (@abin_seql) (@abin_sneq))) (And.intro (And.intro (@abin_sadd) (@bindX_some)) (And.intro (@tx_nil) (@tx_empty)))) (And.intro (And.intro (And.intro (@aun_not) (@aun_neg)) (And.intro (@aconvH_int) (@amin_two))) (And.intro (And.intro (@amax_two) (@anil_ptr)) (And.intro (@aextract_tuple) (@dec_true))))) := (And.intro (And.intro (And.intro (And.intro (@abin_gtr) (@abin_geq)) (And.intro (@abin_seql) (@abin_sneq))) (And.intro (And.intro (@abin_sadd) (@bindX_some)) (And.intro (@tx_nil) (@tx_empty)))) (And.intro (And.intro (And.intro (@aun_not) (@aun_neg)) (And.intro (@aconvH_int) (@amin_two))) (And.intro (And.intro (@amax_two) (@anil_ptr)) (And.intro (@aextract_tuple) (@dec_true)))))
theorem vcu6 : type_of% (And.intro (And.intro (And.intro (And.intro (@dec_false) (@Nat.mul_one)) (And.intro (@Int.toNat_natCast) (@not_not_p))) (And.intro (And.intro (@aenter_zero) (@aenter_succ)) (And.intro (abin_beql' bo4) (abin_bneq' bo4)))) (And.intro (And.intro (And.intro (alenV_tx' Tryd.underlying9) (aslice_thi' Tryd.underlying9)) (And.intro (aslice_tlo' Tryd.underlying9) (aslice_tlohi' Tryd.underlying9))) (And.intro (And.intro (alenV_tx' Tryd.underlying10) (aslice_thi' Tryd.underlying10)) (And.intro (aslice_tlo' Tryd.underlying10) (aslice_tlohi' Tryd.underlying10))))) := (And.intro (And.intro (And.intro (And.intro (@dec_false) (@Nat.mul_one)) (And.intro (@Int.toNat_natCast) (@not_not_p))) (And.intro (And.intro (@aenter_zero) (@aenter_succ)) (And.intro (abin_beql' bo4) (abin_bneq' bo4)))) (And.intro (And.intro (And.intro (alenV_tx' Tryd.underlying9) (aslice_thi' Tryd.underlying9)) (And.intro (aslice_tlo' Tryd.underlying9) (aslice_tlohi' Tryd.underlying9))) (And.intro (And.intro (alenV_tx' Tryd.underlying10) (aslice_thi' Tryd.underlying10)) (And.intro (aslice_tlo' Tryd.underlying10) (aslice_tlohi' Tryd.underlying10)))))
theorem vcu7 : type_of% (And.intro (And.intro (And.intro (And.intro (alenV_tx' Tryd.underlying11) (aslice_thi' Tryd.underlying11)) (And.intro (aslice_tlo' Tryd.underlying11) (aslice_tlohi' Tryd.underlying11))) (And.intro (And.intro (alenV_slice' Tryd.underlying22) (aidx_slice' Tryd.underlying22 co5)) (And.intro (@esz22) (aslice_hi' Tryd.underlying22 co5)))) (And.intro (And.intro (And.intro (aslice_lo' Tryd.underlying22 co5) (aslice_lohi' Tryd.underlying22 co5)) (And.intro (aslice_nhi' Tryd.underlying22) (aslice_nlo' Tryd.underlying22))) (And.intro (And.intro (aslice_nlohi' Tryd.underlying22) (@fl23_0)) (And.intro (@fl23_1) (@fl23_2))))) := (And.intro (And.intro (And.intro (And.intro (alenV_tx' Tryd.underlying11) (aslice_thi' Tryd.underlying11)) (And.intro (aslice_tlo' Tryd.underlying11) (aslice_tlohi' Tryd.underlying11))) (And.intro (And.intro (alenV_slice' Tryd.underlying22) (aidx_slice' Tryd.underlying22 co5)) (And.intro (@esz22) (aslice_hi' Tryd.underlying22 co5)))) (And.intro (And.intro (And.intro (aslice_lo' Tryd.underlying22 co5) (aslice_lohi' Tryd.underlying22 co5)) (And.intro (aslice_nhi' Tryd.underlying22) (aslice_nlo' Tryd.underlying22))) (And.intro (And.intro (aslice_nlohi' Tryd.underlying22) (@fl23_0)) (And.intro (@fl23_1) (@fl23_2)))))
theorem vcu8 : type_of% (And.intro (And.intro (And.intro (And.intro (@fv23_0) (@fv23_1)) (And.intro (@fv23_2) (@fl24_0))) (And.intro (And.intro (@fl24_1) (@fl24_2)) (And.intro (@fv24_0) (@fv24_1)))) (And.intro (And.intro (And.intro (@fv24_2) (alenV_slice' Tryd.underlying32)) (And.intro (aidx_slice' Tryd.underlying32 co24) (@esz32))) (And.intro (And.intro (aslice_hi' Tryd.underlying32 co24) (aslice_lo' Tryd.underlying32 co24)) (And.intro (aslice_lohi' Tryd.underlying32 co24) (aslice_nhi' Tryd.underlying32))))) := (And.intro (And.intro (And.intro (And.intro (@fv23_0) (@fv23_1)) (And.intro (@fv23_2) (@fl24_0))) (And.intro (And.intro (@fl24_1) (@fl24_2)) (And.intro (@fv24_0) (@fv24_1)))) (And.intro (And.intro (And.intro (@fv24_2) (alenV_slice' Tryd.underlying32)) (And.intro (aidx_slice' Tryd.underlying32 co24) (@esz32))) (And.intro (And.intro (aslice_hi' Tryd.underlying32 co24) (aslice_lo' Tryd.underlying32 co24)) (And.intro (aslice_lohi' Tryd.underlying32 co24) (aslice_nhi' Tryd.underlying32)))))
theorem vcu9 : type_of% (And.intro (And.intro (And.intro (And.intro (aslice_nlo' Tryd.underlying32) (aslice_nlohi' Tryd.underlying32)) (And.intro (@fl41_0) (@fl41_1))) (And.intro (And.intro (@fl41_2) (@fv41_0)) (And.intro (@fv41_1) (@fv41_2)))) (And.intro (And.intro (And.intro (@fl42_0) (@fl42_1)) (And.intro (@fl42_2) (@fv42_0))) (And.intro (And.intro (@fv42_1) (@fv42_2)) (And.intro (alenV_slice' Tryd.underlying43) (aidx_slice' Tryd.underlying43 co9))))) := (And.intro (And.intro (And.intro (And.intro (aslice_nlo' Tryd.underlying32) (aslice_nlohi' Tryd.underlying32)) (And.intro (@fl41_0) (@fl41_1))) (And.intro (And.intro (@fl41_2) (@fv41_0)) (And.intro (@fv41_1) (@fv41_2)))) (And.intro (And.intro (And.intro (@fl42_0) (@fl42_1)) (And.intro (@fl42_2) (@fv42_0))) (And.intro (And.intro (@fv42_1) (@fv42_2)) (And.intro (alenV_slice' Tryd.underlying43) (aidx_slice' Tryd.underlying43 co9)))))
theorem vcu10 : type_of% (And.intro (And.intro (And.intro (And.intro (@esz43) (aslice_hi' Tryd.underlying43 co9)) (And.intro (aslice_lo' Tryd.underlying43 co9) (aslice_lohi' Tryd.underlying43 co9))) (And.intro (And.intro (aslice_nhi' Tryd.underlying43) (aslice_nlo' Tryd.underlying43)) (And.intro (aslice_nlohi' Tryd.underlying43) (alenV_slice' Tryd.underlying44)))) (And.intro (And.intro (And.intro (aidx_slice' Tryd.underlying44 co79) (@esz44)) (And.intro (aslice_hi' Tryd.underlying44 co79) (aslice_lo' Tryd.underlying44 co79))) (And.intro (And.intro (aslice_lohi' Tryd.underlying44 co79) (aslice_nhi' Tryd.underlying44)) (And.intro (aslice_nlo' Tryd.underlying44) (aslice_nlohi' Tryd.underlying44))))) := (And.intro (And.intro (And.intro (And.intro (@esz43) (aslice_hi' Tryd.underlying43 co9)) (And.intro (aslice_lo' Tryd.underlying43 co9) (aslice_lohi' Tryd.underlying43 co9))) (And.intro (And.intro (aslice_nhi' Tryd.underlying43) (aslice_nlo' Tryd.underlying43)) (And.intro (aslice_nlohi' Tryd.underlying43) (alenV_slice' Tryd.underlying44)))) (And.intro (And.intro (And.intro (aidx_slice' Tryd.underlying44 co79) (@esz44)) (And.intro (aslice_hi' Tryd.underlying44 co79) (aslice_lo' Tryd.underlying44 co79))) (And.intro (And.intro (aslice_lohi' Tryd.underlying44 co79) (aslice_nhi' Tryd.underlying44)) (And.intro (aslice_nlo' Tryd.underlying44) (aslice_nlohi' Tryd.underlying44)))))
theorem vcu11 : type_of% (And.intro (And.intro (And.intro (And.intro (@fl45_0) (@fl45_1)) (And.intro (@fl45_2) (@fv45_1))) (And.intro (And.intro (@fv45_2) (@fl46_0)) (And.intro (@fl46_1) (@fl46_2)))) (And.intro (And.intro (And.intro (@fv46_1) (@fv46_2)) (And.intro (alenV_slice' Tryd.underlying54) (aidx_slice' Tryd.underlying54 co3))) (And.intro (And.intro (@esz54) (aslice_hi' Tryd.underlying54 co3)) (And.intro (aslice_lo' Tryd.underlying54 co3) (aslice_lohi' Tryd.underlying54 co3))))) := (And.intro (And.intro (And.intro (And.intro (@fl45_0) (@fl45_1)) (And.intro (@fl45_2) (@fv45_1))) (And.intro (And.intro (@fv45_2) (@fl46_0)) (And.intro (@fl46_1) (@fl46_2)))) (And.intro (And.intro (And.intro (@fv46_1) (@fv46_2)) (And.intro (alenV_slice' Tryd.underlying54) (aidx_slice' Tryd.underlying54 co3))) (And.intro (And.intro (@esz54) (aslice_hi' Tryd.underlying54 co3)) (And.intro (aslice_lo' Tryd.underlying54 co3) (aslice_lohi' Tryd.underlying54 co3)))))
theorem vcu12 : type_of% (And.intro (And.intro (And.intro (And.intro (aslice_nhi' Tryd.underlying54) (aslice_nlo' Tryd.underlying54)) (And.intro (aslice_nlohi' Tryd.underlying54) (@fl69_0))) (And.intro (And.intro (@fl69_1) (@fv69_0)) (And.intro (@fv69_1) (@fl70_0)))) (And.intro (And.intro (And.intro (@fl70_1) (@fv70_0)) (And.intro (@fv70_1) (@fl78_0))) (And.intro (And.intro (@fl78_1) (@fl78_2)) (And.intro (@fv78_0) (@fv78_1))))) := (And.intro (And.intro (And.intro (And.intro (aslice_nhi' Tryd.underlying54) (aslice_nlo' Tryd.underlying54)) (And.intro (aslice_nlohi' Tryd.underlying54) (@fl69_0))) (And.intro (And.intro (@fl69_1) (@fv69_0)) (And.intro (@fv69_1) (@fl70_0)))) (And.intro (And.intro (And.intro (@fl70_1) (@fv70_0)) (And.intro (@fv70_1) (@fl78_0))) (And.intro (And.intro (@fl78_1) (@fl78_2)) (And.intro (@fv78_0) (@fv78_1)))))
theorem vcu13 : type_of% (And.intro (And.intro (And.intro (And.intro (@fv78_2) (@fl79_0)) (And.intro (@fl79_1) (@fl79_2))) (And.intro (And.intro (@fv79_0) (@fv79_1)) (And.intro (@fv79_2) (aidx_array' Tryd.underlying80 co4)))) (And.intro (And.intro (And.intro (@esz80) (aidx_array' Tryd.underlying112 co5)) (And.intro (@esz112) (aidx_array' Tryd.underlying127 co113))) (And.intro (And.intro (@esz127) (aidx_array' Tryd.underlying129 co5)) (And.intro (@esz129) (aidx_array' Tryd.underlying138 co5))))) := (And.intro (And.intro (And.intro (And.intro (@fv78_2) (@fl79_0)) (And.intro (@fl79_1) (@fl79_2))) (And.intro (And.intro (@fv79_0) (@fv79_1)) (And.intro (@fv79_2) (aidx_array' Tryd.underlying80 co4)))) (And.intro (And.intro (And.intro (@esz80) (aidx_array' Tryd.underlying112 co5)) (And.intro (@esz112) (aidx_array' Tryd.underlying127 co113))) (And.intro (And.intro (@esz127) (aidx_array' Tryd.underlying129 co5)) (And.intro (@esz129) (aidx_array' Tryd.underlying138 co5)))))
theorem vcu14 : type_of% (And.intro (And.intro (And.intro (And.intro (@esz138) (aidx_array' Tryd.underlying139 co5)) (And.intro (@esz139) (aidx_array' Tryd.underlying142 co16))) (And.intro (And.intro (@esz142) (@pt0)) (And.intro (@pt1) (@pt2)))) (And.intro (And.intro (And.intro (@pt3) (@pt4)) (And.intro (@pt5) (@pt6))) (And.intro (And.intro (@pt9) (@pt10)) (And.intro (@pt11) (@pt12))))) := (And.intro (And.intro (And.intro (And.intro (@esz138) (aidx_array' Tryd.underlying139 co5)) (And.intro (@esz139) (aidx_array' Tryd.underlying142 co16))) (And.intro (And.intro (@esz142) (@pt0)) (And.intro (@pt1) (@pt2)))) (And.intro (And.intro (And.intro (@pt3) (@pt4)) (And.intro (@pt5) (@pt6))) (And.intro (And.intro (@pt9) (@pt10)) (And.intro (@pt11) (@pt12)))))
theorem vcu15 : type_of% (And.intro (And.intro (And.intro (And.intro (@pt15) (@pt16)) (And.intro (@pt17) (@pt20))) (And.intro (And.intro (@pt21) (@pt22)) (And.intro (@pt23) (@pt24)))) (And.intro (And.intro (And.intro (@pt25) (@pt26)) (And.intro (@pt27) (@pt28))) (And.intro (And.intro (@pt29) (@pt30)) (And.intro (@pt31) (@pt32))))) := (And.intro (And.intro (And.intro (And.intro (@pt15) (@pt16)) (And.intro (@pt17) (@pt20))) (And.intro (And.intro (@pt21) (@pt22)) (And.intro (@pt23) (@pt24)))) (And.intro (And.intro (And.intro (@pt25) (@pt26)) (And.intro (@pt27) (@pt28))) (And.intro (And.intro (@pt29) (@pt30)) (And.intro (@pt31) (@pt32)))))
theorem vcu16 : type_of% (And.intro (And.intro (And.intro (And.intro (@pt33) (@pt34)) (And.intro (@pt35) (@pt36))) (And.intro (And.intro (@pt37) (@pt38)) (And.intro (@pt39) (@pt40)))) (And.intro (And.intro (And.intro (@pt41) (@pt42)) (And.intro (@pt43) (@pt44))) (And.intro (And.intro (@pt45) (@pt46)) (And.intro (@pt47) (@pt48))))) := (And.intro (And.intro (And.intro (And.intro (@pt33) (@pt34)) (And.intro (@pt35) (@pt36))) (And.intro (And.intro (@pt37) (@pt38)) (And.intro (@pt39) (@pt40)))) (And.intro (And.intro (And.intro (@pt41) (@pt42)) (And.intro (@pt43) (@pt44))) (And.intro (And.intro (@pt45) (@pt46)) (And.intro (@pt47) (@pt48)))))
theorem vcu17 : type_of% (And.intro (And.intro (And.intro (And.intro (@pt49) (@pt50)) (And.intro (@pt51) (@pt52))) (And.intro (And.intro (@pt53) (@pt54)) (And.intro (@pt55) (@pt56)))) (And.intro (And.intro (And.intro (@pt57) (@pt58)) (And.intro (@pt59) (@pt60))) (And.intro (And.intro (@pt61) (@pt62)) (And.intro (@pt63) (@pt64))))) := (And.intro (And.intro (And.intro (And.intro (@pt49) (@pt50)) (And.intro (@pt51) (@pt52))) (And.intro (And.intro (@pt53) (@pt54)) (And.intro (@pt55) (@pt56)))) (And.intro (And.intro (And.intro (@pt57) (@pt58)) (And.intro (@pt59) (@pt60))) (And.intro (And.intro (@pt61) (@pt62)) (And.intro (@pt63) (@pt64)))))
theorem vcu18 : type_of% (And.intro (And.intro (And.intro (And.intro (@pt65) (@pt68)) (And.intro (@pt69) (@pt70))) (And.intro (And.intro (@pt71) (@pt72)) (And.intro (@pt73) (@pt74)))) (And.intro (And.intro (And.intro (@pt75) (@pt76)) (And.intro (@pt77) (@pt78))) (And.intro (And.intro (@pt79) (@pt80)) (And.intro (@pt81) (@pt82))))) := (And.intro (And.intro (And.intro (And.intro (@pt65) (@pt68)) (And.intro (@pt69) (@pt70))) (And.intro (And.intro (@pt71) (@pt72)) (And.intro (@pt73) (@pt74)))) (And.intro (And.intro (And.intro (@pt75) (@pt76)) (And.intro (@pt77) (@pt78))) (And.intro (And.intro (@pt79) (@pt80)) (And.intro (@pt81) (@pt82)))))
theorem vcu19 : type_of% (And.intro (And.intro (And.intro (And.intro (@pt83) (@pt84)) (And.intro (@pt85) (@pt86))) (And.intro (And.intro (@pt87) (@pt88)) (And.intro (@pt89) (@pt90)))) (And.intro (And.intro (And.intro (@pt91) (@pt92)) (And.intro (@pt93) (@pt94))) (And.intro (And.intro (@pt95) (@pt96)) (And.intro (@pt97) (@pt98))))) := (And.intro (And.intro (And.intro (And.intro (@pt83) (@pt84)) (And.intro (@pt85) (@pt86))) (And.intro (And.intro (@pt87) (@pt88)) (And.intro (@pt89) (@pt90)))) (And.intro (And.intro (And.intro (@pt91) (@pt92)) (And.intro (@pt93) (@pt94))) (And.intro (And.intro (@pt95) (@pt96)) (And.intro (@pt97) (@pt98)))))
theorem vcu20 : type_of% (And.intro (And.intro (And.intro (And.intro (@pt99) (@pt100)) (And.intro (@pt101) (@pt102))) (And.intro (And.intro (@pt103) (@pt104)) (And.intro (@pt105) (@pt106)))) (And.intro (And.intro (And.intro (@pt107) (@pt108)) (And.intro (@pt109) (@pt110))) (And.intro (And.intro (@pt111) (@pt112)) (And.intro (@pt113) (@pt114))))) := (And.intro (And.intro (And.intro (And.intro (@pt99) (@pt100)) (And.intro (@pt101) (@pt102))) (And.intro (And.intro (@pt103) (@pt104)) (And.intro (@pt105) (@pt106)))) (And.intro (And.intro (And.intro (@pt107) (@pt108)) (And.intro (@pt109) (@pt110))) (And.intro (And.intro (@pt111) (@pt112)) (And.intro (@pt113) (@pt114)))))
theorem vcu21 : type_of% (And.intro (And.intro (And.intro (And.intro (@pt115) (@pt116)) (And.intro (@pt117) (@pt118))) (And.intro (And.intro (@pt119) (@pt120)) (And.intro (@pt121) (@pt122)))) (And.intro (And.intro (And.intro (@pt125) (@pt126)) (And.intro (@pt127) (@pt128))) (And.intro (And.intro (@pt129) (@pt130)) (And.intro (@pt131) (@pt132))))) := (And.intro (And.intro (And.intro (And.intro (@pt115) (@pt116)) (And.intro (@pt117) (@pt118))) (And.intro (And.intro (@pt119) (@pt120)) (And.intro (@pt121) (@pt122)))) (And.intro (And.intro (And.intro (@pt125) (@pt126)) (And.intro (@pt127) (@pt128))) (And.intro (And.intro (@pt129) (@pt130)) (And.intro (@pt131) (@pt132)))))
theorem vcu22 : type_of% (And.intro (And.intro (And.intro (And.intro (@pt133) (@pt134)) (And.intro (@pt137) (@pt138))) (And.intro (And.intro (@pt139) (@pt142)) (And.intro (@pt145) (@pt146)))) (And.intro (And.intro (And.intro (@pt147) (@pt148)) (And.intro (@pt149) (@pt150))) (And.intro (And.intro (@sc0) (@sc1)) (And.intro (@sc2) (@sc3))))) := (And.intro (And.intro (And.intro (And.intro (@pt133) (@pt134)) (And.intro (@pt137) (@pt138))) (And.intro (And.intro (@pt139) (@pt142)) (And.intro (@pt145) (@pt146)))) (And.intro (And.intro (And.intro (@pt147) (@pt148)) (And.intro (@pt149) (@pt150))) (And.intro (And.intro (@sc0) (@sc1)) (And.intro (@sc2) (@sc3)))))
theorem vcu23 : type_of% (And.intro (And.intro (And.intro (And.intro (@sc4) (@sc5)) (And.intro (@sc6) (@sc9))) (And.intro (And.intro (@sc10) (@sc11)) (And.intro (@sc12) (@sc15)))) (And.intro (And.intro (And.intro (@sc16) (@sc17)) (And.intro (@sc20) (@sc21))) (And.intro (And.intro (@sc22) (@sc23)) (And.intro (@sc24) (@sc25))))) := (And.intro (And.intro (And.intro (And.intro (@sc4) (@sc5)) (And.intro (@sc6) (@sc9))) (And.intro (And.intro (@sc10) (@sc11)) (And.intro (@sc12) (@sc15)))) (And.intro (And.intro (And.intro (@sc16) (@sc17)) (And.intro (@sc20) (@sc21))) (And.intro (And.intro (@sc22) (@sc23)) (And.intro (@sc24) (@sc25)))))
theorem vcu24 : type_of% (And.intro (And.intro (And.intro (And.intro (@sc26) (@sc27)) (And.intro (@sc28) (@sc29))) (And.intro (And.intro (@sc30) (@sc31)) (And.intro (@sc32) (@sc33)))) (And.intro (And.intro (And.intro (@sc34) (@sc35)) (And.intro (@sc36) (@sc37))) (And.intro (And.intro (@sc38) (@sc39)) (And.intro (@sc40) (@sc41))))) := (And.intro (And.intro (And.intro (And.intro (@sc26) (@sc27)) (And.intro (@sc28) (@sc29))) (And.intro (And.intro (@sc30) (@sc31)) (And.intro (@sc32) (@sc33)))) (And.intro (And.intro (And.intro (@sc34) (@sc35)) (And.intro (@sc36) (@sc37))) (And.intro (And.intro (@sc38) (@sc39)) (And.intro (@sc40) (@sc41)))))
theorem vcu25 : type_of% (And.intro (And.intro (And.intro (And.intro (@sc42) (@sc43)) (And.intro (@sc44) (@sc45))) (And.intro (And.intro (@sc46) (@sc47)) (And.intro (@sc48) (@sc49)))) (And.intro (And.intro (And.intro (@sc50) (@sc51)) (And.intro (@sc52) (@sc53))) (And.intro (And.intro (@sc54) (@sc55)) (And.intro (@sc56) (@sc57))))) := (And.intro (And.intro (And.intro (And.intro (@sc42) (@sc43)) (And.intro (@sc44) (@sc45))) (And.intro (And.intro (@sc46) (@sc47)) (And.intro (@sc48) (@sc49)))) (And.intro (And.intro (And.intro (@sc50) (@sc51)) (And.intro (@sc52) (@sc53))) (And.intro (And.intro (@sc54) (@sc55)) (And.intro (@sc56) (@sc57)))))
theorem vcu26 : type_of% (And.intro (And.intro (And.intro (And.intro (@sc58) (@sc59)) (And.intro (@sc60) (@sc61))) (And.intro (And.intro (@sc62) (@sc63)) (And.intro (@sc64) (@sc65)))) (And.intro (And.intro (And.intro (@sc68) (@sc69)) (And.intro (@sc70) (@sc71))) (And.intro (And.intro (@sc72) (@sc73)) (And.intro (@sc74) (@sc75))))) := (And.intro (And.intro (And.intro (And.intro (@sc58) (@sc59)) (And.intro (@sc60) (@sc61))) (And.intro (And.intro (@sc62) (@sc63)) (And.intro (@sc64) (@sc65)))) (And.intro (And.intro (And.intro (@sc68) (@sc69)) (And.intro (@sc70) (@sc71))) (And.intro (And.intro (@sc72) (@sc73)) (And.intro (@sc74) (@sc75)))))
theorem vcu27 : type_of% (And.intro (And.intro (And.intro (And.intro (@sc76) (@sc77)) (And.intro (@sc78) (@sc79))) (And.intro (And.intro (@sc80) (@sc81)) (And.intro (@sc82) (@sc83)))) (And.intro (And.intro (And.intro (@sc84) (@sc85)) (And.intro (@sc86) (@sc87))) (And.intro (And.intro (@sc88) (@sc89)) (And.intro (@sc90) (@sc91))))) := (And.intro (And.intro (And.intro (And.intro (@sc76) (@sc77)) (And.intro (@sc78) (@sc79))) (And.intro (And.intro (@sc80) (@sc81)) (And.intro (@sc82) (@sc83)))) (And.intro (And.intro (And.intro (@sc84) (@sc85)) (And.intro (@sc86) (@sc87))) (And.intro (And.intro (@sc88) (@sc89)) (And.intro (@sc90) (@sc91)))))
theorem vcu28 : type_of% (And.intro (And.intro (And.intro (And.intro (@sc92) (@sc93)) (And.intro (@sc94) (@sc95))) (And.intro (And.intro (@sc96) (@sc97)) (And.intro (@sc98) (@sc99)))) (And.intro (And.intro (And.intro (@sc100) (@sc101)) (And.intro (@sc102) (@sc103))) (And.intro (And.intro (@sc104) (@sc105)) (And.intro (@sc106) (@sc107))))) := (And.intro (And.intro (And.intro (And.intro (@sc92) (@sc93)) (And.intro (@sc94) (@sc95))) (And.intro (And.intro (@sc96) (@sc97)) (And.intro (@sc98) (@sc99)))) (And.intro (And.intro (And.intro (@sc100) (@sc101)) (And.intro (@sc102) (@sc103))) (And.intro (And.intro (@sc104) (@sc105)) (And.intro (@sc106) (@sc107)))))
theorem vcu29 : type_of% (And.intro (And.intro (And.intro (And.intro (@sc108) (@sc109)) (And.intro (@sc110) (@sc111))) (And.intro (And.intro (@sc112) (@sc113)) (And.intro (@sc114) (@sc115)))) (And.intro (And.intro (And.intro (@sc116) (@sc117)) (And.intro (@sc118) (@sc119))) (And.intro (And.intro (@sc120) (@sc121)) (And.intro (@sc122) (@sc125))))) := (And.intro (And.intro (And.intro (And.intro (@sc108) (@sc109)) (And.intro (@sc110) (@sc111))) (And.intro (And.intro (@sc112) (@sc113)) (And.intro (@sc114) (@sc115)))) (And.intro (And.intro (And.intro (@sc116) (@sc117)) (And.intro (@sc118) (@sc119))) (And.intro (And.intro (@sc120) (@sc121)) (And.intro (@sc122) (@sc125)))))
theorem vcu30 : type_of% (And.intro (And.intro (And.intro (And.intro (@sc126) (@sc127)) (And.intro (@sc128) (@sc129))) (And.intro (And.intro (@sc130) (@sc131)) (And.intro (@sc132) (@sc133)))) (And.intro (And.intro (And.intro (@sc134) (@sc137)) (And.intro (@sc138) (@sc139))) (And.intro (And.intro (@sc142) (@sc145)) (And.intro (@sc146) (@sc147))))) := (And.intro (And.intro (And.intro (And.intro (@sc126) (@sc127)) (And.intro (@sc128) (@sc129))) (And.intro (And.intro (@sc130) (@sc131)) (And.intro (@sc132) (@sc133)))) (And.intro (And.intro (And.intro (@sc134) (@sc137)) (And.intro (@sc138) (@sc139))) (And.intro (And.intro (@sc142) (@sc145)) (And.intro (@sc146) (@sc147)))))
theorem vcu31 : type_of% (And.intro (And.intro (And.intro (And.intro (@sc148) (@sc149)) (And.intro (@sc150) (@nf3))) (And.intro (And.intro (@nf4) (@nf5)) (And.intro (@nf6) (@nf7)))) (And.intro (And.intro (And.intro (@nf8) (@nf9)) (And.intro (@nf10) (@nf11))) (And.intro (And.intro (@nf12) (@nf13)) (And.intro (@nf14) (@nf15))))) := (And.intro (And.intro (And.intro (And.intro (@sc148) (@sc149)) (And.intro (@sc150) (@nf3))) (And.intro (And.intro (@nf4) (@nf5)) (And.intro (@nf6) (@nf7)))) (And.intro (And.intro (And.intro (@nf8) (@nf9)) (And.intro (@nf10) (@nf11))) (And.intro (And.intro (@nf12) (@nf13)) (And.intro (@nf14) (@nf15)))))
theorem vcu32 : type_of% (And.intro (And.intro (And.intro (And.intro (@nf16) (@nf17)) (And.intro (@nf18) (@nf19))) (And.intro (And.intro (@nf20) (@nf21)) (And.intro (@nf22) (@nf23)))) (And.intro (And.intro (And.intro (@nf24) (@nf25)) (And.intro (@nf26) (@nf27))) (And.intro (And.intro (@nf28) (@nf29)) (And.intro (@nf30) (@nf31))))) := (And.intro (And.intro (And.intro (And.intro (@nf16) (@nf17)) (And.intro (@nf18) (@nf19))) (And.intro (And.intro (@nf20) (@nf21)) (And.intro (@nf22) (@nf23)))) (And.intro (And.intro (And.intro (@nf24) (@nf25)) (And.intro (@nf26) (@nf27))) (And.intro (And.intro (@nf28) (@nf29)) (And.intro (@nf30) (@nf31)))))
theorem vcu33 : type_of% (And.intro (And.intro (And.intro (And.intro (@nf32) (@nf33)) (And.intro (@nf34) (@nf35))) (And.intro (And.intro (@nf36) (@nf37)) (And.intro (@nf38) (@nf39)))) (And.intro (And.intro (And.intro (@nf40) (@nf41)) (And.intro (@nf42) (@nf43))) (And.intro (And.intro (@nf44) (@nf45)) (And.intro (@nf46) (@nf47))))) := (And.intro (And.intro (And.intro (And.intro (@nf32) (@nf33)) (And.intro (@nf34) (@nf35))) (And.intro (And.intro (@nf36) (@nf37)) (And.intro (@nf38) (@nf39)))) (And.intro (And.intro (And.intro (@nf40) (@nf41)) (And.intro (@nf42) (@nf43))) (And.intro (And.intro (@nf44) (@nf45)) (And.intro (@nf46) (@nf47)))))
theorem vcu34 : type_of% (And.intro (And.intro (And.intro (And.intro (@nf48) (@nf49)) (And.intro (@nf50) (@nf51))) (And.intro (And.intro (@nf52) (@nf53)) (And.intro (@nf54) (@nf55)))) (And.intro (And.intro (And.intro (@nf56) (@nf57)) (And.intro (@nf58) (@nf59))) (And.intro (And.intro (@nf60) (@nf61)) (And.intro (@nf62) (@nf63))))) := (And.intro (And.intro (And.intro (And.intro (@nf48) (@nf49)) (And.intro (@nf50) (@nf51))) (And.intro (And.intro (@nf52) (@nf53)) (And.intro (@nf54) (@nf55)))) (And.intro (And.intro (And.intro (@nf56) (@nf57)) (And.intro (@nf58) (@nf59))) (And.intro (And.intro (@nf60) (@nf61)) (And.intro (@nf62) (@nf63)))))
theorem vcu35 : type_of% (And.intro (And.intro (And.intro (And.intro (@nf64) (@nf65)) (And.intro (@nf66) (@nf68))) (And.intro (And.intro (@nf69) (@nf70)) (And.intro (@nf71) (@nf72)))) (And.intro (And.intro (And.intro (@nf73) (@nf74)) (And.intro (@nf75) (@nf76))) (And.intro (And.intro (@nf77) (@nf78)) (And.intro (@nf79) (@nf80))))) := (And.intro (And.intro (And.intro (And.intro (@nf64) (@nf65)) (And.intro (@nf66) (@nf68))) (And.intro (And.intro (@nf69) (@nf70)) (And.intro (@nf71) (@nf72)))) (And.intro (And.intro (And.intro (@nf73) (@nf74)) (And.intro (@nf75) (@nf76))) (And.intro (And.intro (@nf77) (@nf78)) (And.intro (@nf79) (@nf80)))))
theorem vcu36 : type_of% (And.intro (And.intro (And.intro (And.intro (@nf81) (@nf85)) (And.intro (@nf86) (@nf88))) (And.intro (And.intro (@nf89) (@nf90)) (And.intro (@nf91) (@nf92)))) (And.intro (And.intro (And.intro (@nf93) (@nf96)) (And.intro (@nf97) (@nf98))) (And.intro (And.intro (@nf99) (@nf115)) (And.intro (@nf116) (@nf117))))) := (And.intro (And.intro (And.intro (And.intro (@nf81) (@nf85)) (And.intro (@nf86) (@nf88))) (And.intro (And.intro (@nf89) (@nf90)) (And.intro (@nf91) (@nf92)))) (And.intro (And.intro (And.intro (@nf93) (@nf96)) (And.intro (@nf97) (@nf98))) (And.intro (And.intro (@nf99) (@nf115)) (And.intro (@nf116) (@nf117)))))
theorem vcu37 : type_of% (And.intro (And.intro (And.intro (And.intro (@nf121) (@nf122)) (And.intro (@nf123) (@nf124))) (And.intro (And.intro (@nf125) (aload_agg' ag23)) (And.intro (aload_agg' ag24) (aload_agg' ag41)))) (And.intro (And.intro (And.intro (aload_agg' ag42) (aload_agg' ag45)) (And.intro (aload_agg' ag46) (aload_agg' ag69))) (And.intro (And.intro (aload_agg' ag70) (aload_agg' ag78)) (And.intro (aload_agg' ag79) (aload_agg' ag80))))) := (And.intro (And.intro (And.intro (And.intro (@nf121) (@nf122)) (And.intro (@nf123) (@nf124))) (And.intro (And.intro (@nf125) (aload_agg' ag23)) (And.intro (aload_agg' ag24) (aload_agg' ag41)))) (And.intro (And.intro (And.intro (aload_agg' ag42) (aload_agg' ag45)) (And.intro (aload_agg' ag46) (aload_agg' ag69))) (And.intro (And.intro (aload_agg' ag70) (aload_agg' ag78)) (And.intro (aload_agg' ag79) (aload_agg' ag80)))))
theorem vcu38 : type_of% (And.intro (And.intro (And.intro (And.intro (aload_agg' ag112) (aload_agg' ag127)) (And.intro (aload_agg' ag129) (aload_agg' ag138))) (And.intro (And.intro (aload_agg' ag139) (aload_cell' ag1)) (And.intro (aload_cell' ag2) (aload_cell' ag3)))) (And.intro (And.intro (And.intro (aload_cell' ag4) (aload_cell' ag5)) (And.intro (aload_cell' ag6) (aload_cell' ag9))) (And.intro (And.intro (aload_cell' ag10) (aload_cell' ag11)) (And.intro (aload_cell' ag12) (aload_cell' ag15))))) := (And.intro (And.intro (And.intro (And.intro (aload_agg' ag112) (aload_agg' ag127)) (And.intro (aload_agg' ag129) (aload_agg' ag138))) (And.intro (And.intro (aload_agg' ag139) (aload_cell' ag1)) (And.intro (aload_cell' ag2) (aload_cell' ag3)))) (And.intro (And.intro (And.intro (aload_cell' ag4) (aload_cell' ag5)) (And.intro (aload_cell' ag6) (aload_cell' ag9))) (And.intro (And.intro (aload_cell' ag10) (aload_cell' ag11)) (And.intro (aload_cell' ag12) (aload_cell' ag15)))))
theorem vcu39 : type_of% (And.intro (And.intro (And.intro (And.intro (aload_cell' ag16) (aload_cell' ag17)) (And.intro (aload_cell' ag21) (aload_cell' ag22))) (And.intro (And.intro (aload_cell' ag25) (aload_cell' ag26)) (And.intro (aload_cell' ag27) (aload_cell' ag29)))) (And.intro (And.intro (And.intro (aload_cell' ag30) (aload_cell' ag31)) (And.intro (aload_cell' ag32) (aload_cell' ag33))) (And.intro (And.intro (aload_cell' ag34) (aload_cell' ag36)) (And.intro (aload_cell' ag37) (aload_cell' ag38))))) := (And.intro (And.intro (And.intro (And.intro (aload_cell' ag16) (aload_cell' ag17)) (And.intro (aload_cell' ag21) (aload_cell' ag22))) (And.intro (And.intro (aload_cell' ag25) (aload_cell' ag26)) (And.intro (aload_cell' ag27) (aload_cell' ag29)))) (And.intro (And.intro (And.intro (aload_cell' ag30) (aload_cell' ag31)) (And.intro (aload_cell' ag32) (aload_cell' ag33))) (And.intro (And.intro (aload_cell' ag34) (aload_cell' ag36)) (And.intro (aload_cell' ag37) (aload_cell' ag38)))))
theorem vcu40 : type_of% (And.intro (And.intro (And.intro (And.intro (aload_cell' ag39) (aload_cell' ag40)) (And.intro (aload_cell' ag43) (aload_cell' ag44))) (And.intro (And.intro (aload_cell' ag47) (aload_cell' ag48)) (And.intro (aload_cell' ag49) (aload_cell' ag50)))) (And.intro (And.intro (And.intro (aload_cell' ag51) (aload_cell' ag52)) (And.intro (aload_cell' ag53) (aload_cell' ag54))) (And.intro (And.intro (aload_cell' ag56) (aload_cell' ag60)) (And.intro (aload_cell' ag61) (aload_cell' ag62))))) := (And.intro (And.intro (And.intro (And.intro (aload_cell' ag39) (aload_cell' ag40)) (And.intro (aload_cell' ag43) (aload_cell' ag44))) (And.intro (And.intro (aload_cell' ag47) (aload_cell' ag48)) (And.intro (aload_cell' ag49) (aload_cell' ag50)))) (And.intro (And.intro (And.intro (aload_cell' ag51) (aload_cell' ag52)) (And.intro (aload_cell' ag53) (aload_cell' ag54))) (And.intro (And.intro (aload_cell' ag56) (aload_cell' ag60)) (And.intro (aload_cell' ag61) (aload_cell' ag62)))))
theorem vcu41 : type_of% (And.intro (And.intro (And.intro (And.intro (aload_cell' ag63) (aload_cell' ag64)) (And.intro (aload_cell' ag65) (aload_cell' ag68))) (And.intro (And.intro (aload_cell' ag71) (aload_cell' ag73)) (And.intro (aload_cell' ag74) (aload_cell' ag75)))) (And.intro (And.intro (And.intro (aload_cell' ag77) (aload_cell' ag81)) (And.intro (aload_cell' ag82) (aload_cell' ag83))) (And.intro (And.intro (aload_cell' ag84) (aload_cell' ag85)) (And.intro (aload_cell' ag86) (aload_cell' ag87))))) := (And.intro (And.intro (And.intro (And.intro (aload_cell' ag63) (aload_cell' ag64)) (And.intro (aload_cell' ag65) (aload_cell' ag68))) (And.intro (And.intro (aload_cell' ag71) (aload_cell' ag73)) (And.intro (aload_cell' ag74) (aload_cell' ag75)))) (And.intro (And.intro (And.intro (aload_cell' ag77) (aload_cell' ag81)) (And.intro (aload_cell' ag82) (aload_cell' ag83))) (And.intro (And.intro (aload_cell' ag84) (aload_cell' ag85)) (And.intro (aload_cell' ag86) (aload_cell' ag87)))))
theorem vcu42 : type_of% (And.intro (And.intro (And.intro (And.intro (aload_cell' ag88) (aload_cell' ag89)) (And.intro (aload_cell' ag91) (aload_cell' ag92))) (And.intro (And.intro (aload_cell' ag93) (aload_cell' ag94)) (And.intro (aload_cell' ag95) (aload_cell' ag96)))) (And.intro (And.intro (And.intro (aload_cell' ag98) (aload_cell' ag99)) (And.intro (aload_cell' ag100) (aload_cell' ag101))) (And.intro (And.intro (aload_cell' ag103) (aload_cell' ag104)) (And.intro (aload_cell' ag105) (aload_cell' ag106))))) := (And.intro (And.intro (And.intro (And.intro (aload_cell' ag88) (aload_cell' ag89)) (And.intro (aload_cell' ag91) (aload_cell' ag92))) (And.intro (And.intro (aload_cell' ag93) (aload_cell' ag94)) (And.intro (aload_cell' ag95) (aload_cell' ag96)))) (And.intro (And.intro (And.intro (aload_cell' ag98) (aload_cell' ag99)) (And.intro (aload_cell' ag100) (aload_cell' ag101))) (And.intro (And.intro (aload_cell' ag103) (aload_cell' ag104)) (And.intro (aload_cell' ag105) (aload_cell' ag106)))))
theorem vcu43 : type_of% (And.intro (And.intro (And.intro (And.intro (aload_cell' ag107) (aload_cell' ag108)) (And.intro (aload_cell' ag109) (aload_cell' ag110))) (And.intro (And.intro (aload_cell' ag111) (aload_cell' ag113)) (And.intro (aload_cell' ag114) (aload_cell' ag115)))) (And.intro (And.intro (And.intro (aload_cell' ag117) (aload_cell' ag118)) (And.intro (aload_cell' ag119) (aload_cell' ag121))) (And.intro (And.intro (aload_cell' ag122) (aload_cell' ag125)) (And.intro (aload_cell' ag126) (aload_cell' ag128))))) := (And.intro (And.intro (And.intro (And.intro (aload_cell' ag107) (aload_cell' ag108)) (And.intro (aload_cell' ag109) (aload_cell' ag110))) (And.intro (And.intro (aload_cell' ag111) (aload_cell' ag113)) (And.intro (aload_cell' ag114) (aload_cell' ag115)))) (And.intro (And.intro (And.intro (aload_cell' ag117) (aload_cell' ag118)) (And.intro (aload_cell' ag119) (aload_cell' ag121))) (And.intro (And.intro (aload_cell' ag122) (aload_cell' ag125)) (And.intro (aload_cell' ag126) (aload_cell' ag128)))))
theorem vcu44 : type_of% (And.intro (And.intro (And.intro (And.intro (aload_cell' ag130) (aload_cell' ag132)) (And.intro (aload_cell' ag133) (aload_cell' ag134))) (And.intro (And.intro (aload_cell' ag137) (aload_cell' ag145)) (And.intro (aload_cell' ag146) (aload_cell' ag147)))) (And.intro (And.intro (And.intro (aload_cell' ag148) (aload_cell' ag149)) (And.intro (aload_cell' ag150) (@List.any_cons.{0}))) (And.intro (And.intro (@List.any_nil.{0}) (@List.map_cons.{0, 0})) (And.intro (@List.map_nil.{0, 0}) (@Option.map_some.{0, 0}))))) := (And.intro (And.intro (And.intro (And.intro (aload_cell' ag130) (aload_cell' ag132)) (And.intro (aload_cell' ag133) (aload_cell' ag134))) (And.intro (And.intro (aload_cell' ag137) (aload_cell' ag145)) (And.intro (aload_cell' ag146) (aload_cell' ag147)))) (And.intro (And.intro (And.intro (aload_cell' ag148) (aload_cell' ag149)) (And.intro (aload_cell' ag150) (@List.any_cons.{0}))) (And.intro (And.intro (@List.any_nil.{0}) (@List.map_cons.{0, 0})) (And.intro (@List.map_nil.{0, 0}) (@Option.map_some.{0, 0})))))
theorem vcu45 : type_of% (And.intro (@Option.map_none.{0, 0}) (@List.nil_append.{0})) := (And.intro (@Option.map_none.{0, 0}) (@List.nil_append.{0}))
theorem vcd0 : type_of% (And.intro (And.intro (And.intro (And.intro (@cs_cons) (@cs_nil)) (And.intro (@retC_normal) (@retC_ret))) (And.intro (And.intro (@vc_seq) (@vc_block)) (And.intro (@vc_region) (@vc_regionD)))) (And.intro (And.intro (And.intro (@vcD_false) (@vcD_true)) (And.intro (@vc_loop_eq) (@vc_cond))) (And.intro (And.intro (@vc_skip) (@vc_exit)) (And.intro (@vc_ret) (@seqC_normal))))) := (And.intro (And.intro (And.intro (And.intro (@cs_cons) (@cs_nil)) (And.intro (@retC_normal) (@retC_ret))) (And.intro (And.intro (@vc_seq) (@vc_block)) (And.intro (@vc_region) (@vc_regionD)))) (And.intro (And.intro (And.intro (@vcD_false) (@vcD_true)) (And.intro (@vc_loop_eq) (@vc_cond))) (And.intro (And.intro (@vc_skip) (@vc_exit)) (And.intro (@vc_ret) (@seqC_normal)))))
theorem vcd1 : type_of% (And.intro (And.intro (And.intro (And.intro (@seqC_exit) (@seqC_ret)) (And.intro (@blockK_normal) (@blockK_exit))) (And.intro (And.intro (@blockK_ret) (@retK_normal)) (And.intro (@retK_ret) (@seqK_normal)))) (And.intro (And.intro (And.intro (@seqK_exit) (@seqK_ret)) (And.intro (@r_nil) (@r_assign))) (And.intro (And.intro (@r_move) (@r_len)) (And.intro (@r_binOpT) (@r_binOpI))))) := (And.intro (And.intro (And.intro (And.intro (@seqC_exit) (@seqC_ret)) (And.intro (@blockK_normal) (@blockK_exit))) (And.intro (And.intro (@blockK_ret) (@retK_normal)) (And.intro (@retK_ret) (@seqK_normal)))) (And.intro (And.intro (And.intro (@seqK_exit) (@seqK_ret)) (And.intro (@r_nil) (@r_assign))) (And.intro (And.intro (@r_move) (@r_len)) (And.intro (@r_binOpT) (@r_binOpI)))))
theorem vcd2 : type_of% (And.intro (And.intro (And.intro (And.intro (@r_binOpB) (@r_binOpS)) (And.intro (@r_unOp) (@r_convert))) (And.intro (And.intro (@r_indexAddr) (@r_load)) (And.intro (@r_pick) (@r_slice)))) (And.intro (And.intro (And.intro (@r_nilCheck) (@r_fieldAddr)) (And.intro (@r_field) (@r_extract))) (And.intro (And.intro (@r_min) (@r_max)) (And.intro (@r_call) (@r_makeFunc))))) := (And.intro (And.intro (And.intro (And.intro (@r_binOpB) (@r_binOpS)) (And.intro (@r_unOp) (@r_convert))) (And.intro (And.intro (@r_indexAddr) (@r_load)) (And.intro (@r_pick) (@r_slice)))) (And.intro (And.intro (And.intro (@r_nilCheck) (@r_fieldAddr)) (And.intro (@r_field) (@r_extract))) (And.intro (And.intro (@r_min) (@r_max)) (And.intro (@r_call) (@r_makeFunc)))))
theorem vcd3 : type_of% (And.intro (And.intro (@r_guard) (r_index' Tryd.underlying9)) (And.intro (r_index' Tryd.underlying10) (r_index' Tryd.underlying11))) := (And.intro (And.intro (@r_guard) (r_index' Tryd.underlying9)) (And.intro (r_index' Tryd.underlying10) (r_index' Tryd.underlying11)))
theorem vcu : type_of% (And.intro (And.intro (And.intro (And.intro (And.intro @vcu0 @vcu1) (And.intro @vcu2 (And.intro @vcu3 @vcu4))) (And.intro (And.intro @vcu5 (And.intro @vcu6 @vcu7)) (And.intro @vcu8 (And.intro @vcu9 @vcu10)))) (And.intro (And.intro (And.intro @vcu11 (And.intro @vcu12 @vcu13)) (And.intro @vcu14 (And.intro @vcu15 @vcu16))) (And.intro (And.intro @vcu17 (And.intro @vcu18 @vcu19)) (And.intro @vcu20 (And.intro @vcu21 @vcu22))))) (And.intro (And.intro (And.intro (And.intro @vcu23 @vcu24) (And.intro @vcu25 (And.intro @vcu26 @vcu27))) (And.intro (And.intro @vcu28 (And.intro @vcu29 @vcu30)) (And.intro @vcu31 (And.intro @vcu32 @vcu33)))) (And.intro (And.intro (And.intro @vcu34 (And.intro @vcu35 @vcu36)) (And.intro @vcu37 (And.intro @vcu38 @vcu39))) (And.intro (And.intro @vcu40 (And.intro @vcu41 @vcu42)) (And.intro @vcu43 (And.intro @vcu44 @vcu45)))))) := (And.intro (And.intro (And.intro (And.intro (And.intro @vcu0 @vcu1) (And.intro @vcu2 (And.intro @vcu3 @vcu4))) (And.intro (And.intro @vcu5 (And.intro @vcu6 @vcu7)) (And.intro @vcu8 (And.intro @vcu9 @vcu10)))) (And.intro (And.intro (And.intro @vcu11 (And.intro @vcu12 @vcu13)) (And.intro @vcu14 (And.intro @vcu15 @vcu16))) (And.intro (And.intro @vcu17 (And.intro @vcu18 @vcu19)) (And.intro @vcu20 (And.intro @vcu21 @vcu22))))) (And.intro (And.intro (And.intro (And.intro @vcu23 @vcu24) (And.intro @vcu25 (And.intro @vcu26 @vcu27))) (And.intro (And.intro @vcu28 (And.intro @vcu29 @vcu30)) (And.intro @vcu31 (And.intro @vcu32 @vcu33)))) (And.intro (And.intro (And.intro @vcu34 (And.intro @vcu35 @vcu36)) (And.intro @vcu37 (And.intro @vcu38 @vcu39))) (And.intro (And.intro @vcu40 (And.intro @vcu41 @vcu42)) (And.intro @vcu43 (And.intro @vcu44 @vcu45))))))
theorem vcd : type_of% (And.intro (And.intro @vcd0 @vcd1) (And.intro @vcd2 @vcd3)) := (And.intro (And.intro @vcd0 @vcd1) (And.intro @vcd2 @vcd3))
theorem z9q {p : Prop} (h : p := by simp -implicitDefEqProofs (disch := omega) only [Nat.reduceEqDiff, ↓reduceIte, vcu, ↓vcd]) : p := h
theorem z9r {p : Prop} (h : p := by simp -implicitDefEqProofs (disch := omega) only [Nat.reduceEqDiff, ↓reduceIte, vcu, ↓vcd]; rfl) : p := h
theorem z9z {p : Prop} (h : p := by simp -implicitDefEqProofs (disch := omega) only [Nat.reduceEqDiff, ↓reduceIte, vcu, ↓vcd]; exact Nat.zero_lt_succ _) : p := h
theorem z9l {p : Prop} (h : p := by simp -implicitDefEqProofs (disch := omega) only [Nat.reduceEqDiff, ↓reduceIte, vcu, ↓vcd]; exact Nat.le_refl _) : p := h
theorem z9co24 {p : Prop} (h : p := by simp -implicitDefEqProofs (disch := omega) only [Nat.reduceEqDiff, ↓reduceIte, vcu, ↓vcd, co24]; rfl) : p := h
theorem z9co3 {p : Prop} (h : p := by simp -implicitDefEqProofs (disch := omega) only [Nat.reduceEqDiff, ↓reduceIte, vcu, ↓vcd, co3]; rfl) : p := h
theorem z9co46 {p : Prop} (h : p := by simp -implicitDefEqProofs (disch := omega) only [Nat.reduceEqDiff, ↓reduceIte, vcu, ↓vcd, co46]; rfl) : p := h
end Go.Proofs.YtofdnmlpfagibaaDoor
namespace Go.Proofs.YtofdnmlpfagibaaDoor
open Go Go.Abs Go.RowKit
variable {w0 : World}
theorem in_calls (σ : AHeap) (n lo hi : Int) : ACall Tryd.prog w0 25 [.int .i64 n, .int .i64 lo, .int .i64 hi] σ fun r σ' => r = .bool (decide (lo ≤ n ∧ n ≤ hi)) ∧ σ' = σ := by
 refine acall_go mixed Tryd.func25 rfl good25 fun pr => ?_
 by_cases h : lo ≤ n
 ·simp -implicitDefEqProofs (disch := omega) only [Nat.reduceEqDiff, ↓reduceIte, vcu, ↓vcd]
  refine fin_one Tryd.results25 ⟨?_, rfl⟩
  simp -implicitDefEqProofs (disch := omega) only [Nat.reduceEqDiff, ↓reduceIte, vcu, ↓vcd]
  simp [h]
 ·simp -implicitDefEqProofs (disch := omega) only [Nat.reduceEqDiff, ↓reduceIte, vcu, ↓vcd]
  refine fin_one Tryd.results25 ⟨?_, rfl⟩
  simp -implicitDefEqProofs (disch := omega) only [Nat.reduceEqDiff, ↓reduceIte, vcu, ↓vcd]
  simp [h]
theorem has_at (σ : AHeap) (h o : Nat) (xs : List Int) (n : Int) (hv : IntsAt .i64 σ h o xs) (hl : xs.length ≤ 1048576) :
  ACall Tryd.prog w0 75 [.slice (some ⟨h, o, none⟩) xs.length 1, .int .i64 n] σ fun r σ' => r = .bool (decide (n ∈ xs)) ∧ σ' = σ := by
 refine acall_go mixed Tryd.func75 rfl good75 fun pr => ?_
 simp -implicitDefEqProofs (disch := omega) only [Nat.reduceEqDiff, ↓reduceIte, vcu, ↓vcd]
 refine vc_loop mixed (by kernel_rfl) (fun m a σ' => ∃ k : Nat, m + k = xs.length ∧ a 0 = .slice (some ⟨h, o, none⟩) xs.length 1 ∧ a 1 = .int .i64 n ∧ a 5 = .int .i64 k ∧ σ' = σ ∧ ∀ j, j < k → xs.getD j 0 ≠ n) xs.length ⟨0, by simp, rfl, rfl, rfl, rfl, by simp⟩ ?_
 rintro m a σ' ⟨k, hk, h0, h1, h5, rfl, hne⟩
 by_cases hlt : k < xs.length
 ·have hx := hv k hlt
  simp -implicitDefEqProofs (disch := omega) only [Nat.reduceEqDiff, ↓reduceIte, vcu, ↓vcd, h0, h1, h5, hx]
  rw [condR_dec]
  refine ⟨fun heq => ?_, fun hneq => ?_⟩
  ·rw [vcH_eq]
   simp -implicitDefEqProofs (disch := omega) only [Nat.reduceEqDiff, ↓reduceIte, vcu, ↓vcd]
   refine fin_one Tryd.results75 ⟨?_, rfl⟩
   simp -implicitDefEqProofs (disch := omega) only [Nat.reduceEqDiff, ↓reduceIte, vcu, ↓vcd]
   have : n ∈ xs := by rw [← heq]; simp [List.getD, hlt]
   simp [this]
  ·rw [vcH_eq]
   simp -implicitDefEqProofs (disch := omega) only [Nat.reduceEqDiff, ↓reduceIte, vcu, ↓vcd, h0, h1, h5]
   refine ⟨m - 1, by omega, k + 1, by omega, trivial, trivial, by simp, trivial, fun j hj => ?_⟩
   by_cases e : j = k
   ·subst e; exact hneq
   ·exact hne j (by omega)
 ·simp -implicitDefEqProofs (disch := omega) only [Nat.reduceEqDiff, ↓reduceIte, vcu, ↓vcd, h0, h1, h5]
  refine fin_one Tryd.results75 ⟨?_, rfl⟩
  simp -implicitDefEqProofs (disch := omega) only [Nat.reduceEqDiff, ↓reduceIte, vcu, ↓vcd]
  have : n ∉ xs := by
   intro hm
   obtain ⟨i, hi, rfl⟩ := List.getElem_of_mem hm
   exact hne i (by omega) (by simp [List.getD, hi])
  simp [this]
/-- each number from 0 on once -/
def Perm (xs : List Int) : Prop := (∀ x ∈ xs, 0 ≤ x ∧ x < xs.length) ∧ xs.Nodup
instance (xs : List Int) : Decidable (Perm xs) := by unfold Perm; infer_instance
theorem nodup_take {xs : List Int} : xs.Nodup ↔ ∀ j, j < xs.length → xs.getD j 0 ∉ xs.take j := by
 constructor
 ·intro h j hj hm
  obtain ⟨i, hi, he⟩ := List.getElem_of_mem hm
  simp at hi
  have e1 : xs.getD j 0 = xs[j] := by simp [List.getD, hj]
  rw [e1, List.getElem_take] at he
  exact absurd ((List.getElem_inj h).1 he) (by omega)
 ·intro h
  rw [List.nodup_iff_pairwise_ne, List.pairwise_iff_getElem]
  intro i j hi hj hij he
  refine h j hj ?_
  have e1 : xs.getD j 0 = xs[j] := by simp [List.getD, hj]
  rw [e1, ← he]
  rw [List.mem_take_iff_getElem]
  exact ⟨i, by omega, rfl⟩
def seq (k : Int) (n : Nat) : List Int := (List.range n).map fun (i : Nat) => k + i
end Go.Proofs.YtofdnmlpfagibaaDoor
namespace Go.Proofs.YtofdnmlpfagibaaDoor
open Go Go.Abs Go.RowKit
variable {w0 : World}
/-- a text of digits -/
def DgT (xs : List UInt8) : Prop := ∀ b ∈ xs, 48 ≤ b.toNat ∧ b.toNat ≤ 51
instance (xs : List UInt8) : Decidable (DgT xs) := inferInstanceAs (Decidable (∀ b ∈ xs, 48 ≤ b.toNat ∧ b.toNat ≤ 51))
theorem DgT.at {xs : List UInt8} (h : DgT xs) {k : Nat} (hk : k < xs.length) : 48 ≤ (xs.getD k 0).toNat ∧ (xs.getD k 0).toNat ≤ 51 := h _ (by simp [List.getD, hk])
theorem dgT_of {xs : List UInt8} (h : ∀ k, k < xs.length → 48 ≤ (xs.getD k 0).toNat ∧ (xs.getD k 0).toNat ≤ 51) : DgT xs := by
 intro b hb
 obtain ⟨k, hk, rfl⟩ := List.mem_iff_getElem.1 hb
 have := h k hk
 simpa [List.getD, hk] using this
theorem conv_u8 {b : Int} (h : 0 ≤ b ∧ b ≤ 255) : aconv Tryd.prog 5 3 (.int .u8 b) = some (.int .i64 b) := by
 simp only [aconv, Tryd.underlying5, Tryd.underlying3]
 rw [wrap_i64_ok (by omega)]
set_option maxRecDepth 8000 in
theorem abin_usub {t : TypeId} {a b : Int} : abin Tryd.prog t .sub (.int .u8 a) (.int .u8 b) = some (.int .u8 ((a - b) % 256)) := by
 simp only [abin, if_true]; congr 2
set_option maxRecDepth 8000 in
theorem abin_ulss {t : TypeId} {a b : Int} : abin Tryd.prog t .lss (.int .u8 a) (.int .u8 b) = some (.bool (decide (a < b))) := by simp [abin]
theorem u8_le (b : UInt8) : b.toNat ≤ 255 := by have := b.toNat_lt; omega
set_option maxRecDepth 8000 in
theorem digits_calls (σ : AHeap) (xs : List UInt8) (hl : xs.length ≤ 1048576) : ACall Tryd.prog w0 27 [.string (tx xs)] σ fun r σ' => r = .bool (decide (DgT xs)) ∧ σ' = σ := by
 refine acall_go mixed Tryd.func27 rfl good27 fun pr => ?_
 simp -implicitDefEqProofs (disch := omega) only [Nat.reduceEqDiff, ↓reduceIte, vcu, ↓vcd]
 refine vc_loop_c mixed (by kernel_rfl) [0] (fun m a σ' => ∃ k : Nat, m + k = xs.length ∧ a 3 = .int .i64 k ∧ (∀ j, j < k → 48 ≤ (xs.getD j 0).toNat ∧ (xs.getD j 0).toNat ≤ 51) ∧ σ' = σ) xs.length ⟨0, by simp, rfl, fun j hj => absurd hj (by omega), rfl⟩ ?_
 rintro m a σ' hc ⟨k, hk, h3, hd, rfl⟩
 simp -implicitDefEqProofs (disch := omega) only [Nat.reduceEqDiff, ↓reduceIte, vcu, ↓vcd] at hc
 obtain ⟨h0, -⟩ := hc
 by_cases hlt : k < xs.length
 ·have hb := u8_le (xs.getD k 0)
  by_cases hdg : 48 ≤ (xs.getD k 0).toNat ∧ (xs.getD k 0).toNat ≤ 51
  ·have hd1 : decide (0 ≤ (((xs.getD k 0).toNat : Int) - 48) % 256 ∧ (((xs.getD k 0).toNat : Int) - 48) % 256 ≤ 3) = true := decide_eq_true (by omega)
   simp -implicitDefEqProofs (disch := omega) only [Nat.reduceEqDiff, ↓reduceIte, vcu, ↓vcd, h0, h3, abin_usub, conv_u8]
   refine (in_calls _ _ 0 3).mono ?_
   rintro r τ ⟨rfl, rfl⟩
   simp -implicitDefEqProofs (disch := omega) only [Nat.reduceEqDiff, ↓reduceIte, vcu, ↓vcd, opK_some, h0, h3, abin_ulss, hd1]
   refine ⟨⟨trivial, trivial⟩, m - 1, by omega, k + 1, by omega, by simp, fun j hj => ?_, trivial⟩
   by_cases hjk : j = k
   ·subst hjk; exact hdg
   ·exact hd j (by omega)
  ·have hn : ¬DgT xs := fun h => hdg (h.at hlt)
   have hd1 : decide (0 ≤ (((xs.getD k 0).toNat : Int) - 48) % 256 ∧ (((xs.getD k 0).toNat : Int) - 48) % 256 ≤ 3) = false := decide_eq_false (by omega)
   simp -implicitDefEqProofs (disch := omega) only [Nat.reduceEqDiff, ↓reduceIte, vcu, ↓vcd, h0, h3, abin_usub, conv_u8]
   refine (in_calls _ _ 0 3).mono ?_
   rintro r τ ⟨rfl, rfl⟩
   simp -implicitDefEqProofs (disch := omega) only [Nat.reduceEqDiff, ↓reduceIte, vcu, ↓vcd, opK_some, h0, h3, abin_ulss, hd1]
   refine fin_one Tryd.results27 ⟨?_, rfl⟩
   simp -implicitDefEqProofs (disch := omega) only [Nat.reduceEqDiff, ↓reduceIte, vcu, ↓vcd]
   simp [hn]
 ·simp -implicitDefEqProofs (disch := omega) only [Nat.reduceEqDiff, ↓reduceIte, vcu, ↓vcd, h0, h3]
  have e : k = xs.length := by omega
  refine fin_one Tryd.results27 ⟨?_, rfl⟩
  simp -implicitDefEqProofs (disch := omega) only [Nat.reduceEqDiff, ↓reduceIte, vcu, ↓vcd]
  subst e
  simp [dgT_of hd]
/-- a text begins with another one -/
def Beg (s t : List UInt8) : Prop := t.length ≤ s.length ∧ s.take t.length = t
instance (s t : List UInt8) : Decidable (Beg s t) := inferInstanceAs (Decidable (_ ∧ _))
set_option maxRecDepth 8000 in
theorem begins_calls (σ : AHeap) (s t : List UInt8) : ACall Tryd.prog w0 76 [.string (tx s), .string (tx t)] σ fun r σ' => r = .bool (decide (Beg s t)) ∧ σ' = σ := by
 refine acall_go mixed Tryd.func76 rfl good76 fun pr => ?_
 by_cases h : t.length ≤ s.length
 ·simp -implicitDefEqProofs (disch := omega) only [Nat.reduceEqDiff, ↓reduceIte, vcu, ↓vcd]
  refine fin_one Tryd.results76 ⟨?_, rfl⟩
  simp -implicitDefEqProofs (disch := omega) only [Nat.reduceEqDiff, ↓reduceIte, vcu, ↓vcd]
  simp [Beg, h]
 ·simp -implicitDefEqProofs (disch := omega) only [Nat.reduceEqDiff, ↓reduceIte, vcu, ↓vcd]
  refine fin_one Tryd.results76 ⟨?_, rfl⟩
  simp -implicitDefEqProofs (disch := omega) only [Nat.reduceEqDiff, ↓reduceIte, vcu, ↓vcd]
  simp [Beg, h]
/-- a power of four -/
def pw (n : Nat) : Int := 4 ^ n
theorem pw_pos (n : Nat) : 1 ≤ pw n := by unfold pw; exact Int.le_of_lt_add_one (by have := Int.pow_pos (n := 4) (m := n) (by omega); omega)
theorem pw_succ (n : Nat) : pw (n + 1) = pw n * 4 := rfl
theorem pw_mono {m n : Nat} (h : m ≤ n) : pw m ≤ pw n := by
 induction h with
 | refl => exact Int.le_refl _
 | step _ ih => rw [pw_succ]; have := pw_pos m; omega
set_option maxRecDepth 8000 in
theorem power_calls (σ : AHeap) (n : Nat) (hn : n ≤ 3) : ACall Tryd.prog w0 51 [.int .i64 n] σ fun r σ' => r = .int .i64 (pw n) ∧ σ' = σ := by
 refine acall_go mixed Tryd.func51 rfl good51 fun pr => ?_
 simp -implicitDefEqProofs (disch := omega) only [Nat.reduceEqDiff, ↓reduceIte, vcu, ↓vcd]
 refine vc_loop_c mixed (by kernel_rfl) [0] (fun m a σ' => ∃ k : Nat, m + k = n ∧ a 4 = .int .i64 k ∧ a 3 = .int .i64 (pw k) ∧ σ' = σ) n ⟨0, by simp, rfl, rfl, rfl⟩ ?_
 rintro m a σ' hc ⟨k, hk, h4, h3, rfl⟩
 simp -implicitDefEqProofs (disch := omega) only [Nat.reduceEqDiff, ↓reduceIte, vcu, ↓vcd] at hc
 obtain ⟨h0, -⟩ := hc
 have hb := pw_pos k
 have hb2 : pw k ≤ 64 := pw_mono (n := 3) (by omega)
 by_cases hlt : k < n
 ·simp -implicitDefEqProofs (disch := omega) only [Nat.reduceEqDiff, ↓reduceIte, vcu, ↓vcd, h0, h3, h4]
  exact ⟨⟨trivial, trivial⟩, m - 1, by omega, k + 1, by omega, by simp, by rw [pw_succ], trivial⟩
 ·simp -implicitDefEqProofs (disch := omega) only [Nat.reduceEqDiff, ↓reduceIte, vcu, ↓vcd, h0, h3, h4]
  have e : k = n := by omega
  refine fin_one Tryd.results51 ⟨?_, rfl⟩
  simp -implicitDefEqProofs (disch := omega) only [Nat.reduceEqDiff, ↓reduceIte, vcu, ↓vcd, h3]
  rw [e]
/-- the digits of a value -/
def txV : Nat → Nat → List UInt8
 | _, 0 => []
 | v, n + 1 => txV (v / 4) n ++ [UInt8.ofNat (48 + v % 4)]
theorem txV_len : ∀ (n v : Nat), (txV v n).length = n
 | 0, _ => rfl
 | n + 1, v => by simp [txV, txV_len n]
theorem conv_to_u8 {b : Int} (h : 0 ≤ b ∧ b ≤ 255) : aconv Tryd.prog 3 5 (.int .i64 b) = some (.int .u8 b) := by
 simp only [aconv, Tryd.underlying5, Tryd.underlying3]
 congr 2
 show b % 256 = b
 omega
set_option maxRecDepth 8000 in
theorem text_calls (σ : AHeap) (v n : Nat) (hn : n ≤ 3) (hv : v ≤ 4096) : ACall Tryd.prog w0 52 [.int .i64 v, .int .i64 n] σ fun r σ' => r = .string (tx (txV v n)) ∧ σ' = σ := by
 refine acall_go mixed Tryd.func52 rfl good52 fun pr => ?_
 simp -implicitDefEqProofs (disch := omega) only [Nat.reduceEqDiff, ↓reduceIte, vcu, ↓vcd]
 refine vc_loop_c mixed (by kernel_rfl) [1] (fun m a σ' => ∃ (k w : Nat) (xs : List UInt8), m + k = n ∧ a 6 = .int .i64 k ∧ a 0 = .int .i64 w ∧ w ≤ 4096 ∧ a 5 = .string (tx xs) ∧ xs.length = k ∧ txV w m ++ xs = txV v n ∧ Sub σ σ') n ⟨0, v, [], by simp, rfl, rfl, hv, rfl, rfl, by simp, Sub.refl _⟩ ?_
 rintro m a σ' hc ⟨k, w, xs, hk, h6, h0, hw, h5, hx, he, hs⟩
 simp -implicitDefEqProofs (disch := omega) only [Nat.reduceEqDiff, ↓reduceIte, vcu, ↓vcd] at hc
 obtain ⟨h1, -⟩ := hc
 by_cases hlt : k < n
 ·obtain ⟨m', rfl⟩ : ∃ m', m = m' + 1 := ⟨m - 1, by omega⟩
  simp -implicitDefEqProofs (disch := omega) only [Nat.reduceEqDiff, ↓reduceIte, vcu, ↓vcd, h0, h1, h5, h6, conv_to_u8]
  refine r_lit el22 (out := #[.int .u8 (48 + (w % 4 : Nat))]) (by first | kernel_rfl | (simp -implicitDefEqProofs (disch := omega) only [Nat.reduceEqDiff, ↓reduceIte, vcu, ↓vcd]; kernel_rfl)) (by rfl) fun g τ n1 s1 v1 => ?_
  have l1 : lds τ g 0 1 = some ([((48 + (w % 4 : Nat) : Nat) : Int)].map (.int .u8)) := by
   rw [lds_of v1 (by simp)]; simp
  have hcv := aconvH_bytes (z := 1) Tryd.underlying22 Tryd.underlying5 Tryd.underlying9 l1
  have ha := abin_sadd (P := Tryd.prog) (t := 9) (xs := [UInt8.ofNat (48 + w % 4)]) (ys := xs) (by rw [List.length_singleton]; omega)
  simp -implicitDefEqProofs (disch := omega) only [Nat.reduceEqDiff, ↓reduceIte, vcu, ↓vcd, h0, h1, h5, h6, hcv, ha]
  refine ⟨⟨trivial, trivial⟩, m', by omega, k + 1, w / 4, _, by omega, by simp, by simp, by omega, rfl, by simp [hx], ?_, hs.trans s1⟩
  rw [← he, txV]
  simp
 ·simp -implicitDefEqProofs (disch := omega) only [Nat.reduceEqDiff, ↓reduceIte, vcu, ↓vcd, h0, h1, h5, h6]
  have e : m = 0 := by omega
  subst e
  refine fin_drop Tryd.results52 σ hs ⟨?_, rfl⟩
  simp -implicitDefEqProofs (disch := omega) only [Nat.reduceEqDiff, ↓reduceIte, vcu, ↓vcd, h5]
  rw [← he]; rfl
end Go.Proofs.YtofdnmlpfagibaaDoor
namespace Go.Proofs.YtofdnmlpfagibaaDoor
open Go Go.Abs Go.RowKit Go.Dial
/-- the decimals of a number -/
def decN (n : Nat) : List UInt8 := if h : n < 10 then [UInt8.ofNat (48 + n)] else decN (n / 10) ++ [UInt8.ofNat (48 + n % 10)]
/-- the number of decimals -/
def rdS (s : List UInt8) : Nat → Option Int
 | 0 => some 0
 | k + 1 => (rdS s k).bind fun n => if 48 ≤ (s.getD k 0).toNat ∧ (s.getD k 0).toNat ≤ 57 then some (10 * n + ((s.getD k 0).toNat - 48 : Nat)) else none
def rdN (s : List UInt8) : Int := if (1 ≤ s.length ∧ s.length ≤ 4) ∧ ¬ (1 < s.length ∧ s.getD 0 0 = 48) then (rdS s s.length).getD (-1) else -1
/-- what stands between the bytes c: of the word begun and what follows -/
def cutF (c : UInt8) : List UInt8 → List UInt8 → List (List UInt8)
 | w, [] => [w]
 | w, b :: s => if b = c then w :: cutF c [] s else cutF c (w ++ [b]) s
def cutT (c : UInt8) (s : List UInt8) : List (List UInt8) := cutF c [] s
theorem cutF_plain {c : UInt8} : ∀ {s w : List UInt8}, (∀ b ∈ s, b ≠ c) → cutF c w s = [w ++ s]
 | [], w, _ => by simp [cutF]
 | b :: s, w, h => by
  rw [cutF, if_neg (h b (by simp)), cutF_plain fun x hx => h x (by simp [hx])]; simp
theorem cutF_app {c : UInt8} : ∀ {s w t : List UInt8}, (∀ b ∈ s, b ≠ c) → cutF c w (s ++ c :: t) = (w ++ s) :: cutF c [] t
 | [], w, t, _ => by simp [cutF]
 | b :: s, w, t, h => by
  rw [List.cons_append, cutF, if_neg (h b (by simp)), cutF_app fun x hx => h x (by simp [hx])]; simp
/-- the word of a kind -/
def kwT (k : Int) : List UInt8 := if k = 0 then [99, 97, 108, 108] else if k = 1 then [100, 114, 111, 112] else [110, 117, 109, 98, 101, 114]
def DdOk (d : Dd) : Prop := (0 ≤ d.k ∧ d.k ≤ 2) ∧ (0 ≤ d.l ∧ d.l ≤ 99) ∧ ((d.k = 1 ∧ d.t = []) ∨ (d.k ≠ 1 ∧ DgT d.t ∧ 1 ≤ d.t.length ∧ d.t.length ≤ 3))
instance (d : Dd) : Decidable (DdOk d) := inferInstanceAs (Decidable (_ ∧ _ ∧ _))
/-- the text of a deed -/
def deedT (d : Dd) : List UInt8 := if DdOk d then kwT d.k ++ 32 :: (decN d.l.toNat ++ (if d.k = 1 then [] else 32 :: d.t)) else []
theorem deedT_ok {d : Dd} (h : deedT d ≠ []) : DdOk d := Classical.byContradiction fun hn => h (by rw [deedT, if_neg hn])
/-- which kind a word tells -/
def kdV (w : List UInt8) : Int := if w = kwT 2 then 2 else if w = kwT 1 then 1 else if w = kwT 0 then 0 else -1
def ddW (ws : List (List UInt8)) : Dd := ⟨kdV (ws.getD 0 []), if 1 < ws.length then rdN (ws.getD 1 []) else 0, if 2 < ws.length then ws.getD 2 [] else []⟩
def readO (s : List UInt8) : Option Dd := if s = [] ∨ deedT (ddW (cutT 32 s)) ≠ s then none else some (ddW (cutT 32 s))
theorem readO_some {s : List UInt8} {d : Dd} (h : readO s = some d) : deedT d = s ∧ s ≠ [] := by
 unfold readO at h
 split at h
 ·cases h
 ·rename_i hn
  cases h
  exact ⟨Classical.byContradiction fun e => hn (.inr e), fun e => hn (.inl e)⟩
theorem decN_ok : ∀ n, n < 100 → rdN (decN n) = n ∧ (decN n ≠ []) ∧ ∀ b ∈ decN n, 48 ≤ b.toNat ∧ b.toNat ≤ 57 := by decide +kernel
theorem kdV_kw : ∀ k : Int, 0 ≤ k → k ≤ 2 → kdV (kwT k) = k := by
 intro k h0 h2
 have : k = 0 ∨ k = 1 ∨ k = 2 := by omega
 rcases this with rfl | rfl | rfl <;> decide
theorem kw_b (k : Int) : ∀ b ∈ kwT k, 97 ≤ b.toNat := by
 unfold kwT
 split
 ·decide
 ·split <;> decide
theorem ne_of_nat {b c : UInt8} (h : b.toNat ≠ c.toNat) : b ≠ c := fun e => h (by rw [e])
theorem readO_deed {d : Dd} (h : deedT d ≠ []) : readO (deedT d) = some d := by
 have hk := deedT_ok h
 have e : ddW (cutT 32 (deedT d)) = d := by
  obtain ⟨h1, h2, h3⟩ := id hk
  obtain ⟨n, hn, hl⟩ : ∃ n : Nat, n < 100 ∧ d.l = n := ⟨d.l.toNat, by omega, by omega⟩
  obtain ⟨q1, q2, q3⟩ := decN_ok n hn
  have p1 : ∀ b ∈ kwT d.k, b ≠ 32 := fun b hb => ne_of_nat (by have := kw_b d.k b hb; show _ ≠ 32; omega)
  have p2 : ∀ b ∈ decN n, b ≠ 32 := fun b hb => ne_of_nat (by have := q3 b hb; show _ ≠ 32; omega)
  have hln : d.l.toNat = n := by omega
  rw [deedT, if_pos hk, hln, cutT, cutF_app p1]
  rcases h3 with ⟨e1, e2⟩ | ⟨e1, e2, e3, e4⟩
  ·rw [if_pos e1, List.append_nil, cutF_plain p2]
   obtain ⟨k, l, t⟩ := d
   simp only at *
   subst hl e2
   simp [ddW, kdV_kw k h1.1 h1.2, q1]
  ·have p3 : ∀ b ∈ d.t, b ≠ 32 := fun b hb => ne_of_nat (by have := e2 b hb; show _ ≠ 32; omega)
   rw [if_neg e1, cutF_app p2, cutF_plain p3]
   obtain ⟨k, l, t⟩ := d
   simp only at *
   subst hl
   simp [ddW, kdV_kw k h1.1 h1.2, q1]
 unfold readO
 rw [e, if_neg fun hh => hh.elim h fun hh => hh rfl]
theorem readO_iff {s : List UInt8} {d : Dd} : readO s = some d ↔ deedT d = s ∧ s ≠ [] :=
 ⟨readO_some, fun ⟨e, hne⟩ => by rw [← e] at hne ⊢; exact readO_deed hne⟩
/-- all bytes of a deed's text; its last one is a digit -/
theorem deedT_b {d : Dd} : ∀ b ∈ deedT d, 32 ≤ b.toNat := by
 unfold deedT
 split
 ·rename_i hk
  obtain ⟨h1, h2, h3⟩ := hk
  intro b hb
  obtain ⟨q1, q2, q3⟩ := decN_ok d.l.toNat (by omega)
  rcases List.mem_append.1 hb with hb | hb
  ·have := kw_b _ b hb; omega
  rcases List.mem_cons.1 hb with rfl | hb
  ·decide
  rcases List.mem_append.1 hb with hb | hb
  ·have := q3 b hb; omega
  ·split at hb
   ·cases hb
   ·rcases List.mem_cons.1 hb with rfl | hb
    ·decide
    ·rcases h3 with ⟨e1, _⟩ | ⟨_, e2, _⟩
     ·contradiction
     ·have := e2 b hb; omega
 ·intro b hb; cases hb
/-- the text of a journal -/
def jrn : List Dd → List UInt8
 | [] => []
 | d :: ds => deedT d ++ 10 :: jrn ds
/-- deeds read: of the line begun and what follows -/
def rj : List UInt8 → List UInt8 → List Dd × Nat
 | _, [] => ([], 0)
 | w, b :: s => if b = 10 then match readO w with
   | none => ([], 0)
   | some d => (d :: (rj [] s).1, w.length + 1 + (rj [] s).2)
  else rj (w ++ [b]) s
theorem rj_plain : ∀ (t w s : List UInt8), (∀ b ∈ t, b ≠ 10) → rj w (t ++ s) = rj (w ++ t) s
 | [], w, s, _ => by simp
 | b :: t, w, s, h => by
  rw [List.cons_append, rj, if_neg (h b (by simp)), rj_plain t _ s fun x hx => h x (by simp [hx])]; simp
/-- journals are read -/
theorem rj_jrn : ∀ (ds : List Dd), (∀ d ∈ ds, deedT d ≠ []) → rj [] (jrn ds) = (ds, (jrn ds).length)
 | [], _ => by simp [jrn, rj]
 | d :: ds, h => by
  have hd := h d (by simp)
  have ih := rj_jrn ds fun x hx => h x (by simp [hx])
  rw [jrn, rj_plain (deedT d) [] (10 :: jrn ds) fun b hb => ne_of_nat (by have := deedT_b b hb; show _ ≠ 10; omega)]
  rw [List.nil_append, rj, if_pos rfl, readO_deed hd]
  simp only [ih]
  refine Prod.ext rfl ?_
  simp only [List.length_append, List.length_cons]; omega
end Go.Proofs.YtofdnmlpfagibaaDoor
namespace Go.Proofs.YtofdnmlpfagibaaDoor
open Go Go.Abs Go.RowKit Go.Dial
variable {w0 : World}
theorem decN_len : ∀ n, (decN n).length ≤ n + 1 := fun n => by
 induction n using Nat.strongRecOn with
 | ind n ih =>
  unfold decN
  split
  ·simp
  ·rw [List.length_append, List.length_singleton]
   have := ih (n / 10) (by omega)
   omega
set_option maxRecDepth 8000 in
theorem number_calls (n : Nat) (hn : n ≤ 10000) : ∀ σ : AHeap, ACall Tryd.prog w0 26 [.int .i64 n] σ fun r σ' => r = .string (tx (decN n)) ∧ σ' = σ := by
 induction n using Nat.strongRecOn with
 | ind n ih =>
  intro σ
  have hg : decN n = if h : n < 10 then [UInt8.ofNat (48 + n)] else decN (n / 10) ++ [UInt8.ofNat (48 + n % 10)] := by rw [decN]
  refine acall_go mixed Tryd.func26 rfl good26 fun pr => ?_
  by_cases h10 : n < 10
  ·rw [dif_pos h10] at hg
   simp -implicitDefEqProofs (disch := omega) only [Nat.reduceEqDiff, ↓reduceIte, vcu, ↓vcd, conv_to_u8]
   refine r_lit el22 (out := #[.int .u8 (48 + (n : Int))]) (by first | kernel_rfl | (simp -implicitDefEqProofs (disch := omega) only [Nat.reduceEqDiff, ↓reduceIte, vcu, ↓vcd]; kernel_rfl)) (by rfl) fun g τ n1 s1 v1 => ?_
   have l1 : lds τ g 0 1 = some ([((48 + n : Nat) : Int)].map (.int .u8)) := by
    rw [lds_of v1 (by simp)]; simp
   have hcv := aconvH_bytes (z := 1) Tryd.underlying22 Tryd.underlying5 Tryd.underlying9 l1
   simp -implicitDefEqProofs (disch := omega) only [Nat.reduceEqDiff, ↓reduceIte, vcu, ↓vcd, hcv]
   refine fin_drop Tryd.results26 σ s1 ⟨?_, rfl⟩
   simp -implicitDefEqProofs (disch := omega) only [Nat.reduceEqDiff, ↓reduceIte, vcu, ↓vcd, hg]
  ·rw [dif_neg h10] at hg
   have hl := decN_len (n / 10)
   have c1 := ih (n / 10) (by omega) (by omega)
   have ha := abin_sadd (P := Tryd.prog) (t := 9) (xs := decN (n / 10)) (ys := [UInt8.ofNat (48 + n % 10)]) (by rw [List.length_singleton]; omega)
   have e10 : ((n : Int) / 10) = ((n / 10 : Nat) : Int) := by omega
   have e1 : ((n : Int) % 10) = ((n % 10 : Nat) : Int) := by omega
   simp -implicitDefEqProofs (disch := omega) only [Nat.reduceEqDiff, ↓reduceIte, vcu, ↓vcd]
   refine region_tree mixed (quiets [0, 1, 3, 4, 5, 6] (.two 2 (.one 7 (.one 8 (.one 9 (quiets [10] .stop)))) 7 (.two 2 (.one 8 (.one 9 (quiets [10] .stop))) 8 (.one 2 (.one 9 (quiets [10] .stop)))))) [] (by kernel_rfl) (by kernel_rfl) (fun p hp => by cases hp) ?_
   refine tree_quiets _ _ _ _ sf0 (by kernel_rfl) (by kernel_rfl) ?_
   simp -implicitDefEqProofs (disch := omega) only [Nat.reduceEqDiff, ↓reduceIte, vcu, ↓vcd, pickOps_nil, pickOps_cons, pickO_some, List.getElem?_cons_succ, List.getElem?_cons_zero, e10, e1, conv_to_u8]
   refine tree_two rfl rfl ?_ ?_
   ·simp -implicitDefEqProofs (disch := omega) only [Nat.reduceEqDiff, ↓reduceIte, vcu, ↓vcd]
    refine (c1 _).mono ?_
    rintro _ _ ⟨rfl, rfl⟩
    rename_i σ
    simp -implicitDefEqProofs (disch := omega) only [Nat.reduceEqDiff, ↓reduceIte, vcu, ↓vcd, opK_some]
    refine ⟨keep_of rfl (fun p hp => by cases hp), ?_⟩
    refine tree_one rfl ?_
    refine r_lit el22 (out := #[.int .u8 (48 + (n % 10 : Nat))]) (by first | kernel_rfl | (simp -implicitDefEqProofs (disch := omega) only [Nat.reduceEqDiff, ↓reduceIte, vcu, ↓vcd]; kernel_rfl)) (by rfl) fun g τ n1 s1 v1 => ?_
    have l1 : lds τ g 0 1 = some ([((48 + (n % 10 : Nat) : Nat) : Int)].map (.int .u8)) := by
     rw [lds_of v1 (by simp)]; simp
    have hcv := aconvH_bytes (z := 1) Tryd.underlying22 Tryd.underlying5 Tryd.underlying9 l1
    simp -implicitDefEqProofs (disch := omega) only [Nat.reduceEqDiff, ↓reduceIte, vcu, ↓vcd]
    refine ⟨keep_of rfl (fun p hp => by cases hp), ?_⟩
    refine tree_one rfl ?_
    simp -implicitDefEqProofs (disch := omega) only [Nat.reduceEqDiff, ↓reduceIte, vcu, ↓vcd, hcv]
    refine ⟨keep_of rfl (fun p hp => by cases hp), ?_⟩
    refine tree_one rfl ?_
    simp -implicitDefEqProofs (disch := omega) only [Nat.reduceEqDiff, ↓reduceIte, vcu, ↓vcd, ha]
    refine ⟨keep_of rfl (fun p hp => by cases hp), ?_⟩
    refine tree_quiets _ _ _ _ sf0 (by kernel_rfl) (by kernel_rfl) ?_
    simp -implicitDefEqProofs (disch := omega) only [Nat.reduceEqDiff, ↓reduceIte, vcu, ↓vcd, pickOps_nil, pickOps_cons, pickO_some, List.getElem?_cons_succ, List.getElem?_cons_zero]
    refine tree_stop ?_
    simp -implicitDefEqProofs (disch := omega) only [Nat.reduceEqDiff, ↓reduceIte, vcu, ↓vcd]
    refine fin_drop Tryd.results26 σ s1 ⟨?_, rfl⟩
    simp -implicitDefEqProofs (disch := omega) only [Nat.reduceEqDiff, ↓reduceIte, vcu, ↓vcd, hg]
   ·refine r_lit el22 (out := #[.int .u8 (48 + (n % 10 : Nat))]) (by first | kernel_rfl | (simp -implicitDefEqProofs (disch := omega) only [Nat.reduceEqDiff, ↓reduceIte, vcu, ↓vcd]; kernel_rfl)) (by rfl) fun g τ n1 s1 v1 => ?_
    have l1 : lds τ g 0 1 = some ([((48 + (n % 10 : Nat) : Nat) : Int)].map (.int .u8)) := by
     rw [lds_of v1 (by simp)]; simp
    have hcv := aconvH_bytes (z := 1) Tryd.underlying22 Tryd.underlying5 Tryd.underlying9 l1
    simp -implicitDefEqProofs (disch := omega) only [Nat.reduceEqDiff, ↓reduceIte, vcu, ↓vcd]
    refine ⟨keep_of rfl (fun p hp => by cases hp), ?_⟩
    refine tree_two rfl rfl ?_ ?_
    ·simp -implicitDefEqProofs (disch := omega) only [Nat.reduceEqDiff, ↓reduceIte, vcu, ↓vcd]
     refine (c1 _).mono ?_
     rintro _ _ ⟨rfl, rfl⟩
     simp -implicitDefEqProofs (disch := omega) only [Nat.reduceEqDiff, ↓reduceIte, vcu, ↓vcd, opK_some]
     refine ⟨keep_of rfl (fun p hp => by cases hp), ?_⟩
     refine tree_one rfl ?_
     simp -implicitDefEqProofs (disch := omega) only [Nat.reduceEqDiff, ↓reduceIte, vcu, ↓vcd, hcv]
     refine ⟨keep_of rfl (fun p hp => by cases hp), ?_⟩
     refine tree_one rfl ?_
     simp -implicitDefEqProofs (disch := omega) only [Nat.reduceEqDiff, ↓reduceIte, vcu, ↓vcd, ha]
     refine ⟨keep_of rfl (fun p hp => by cases hp), ?_⟩
     refine tree_quiets _ _ _ _ sf0 (by kernel_rfl) (by kernel_rfl) ?_
     simp -implicitDefEqProofs (disch := omega) only [Nat.reduceEqDiff, ↓reduceIte, vcu, ↓vcd, pickOps_nil, pickOps_cons, pickO_some, List.getElem?_cons_succ, List.getElem?_cons_zero]
     refine tree_stop ?_
     simp -implicitDefEqProofs (disch := omega) only [Nat.reduceEqDiff, ↓reduceIte, vcu, ↓vcd]
     refine fin_drop Tryd.results26 σ s1 ⟨?_, rfl⟩
     simp -implicitDefEqProofs (disch := omega) only [Nat.reduceEqDiff, ↓reduceIte, vcu, ↓vcd, hg]
    ·simp -implicitDefEqProofs (disch := omega) only [Nat.reduceEqDiff, ↓reduceIte, vcu, ↓vcd, hcv]
     refine ⟨keep_of rfl (fun p hp => by cases hp), ?_⟩
     refine tree_one rfl ?_
     simp -implicitDefEqProofs (disch := omega) only [Nat.reduceEqDiff, ↓reduceIte, vcu, ↓vcd]
     refine (c1 _).mono ?_
     rintro _ _ ⟨rfl, rfl⟩
     simp -implicitDefEqProofs (disch := omega) only [Nat.reduceEqDiff, ↓reduceIte, vcu, ↓vcd, opK_some]
     refine ⟨keep_of rfl (fun p hp => by cases hp), ?_⟩
     refine tree_one rfl ?_
     simp -implicitDefEqProofs (disch := omega) only [Nat.reduceEqDiff, ↓reduceIte, vcu, ↓vcd, ha]
     refine ⟨keep_of rfl (fun p hp => by cases hp), ?_⟩
     refine tree_quiets _ _ _ _ sf0 (by kernel_rfl) (by kernel_rfl) ?_
     simp -implicitDefEqProofs (disch := omega) only [Nat.reduceEqDiff, ↓reduceIte, vcu, ↓vcd, pickOps_nil, pickOps_cons, pickO_some, List.getElem?_cons_succ, List.getElem?_cons_zero]
     refine tree_stop ?_
     simp -implicitDefEqProofs (disch := omega) only [Nat.reduceEqDiff, ↓reduceIte, vcu, ↓vcd]
     refine fin_drop Tryd.results26 σ s1 ⟨?_, rfl⟩
     simp -implicitDefEqProofs (disch := omega) only [Nat.reduceEqDiff, ↓reduceIte, vcu, ↓vcd, hg]
end Go.Proofs.YtofdnmlpfagibaaDoor
namespace Go.Proofs.YtofdnmlpfagibaaDoor
open Go Go.Abs Go.RowKit Go.Dial
variable {w0 : World}
theorem acodeB_monoW {P : Program} {b : Base} {n : NR} {c : Code} {a : AFrame} {σ : AHeap} {Q Q' : AQ} (h : ACodeB P b n c a σ Q') (hq : ∀ e a σ, Q' e a σ → Q e a σ) : ACodeB P b n c a σ Q := ACode.mono h hq
def kws : List (List UInt8) := [[99, 97, 108, 108], [100, 114, 111, 112], [110, 117, 109, 98, 101, 114]]
theorem kws_at {k : Nat} (h : k < 3) : kws.getD k [] = kwT k := by
 have : k = 0 ∨ k = 1 ∨ k = 2 := by omega
 rcases this with rfl | rfl | rfl <;> decide
theorem kwT_len (k : Int) : (kwT k).length ≤ 6 := by
 unfold kwT
 split
 ·decide
 ·split <;> decide
set_option maxRecDepth 8000 in
theorem deedText_calls (σ : AHeap) (d : Dd) (ht : d.t.length ≤ 1048576) : ACall Tryd.prog w0 8 [.agg #[.int .i64 d.k, .int .i64 d.l, .string (tx d.t)]] σ fun r σ' => r = .string (tx (deedT d)) ∧ σ' = σ := by
 obtain ⟨K, L, t⟩ := d
 refine acall_go mixed Tryd.func8 rfl good8 fun pr => ?_
 simp -implicitDefEqProofs (disch := omega) only [Nat.reduceEqDiff, ↓reduceIte, vcu, ↓vcd]
 refine r_boxed fun b τ nb s1 e1 => ?_
 replace e1 : τ b = some ⟨[.int .i64 K, .int .i64 L, .string (tx t)], false⟩ := e1
 have x0 : ld τ b 0 = some (.int .i64 K) := ld_of e1 rfl
 have x1 : ld τ b 1 = some (.int .i64 L) := ld_of e1 rfl
 have x2 : ld τ b 2 = some (.string (tx t)) := ld_of e1 rfl
 simp -implicitDefEqProofs (disch := omega) only [Nat.reduceEqDiff, ↓reduceIte, vcu, ↓vcd, x0]
 refine (in_calls τ K 0 2).mono ?_
 rintro _ _ ⟨rfl, rfl⟩
 rename_i τ
 by_cases hk : 0 ≤ K ∧ K ≤ 2
 case neg =>
  rw [decide_eq_false hk]
  simp -implicitDefEqProofs (disch := omega) only [Nat.reduceEqDiff, ↓reduceIte, vcu, ↓vcd, opK_some, Bool.not_false]
  refine fin_drop Tryd.results8 σ s1 ⟨?_, rfl⟩
  simp -implicitDefEqProofs (disch := omega) only [Nat.reduceEqDiff, ↓reduceIte, vcu, ↓vcd]
  rw [deedT, if_neg fun h => hk h.1]
 rw [decide_eq_true hk]
 simp -implicitDefEqProofs (disch := omega) only [Nat.reduceEqDiff, ↓reduceIte, vcu, ↓vcd, opK_some, Bool.not_true, x1]
 refine (in_calls τ L 0 99).mono ?_
 rintro _ _ ⟨rfl, rfl⟩
 rename_i τ
 by_cases hl : 0 ≤ L ∧ L ≤ 99
 case neg =>
  rw [decide_eq_false hl]
  simp -implicitDefEqProofs (disch := omega) only [Nat.reduceEqDiff, ↓reduceIte, vcu, ↓vcd, opK_some, Bool.not_false]
  refine fin_drop Tryd.results8 σ s1 ⟨?_, rfl⟩
  simp -implicitDefEqProofs (disch := omega) only [Nat.reduceEqDiff, ↓reduceIte, vcu, ↓vcd]
  rw [deedT, if_neg fun h => hl h.2.1]
 rw [decide_eq_true hl]
 simp -implicitDefEqProofs (disch := omega) only [Nat.reduceEqDiff, ↓reduceIte, vcu, ↓vcd, opK_some, Bool.not_true]
 obtain ⟨kn, hkn, rfl⟩ : ∃ kn : Nat, kn < 3 ∧ K = kn := ⟨K.toNat, by omega, by omega⟩
 obtain ⟨n, hn, rfl⟩ : ∃ n : Nat, n < 100 ∧ L = n := ⟨L.toNat, by omega, by omega⟩
 have hkw := kws_at hkn
 have hkl := kwT_len kn
 have hnl := decN_len n
 have ha1 : abin Tryd.prog 9 .add (.string (tx (kwT kn))) (.string { data := #[32] }) = some (.string (tx (kwT kn ++ [32]))) := abin_sadd (by simp; omega)
 have ha2 := abin_sadd (P := Tryd.prog) (t := 9) (xs := kwT kn ++ [32]) (ys := decN n) (by rw [List.length_append, List.length_singleton]; omega)
 refine acodeB_monoW (Q' := fun e a' τ' => e = .normal ∧ a' 1 = .pointer (some ⟨b, 0, none⟩) ∧ a' 3 = .string (tx ((kwT kn ++ [32]) ++ decN n)) ∧ Sub τ τ')
  (region_tree mixed (quiets [1, 6] (quiets [2, 7] (.two 0 (quiets [3] (.two 4 (quiets [5] (.one 8 (.one 9 (quiets [10] .stop)))) 8 (.one 4 (quiets [5] (.one 9 (quiets [10] .stop)))))) 8 (.one 0 (quiets [3] (.one 4 (quiets [5] (.one 9 (quiets [10] .stop))))))))) [([2, 7], Sub τ)] (by kernel_rfl) (by kernel_rfl) (fun p hp => by simp only [List.mem_singleton] at hp; subst hp; exact Sub.refl _) ?_) ?_
 ·refine tree_quiets _ _ _ _ sf0 (by kernel_rfl) (by kernel_rfl) ?_
  simp -implicitDefEqProofs (disch := omega) only [Nat.reduceEqDiff, ↓reduceIte, vcu, ↓vcd, pickOps_nil, pickOps_cons, pickO_some, List.getElem?_cons_succ, List.getElem?_cons_zero]
  refine tree_quiets τ _ _ _ sf1 (by kernel_rfl) (by kernel_rfl) ?_
  simp -implicitDefEqProofs (disch := omega) only [Nat.reduceEqDiff, ↓reduceIte, vcu, ↓vcd, pickOps_nil, pickOps_cons, pickO_some, List.getElem?_cons_succ, List.getElem?_cons_zero, x0, x1]
  refine tree_two rfl rfl ?_ ?_
  ·refine r_lit el43 (out := #[.string (tx [99, 97, 108, 108]), .string (tx [100, 114, 111, 112]), .string (tx [110, 117, 109, 98, 101, 114])]) (by first | kernel_rfl | (simp -implicitDefEqProofs (disch := omega) only [Nat.reduceEqDiff, ↓reduceIte, vcu, ↓vcd]; kernel_rfl)) (by rfl) fun g τ3 n3 s3 v3 => ?_
   replace v3 : τ3 g = some ⟨texts kws, false⟩ := v3
   have y3 : ld τ3 g (0 + kn) = some (.string (tx (kwT kn))) := by rw [← hkw]; exact textsAt_own v3 kn (by show kn < 3; omega)
   simp -implicitDefEqProofs (disch := omega) only [Nat.reduceEqDiff, ↓reduceIte, vcu, ↓vcd]
   refine ⟨keep_of rfl (fun p hp => by simp only [List.mem_singleton] at hp; subst hp; exact .inr (s3)), ?_⟩
   refine tree_quiets _ _ _ _ sf0 (by kernel_rfl) (by kernel_rfl) ?_
   simp -implicitDefEqProofs (disch := omega) only [Nat.reduceEqDiff, ↓reduceIte, vcu, ↓vcd, pickOps_nil, pickOps_cons, pickO_some, List.getElem?_cons_succ, List.getElem?_cons_zero, Int.toNat_natCast]
   refine tree_two rfl rfl ?_ ?_
   ·simp -implicitDefEqProofs (disch := omega) only [Nat.reduceEqDiff, ↓reduceIte, vcu, ↓vcd, y3]
    refine ⟨keep_of rfl (fun p hp => by simp only [List.mem_singleton] at hp; subst hp; exact .inr (s3)), ?_⟩
    refine tree_quiets _ _ _ _ sf0 (by kernel_rfl) (by kernel_rfl) ?_
    simp -implicitDefEqProofs (disch := omega) only [Nat.reduceEqDiff, ↓reduceIte, vcu, ↓vcd, pickOps_nil, pickOps_cons, pickO_some, List.getElem?_cons_succ, List.getElem?_cons_zero, ha1]
    refine tree_one rfl ?_
    simp -implicitDefEqProofs (disch := omega) only [Nat.reduceEqDiff, ↓reduceIte, vcu, ↓vcd]
    refine (number_calls n (by omega) _).mono ?_
    rintro _ τ9 ⟨rfl, e9⟩
    subst τ9
    simp -implicitDefEqProofs (disch := omega) only [Nat.reduceEqDiff, ↓reduceIte, vcu, ↓vcd, opK_some]
    refine ⟨keep_of rfl (fun p hp => by simp only [List.mem_singleton] at hp; subst hp; exact .inr (s3)), ?_⟩
    refine tree_one rfl ?_
    simp -implicitDefEqProofs (disch := omega) only [Nat.reduceEqDiff, ↓reduceIte, vcu, ↓vcd, ha2]
    refine ⟨keep_of rfl (fun p hp => by simp only [List.mem_singleton] at hp; subst hp; exact .inr (s3)), ?_⟩
    refine tree_quiets _ _ _ _ sf0 (by kernel_rfl) (by kernel_rfl) ?_
    simp -implicitDefEqProofs (disch := omega) only [Nat.reduceEqDiff, ↓reduceIte, vcu, ↓vcd, pickOps_nil, pickOps_cons, pickO_some, List.getElem?_cons_succ, List.getElem?_cons_zero]
    refine tree_stop ?_
    refine ⟨trivial, ?_, ?_, s3⟩
    ·simp -implicitDefEqProofs (disch := omega) only [Nat.reduceEqDiff, ↓reduceIte, vcu, ↓vcd]
    ·simp -implicitDefEqProofs (disch := omega) only [Nat.reduceEqDiff, ↓reduceIte, vcu, ↓vcd]
   ·simp -implicitDefEqProofs (disch := omega) only [Nat.reduceEqDiff, ↓reduceIte, vcu, ↓vcd]
    refine (number_calls n (by omega) _).mono ?_
    rintro _ τ9 ⟨rfl, e9⟩
    subst τ9
    simp -implicitDefEqProofs (disch := omega) only [Nat.reduceEqDiff, ↓reduceIte, vcu, ↓vcd, opK_some]
    refine ⟨keep_of rfl (fun p hp => by simp only [List.mem_singleton] at hp; subst hp; exact .inr (s3)), ?_⟩
    refine tree_one rfl ?_
    simp -implicitDefEqProofs (disch := omega) only [Nat.reduceEqDiff, ↓reduceIte, vcu, ↓vcd, y3]
    refine ⟨keep_of rfl (fun p hp => by simp only [List.mem_singleton] at hp; subst hp; exact .inr (s3)), ?_⟩
    refine tree_quiets _ _ _ _ sf0 (by kernel_rfl) (by kernel_rfl) ?_
    simp -implicitDefEqProofs (disch := omega) only [Nat.reduceEqDiff, ↓reduceIte, vcu, ↓vcd, pickOps_nil, pickOps_cons, pickO_some, List.getElem?_cons_succ, List.getElem?_cons_zero, ha1]
    refine tree_one rfl ?_
    simp -implicitDefEqProofs (disch := omega) only [Nat.reduceEqDiff, ↓reduceIte, vcu, ↓vcd, ha2]
    refine ⟨keep_of rfl (fun p hp => by simp only [List.mem_singleton] at hp; subst hp; exact .inr (s3)), ?_⟩
    refine tree_quiets _ _ _ _ sf0 (by kernel_rfl) (by kernel_rfl) ?_
    simp -implicitDefEqProofs (disch := omega) only [Nat.reduceEqDiff, ↓reduceIte, vcu, ↓vcd, pickOps_nil, pickOps_cons, pickO_some, List.getElem?_cons_succ, List.getElem?_cons_zero]
    refine tree_stop ?_
    refine ⟨trivial, ?_, ?_, s3⟩
    ·simp -implicitDefEqProofs (disch := omega) only [Nat.reduceEqDiff, ↓reduceIte, vcu, ↓vcd]
    ·simp -implicitDefEqProofs (disch := omega) only [Nat.reduceEqDiff, ↓reduceIte, vcu, ↓vcd]
  ·simp -implicitDefEqProofs (disch := omega) only [Nat.reduceEqDiff, ↓reduceIte, vcu, ↓vcd]
   refine (number_calls n (by omega) _).mono ?_
   rintro _ τ9 ⟨rfl, e9⟩
   subst τ9
   simp -implicitDefEqProofs (disch := omega) only [Nat.reduceEqDiff, ↓reduceIte, vcu, ↓vcd, opK_some]
   refine ⟨keep_of rfl (fun p hp => by simp only [List.mem_singleton] at hp; subst hp; exact .inr (Sub.refl _)), ?_⟩
   refine tree_one rfl ?_
   refine r_lit el43 (out := #[.string (tx [99, 97, 108, 108]), .string (tx [100, 114, 111, 112]), .string (tx [110, 117, 109, 98, 101, 114])]) (by first | kernel_rfl | (simp -implicitDefEqProofs (disch := omega) only [Nat.reduceEqDiff, ↓reduceIte, vcu, ↓vcd]; kernel_rfl)) (by rfl) fun g τ3 n3 s3 v3 => ?_
   replace v3 : τ3 g = some ⟨texts kws, false⟩ := v3
   have y3 : ld τ3 g (0 + kn) = some (.string (tx (kwT kn))) := by rw [← hkw]; exact textsAt_own v3 kn (by show kn < 3; omega)
   simp -implicitDefEqProofs (disch := omega) only [Nat.reduceEqDiff, ↓reduceIte, vcu, ↓vcd]
   refine ⟨keep_of rfl (fun p hp => by simp only [List.mem_singleton] at hp; subst hp; exact .inr (s3)), ?_⟩
   refine tree_quiets _ _ _ _ sf0 (by kernel_rfl) (by kernel_rfl) ?_
   simp -implicitDefEqProofs (disch := omega) only [Nat.reduceEqDiff, ↓reduceIte, vcu, ↓vcd, pickOps_nil, pickOps_cons, pickO_some, List.getElem?_cons_succ, List.getElem?_cons_zero, Int.toNat_natCast]
   refine tree_one rfl ?_
   simp -implicitDefEqProofs (disch := omega) only [Nat.reduceEqDiff, ↓reduceIte, vcu, ↓vcd, y3]
   refine ⟨keep_of rfl (fun p hp => by simp only [List.mem_singleton] at hp; subst hp; exact .inr (s3)), ?_⟩
   refine tree_quiets _ _ _ _ sf0 (by kernel_rfl) (by kernel_rfl) ?_
   simp -implicitDefEqProofs (disch := omega) only [Nat.reduceEqDiff, ↓reduceIte, vcu, ↓vcd, pickOps_nil, pickOps_cons, pickO_some, List.getElem?_cons_succ, List.getElem?_cons_zero, ha1]
   refine tree_one rfl ?_
   simp -implicitDefEqProofs (disch := omega) only [Nat.reduceEqDiff, ↓reduceIte, vcu, ↓vcd, ha2]
   refine ⟨keep_of rfl (fun p hp => by simp only [List.mem_singleton] at hp; subst hp; exact .inr (s3)), ?_⟩
   refine tree_quiets _ _ _ _ sf0 (by kernel_rfl) (by kernel_rfl) ?_
   simp -implicitDefEqProofs (disch := omega) only [Nat.reduceEqDiff, ↓reduceIte, vcu, ↓vcd, pickOps_nil, pickOps_cons, pickO_some, List.getElem?_cons_succ, List.getElem?_cons_zero]
   refine tree_stop ?_
   refine ⟨trivial, ?_, ?_, s3⟩
   ·simp -implicitDefEqProofs (disch := omega) only [Nat.reduceEqDiff, ↓reduceIte, vcu, ↓vcd]
   ·simp -implicitDefEqProofs (disch := omega) only [Nat.reduceEqDiff, ↓reduceIte, vcu, ↓vcd]
 ·rintro e a' τ' ⟨rfl, p1, p3, s2⟩
  have z0 := ld_sub s2 x0
  have z2 := ld_sub s2 x2
  have s12 := s1.trans s2
  have aq : abin Tryd.prog 9 .eql (.string (tx t)) (.string { data := #[] }) = some (.bool (decide (t = []))) := abin_seql (ys := [])
  have a3 : abin Tryd.prog 9 .add (.string (tx ((kwT kn ++ [32]) ++ decN n))) (.string { data := #[32] }) = some (.string (tx ((kwT kn ++ [32]) ++ decN n ++ [32]))) := abin_sadd (by simp; omega)
  have ht' : t.length ≤ 1048576 := ht
  have a4 := abin_sadd (P := Tryd.prog) (t := 9) (xs := (kwT kn ++ [32]) ++ decN n ++ [32]) (ys := t) (by simp; omega)
  have hN : (n : Int).toNat = n := Int.toNat_natCast n
  by_cases h1 : kn = 1
  ·have d1 : decide ((kn : Int) = 1) = true := decide_eq_true (by omega)
   by_cases he : t = []
   ·simp -implicitDefEqProofs (disch := omega) only [Nat.reduceEqDiff, ↓reduceIte, vcu, ↓vcd, p1, p3, z0, z2, d1, aq, decide_eq_true he]
    refine fin_drop Tryd.results8 σ s12 ⟨?_, rfl⟩
    simp -implicitDefEqProofs (disch := omega) only [Nat.reduceEqDiff, ↓reduceIte, vcu, ↓vcd, p3]
    rw [deedT, if_pos ⟨hk, hl, .inl ⟨by show (kn : Int) = 1; omega, he⟩⟩]
    simp [h1, hN]
   ·have no : ¬ DdOk ⟨kn, n, t⟩ := fun h => h.2.2.elim (fun h => he h.2) fun h => h.1 (by show (kn : Int) = 1; omega)
    simp -implicitDefEqProofs (disch := omega) only [Nat.reduceEqDiff, ↓reduceIte, vcu, ↓vcd, p1, p3, z0, z2, d1, aq, decide_eq_false he]
    refine fin_drop Tryd.results8 σ s12 ⟨?_, rfl⟩
    simp -implicitDefEqProofs (disch := omega) only [Nat.reduceEqDiff, ↓reduceIte, vcu, ↓vcd, p3]
    rw [deedT, if_neg no]
  ·have d1 : decide ((kn : Int) = 1) = false := decide_eq_false (by omega)
   simp -implicitDefEqProofs (disch := omega) only [Nat.reduceEqDiff, ↓reduceIte, vcu, ↓vcd, p1, p3, z0, z2, d1]
   refine (digits_calls τ' t ht').mono ?_
   rintro _ _ ⟨rfl, rfl⟩
   rename_i τ'
   by_cases hdg : DgT t
   case neg =>
    have no : ¬ DdOk ⟨kn, n, t⟩ := fun h => h.2.2.elim (fun h => h1 (by have : (kn : Int) = 1 := h.1; omega)) fun h => hdg h.2.1
    rw [decide_eq_false hdg]
    simp -implicitDefEqProofs (disch := omega) only [Nat.reduceEqDiff, ↓reduceIte, vcu, ↓vcd, opK_some, p1, p3, z0, z2, Bool.not_false]
    refine fin_drop Tryd.results8 σ s12 ⟨?_, rfl⟩
    simp -implicitDefEqProofs (disch := omega) only [Nat.reduceEqDiff, ↓reduceIte, vcu, ↓vcd, p3]
    rw [deedT, if_neg no]
   rw [decide_eq_true hdg]
   simp -implicitDefEqProofs (disch := omega) only [Nat.reduceEqDiff, ↓reduceIte, vcu, ↓vcd, opK_some, p1, p3, z0, z2, Bool.not_true]
   refine (in_calls τ' t.length 1 3).mono ?_
   rintro _ _ ⟨rfl, rfl⟩
   by_cases h13 : (1 : Int) ≤ t.length ∧ (t.length : Int) ≤ 3
   case neg =>
    have no : ¬ DdOk ⟨kn, n, t⟩ := fun h => h.2.2.elim (fun h => h1 (by have : (kn : Int) = 1 := h.1; omega)) fun h => h13 (by have h2 : 1 ≤ t.length := h.2.2.1; have h3 : t.length ≤ 3 := h.2.2.2; omega)
    rw [decide_eq_false h13]
    simp -implicitDefEqProofs (disch := omega) only [Nat.reduceEqDiff, ↓reduceIte, vcu, ↓vcd, opK_some, p1, p3, z0, z2, Bool.not_false]
    refine fin_drop Tryd.results8 σ s12 ⟨?_, rfl⟩
    simp -implicitDefEqProofs (disch := omega) only [Nat.reduceEqDiff, ↓reduceIte, vcu, ↓vcd, p3]
    rw [deedT, if_neg no]
   rw [decide_eq_true h13]
   simp -implicitDefEqProofs (disch := omega) only [Nat.reduceEqDiff, ↓reduceIte, vcu, ↓vcd, opK_some, p1, p3, z0, z2, Bool.not_true, a3, a4]
   refine fin_drop Tryd.results8 σ s12 ⟨?_, rfl⟩
   simp -implicitDefEqProofs (disch := omega) only [Nat.reduceEqDiff, ↓reduceIte, vcu, ↓vcd, p3]
   rw [deedT, if_pos ⟨hk, hl, .inr ⟨by show (kn : Int) ≠ 1; omega, hdg, by show 1 ≤ t.length; omega, by show t.length ≤ 3; omega⟩⟩]
   have : ¬ (kn : Int) = 1 := by omega
   simp [this, hN]
end Go.Proofs.YtofdnmlpfagibaaDoor
namespace Go.Proofs.YtofdnmlpfagibaaDoor
open Go Go.Abs Go.RowKit Go.Dial
variable {w0 : World}
/-- a deed as a value -/
def ddA (d : Dd) : Value := .agg #[.int .i64 d.k, .int .i64 d.l, .string (tx d.t)]
def rdP (s : List UInt8) : Dd × Bool := match readO s with | some d => (d, true) | none => (⟨0, 0, []⟩, false)
theorem fin_ct8 {P : Program} {fn : Func} {R : Value → AHeap → Prop} {a : AFrame} {σ : AHeap} {t u : Nat} {ty : TypeId} {v : Value} (h : fn.results = #[.cell t ty, .tmp u]) (σ'' : AHeap) (hs : Sub σ'' σ) (hv : aload P σ ty (a t) = some v) (hr : R (.tuple #[v, a u]) σ'') : finC P fn R a σ :=
 ⟨[v, a u], σ'', by simp [h, rvals, hv], hs, hr⟩
end Go.Proofs.YtofdnmlpfagibaaDoor
namespace Go.Proofs.YtofdnmlpfagibaaDoor
open Go Go.Abs Go.RowKit Go.Dial
variable {w0 : World}
/-- the text of a journal; empty if one deed has none -/
def jrnV (ds : List Dd) : List UInt8 := if ∀ d ∈ ds, deedT d ≠ [] then jrn ds else []
theorem jrn_take (ds : List Dd) {k : Nat} (h : k < ds.length) : jrn (ds.take (k + 1)) = jrn (ds.take k) ++ deedT (ds.getD k dd0) ++ [10] := by
 have app : ∀ a b : List Dd, jrn (a ++ b) = jrn a ++ jrn b := fun a b => by
  induction a with
  | nil => rfl
  | cons x a ih => simp [jrn, ih]
 rw [List.take_succ_eq_append_getElem h, app]
 simp [jrn, List.getD, h]
theorem deedT_len (d : Dd) : (deedT d).length ≤ 120 := by
 unfold deedT
 split
 ·rename_i h
  have h1 := kwT_len d.k
  have h2 := decN_len d.l.toNat
  have h3 := h.2.1
  have h4 : d.t.length ≤ 3 := by
   rcases h.2.2 with ⟨_, e⟩ | ⟨_, _, _, e⟩
   ·rw [e]; simp
   ·exact e
  rw [List.length_append, List.length_cons, List.length_append]
  split
  ·simp; omega
  ·simp; omega
 ·simp
theorem jrn_len : ∀ ds : List Dd, (jrn ds).length ≤ 121 * ds.length
 | [] => by simp [jrn]
 | d :: ds => by
  have := jrn_len ds
  have := deedT_len d
  simp only [jrn, List.length_append, List.length_cons]
  omega
set_option maxRecDepth 8000 in
theorem jrnText_at (σ : AHeap) (h o : Nat) (ds : List Dd) (hv : DdsAt σ h o ds) (hl : ds.length ≤ 1048576) (hp : ∀ d ∈ ds, d.t.length ≤ 1048576) :
  ACall Tryd.prog w0 15 [.slice (some ⟨h, o, none⟩) ds.length 3] σ fun r σ' => r = .string (tx (jrnV ds)) ∧ σ' = σ := by
 refine acall_go mixed Tryd.func15 rfl good15 fun pr => ?_
 simp -implicitDefEqProofs (disch := omega) only [Nat.reduceEqDiff, ↓reduceIte, vcu, ↓vcd]
 refine vc_loop_c mixed (by kernel_rfl) [0] (fun m a σ' => ∃ k : Nat, m + k = ds.length ∧ a 4 = .int .i64 k ∧ a 3 = .string (tx (jrn (ds.take k))) ∧ (∀ j, j < k → deedT (ds.getD j dd0) ≠ []) ∧ σ' = σ) ds.length ⟨0, by simp, rfl, rfl, fun j hj => absurd hj (by omega), rfl⟩ ?_
 rintro m a σ' hc ⟨k, hk, h4, h3, he, rfl⟩
 simp -implicitDefEqProofs (disch := omega) only [Nat.reduceEqDiff, ↓reduceIte, vcu, ↓vcd] at hc
 obtain ⟨h0, -⟩ := hc
 by_cases hlt : k < ds.length
 ·have hx := hv.all hlt
  have hmem : ds.getD k dd0 ∈ ds := by simp [List.getD, hlt]
  have ht := hp _ hmem
  have hst := jrn_take ds hlt
  have hjl := jrn_len (ds.take k)
  rw [List.length_take] at hjl
  have hdl := deedT_len (ds.getD k dd0)
  unfold ddc at hx
  have aq : ∀ xs : List UInt8, abin Tryd.prog 9 .eql (.string (tx xs)) (.string { data := #[] }) = some (.bool (decide (xs = []))) := fun xs => abin_seql (ys := [])
  have ha1 := abin_sadd (P := Tryd.prog) (t := 9) (xs := jrn (ds.take k)) (ys := deedT (ds.getD k dd0)) (by omega)
  have ha2 : abin Tryd.prog 9 .add (.string (tx (jrn (ds.take k) ++ deedT (ds.getD k dd0)))) (.string { data := #[10] }) = some (.string (tx (jrn (ds.take k) ++ deedT (ds.getD k dd0) ++ [10]))) := abin_sadd (by rw [List.length_append]; show _ + 1 ≤ _; omega)
  simp -implicitDefEqProofs (disch := omega) only [Nat.reduceEqDiff, ↓reduceIte, vcu, ↓vcd, h0, h3, h4, hx, co24]
  refine (deedText_calls σ' (ds.getD k dd0) ht).mono ?_
  rintro _ _ ⟨rfl, rfl⟩
  rename_i σ'
  by_cases hne : deedT (ds.getD k dd0) = []
  ·simp -implicitDefEqProofs (disch := omega) only [Nat.reduceEqDiff, ↓reduceIte, vcu, ↓vcd, opK_some, h0, h3, h4, aq, decide_eq_true hne]
   refine fin_one Tryd.results15 ⟨?_, rfl⟩
   simp -implicitDefEqProofs (disch := omega) only [Nat.reduceEqDiff, ↓reduceIte, vcu, ↓vcd]
   rw [jrnV, if_neg fun hh => hh _ hmem hne]
  ·simp -implicitDefEqProofs (disch := omega) only [Nat.reduceEqDiff, ↓reduceIte, vcu, ↓vcd, opK_some, h0, h3, h4, aq, decide_eq_false hne, hx, co24]
   refine (deedText_calls σ' (ds.getD k dd0) ht).mono ?_
   rintro _ _ ⟨rfl, rfl⟩
   rename_i σ'
   simp -implicitDefEqProofs (disch := omega) only [Nat.reduceEqDiff, ↓reduceIte, vcu, ↓vcd, opK_some, h0, h3, h4, ha1, ha2]
   refine ⟨by simp [h0], m - 1, by omega, k + 1, by omega, by simp, by rw [hst], fun j hj => ?_, trivial⟩
   by_cases e : j = k
   ·subst e; exact hne
   ·exact he j (by omega)
 ·obtain rfl : k = ds.length := by omega
  simp -implicitDefEqProofs (disch := omega) only [Nat.reduceEqDiff, ↓reduceIte, vcu, ↓vcd, h0, h3, h4]
  refine fin_one Tryd.results15 ⟨?_, rfl⟩
  simp -implicitDefEqProofs (disch := omega) only [Nat.reduceEqDiff, ↓reduceIte, vcu, ↓vcd, h3]
  rw [List.take_length, jrnV, if_pos fun d hd => ?_]
  obtain ⟨j, hj, rfl⟩ := List.mem_iff_getElem.1 hd
  have := he j hj
  simpa [List.getD, hj] using this
theorem jrnText_calls (σ : AHeap) (v : Value) (ds : List Dd) (hv : Dds σ v ds) (hl : ds.length ≤ 1048576) (hp : ∀ d ∈ ds, d.t.length ≤ 1048576) :
  ACall Tryd.prog w0 15 [v] σ fun r σ' => r = .string (tx (jrnV ds)) ∧ σ' = σ :=
 ACall.dds_quiet (pre := []) (post := []) (by kernel_rfl) hv fun σ1 h o _ hg => jrnText_at σ1 h o ds hg hl hp
end Go.Proofs.YtofdnmlpfagibaaDoor
namespace Go.Proofs.YtofdnmlpfagibaaDoor
open Go Go.Abs Go.RowKit Go.Dial
variable {w0 : World}
theorem listD_eq {xs ys : List Dd} (hlen : xs.length = ys.length) (h : ∀ j, j < xs.length → xs.getD j dd0 = ys.getD j dd0) : xs = ys := by
 apply List.ext_getElem hlen
 intro i h1 h2
 have := h i h1
 simpa [List.getD, h1, h2] using this
end Go.Proofs.YtofdnmlpfagibaaDoor
namespace Go.Proofs.YtofdnmlpfagibaaDoor
open Go Go.Abs Go.RowKit
variable {w0 : World}
/-- a number of a plan -/
def PRow (ps : List (List UInt8)) (k : Nat) : Prop := DgT (ps.getD k []) ∧ (1 ≤ (ps.getD k []).length ∧ (ps.getD k []).length ≤ 3) ∧ ∀ j, j < ps.length → j ≠ k → ¬Beg (ps.getD k []) (ps.getD j [])
def PlanOk (ps : List (List UInt8)) : Prop := (∀ k, k < ps.length → PRow ps k) ∧ ps.length ≤ 10
instance (ps : List (List UInt8)) (k : Nat) : Decidable (PRow ps k) := inferInstanceAs (Decidable (_ ∧ _ ∧ _))
instance (ps : List (List UInt8)) : Decidable (PlanOk ps) := inferInstanceAs (Decidable (_ ∧ _))
theorem planValid_at (σ : AHeap) (h o : Nat) (ps : List (List UInt8)) (hv : TextsAt σ h o ps) (hl : ps.length ≤ 1048576) (hp : ∀ x ∈ ps, x.length ≤ 1048576) :
  ACall Tryd.prog w0 59 [.slice (some ⟨h, o, none⟩) ps.length 1] σ fun r σ' => r = .bool (decide (PlanOk ps)) ∧ σ' = σ := by
 refine acall_go mixed Tryd.func59 rfl good59 fun pr => ?_
 simp -implicitDefEqProofs (disch := omega) only [Nat.reduceEqDiff, ↓reduceIte, vcu, ↓vcd]
 refine vc_loop_c mixed (by kernel_rfl) [0] (fun m a σ' => ∃ k : Nat, m + k = ps.length ∧ a 3 = .int .i64 k ∧ (∀ j, j < k → PRow ps j) ∧ σ' = σ) ps.length ⟨0, by simp, rfl, fun j hj => absurd hj (by omega), rfl⟩ ?_
 rintro m a σ' hc ⟨k, hk, h3, hall, rfl⟩
 simp -implicitDefEqProofs (disch := omega) only [Nat.reduceEqDiff, ↓reduceIte, vcu, ↓vcd] at hc
 obtain ⟨h0, -⟩ := hc
 by_cases hlt : k < ps.length
 ·have hx := hv k hlt
  have hmem : ps.getD k [] ∈ ps := by simp [List.getD, hlt]
  have hb := hp _ hmem
  have stop : ∀ {P : Prop}, (PRow ps k → P) → ¬P → ¬PlanOk ps := fun h1 h2 h3 => h2 (h1 (h3.1 k hlt))
  by_cases hd : DgT (ps.getD k [])
  ·have hd1 : decide (DgT (ps.getD k [])) = true := decide_eq_true hd
   by_cases hr : 1 ≤ (ps.getD k []).length ∧ (ps.getD k []).length ≤ 3
   ·have hr1 : decide ((1 : Int) ≤ ((ps.getD k []).length : Int) ∧ ((ps.getD k []).length : Int) ≤ 3) = true := decide_eq_true (by omega)
    simp -implicitDefEqProofs (disch := omega) only [Nat.reduceEqDiff, ↓reduceIte, vcu, ↓vcd, h0, h3, hx]
    refine (digits_calls _ _ hb).mono ?_
    rintro r τ ⟨rfl, rfl⟩
    simp -implicitDefEqProofs (disch := omega) only [Nat.reduceEqDiff, ↓reduceIte, vcu, ↓vcd, opK_some, h0, h3, hx, hd1]
    refine (in_calls _ _ 1 3).mono ?_
    rintro r τ ⟨rfl, rfl⟩
    simp -implicitDefEqProofs (disch := omega) only [Nat.reduceEqDiff, ↓reduceIte, vcu, ↓vcd, opK_some, h0, h3, hx, hr1]
    refine vc_loop_c mixed (by kernel_rfl) [0, 3] (fun m a σ' => ∃ j : Nat, m + j = ps.length ∧ a 4 = .int .i64 j ∧ (∀ i, i < j → i ≠ k → ¬Beg (ps.getD k []) (ps.getD i [])) ∧ σ' = τ) ps.length ⟨0, by simp, rfl, fun j hj => absurd hj (by omega), rfl⟩ ?_
    rintro m2 a2 σ2 hc2 ⟨j, hj, h4, hin, rfl⟩
    simp -implicitDefEqProofs (disch := omega) only [Nat.reduceEqDiff, ↓reduceIte, vcu, ↓vcd, h0, h3] at hc2
    obtain ⟨g0, g3, -⟩ := hc2
    by_cases hjl : j < ps.length
    ·have hy := hv j hjl
     by_cases hjk : j = k
     ·subst hjk
      simp -implicitDefEqProofs (disch := omega) only [Nat.reduceEqDiff, ↓reduceIte, vcu, ↓vcd, g0, g3, h4, hx, hy]
      exact ⟨⟨h0.symm, h3.symm, trivial⟩, m2 - 1, by omega, j + 1, by omega, by simp, fun i hi hne => hin i (by omega) hne, trivial⟩
     ·have hne : decide ((j : Int) ≠ (k : Int)) = true := decide_eq_true (by omega)
      by_cases hbg : Beg (ps.getD k []) (ps.getD j [])
      ·have hb1 : decide (Beg (ps.getD k []) (ps.getD j [])) = true := decide_eq_true hbg
       simp -implicitDefEqProofs (disch := omega) only [Nat.reduceEqDiff, ↓reduceIte, vcu, ↓vcd, g0, g3, h4, hx, hy, hne]
       rw [r_callq]
       refine ⟨_, begins_calls _ _ _, ?_⟩
       simp -implicitDefEqProofs (disch := omega) only [Nat.reduceEqDiff, ↓reduceIte, vcu, ↓vcd, g0, g3, h4, hx, hy, hne, hb1]
       refine fin_one Tryd.results59 ⟨?_, rfl⟩
       simp -implicitDefEqProofs (disch := omega) only [Nat.reduceEqDiff, ↓reduceIte, vcu, ↓vcd]
       simp [stop (fun h => h.2.2 j hjl hjk) (fun h => h hbg)]
      ·have hb1 : decide (Beg (ps.getD k []) (ps.getD j [])) = false := decide_eq_false hbg
       simp -implicitDefEqProofs (disch := omega) only [Nat.reduceEqDiff, ↓reduceIte, vcu, ↓vcd, g0, g3, h4, hx, hy, hne]
       rw [r_callq]
       refine ⟨_, begins_calls _ _ _, ?_⟩
       simp -implicitDefEqProofs (disch := omega) only [Nat.reduceEqDiff, ↓reduceIte, vcu, ↓vcd, g0, g3, h4, hx, hy, hne, hb1]
       refine ⟨⟨h0.symm, h3.symm, trivial⟩, m2 - 1, by omega, j + 1, by omega, by simp, fun i hi hne' => ?_, trivial⟩
       by_cases e : i = j
       ·subst e; exact hbg
       ·exact hin i (by omega) hne'
    ·simp -implicitDefEqProofs (disch := omega) only [Nat.reduceEqDiff, ↓reduceIte, vcu, ↓vcd, g0, g3, h4]
     refine ⟨⟨trivial, trivial⟩, m - 1, by omega, k + 1, by omega, by simp, fun i hi => ?_, trivial⟩
     by_cases e : i = k
     ·subst e; exact ⟨hd, hr, fun i' h1 h2 => hin i' (by omega) h2⟩
     ·exact hall i (by omega)
   ·have hr1 : decide ((1 : Int) ≤ ((ps.getD k []).length : Int) ∧ ((ps.getD k []).length : Int) ≤ 3) = false := decide_eq_false (by omega)
    simp -implicitDefEqProofs (disch := omega) only [Nat.reduceEqDiff, ↓reduceIte, vcu, ↓vcd, h0, h3, hx]
    refine (digits_calls _ _ hb).mono ?_
    rintro r τ ⟨rfl, rfl⟩
    simp -implicitDefEqProofs (disch := omega) only [Nat.reduceEqDiff, ↓reduceIte, vcu, ↓vcd, opK_some, h0, h3, hx, hd1]
    refine (in_calls _ _ 1 3).mono ?_
    rintro r τ ⟨rfl, rfl⟩
    simp -implicitDefEqProofs (disch := omega) only [Nat.reduceEqDiff, ↓reduceIte, vcu, ↓vcd, opK_some, h0, h3, hx, hr1]
    refine fin_one Tryd.results59 ⟨?_, rfl⟩
    simp -implicitDefEqProofs (disch := omega) only [Nat.reduceEqDiff, ↓reduceIte, vcu, ↓vcd]
    simp [stop (fun h => h.2.1) hr]
  ·have hd1 : decide (DgT (ps.getD k [])) = false := decide_eq_false hd
   simp -implicitDefEqProofs (disch := omega) only [Nat.reduceEqDiff, ↓reduceIte, vcu, ↓vcd, h0, h3, hx]
   refine (digits_calls _ _ hb).mono ?_
   rintro r τ ⟨rfl, rfl⟩
   simp -implicitDefEqProofs (disch := omega) only [Nat.reduceEqDiff, ↓reduceIte, vcu, ↓vcd, opK_some, h0, h3, hx, hd1]
   refine fin_one Tryd.results59 ⟨?_, rfl⟩
   simp -implicitDefEqProofs (disch := omega) only [Nat.reduceEqDiff, ↓reduceIte, vcu, ↓vcd]
   simp [stop (fun h => h.1) hd]
 ·simp -implicitDefEqProofs (disch := omega) only [Nat.reduceEqDiff, ↓reduceIte, vcu, ↓vcd, h0, h3]
  refine fin_one Tryd.results59 ⟨?_, rfl⟩
  simp -implicitDefEqProofs (disch := omega) only [Nat.reduceEqDiff, ↓reduceIte, vcu, ↓vcd]
  congr 1
  rw [decide_eq_decide]
  exact ⟨fun h => ⟨fun j hj => hall j (by omega), by omega⟩, fun h => by have := h.2; omega⟩
end Go.Proofs.YtofdnmlpfagibaaDoor
namespace Go.Proofs.YtofdnmlpfagibaaDoor
open Go Go.Abs Go.RowKit
variable {w0 : World}
/-- valid lengths -/
def LnOk (xs : List Int) : Prop := (∀ k, k < xs.length → 1 ≤ xs.getD k 0 ∧ xs.getD k 0 ≤ 3) ∧ xs.length ≤ 10
instance (xs : List Int) : Decidable (LnOk xs) := inferInstanceAs (Decidable (_ ∧ _))
theorem lnValid_at (σ : AHeap) (h o : Nat) (xs : List Int) (hv : IntsAt .i64 σ h o xs) (hl : xs.length ≤ 1048576) :
  ACall Tryd.prog w0 49 [.slice (some ⟨h, o, none⟩) xs.length 1] σ fun r σ' => r = .bool (decide (LnOk xs)) ∧ σ' = σ := by
 refine acall_go mixed Tryd.func49 rfl good49 fun pr => ?_
 simp -implicitDefEqProofs (disch := omega) only [Nat.reduceEqDiff, ↓reduceIte, vcu, ↓vcd]
 refine vc_loop_c mixed (by kernel_rfl) [0] (fun m a σ' => ∃ k : Nat, m + k = xs.length ∧ a 3 = .int .i64 k ∧ (∀ j, j < k → 1 ≤ xs.getD j 0 ∧ xs.getD j 0 ≤ 3) ∧ σ' = σ) xs.length ⟨0, by simp, rfl, fun j hj => absurd hj (by omega), rfl⟩ ?_
 rintro m a σ' hc ⟨k, hk, h3, hall, rfl⟩
 simp -implicitDefEqProofs (disch := omega) only [Nat.reduceEqDiff, ↓reduceIte, vcu, ↓vcd] at hc
 obtain ⟨h0, -⟩ := hc
 by_cases hlt : k < xs.length
 ·have hx := hv k hlt
  by_cases hin : 1 ≤ xs.getD k 0 ∧ xs.getD k 0 ≤ 3
  ·have h1 : decide (1 ≤ xs.getD k 0 ∧ xs.getD k 0 ≤ 3) = true := decide_eq_true hin
   simp -implicitDefEqProofs (disch := omega) only [Nat.reduceEqDiff, ↓reduceIte, vcu, ↓vcd, h0, h3, hx]
   refine (in_calls _ _ 1 3).mono ?_
   rintro r τ ⟨rfl, rfl⟩
   simp -implicitDefEqProofs (disch := omega) only [Nat.reduceEqDiff, ↓reduceIte, vcu, ↓vcd, opK_some, h0, h3, hx, h1]
   refine ⟨⟨trivial, trivial⟩, m - 1, by omega, k + 1, by omega, by simp, fun j hj => ?_, trivial⟩
   by_cases e : j = k
   ·subst e; exact hin
   ·exact hall j (by omega)
  ·have h1 : decide (1 ≤ xs.getD k 0 ∧ xs.getD k 0 ≤ 3) = false := decide_eq_false hin
   simp -implicitDefEqProofs (disch := omega) only [Nat.reduceEqDiff, ↓reduceIte, vcu, ↓vcd, h0, h3, hx]
   refine (in_calls _ _ 1 3).mono ?_
   rintro r τ ⟨rfl, rfl⟩
   simp -implicitDefEqProofs (disch := omega) only [Nat.reduceEqDiff, ↓reduceIte, vcu, ↓vcd, opK_some, h0, h3, hx, h1]
   refine fin_one Tryd.results49 ⟨?_, rfl⟩
   simp -implicitDefEqProofs (disch := omega) only [Nat.reduceEqDiff, ↓reduceIte, vcu, ↓vcd]
   have : ¬LnOk xs := fun h => hin (h.1 k hlt)
   simp [this]
 ·simp -implicitDefEqProofs (disch := omega) only [Nat.reduceEqDiff, ↓reduceIte, vcu, ↓vcd, h0, h3]
  refine fin_one Tryd.results49 ⟨?_, rfl⟩
  simp -implicitDefEqProofs (disch := omega) only [Nat.reduceEqDiff, ↓reduceIte, vcu, ↓vcd]
  congr 1
  rw [decide_eq_decide]
  exact ⟨fun h => ⟨fun j hj => hall j (by omega), by omega⟩, fun h => by have := h.2; omega⟩
/-- sums of shares -/
def shS (xs : List Int) : Nat → Int
 | 0 => 0
 | k + 1 => shS xs k + pw (3 - xs.getD k 0).toNat
theorem pw_le {n : Nat} (h : n ≤ 3) : 1 ≤ pw n ∧ pw n ≤ 64 := ⟨pw_pos n, pw_mono (n := 3) h⟩
theorem shS_le {xs : List Int} (h : ∀ j, j < xs.length → 0 ≤ xs.getD j 0) : ∀ k, k ≤ xs.length → 0 ≤ shS xs k ∧ shS xs k ≤ 64 * k
 | 0, _ => by simp [shS]
 | k + 1, hk => by
  have h1 := shS_le h k (by omega)
  have h2 := h k (by omega)
  have h3 := pw_le (n := (3 - xs.getD k 0).toNat) (by omega)
  simp only [shS]; omega
def shareV (xs : List Int) : Int := if LnOk xs then shS xs xs.length else -1
theorem shareV_le (xs : List Int) : -1 ≤ shareV xs ∧ shareV xs ≤ 640 := by
 unfold shareV
 split
 ·rename_i h
  have := shS_le (fun j hj => by have := h.1 j hj; omega) xs.length (Nat.le_refl _)
  have := h.2
  omega
 ·omega
theorem share_at (σ : AHeap) (h o : Nat) (xs : List Int) (hv : IntsAt .i64 σ h o xs) (hl : xs.length ≤ 1048576) :
  ACall Tryd.prog w0 50 [.slice (some ⟨h, o, none⟩) xs.length 1] σ fun r σ' => r = .int .i64 (shareV xs) ∧ σ' = σ := by
 refine acall_go mixed Tryd.func50 rfl good50 fun pr => ?_
 simp -implicitDefEqProofs (disch := omega) only [Nat.reduceEqDiff, ↓reduceIte, vcu, ↓vcd]
 refine (lnValid_at _ h o xs hv hl).mono ?_
 rintro r τ ⟨rfl, rfl⟩
 by_cases hok : LnOk xs
 ·have h1 : decide (LnOk xs) = true := decide_eq_true hok
  simp -implicitDefEqProofs (disch := omega) only [Nat.reduceEqDiff, ↓reduceIte, vcu, ↓vcd, opK_some, h1]
  refine vc_loop_c mixed (by kernel_rfl) [0] (fun m a σ' => ∃ k : Nat, m + k = xs.length ∧ a 4 = .int .i64 k ∧ a 3 = .int .i64 (shS xs k) ∧ σ' = τ) xs.length ⟨0, by simp, rfl, rfl, rfl⟩ ?_
  rintro m a σ' hc ⟨k, hk, h4, h3, rfl⟩
  simp -implicitDefEqProofs (disch := omega) only [Nat.reduceEqDiff, ↓reduceIte, vcu, ↓vcd] at hc
  obtain ⟨h0, -⟩ := hc
  have hb := shS_le (fun j hj => by have := hok.1 j hj; omega) k (by omega)
  by_cases hlt : k < xs.length
  ·have hx := hv k hlt
   have hin := hok.1 k hlt
   have hp := pw_le (n := (3 - xs.getD k 0).toNat) (by omega)
   simp -implicitDefEqProofs (disch := omega) only [Nat.reduceEqDiff, ↓reduceIte, vcu, ↓vcd, h0, h3, h4, hx]
   rw [show (3 - xs.getD k 0) = (((3 - xs.getD k 0).toNat : Nat) : Int) by omega]
   refine (power_calls _ _ (by omega)).mono ?_
   rintro r τ ⟨rfl, rfl⟩
   simp -implicitDefEqProofs (disch := omega) only [Nat.reduceEqDiff, ↓reduceIte, vcu, ↓vcd, opK_some, h0, h3, h4, hx]
   exact ⟨⟨trivial, trivial⟩, m - 1, by omega, k + 1, by omega, by simp, by simp only [shS, Int.toNat_natCast], trivial⟩
  ·simp -implicitDefEqProofs (disch := omega) only [Nat.reduceEqDiff, ↓reduceIte, vcu, ↓vcd, h0, h3, h4]
   have e : k = xs.length := by omega
   refine fin_one Tryd.results50 ⟨?_, rfl⟩
   simp -implicitDefEqProofs (disch := omega) only [Nat.reduceEqDiff, ↓reduceIte, vcu, ↓vcd, h3]
   rw [shareV, if_pos hok, e]
 ·have h1 : decide (LnOk xs) = false := decide_eq_false hok
  simp -implicitDefEqProofs (disch := omega) only [Nat.reduceEqDiff, ↓reduceIte, vcu, ↓vcd, opK_some, h1]
  refine fin_one Tryd.results50 ⟨?_, rfl⟩
  simp -implicitDefEqProofs (disch := omega) only [Nat.reduceEqDiff, ↓reduceIte, vcu, ↓vcd]
  rw [shareV, if_neg hok]
end Go.Proofs.YtofdnmlpfagibaaDoor
namespace Go.Proofs.YtofdnmlpfagibaaDoor
open Go Go.Abs Go.RowKit
variable {w0 : World}
theorem own_textsI {σ : AHeap} {g : Nat} {xs : List (List UInt8)} (h : σ g = some ⟨texts xs, false⟩) : Texts σ (.slice (some ⟨g, 0, none⟩) xs.length 1) xs := .inr ⟨g, 0, rfl, textsAt_own h⟩
theorem planValid_calls (σ : AHeap) (v : Value) (ps : List (List UInt8)) (hv : Texts σ v ps) (hl : ps.length ≤ 1048576) (hp : ∀ x ∈ ps, x.length ≤ 1048576) : ACall Tryd.prog w0 59 [v] σ fun r σ' => r = .bool (decide (PlanOk ps)) ∧ σ' = σ :=
 ACall.texts_quiet (pre := []) (post := []) (by kernel_rfl) hv fun σ1 h o _ hg => planValid_at σ1 h o ps hg hl hp
end Go.Proofs.YtofdnmlpfagibaaDoor
namespace Go.Proofs.YtofdnmlpfagibaaDoor
open Go Go.Abs Go.RowKit
variable {w0 : World}
/-- the first from k on of which it holds -/
def fstN (p : Nat → Bool) : Nat → Nat → Option Nat
 | _, 0 => none
 | k, m + 1 => if p k = true then some k else fstN p (k + 1) m
theorem fstN_some {p : Nat → Bool} : ∀ {m k i : Nat}, fstN p k m = some i → k ≤ i ∧ i < k + m ∧ p i = true
 | 0, _, _, h => by cases h
 | m + 1, k, i, h => by
  unfold fstN at h
  split at h
  ·rename_i hp; cases h; exact ⟨Nat.le_refl _, by omega, hp⟩
  ·have := fstN_some h; exact ⟨by omega, by omega, this.2.2⟩
end Go.Proofs.YtofdnmlpfagibaaDoor
namespace Go.Proofs.YtofdnmlpfagibaaDoor
open Go Go.Abs Go.RowKit
variable {w0 : World}
/-- the lengths of a valid plan -/
def lensV (ps : List (List UInt8)) : List Int := if PlanOk ps then ps.map fun p => (p.length : Int) else []
end Go.Proofs.YtofdnmlpfagibaaDoor
namespace Go.Proofs.YtofdnmlpfagibaaDoor
open Go Go.Abs Go.RowKit
variable {w0 : World}
/-- numbers of one length, in their order -/
def pfK (xs : List Int) (L : Nat) (st : List (List UInt8) × Nat) : Nat → List (List UInt8) × Nat
 | 0 => st
 | k + 1 => if xs.getD k 0 = (L : Int) then ((pfK xs L st k).1.set k (txV ((pfK xs L st k).2 / 4 ^ (3 - L)) L), (pfK xs L st k).2 + 4 ^ (3 - L)) else pfK xs L st k
/-- numbers of the lengths up to one -/
def pfL (xs : List Int) : Nat → List (List UInt8) × Nat
 | 0 => (List.replicate xs.length [], 0)
 | L + 1 => pfK xs (L + 1) (pfL xs L) xs.length
theorem four_le {n : Nat} (h : n ≤ 3) : 1 ≤ 4 ^ n ∧ 4 ^ n ≤ 64 := ⟨Nat.pos_of_ne_zero (by simp), by have := Nat.pow_le_pow_right (n := 4) (by omega) h; simpa using this⟩
theorem pfK_facts (xs : List Int) (L : Nat) (st : List (List UInt8) × Nat) : ∀ k, (pfK xs L st k).1.length = st.1.length ∧ (pfK xs L st k).2 ≤ st.2 + 64 * k
 | 0 => by simp [pfK]
 | k + 1 => by
  have h := pfK_facts xs L st k
  have h2 := four_le (n := 3 - L) (by omega)
  unfold pfK
  split
  ·simp only [List.length_set]; exact ⟨h.1, by omega⟩
  ·exact ⟨h.1, by omega⟩
theorem pfL_facts (xs : List Int) (hx : xs.length ≤ 10) : ∀ L, (pfL xs L).1.length = xs.length ∧ (pfL xs L).2 ≤ 640 * L
 | 0 => by simp [pfL]
 | L + 1 => by
  have h := pfL_facts xs hx L
  have h2 := pfK_facts xs (L + 1) (pfL xs L) xs.length
  simp only [pfL]
  exact ⟨h2.1.trans h.1, by omega⟩
def pfOk (xs : List Int) : Prop := LnOk xs ∧ shareV xs ≤ 64
instance (xs : List Int) : Decidable (pfOk xs) := inferInstanceAs (Decidable (_ ∧ _))
/-- the plan for valid lengths -/
def planV (xs : List Int) : List (List UInt8) := if pfOk xs then (pfL xs 3).1 else []
theorem pw_nat (n : Nat) : pw n = ((4 ^ n : Nat) : Int) := by simp [pw]
theorem planFor_at (σ : AHeap) (h o : Nat) (xs : List Int) (hv : IntsAt .i64 σ h o xs) (hl : xs.length ≤ 1048576) :
  ACall Tryd.prog w0 38 [.slice (some ⟨h, o, none⟩) xs.length 1] σ fun r σ' => ∃ v, r = .tuple #[v, .bool (decide (pfOk xs))] ∧ Sub σ σ' ∧ OwnS σ σ' v (planV xs) := by
 refine acall_go mixed Tryd.func38 rfl good38 fun pr => ?_
 simp -implicitDefEqProofs (disch := omega) only [Nat.reduceEqDiff, ↓reduceIte, vcu, ↓vcd]
 refine (lnValid_at _ h o xs hv hl).mono ?_
 rintro r τ ⟨rfl, rfl⟩
 by_cases hln : LnOk xs
 case neg =>
  have d1 : decide (LnOk xs) = false := decide_eq_false hln
  have hno : ¬pfOk xs := fun h => hln h.1
  have hV : planV xs = [] := if_neg hno
  simp -implicitDefEqProofs (disch := omega) only [Nat.reduceEqDiff, ↓reduceIte, vcu, ↓vcd, opK_some, d1]
  refine r_lit el43 (out := #[]) (by kernel_rfl) (by kernel_rfl) fun e5 τ5 n5 s5 v5 => ?_
  simp -implicitDefEqProofs (disch := omega) only [Nat.reduceEqDiff, ↓reduceIte, vcu, ↓vcd]
  refine fin_two Tryd.results38 ⟨.slice (some ⟨e5, 0, none⟩) 0 1, ?_, s5, .inr ⟨e5, by rw [hV]; rfl, by rw [hV]; exact v5, n5⟩⟩
  simp -implicitDefEqProofs (disch := omega) only [Nat.reduceEqDiff, ↓reduceIte, vcu, ↓vcd]
  rw [decide_eq_false hno]
 have d1 : decide (LnOk xs) = true := decide_eq_true hln
 have hsv := shareV_le xs
 have hp3 : pw 3 = 64 := rfl
 simp -implicitDefEqProofs (disch := omega) only [Nat.reduceEqDiff, ↓reduceIte, vcu, ↓vcd, opK_some, d1]
 refine (share_at _ h o xs hv hl).mono ?_
 rintro r τ ⟨rfl, rfl⟩
 simp -implicitDefEqProofs (disch := omega) only [Nat.reduceEqDiff, ↓reduceIte, vcu, ↓vcd, opK_some]
 refine (power_calls _ 3 (by omega)).mono ?_
 rintro r τ ⟨rfl, rfl⟩
 by_cases hsh : shareV xs ≤ 64
 case neg =>
  have hno : ¬pfOk xs := fun h => hsh h.2
  have hV : planV xs = [] := if_neg hno
  simp -implicitDefEqProofs (disch := omega) only [Nat.reduceEqDiff, ↓reduceIte, vcu, ↓vcd, opK_some, hp3]
  refine r_lit el43 (out := #[]) (by kernel_rfl) (by kernel_rfl) fun e5 τ5 n5 s5 v5 => ?_
  simp -implicitDefEqProofs (disch := omega) only [Nat.reduceEqDiff, ↓reduceIte, vcu, ↓vcd]
  refine fin_two Tryd.results38 ⟨.slice (some ⟨e5, 0, none⟩) 0 1, ?_, s5, .inr ⟨e5, by rw [hV]; rfl, by rw [hV]; exact v5, n5⟩⟩
  simp -implicitDefEqProofs (disch := omega) only [Nat.reduceEqDiff, ↓reduceIte, vcu, ↓vcd]
  rw [decide_eq_false hno]
 have hok : pfOk xs := ⟨hln, hsh⟩
 have hx10 := hln.2
 simp -implicitDefEqProofs (disch := omega) only [Nat.reduceEqDiff, ↓reduceIte, vcu, ↓vcd, opK_some, hp3]
 refine r_makeX (kx := .i64) (ky := .i64) (l := xs.length) (c := xs.length) el43 (by omega) z9q z9q (by omega) fun g τ1 hg hs he => ?_
 simp -implicitDefEqProofs (disch := omega) only [Nat.reduceEqDiff, ↓reduceIte, vcu, ↓vcd]
 refine vc_loop_c mixed (by kernel_rfl) [0, 4] (fun m a σ' => ∃ L : Nat, m + L = 3 ∧ a 6 = .int .i64 ((L + 1 : Nat) : Int) ∧ a 5 = .int .i64 ((pfL xs L).2 : Int) ∧ Kept g τ1 σ' ∧ σ' g = some ⟨texts (pfL xs L).1, false⟩) 3 ⟨0, by simp, rfl, rfl, Kept.refl _ _, he⟩ ?_
 rintro m a σ1 hc ⟨L, hL, h6, h5, hkp, hgk⟩
 simp -implicitDefEqProofs (disch := omega) only [Nat.reduceEqDiff, ↓reduceIte, vcu, ↓vcd] at hc
 obtain ⟨h0, h4, -⟩ := hc
 have hLf := pfL_facts xs hx10 L
 by_cases hlt : L < 3
 ·have hq := four_le (n := 3 - (L + 1)) (by omega)
  simp -implicitDefEqProofs (disch := omega) only [Nat.reduceEqDiff, ↓reduceIte, vcu, ↓vcd, h0, h4, h5, h6]
  refine vc_loop_c mixed (by kernel_rfl) [0, 4, 6] (fun m a σ' => ∃ k : Nat, m + k = xs.length ∧ a 7 = .int .i64 k ∧ a 5 = .int .i64 ((pfK xs (L + 1) (pfL xs L) k).2 : Int) ∧ Kept g τ1 σ' ∧ σ' g = some ⟨texts (pfK xs (L + 1) (pfL xs L) k).1, false⟩) xs.length ⟨0, by simp, rfl, h5, hkp, hgk⟩ ?_
  rintro m2 a2 σ2 hc2 ⟨k, hk, g7, g5, kp2, gk2⟩
  simp -implicitDefEqProofs (disch := omega) only [Nat.reduceEqDiff, ↓reduceIte, vcu, ↓vcd, h0, h4, h6] at hc2
  obtain ⟨g0, g4, g6, -⟩ := hc2
  have hKf := pfK_facts xs (L + 1) (pfL xs L) k
  have hKs : pfK xs (L + 1) (pfL xs L) (k + 1) = if xs.getD k 0 = ((L + 1 : Nat) : Int) then ((pfK xs (L + 1) (pfL xs L) k).1.set k (txV ((pfK xs (L + 1) (pfL xs L) k).2 / 4 ^ (3 - (L + 1))) (L + 1)), (pfK xs (L + 1) (pfL xs L) k).2 + 4 ^ (3 - (L + 1))) else pfK xs (L + 1) (pfL xs L) k := rfl
  by_cases hkl : k < xs.length
  ·have hx := (hv.sub (kp2.sub hs hg)) k hkl
   generalize hst : pfK xs (L + 1) (pfL xs L) k = st at g5 gk2 hKf hKs
   generalize hqd : 4 ^ (3 - (L + 1)) = q at hq hKs
   by_cases hxe : xs.getD k 0 = ((L + 1 : Nat) : Int)
   ·rw [if_pos hxe] at hKs
    rw [hxe] at hx
    have hpw : pw (3 - (L + 1)) = (q : Int) := by rw [pw_nat, hqd]
    simp -implicitDefEqProofs (disch := omega) only [Nat.reduceEqDiff, ↓reduceIte, vcu, ↓vcd, g0, g4, g5, g6, g7, hx]
    rw [show ((3 : Int) - ((L + 1 : Nat) : Int)) = ((3 - (L + 1) : Nat) : Int) by omega]
    refine (power_calls _ (3 - (L + 1)) (by omega)).mono ?_
    rintro r τ ⟨rfl, rfl⟩
    simp -implicitDefEqProofs (disch := omega) only [Nat.reduceEqDiff, ↓reduceIte, vcu, ↓vcd, opK_some, g0, g4, g5, g6, g7, hx, hpw]
    have hdle : st.2 / q ≤ st.2 := Nat.div_le_self _ _
    rw [← Int.natCast_ediv]
    refine (text_calls _ (st.2 / q) (L + 1) (by omega) (by omega)).mono ?_
    rintro r τ ⟨rfl, rfl⟩
    simp -implicitDefEqProofs (disch := omega) only [Nat.reduceEqDiff, ↓reduceIte, vcu, ↓vcd, opK_some, g0, g4, g5, g6, g7]
    refine r_setX (g := g) (i := 0 + k) (v := txV (st.2 / q) (L + 1)) (by simp -implicitDefEqProofs (disch := omega) only [Nat.reduceEqDiff, ↓reduceIte, vcu, ↓vcd, g4]) z9q co9 gk2 (by rw [hKf.1, hLf.1]; omega) fun τ3 k3 e3 => ?_
    rw [Nat.zero_add] at e3
    simp -implicitDefEqProofs (disch := omega) only [Nat.reduceEqDiff, ↓reduceIte, vcu, ↓vcd, g0, g4, g5, g6, g7]
    rw [show ((3 : Int) - ((L + 1 : Nat) : Int)) = ((3 - (L + 1) : Nat) : Int) by omega]
    refine (power_calls _ (3 - (L + 1)) (by omega)).mono ?_
    rintro r τ ⟨rfl, rfl⟩
    simp -implicitDefEqProofs (disch := omega) only [Nat.reduceEqDiff, ↓reduceIte, vcu, ↓vcd, opK_some, g0, g4, g5, g6, g7, hpw]
    exact ⟨⟨h0.symm, h4.symm, h6.symm, trivial⟩, m2 - 1, by omega, k + 1, by omega, by simp, by rw [hKs]; simp, kp2.trans k3, by rw [hKs]; exact e3⟩
   ·rw [if_neg hxe] at hKs
    simp -implicitDefEqProofs (disch := omega) only [Nat.reduceEqDiff, ↓reduceIte, vcu, ↓vcd, g0, g4, g5, g6, g7, hx]
    exact ⟨⟨h0.symm, h4.symm, h6.symm, trivial⟩, m2 - 1, by omega, k + 1, by omega, by simp, by rw [hKs], kp2, by rw [hKs]; exact gk2⟩
  ·obtain rfl : k = xs.length := by omega
   simp -implicitDefEqProofs (disch := omega) only [Nat.reduceEqDiff, ↓reduceIte, vcu, ↓vcd, g0, g4, g5, g6, g7]
   exact ⟨⟨trivial, trivial, trivial⟩, m - 1, by omega, L + 1, by omega, by simp, rfl, kp2, gk2⟩
 ·obtain rfl : L = 3 := by omega
  simp -implicitDefEqProofs (disch := omega) only [Nat.reduceEqDiff, ↓reduceIte, vcu, ↓vcd, h0, h4, h5, h6]
  have hV : planV xs = (pfL xs 3).1 := if_pos hok
  refine fin_two Tryd.results38 ⟨.slice (some ⟨g, 0, none⟩) xs.length 1, ?_, hkp.sub hs hg, .inr ⟨g, by rw [hV, hLf.1], by rw [hV]; exact hgk, hg⟩⟩
  simp -implicitDefEqProofs (disch := omega) only [Nat.reduceEqDiff, ↓reduceIte, vcu, ↓vcd, h4]
  rw [decide_eq_true hok]
end Go.Proofs.YtofdnmlpfagibaaDoor
namespace Go.Proofs.YtofdnmlpfagibaaDoor
open Go Go.Abs Go.RowKit
variable {w0 : World}
theorem planFor_calls (σ : AHeap) (v : Value) (xs : List Int) (hv : Ints .i64 σ v xs) (hl : xs.length ≤ 1048576) :
  ACall Tryd.prog w0 38 [v] σ fun r σ' => ∃ v, r = .tuple #[v, .bool (decide (pfOk xs))] ∧ Sub σ σ' ∧ OwnS σ σ' v (planV xs) :=
 ACall.ints_arg (pre := []) (post := []) (by kernel_rfl) hv fun σ1 h o hs1 hg => (planFor_at σ1 h o xs hg hl).mono fun _ _ ⟨v, e, s, O⟩ => ⟨v, e, hs1.trans s, O.older hs1⟩
end Go.Proofs.YtofdnmlpfagibaaDoor
namespace Go.Proofs.YtofdnmlpfagibaaDoor
open Go Go.Abs Go.RowKit
def shr : List Int → Int
 | [] => 0
 | l :: ls => 4 ^ (3 - l).toNat + shr ls
end Go.Proofs.YtofdnmlpfagibaaDoor
namespace Go.Proofs.YtofdnmlpfagibaaDoor
open Go Go.Abs Go.RowKit
theorem DgT.app {a b : List UInt8} (ha : DgT a) (hb : DgT b) : DgT (a ++ b) := fun x hx => (List.mem_append.1 hx).elim (ha x) (hb x)
theorem txV_dg : ∀ (n v : Nat), DgT (txV v n)
 | 0, _ => fun x hx => by simp [txV] at hx
 | n + 1, v => (txV_dg n (v / 4)).app fun x hx => by
  rw [List.mem_singleton] at hx
  subst hx
  have : v % 4 < 4 := Nat.mod_lt _ (by omega)
  have e : (UInt8.ofNat (48 + v % 4)).toNat = 48 + v % 4 := by rw [UInt8.toNat_ofNat']; omega
  rw [e]; omega
theorem txV_take : ∀ (n m v : Nat), m ≤ n → (txV v n).take m = txV (v / 4 ^ (n - m)) m
  | 0, m, v, h => by obtain rfl : m = 0 := by omega
                     simp [txV]
  | n + 1, m, v, h => by
    by_cases e : m = n + 1
    · subst e
      rw [Nat.sub_self, Nat.pow_zero, Nat.div_one, List.take_of_length_le (by rw [txV_len]; exact Nat.le_refl _)]
    · rw [txV, List.take_append_of_le_length (by rw [txV_len]; omega), txV_take n m _ (by omega), Nat.div_div_eq_div_mul, show n + 1 - m = (n - m) + 1 by omega, Nat.pow_succ, Nat.mul_comm]
theorem txV_inj : ∀ (n v w : Nat), v < 4 ^ n → w < 4 ^ n → txV v n = txV w n → v = w
 | 0, v, w, hv, hw, _ => by simp at hv hw; omega
 | n + 1, v, w, hv, hw, h => by
  rw [Nat.pow_succ] at hv hw
  simp only [txV] at h
  obtain ⟨h1, h2⟩ := List.append_inj' h rfl
  have ih := txV_inj n (v / 4) (w / 4) (by omega) (by omega) h1
  have h3 : UInt8.ofNat (48 + v % 4) = UInt8.ofNat (48 + w % 4) := by simpa using h2
  have h4 := congrArg UInt8.toNat h3
  rw [UInt8.toNat_ofNat', UInt8.toNat_ofNat'] at h4
  omega
theorem beg_tx {n m v w : Nat} (hm : m ≤ n) (hw : w < 4 ^ n) (hv : v < 4 ^ m) : Beg (txV w n) (txV v m) ↔ w / 4 ^ (n - m) = v := by
 unfold Beg
 rw [txV_len, txV_len, txV_take n m w hm]
 have hlt : w / 4 ^ (n - m) < 4 ^ m := by
  apply Nat.div_lt_of_lt_mul
  rw [← Nat.pow_add, Nat.sub_add_cancel hm]; exact hw
 exact ⟨fun h => txV_inj m _ _ hlt hv h.2, fun h => ⟨hm, by rw [h]⟩⟩
theorem lens_getD {ps : List (List UInt8)} (h : PlanOk ps) {k : Nat} (hk : k < ps.length) : (lensV ps).getD k 0 = (ps.getD k []).length := by
 rw [lensV, if_pos h]; simp [List.getD, hk]
theorem lens_length {ps : List (List UInt8)} (h : PlanOk ps) : (lensV ps).length = ps.length := by rw [lensV, if_pos h]; simp
end Go.Proofs.YtofdnmlpfagibaaDoor
namespace Go.Proofs.YtofdnmlpfagibaaDoor
open Go Go.Abs Go.RowKit
/-- a sum over the first places -/
def sumN (f : Nat → Nat) : Nat → Nat
 | 0 => 0
 | n + 1 => sumN f n + f n
theorem sumN_congr {f g : Nat → Nat} : ∀ n, (∀ i, i < n → f i = g i) → sumN f n = sumN g n
 | 0, _ => rfl
 | n + 1, h => by rw [sumN, sumN, sumN_congr n fun i hi => h i (by omega), h n (by omega)]
theorem sumN_upd {f g : Nat → Nat} {k c : Nat} : ∀ n, k < n → (∀ i, i < n → i ≠ k → g i = f i) → g k = f k + c → sumN g n = sumN f n + c
 | 0, h, _, _ => by omega
 | n + 1, h, hne, hk => by
  rw [sumN, sumN]
  by_cases e : k = n
  ·subst e
   rw [sumN_congr k fun i hi => hne i (by omega) (by omega), hk]; omega
  ·rw [sumN_upd n (by omega) (fun i hi hn => hne i (by omega) hn) hk, hne n (by omega) (by omega)]; omega
/-- the length at a place; its share -/
def lnA (xs : List Int) (i : Nat) : Nat := (xs.getD i 0).toNat
def shA (xs : List Int) (i : Nat) : Nat := 4 ^ (3 - lnA xs i)
theorem shA_pos (xs : List Int) (i : Nat) : 0 < shA xs i := Nat.pos_of_ne_zero (by simp [shA])
theorem shS_sumN {xs : List Int} (h : LnOk xs) : ∀ k, k ≤ xs.length → shS xs k = (sumN (shA xs) k : Int)
 | 0, _ => rfl
 | k + 1, hk => by
  have h1 := h.1 k (by omega)
  rw [shS, shS_sumN h k (by omega), sumN, Int.natCast_add]
  congr 1
  unfold shA lnA pw
  rw [show (3 - xs.getD k 0).toNat = 3 - (xs.getD k 0).toNat by omega]
  simp
/-- which numbers are found before -/
def dn (xs : List Int) (L k i : Nat) : Prop := lnA xs i ≤ L ∨ (lnA xs i = L + 1 ∧ i < k)
instance (xs : List Int) (L k i : Nat) : Decidable (dn xs L k i) := inferInstanceAs (Decidable (_ ∨ _))
structure PfI (xs : List Int) (L k : Nat) (st : List (List UInt8) × Nat) : Prop where
 len : st.1.length = xs.length
 sum : st.2 = sumN (fun i => if dn xs L k i then shA xs i else 0) xs.length
 ex : ∃ a : Nat → Nat, (∀ i, i < xs.length → dn xs L k i → st.1.getD i [] = txV (a i / shA xs i) (lnA xs i) ∧ shA xs i ∣ a i ∧ a i + shA xs i ≤ st.2) ∧
  ∀ i j, i < xs.length → j < xs.length → dn xs L k i → dn xs L k j → i ≠ j → a i + shA xs i ≤ a j ∨ a j + shA xs j ≤ a i
theorem pfK_inv {xs : List Int} {L : Nat} (hL : L ≤ 2) {st : List (List UInt8) × Nat} (h0 : PfI xs L 0 st) (hd : 4 ^ (2 - L) ∣ st.2) : ∀ k, k ≤ xs.length → PfI xs L k (pfK xs (L + 1) st k) ∧ 4 ^ (2 - L) ∣ (pfK xs (L + 1) st k).2
 | 0, _ => ⟨h0, hd⟩
 | k + 1, hk => by
  obtain ⟨ih, id⟩ := pfK_inv hL h0 hd k (by omega)
  unfold pfK
  generalize pfK xs (L + 1) st k = s at *
  have hpw : 3 - (L + 1) = 2 - L := by omega
  by_cases e : xs.getD k 0 = ((L + 1 : Nat) : Int)
  ·rw [if_pos e]
   have hln : lnA xs k = L + 1 := by unfold lnA; rw [e]; rfl
   have hsh : shA xs k = 4 ^ (2 - L) := by unfold shA; rw [hln, hpw]
   rw [hpw, ← hsh]
   rw [← hsh] at id
   obtain ⟨a, a1, a2⟩ := ih.ex
   have hdn : ∀ i, i ≠ k → (dn xs L (k + 1) i ↔ dn xs L k i) := fun i hne => by unfold dn; omega
   have hdk : ¬ dn xs L k k := by unfold dn; omega
   have hdk1 : dn xs L (k + 1) k := .inr ⟨hln, by omega⟩
   refine ⟨⟨by simpa using ih.len, ?_, fun i => if i = k then s.2 else a i, fun i hi hdi => ?_, fun i j hi hj hdi hdj hne => ?_⟩, ?_⟩
   ·dsimp only
    rw [ih.sum]
    refine (sumN_upd (k := k) xs.length (by omega) (fun i hi hne => ?_) ?_).symm
    ·by_cases hh : dn xs L k i
     ·rw [if_pos hh, if_pos ((hdn i hne).2 hh)]
     ·rw [if_neg hh, if_neg fun h2 => hh ((hdn i hne).1 h2)]
    ·rw [if_neg hdk, if_pos hdk1, Nat.zero_add]
   ·dsimp only
    by_cases hik : i = k
    ·subst hik
     rw [if_pos rfl]
     refine ⟨?_, id, Nat.le_refl _⟩
     have : i < s.1.length := by rw [ih.len]; exact hi
     simp [List.getD, List.getElem?_set, this, hln]
    ·rw [if_neg hik]
     obtain ⟨c1, c2, c3⟩ := a1 i hi ((hdn i hik).1 hdi)
     refine ⟨?_, c2, by omega⟩
     rw [← c1]
     simp only [List.getD, List.getElem?_set, if_neg (show ¬ k = i by omega)]
   ·dsimp only
    by_cases hik : i = k
    ·subst hik
     have hjk : j ≠ i := fun e => hne e.symm
     have := (a1 j hj ((hdn j hjk).1 hdj)).2.2
     rw [if_pos rfl, if_neg hjk]
     exact .inr this
    ·by_cases hjk : j = k
     ·subst hjk
      have := (a1 i hi ((hdn i hik).1 hdi)).2.2
      rw [if_neg hik, if_pos rfl]
      exact .inl this
     ·rw [if_neg hik, if_neg hjk]
      exact a2 i j hi hj ((hdn i hik).1 hdi) ((hdn j hjk).1 hdj) hne
   ·exact Nat.dvd_add id (Nat.dvd_refl _)
  ·rw [if_neg e]
   refine ⟨?_, id⟩
   have hne : lnA xs k ≠ L + 1 := fun h => e (by unfold lnA at h; omega)
   have hdn : ∀ i, dn xs L (k + 1) i ↔ dn xs L k i := fun i => by
    by_cases h : i = k
    ·subst h; unfold dn; omega
    ·unfold dn; omega
   have hdf : dn xs L (k + 1) = dn xs L k := funext fun i => propext (hdn i)
   refine ⟨ih.len, ?_, ?_⟩
   ·rw [ih.sum]
    refine sumN_congr _ fun i _ => ?_
    by_cases hh : dn xs L k i
    ·rw [if_pos hh, if_pos ((hdn i).2 hh)]
    ·rw [if_neg hh, if_neg fun h2 => hh ((hdn i).1 h2)]
   ·rw [hdf]; exact ih.ex
theorem pfL_inv {xs : List Int} (h : LnOk xs) : ∀ L, L ≤ 3 → PfI xs L 0 (pfL xs L) ∧ 4 ^ (3 - L) ∣ (pfL xs L).2
 | 0, _ => by
  have hno : ∀ i, i < xs.length → ¬ dn xs 0 0 i := fun i hi => by have := h.1 i hi; unfold dn lnA; omega
  refine ⟨⟨by simp [pfL], ?_, fun _ => 0, fun i hi hd => absurd hd (hno i hi), fun i j hi hj hd => absurd hd (hno i hi)⟩, ⟨0, rfl⟩⟩
  rw [sumN_congr (g := fun _ => 0) _ fun i hi => if_neg (hno i hi)]
  have : ∀ n, sumN (fun _ => 0) n = 0 := fun n => by
   induction n with
   | zero => rfl
   | succ n ih => rw [sumN, ih]
  rw [this]; rfl
 | L + 1, hL => by
  obtain ⟨i1, i2⟩ := pfL_inv h L (by omega)
  have hd : 4 ^ (2 - L) ∣ (pfL xs L).2 := Nat.dvd_trans (Nat.pow_dvd_pow 4 (by omega)) i2
  obtain ⟨j1, j2⟩ := pfK_inv (by omega) i1 hd xs.length (Nat.le_refl _)
  refine ⟨?_, by rw [show 3 - (L + 1) = 2 - L by omega]; exact j2⟩
  have hdn : ∀ i, i < xs.length → (dn xs (L + 1) 0 i ↔ dn xs L xs.length i) := fun i hi => by unfold dn; omega
  refine ⟨j1.len, ?_, ?_⟩
  ·show (pfK xs (L + 1) (pfL xs L) xs.length).2 = _
   rw [j1.sum]
   refine sumN_congr _ fun i hi => ?_
   by_cases hh : dn xs L xs.length i
   ·rw [if_pos hh, if_pos ((hdn i hi).2 hh)]
   ·rw [if_neg hh, if_neg fun h2 => hh ((hdn i hi).1 h2)]
  ·obtain ⟨a, a1, a2⟩ := j1.ex
   exact ⟨a, fun i hi hdi => a1 i hi ((hdn i hi).1 hdi), fun i j hi hj hdi hdj => a2 i j hi hj ((hdn i hi).1 hdi) ((hdn j hj).1 hdj)⟩
/-- the plan for lengths: it is one, with these lengths -/
theorem planV_ok {xs : List Int} (h : pfOk xs) : PlanOk (planV xs) ∧ (planV xs).length = xs.length ∧ lensV (planV xs) = xs := by
 obtain ⟨hl, hs⟩ := h
 have hV : planV xs = (pfL xs 3).1 := if_pos ⟨hl, hs⟩
 obtain ⟨I, -⟩ := pfL_inv hl 3 (Nat.le_refl _)
 have hall : ∀ i, i < xs.length → dn xs 3 0 i := fun i hi => by have := hl.1 i hi; unfold dn lnA; omega
 have hsum : (pfL xs 3).2 ≤ 64 := by
  have h1 := I.sum
  rw [sumN_congr (g := shA xs) _ fun i hi => if_pos (hall i hi)] at h1
  unfold shareV at hs
  rw [if_pos hl, shS_sumN hl _ (Nat.le_refl _)] at hs
  omega
 obtain ⟨a, a1, a2⟩ := I.ex
 have hln : ∀ i, i < xs.length → 1 ≤ lnA xs i ∧ lnA xs i ≤ 3 := fun i hi => by have := hl.1 i hi; unfold lnA; omega
 have hval : ∀ i, i < xs.length → a i / shA xs i < 4 ^ lnA xs i := fun i hi => by
  apply Nat.div_lt_of_lt_mul
  have h1 := hln i hi
  have e : shA xs i * 4 ^ lnA xs i = 64 := by
   unfold shA
   rw [← Nat.pow_add, show 3 - lnA xs i + lnA xs i = 3 by omega]
  rw [e]
  have := (a1 i hi (hall i hi)).2.2
  have := shA_pos xs i
  omega
 have hlen : ∀ i, i < xs.length → ((planV xs).getD i []).length = lnA xs i := fun i hi => by rw [hV, (a1 i hi (hall i hi)).1, txV_len]
 have hll : (planV xs).length = xs.length := by rw [hV, I.len]
 have hok : PlanOk (planV xs) := by
  refine ⟨fun k hk => ?_, by rw [hll]; exact hl.2⟩
  rw [hll] at hk
  refine ⟨?_, by rw [hlen k hk]; exact hln k hk, fun j hj hne hb => ?_⟩
  ·rw [hV, (a1 k hk (hall k hk)).1]; exact txV_dg _ _
  ·rw [hll] at hj
   have hle := hb.1
   rw [hlen k hk, hlen j hj] at hle
   rw [hV, (a1 k hk (hall k hk)).1, (a1 j hj (hall j hj)).1, beg_tx hle (hval k hk) (hval j hj), Nat.div_div_eq_div_mul] at hb
   have e : shA xs k * 4 ^ (lnA xs k - lnA xs j) = shA xs j := by
    unfold shA
    have := hln k hk
    rw [← Nat.pow_add]; congr 1; omega
   rw [e] at hb
   obtain ⟨c, hc⟩ := (a1 j hj (hall j hj)).2.1
   have hp := shA_pos xs j
   have hpk := shA_pos xs k
   have h1 : a j / shA xs j = c := by rw [hc]; exact Nat.mul_div_cancel_left c hp
   rw [h1] at hb
   have h2 := Nat.div_add_mod (a k) (shA xs j)
   have h3 := Nat.mod_lt (a k) hp
   rw [hb] at h2
   rcases a2 k j hk hj (hall k hk) (hall j hj) (fun e => hne e.symm) with h4 | h4
   ·omega
   ·omega
 refine ⟨hok, hll, ?_⟩
 apply List.ext_getElem
 ·rw [lens_length hok, hll]
 ·intro i h1 h2
  have h3 := lens_getD hok (k := i) (by rw [hll]; exact h2)
  rw [hlen i h2] at h3
  have h4 := hl.1 i h2
  have h5 : (xs.getD i 0) = xs[i] := by simp [List.getD, h2]
  have h6 : (lensV (planV xs)).getD i 0 = (lensV (planV xs))[i] := by simp [List.getD, h1]
  rw [← h5, ← h6, h3]
  unfold lnA; omega
end Go.Proofs.YtofdnmlpfagibaaDoor
namespace Go.Proofs.YtofdnmlpfagibaaDoor
open Go Go.Abs Go.RowKit
theorem fstN_none {p : Nat → Bool} : ∀ {m k i : Nat}, fstN p k m = none → k ≤ i → i < k + m → p i = false
 | 0, k, i, _, h1, h2 => by omega
 | m + 1, k, i, h, h1, h2 => by
  unfold fstN at h
  split at h
  ·cases h
  ·rename_i hp
   by_cases e : i = k
   ·subst e; simpa using hp
   ·exact fstN_none h (by omega) (by omega)
end Go.Proofs.YtofdnmlpfagibaaDoor
namespace Go.Clos
structure Sp where
 O : Int
 E : Int
 M : Int
deriving DecidableEq
def SV (s : Sp) : Prop := (1 ≤ s.O ∧ s.O ≤ 4) ∧ (1 ≤ s.E ∧ s.E ≤ 3) ∧ (1 ≤ s.M ∧ s.M ≤ 5)
instance (s : Sp) : Decidable (SV s) := by unfold SV; infer_instance
def Rg (s : Sp) (c : Cl) : Prop := (0 ≤ c.i ∧ c.i ≤ s.O * s.E - 1) ∧ (0 ≤ c.o ∧ c.o ≤ s.O * s.E - 1) ∧ (0 ≤ c.v ∧ c.v ≤ s.M - 1)
instance (s : Sp) (c : Cl) : Decidable (Rg s c) := by unfold Rg; infer_instance
/-- two calls that are not possible at the same time -/
def Hit (s : Sp) (c d : Cl) : Prop := c.i = d.i ∨ c.o = d.o ∨ c.v = d.v ∧ (c.i / s.E = d.i / s.E ∨ c.o / s.E = d.o / s.E)
instance (s : Sp) (c d : Cl) : Decidable (Hit s c d) := by unfold Hit; infer_instance
theorem Hit.symm {s : Sp} {c d : Cl} (h : Hit s c d) : Hit s d c := by
 rcases h with h | h | ⟨h, g | g⟩
 ·exact .inl h.symm
 ·exact .inr (.inl h.symm)
 ·exact .inr (.inr ⟨h.symm, .inl g.symm⟩)
 ·exact .inr (.inr ⟨h.symm, .inr g.symm⟩)
def CV (s : Sp) (cs : List Cl) : Prop := SV s ∧ (∀ c ∈ cs, Rg s c) ∧ cs.Pairwise fun d c => ¬ Hit s c d
instance (s : Sp) (cs : List Cl) : Decidable (CV s cs) := by unfold CV; infer_instance
theorem CV_nil {s : Sp} : CV s [] ↔ SV s := by simp [CV]
theorem CV_snoc {s : Sp} {cs : List Cl} {c : Cl} : CV s (cs ++ [c]) ↔ CV s cs ∧ Rg s c ∧ ∀ d ∈ cs, ¬ Hit s c d := by
 unfold CV
 simp only [List.mem_append, List.mem_singleton, List.pairwise_append, List.pairwise_cons, List.Pairwise.nil]
 constructor
 ·rintro ⟨h1, h2, h3, -, h4⟩
  exact ⟨⟨h1, fun d hd => h2 d (.inl hd), h3⟩, h2 c (.inr rfl), fun d hd => h4 d hd c rfl⟩
 ·rintro ⟨⟨h1, h2, h3⟩, h4, h5⟩
  exact ⟨h1, fun d hd => hd.elim (h2 d) (fun e => e ▸ h4), h3, ⟨fun _ h => absurd h (by simp), trivial⟩, fun d hd e he => he ▸ h5 d hd⟩
theorem CV.sub {s : Sp} {cs ds : List Cl} (h : CV s cs) (hs : ds.Sublist cs) : CV s ds := ⟨h.1, fun c hc => h.2.1 c (hs.subset hc), h.2.2.sublist hs⟩
theorem CV.two {s : Sp} {cs : List Cl} (h : CV s cs) {k l : Nat} {c d : Cl} (hk : cs[k]? = some c) (hl : cs[l]? = some d) (hne : k ≠ l) : ¬ Hit s c d := by
 obtain ⟨hk1, rfl⟩ := List.getElem?_eq_some_iff.1 hk
 obtain ⟨hl1, rfl⟩ := List.getElem?_eq_some_iff.1 hl
 have := List.pairwise_iff_getElem.1 h.2.2
 rcases Nat.lt_or_ge k l with hlt | hge
 ·exact fun hh => this k l hk1 hl1 hlt hh.symm
 ·exact fun hh => this l k hl1 hk1 (by omega) hh
theorem CV.one {s : Sp} {cs : List Cl} (h : CV s cs) {k l : Nat} {c d : Cl} (hk : cs[k]? = some c) (hl : cs[l]? = some d) (hh : Hit s c d) : k = l :=
 Classical.byContradiction fun hne => h.two hk hl hne hh
theorem CV.of_index {s : Sp} {cs : List Cl} (h1 : SV s) (h2 : ∀ c ∈ cs, Rg s c) (h3 : ∀ (k l : Nat) (c d : Cl), cs[k]? = some c → cs[l]? = some d → l < k → ¬ Hit s c d) : CV s cs := by
 refine ⟨h1, h2, List.pairwise_iff_getElem.2 fun i j hi hj hij => ?_⟩
 exact h3 j i _ _ (List.getElem?_eq_getElem hj) (List.getElem?_eq_getElem hi) hij
/-- a list without the same twice is not longer than one that has all of it -/
theorem sub_len {α : Type} [DecidableEq α] : ∀ {xs ys : List α}, xs.Nodup → (∀ x ∈ xs, x ∈ ys) → xs.length ≤ ys.length
 | [], ys, _, _ => Nat.zero_le _
 | x :: xs, ys, h, hs => by
  rw [List.nodup_cons] at h
  have hx : x ∈ ys := hs x (by simp)
  have := sub_len (ys := ys.erase x) h.2 fun y hy => (List.mem_erase_of_ne (fun (e : y = x) => h.1 (by rw [← e]; exact hy))).2 (hs y (by simp [hy]))
  rw [List.length_erase_of_mem hx] at this
  have := List.length_pos_of_mem hx
  simp only [List.length_cons]; omega
def rng (n : Nat) : List Int := (List.range n).map fun (k : Nat) => (k : Int)
theorem mem_rng {n : Nat} {x : Int} : x ∈ rng n ↔ 0 ≤ x ∧ x < n := by
 simp only [rng, List.mem_map, List.mem_range]
 constructor
 ·rintro ⟨k, h, rfl⟩; omega
 ·rintro ⟨h1, h2⟩; exact ⟨x.toNat, by omega, by omega⟩
theorem rng_length (n : Nat) : (rng n).length = n := by simp [rng]
theorem rng_nodup (n : Nat) : (rng n).Nodup := by
 unfold rng
 rw [List.nodup_iff_pairwise_ne, List.pairwise_map]
 exact (List.nodup_iff_pairwise_ne.1 List.nodup_range).imp fun h e => h (by omega)
theorem rng_succ (n : Nat) : rng (n + 1) = rng n ++ [(n : Int)] := by simp [rng, List.range_succ]
theorem pig {n : Nat} {lo : Int} {xs : List Int} (h : xs.Nodup) (hx : ∀ x ∈ xs, lo ≤ x ∧ x < lo + n) : xs.length ≤ n := by
 have := sub_len (xs := xs) (ys := (rng n).map (lo + ·)) h fun x hm => List.mem_map.2 ⟨x - lo, mem_rng.2 (by have := hx x hm; omega), by omega⟩
 simpa [rng] using this
theorem nodup_map {α : Type} {f : α → Int} {xs : List α} (h : xs.Pairwise fun d c => f d ≠ f c) : (xs.map f).Nodup := by
 rw [List.nodup_iff_pairwise_ne, List.pairwise_map]; exact h
section
variable {s : Sp} {cs : List Cl} (h : CV s cs)
include h
theorem CV.pw {P : Cl → Cl → Prop} (hp : ∀ c d, ¬ Hit s c d → P d c) : cs.Pairwise P := h.2.2.imp fun {a b} hh => hp b a hh
theorem CV.ins : (cs.map (·.i)).Nodup := nodup_map (h.pw fun c d hh e => hh (.inl e.symm))
theorem CV.outs : (cs.map (·.o)).Nodup := nodup_map (h.pw fun c d hh e => hh (.inr (.inl e.symm)))
theorem CV.len : cs.length ≤ 12 := by
 have := pig (lo := 0) (n := (s.O * s.E).toNat) h.ins fun x hx => by
  obtain ⟨c, hc, rfl⟩ := List.mem_map.1 hx
  have := (h.2.1 c hc).1
  omega
 rw [List.length_map] at this
 obtain ⟨⟨o1, o2⟩, ⟨e1, e2⟩, -⟩ := h.1
 have h12 : s.O * s.E ≤ 4 * 3 := Int.mul_le_mul o2 e2 (by omega) (by omega)
 omega
/-- the calls from an outer switch, of which a line is free -/
theorem CV.from_ {i : Int} (hi : ∀ c ∈ cs, c.i ≠ i) : (cs.filter fun c => c.i / s.E = i / s.E).length + 1 ≤ s.E.toNat := by
 obtain ⟨⟨o1, o2⟩, ⟨e1, e2⟩, -⟩ := h.1
 have hsub : (cs.filter fun c => decide (c.i / s.E = i / s.E)).Sublist cs := List.filter_sublist
 have hn : (i :: (cs.filter fun c => decide (c.i / s.E = i / s.E)).map (·.i)).Nodup := by
  rw [List.nodup_cons]
  refine ⟨fun hm => ?_, (h.sub hsub).ins⟩
  obtain ⟨c, hc, e⟩ := List.mem_map.1 hm
  exact hi c (hsub.subset hc) e
 have := pig (lo := i / s.E * s.E) (n := s.E.toNat) hn fun x hx => by
  have key : ∀ y : Int, y / s.E = i / s.E → i / s.E * s.E ≤ y ∧ y < i / s.E * s.E + s.E.toNat := fun y e => by
   rw [← e]
   have h1 := Int.emod_nonneg y (show s.E ≠ 0 by omega)
   have h2 := Int.emod_lt_of_pos y (show 0 < s.E by omega)
   have h3 := Int.mul_ediv_add_emod y s.E
   rw [Int.mul_comm] at h3
   omega
  rcases List.mem_cons.1 hx with rfl | hx
  ·exact key _ rfl
  ·obtain ⟨c, hc, rfl⟩ := List.mem_map.1 hx
   exact key _ (by simpa using (List.mem_filter.1 hc).2)
 simpa using this
theorem CV.to_ {o : Int} (ho : ∀ c ∈ cs, c.o ≠ o) : (cs.filter fun c => c.o / s.E = o / s.E).length + 1 ≤ s.E.toNat := by
 obtain ⟨⟨o1, o2⟩, ⟨e1, e2⟩, -⟩ := h.1
 have hsub : (cs.filter fun c => decide (c.o / s.E = o / s.E)).Sublist cs := List.filter_sublist
 have hn : (o :: (cs.filter fun c => decide (c.o / s.E = o / s.E)).map (·.o)).Nodup := by
  rw [List.nodup_cons]
  refine ⟨fun hm => ?_, (h.sub hsub).outs⟩
  obtain ⟨c, hc, e⟩ := List.mem_map.1 hm
  exact ho c (hsub.subset hc) e
 have := pig (lo := o / s.E * s.E) (n := s.E.toNat) hn fun x hx => by
  have key : ∀ y : Int, y / s.E = o / s.E → o / s.E * s.E ≤ y ∧ y < o / s.E * s.E + s.E.toNat := fun y e => by
   rw [← e]
   have h1 := Int.emod_nonneg y (show s.E ≠ 0 by omega)
   have h2 := Int.emod_lt_of_pos y (show 0 < s.E by omega)
   have h3 := Int.mul_ediv_add_emod y s.E
   rw [Int.mul_comm] at h3
   omega
  rcases List.mem_cons.1 hx with rfl | hx
  ·exact key _ rfl
  ·obtain ⟨c, hc, rfl⟩ := List.mem_map.1 hx
   exact key _ (by simpa using (List.mem_filter.1 hc).2)
 simpa using this
end
/-- the middle switches that the calls of an outer switch use -/
def usedI (s : Sp) (cs : List Cl) (x : Int) : List Int := (cs.filter fun c => c.i / s.E = x).map (·.v)
def usedO (s : Sp) (cs : List Cl) (x : Int) : List Int := (cs.filter fun c => c.o / s.E = x).map (·.v)
theorem mem_usedI {s : Sp} {cs : List Cl} {x v : Int} : v ∈ usedI s cs x ↔ ∃ c ∈ cs, c.i / s.E = x ∧ c.v = v := by
 unfold usedI
 simp only [List.mem_map, List.mem_filter, decide_eq_true_eq]
 exact ⟨fun ⟨c, ⟨a, b⟩, d⟩ => ⟨c, a, b, d⟩, fun ⟨c, a, b, d⟩ => ⟨c, ⟨a, b⟩, d⟩⟩
theorem mem_usedO {s : Sp} {cs : List Cl} {x v : Int} : v ∈ usedO s cs x ↔ ∃ c ∈ cs, c.o / s.E = x ∧ c.v = v := by
 unfold usedO
 simp only [List.mem_map, List.mem_filter, decide_eq_true_eq]
 exact ⟨fun ⟨c, ⟨a, b⟩, d⟩ => ⟨c, a, b, d⟩, fun ⟨c, a, b, d⟩ => ⟨c, ⟨a, b⟩, d⟩⟩
/-- the first middle switch that is not used -/
def firstN (used : List Int) : Nat → Nat → Int
 | 0, _ => -1
 | n + 1, k => if (k : Int) ∈ used then firstN used n (k + 1) else k
theorem firstN_cases (used : List Int) : ∀ n k : Nat, (firstN used n k = -1 ∧ ∀ j, k ≤ j → j < k + n → (j : Int) ∈ used) ∨ ∃ j : Nat, firstN used n k = j ∧ k ≤ j ∧ j < k + n ∧ (j : Int) ∉ used
 | 0, k => .inl ⟨rfl, fun j h1 h2 => absurd h2 (by omega)⟩
 | n + 1, k => by
  unfold firstN
  by_cases h : (k : Int) ∈ used
  ·rw [if_pos h]
   rcases firstN_cases used n (k + 1) with ⟨e, hj⟩ | ⟨j, e, h1, h2, h3⟩
   ·refine .inl ⟨e, fun j h1 h2 => ?_⟩
    rcases Nat.eq_or_lt_of_le h1 with rfl | h1
    ·exact h
    ·exact hj j (by omega) (by omega)
   ·exact .inr ⟨j, e, by omega, by omega, h3⟩
  ·rw [if_neg h]; exact .inr ⟨k, rfl, by omega, by omega, h⟩
theorem firstN_some {used : List Int} {n : Nat} (h : used.length < n) : ∃ j : Nat, firstN used n 0 = j ∧ j < n ∧ (j : Int) ∉ used := by
 rcases firstN_cases used n 0 with ⟨-, hj⟩ | ⟨j, e, -, h2, h3⟩
 ·exfalso
  have := sub_len (xs := rng n) (ys := used) (rng_nodup n) fun x hx => by
   obtain ⟨a, b⟩ := mem_rng.1 hx
   have := hj x.toNat (by omega) (by omega)
   rwa [Int.toNat_of_nonneg a] at this
  rw [rng_length] at this
  omega
 ·exact ⟨j, e, by omega, h3⟩
/-- a call can go through a middle switch -/
def Free (s : Sp) (cs : List Cl) (i o v : Int) : Prop := CV s (cs ++ [⟨i, o, v⟩])
instance (s : Sp) (cs : List Cl) (i o v : Int) : Decidable (Free s cs i o v) := by unfold Free; infer_instance
/-- a line has a call -/
def Busy (cs : List Cl) (i o : Int) : Prop := ∃ c ∈ cs, c.i = i ∨ c.o = o
instance (cs : List Cl) (i o : Int) : Decidable (Busy cs i o) := by unfold Busy; infer_instance
def Lines (s : Sp) (i o : Int) : Prop := (0 ≤ i ∧ i ≤ s.O * s.E - 1) ∧ (0 ≤ o ∧ o ≤ s.O * s.E - 1)
instance (s : Sp) (i o : Int) : Decidable (Lines s i o) := by unfold Lines; infer_instance
theorem Free.lines {s : Sp} {cs : List Cl} {i o v : Int} (h : Free s cs i o v) : CV s cs ∧ Lines s i o ∧ ¬ Busy cs i o ∧ 0 ≤ v ∧ v ≤ s.M - 1 := by
 obtain ⟨a, ⟨b, c, d⟩, e⟩ := CV_snoc.1 h
 refine ⟨a, ⟨b, c⟩, ?_, d⟩
 rintro ⟨x, hx, h1 | h1⟩
 ·exact e x hx (.inl h1.symm)
 ·exact e x hx (.inr (.inl h1.symm))
theorem free_iff {s : Sp} {cs : List Cl} {i o v : Int} (h : CV s cs) (hl : Lines s i o) (hb : ¬ Busy cs i o) (hv : 0 ≤ v ∧ v ≤ s.M - 1) : Free s cs i o v ↔ v ∉ usedI s cs (i / s.E) ∧ v ∉ usedO s cs (o / s.E) := by
 unfold Free
 rw [CV_snoc, mem_usedI, mem_usedO]
 constructor
 ·rintro ⟨-, -, e⟩
  exact ⟨fun ⟨c, hc, a, b⟩ => e c hc (.inr (.inr ⟨b.symm, .inl a.symm⟩)), fun ⟨c, hc, a, b⟩ => e c hc (.inr (.inr ⟨b.symm, .inr a.symm⟩))⟩
 ·rintro ⟨n1, n2⟩
  refine ⟨h, ⟨hl.1, hl.2, hv⟩, fun d hd hh => ?_⟩
  rcases hh with e | e | ⟨e, e2 | e2⟩
  ·exact hb ⟨d, hd, .inl e.symm⟩
  ·exact hb ⟨d, hd, .inr e.symm⟩
  ·exact n1 ⟨d, hd, e2.symm, e.symm⟩
  ·exact n2 ⟨d, hd, e2.symm, e.symm⟩
def freeL (s : Sp) (cs : List Cl) (i o : Int) (n : Nat) : List Int := (rng n).filter fun v => Free s cs i o v
theorem freeL_succ (s : Sp) (cs : List Cl) (i o : Int) (n : Nat) : freeL s cs i o (n + 1) = freeL s cs i o n ++ (if Free s cs i o n then [(n : Int)] else []) := by
 unfold freeL
 rw [rng_succ, List.filter_append]
 congr 1
 by_cases h : Free s cs i o n <;> simp [h]
/-- the middle switches that are free -/
def freeV (s : Sp) (cs : List Cl) (i o : Int) : List Int := freeL s cs i o s.M.toNat
theorem mem_freeV {s : Sp} {cs : List Cl} {i o v : Int} : v ∈ freeV s cs i o ↔ Free s cs i o v := by
 unfold freeV freeL
 rw [List.mem_filter, mem_rng, decide_eq_true_eq]
 exact ⟨fun h => h.2, fun h => ⟨by have := h.lines.2.2.2; omega, h⟩⟩
theorem freeV_no {s : Sp} {cs : List Cl} {i o : Int} (h : ¬ (CV s cs ∧ Lines s i o ∧ ¬ Busy cs i o)) : freeV s cs i o = [] :=
 List.eq_nil_iff_forall_not_mem.2 fun v hv => h (by have := (mem_freeV.1 hv).lines; exact ⟨this.1, this.2.1, this.2.2.1⟩)
def Enough (s : Sp) : Prop := SV s ∧ s.E ≤ s.M
instance (s : Sp) : Decidable (Enough s) := by unfold Enough; infer_instance
theorem not_busyI {cs : List Cl} {i o : Int} (h : ¬ Busy cs i o) : ∀ c ∈ cs, c.i ≠ i := fun c hc e => h ⟨c, hc, .inl e⟩
theorem not_busyO {cs : List Cl} {i o : Int} (h : ¬ Busy cs i o) : ∀ c ∈ cs, c.o ≠ o := fun c hc e => h ⟨c, hc, .inr e⟩
theorem SV.lines {s : Sp} (h : SV s) : 1 ≤ s.O * s.E ∧ s.O * s.E ≤ 12 := by
 obtain ⟨⟨o1, o2⟩, ⟨e1, e2⟩, -⟩ := h
 have h12 : s.O * s.E ≤ 4 * 3 := Int.mul_le_mul o2 e2 (by omega) (by omega)
 have h1 : 1 * 1 ≤ s.O * s.E := Int.mul_le_mul o1 e1 (by omega) (by omega)
 omega
end Go.Clos
namespace Go.Clos
theorem b_ne {t sd : Bool} (h : ¬ t = sd) : t = !sd := by cases t <;> cases sd <;> simp_all
def gc (cs : List Cl) (k : Nat) : Cl := cs.getD k Go.Abs.cl0
theorem gc_some {cs : List Cl} {k : Nat} (h : k < cs.length) : cs[k]? = some (gc cs k) := by simp [gc, List.getD, h]
theorem gc_mem {cs : List Cl} {k : Nat} (h : k < cs.length) : gc cs k ∈ cs := List.mem_of_getElem? (gc_some h)
theorem mem_gc {cs : List Cl} {c : Cl} (h : c ∈ cs) : ∃ k, k < cs.length ∧ gc cs k = c := by
 obtain ⟨k, hk, rfl⟩ := List.getElem_of_mem h
 exact ⟨k, hk, by simp [gc, List.getD, hk]⟩
/-- the outer switch of a call on a side (true: of its output) -/
def sw (s : Sp) (sd : Bool) (c : Cl) : Int := bif sd then c.o / s.E else c.i / s.E
def AtC (s : Sp) (sd : Bool) (x w : Int) (c : Cl) : Prop := sw s sd c = x ∧ c.v = w
instance (s : Sp) (sd : Bool) (x w : Int) (c : Cl) : Decidable (AtC s sd x w c) := by unfold AtC; infer_instance
theorem hit_sw {s : Sp} {sd : Bool} {c d : Cl} (h1 : sw s sd c = sw s sd d) (h2 : c.v = d.v) : Hit s c d := by
 cases sd
 ·exact .inr (.inr ⟨h2, .inl h1⟩)
 ·exact .inr (.inr ⟨h2, .inr h1⟩)
theorem CV.sw_one {s : Sp} {cs : List Cl} (h : CV s cs) {sd : Bool} {k l : Nat} (hk : k < cs.length) (hl : l < cs.length) (h1 : sw s sd (gc cs k) = sw s sd (gc cs l)) (h2 : (gc cs k).v = (gc cs l).v) : k = l :=
 h.one (gc_some hk) (gc_some hl) (hit_sw h1 h2)
/-- the last of the first n calls at an outer switch through a middle switch that is not in the chain -/
def nxt (s : Sp) (cs : List Cl) (ch : List Nat) (sd : Bool) (x w : Int) : Nat → Option Nat
 | 0 => none
 | n + 1 => if AtC s sd x w (gc cs n) ∧ n ∉ ch then some n else nxt s cs ch sd x w n
theorem nxt_none {s : Sp} {cs : List Cl} {ch : List Nat} {sd : Bool} {x w : Int} : ∀ {n : Nat}, nxt s cs ch sd x w n = none → ∀ l, l < n → AtC s sd x w (gc cs l) → l ∈ ch
 | 0, _, l, hl, _ => absurd hl (by omega)
 | n + 1, h, l, hl, hc => by
  unfold nxt at h
  split at h
  ·cases h
  ·rename_i hn
   by_cases e : l = n
   ·subst e; exact Classical.byContradiction fun hm => hn ⟨hc, hm⟩
   ·exact nxt_none h l (by omega) hc
theorem nxt_some {s : Sp} {cs : List Cl} {ch : List Nat} {sd : Bool} {x w : Int} : ∀ {n k : Nat}, nxt s cs ch sd x w n = some k → k < n ∧ AtC s sd x w (gc cs k) ∧ k ∉ ch
 | 0, k, h => by cases h
 | n + 1, k, h => by
  unfold nxt at h
  split at h
  ·rename_i hn
   cases h; exact ⟨by omega, hn⟩
  ·obtain ⟨a, b⟩ := nxt_some h
   exact ⟨by omega, b⟩
def wantOf (a b : Int) (sd : Bool) : Int := bif sd then a else b
/-- the chain -/
def go (s : Sp) (cs : List Cl) (a b : Int) : Nat → List Nat → Bool → Int → List Nat
 | 0, ch, _, _ => ch
 | f + 1, ch, sd, x => match nxt s cs ch sd x (wantOf a b sd) cs.length with
  | none => ch
  | some k => go s cs a b f (ch ++ [k]) (!sd) (sw s (!sd) (gc cs k))
def chain (s : Sp) (cs : List Cl) (a b : Int) (B : Int) : List Nat := go s cs a b cs.length [] true B
structure Inv (s : Sp) (cs : List Cl) (a b B : Int) (ch : List Nat) (sd : Bool) (x : Int) : Prop where
 nd : ch.Nodup
 lt : ∀ k ∈ ch, k < cs.length
 ab : ∀ k ∈ ch, (gc cs k).v = a ∨ (gc cs k).v = b
 from_ : ∀ k ∈ ch, (gc cs k).v = b → ∃ l ∈ ch, (gc cs l).v = a ∧ sw s false (gc cs l) = sw s false (gc cs k)
 fr : sd = false → ∃ l ∈ ch, (gc cs l).v = a ∧ sw s false (gc cs l) = x
 cl : ∀ k ∈ ch, ∀ t l, l < cs.length → sw s t (gc cs l) = sw s t (gc cs k) → (gc cs l).v = a + b - (gc cs k).v → l ∈ ch ∨ AtC s sd x (wantOf a b sd) (gc cs l)
 st : ∀ l, l < cs.length → AtC s true B a (gc cs l) → l ∈ ch ∨ AtC s sd x (wantOf a b sd) (gc cs l)
 six : ∀ l, l < cs.length → sw s sd (gc cs l) = x → (gc cs l).v = a + b - wantOf a b sd → l ∈ ch
section
variable {s : Sp} {cs : List Cl} {a b B : Int} (h : CV s cs) (hab : a ≠ b) (hB : ∀ l, l < cs.length → sw s true (gc cs l) = B → (gc cs l).v ≠ b)
include h hab hB
theorem inv_start : Inv s cs a b B [] true B where
 nd := List.nodup_nil
 lt := fun k hk => absurd hk (by simp)
 ab := fun k hk => absurd hk (by simp)
 from_ := fun k hk => absurd hk (by simp)
 fr := fun e => by cases e
 cl := fun k hk => absurd hk (by simp)
 st := fun l hl hc => .inr hc
 six := fun l hl h1 h2 => absurd (show (gc cs l).v = b by rw [h2]; show a + b - a = b; omega) (hB l hl h1)
theorem Inv.step {ch : List Nat} {sd : Bool} {x : Int} {k : Nat} (hi : Inv s cs a b B ch sd x) (hn : nxt s cs ch sd x (wantOf a b sd) cs.length = some k) : Inv s cs a b B (ch ++ [k]) (!sd) (sw s (!sd) (gc cs k)) := by
 obtain ⟨hk, ⟨k1, k2⟩, k3⟩ := nxt_some hn
 have one : ∀ l, l < cs.length → AtC s sd x (wantOf a b sd) (gc cs l) → l = k := fun l hl hc => h.sw_one (sd := sd) hl hk (by rw [hc.1, k1]) (by rw [hc.2, k2])
 have hw : wantOf a b (!sd) = a + b - wantOf a b sd := by cases sd <;> simp [wantOf] <;> omega
 refine ⟨?_, ?_, ?_, ?_, ?_, ?_, ?_, ?_⟩
 ·rw [List.nodup_append]
  refine ⟨hi.nd, by simp, fun y hy z hz e => ?_⟩
  rw [List.mem_singleton] at hz
  exact k3 (by rw [← hz, ← e]; exact hy)
 ·intro l hl
  rcases List.mem_append.1 hl with hl | hl
  ·exact hi.lt l hl
  ·rw [List.mem_singleton] at hl; omega
 ·intro l hl
  rcases List.mem_append.1 hl with hl | hl
  ·exact hi.ab l hl
  ·rw [List.mem_singleton] at hl
   subst hl
   rw [k2]; cases sd
   ·exact .inr rfl
   ·exact .inl rfl
 ·intro l hl hv
  rcases List.mem_append.1 hl with hl | hl
  ·obtain ⟨m, hm, h1, h2⟩ := hi.from_ l hl hv
   exact ⟨m, List.mem_append.2 (.inl hm), h1, h2⟩
  ·rw [List.mem_singleton] at hl
   subst hl
   rw [k2] at hv
   cases sd with
   | true => exact absurd hv hab
   | false =>
    obtain ⟨m, hm, h1, h2⟩ := hi.fr rfl
    exact ⟨m, List.mem_append.2 (.inl hm), h1, by rw [h2, k1]⟩
 ·intro e
  cases sd with
  | false => cases e
  | true => exact ⟨k, List.mem_append.2 (.inr (by simp)), k2, rfl⟩
 ·intro j hj t l hl h1 h2
  rcases List.mem_append.1 hj with hj | hj
  ·rcases hi.cl j hj t l hl h1 h2 with h3 | h3
   ·exact .inl (List.mem_append.2 (.inl h3))
   ·exact .inl (List.mem_append.2 (.inr (by rw [one l hl h3]; simp)))
  ·rw [List.mem_singleton] at hj
   subst hj
   rw [k2] at h2
   by_cases e : t = sd
   ·subst e
    exact .inl (List.mem_append.2 (.inl (hi.six l hl (by rw [h1, k1]) h2)))
   ·have e2 : t = !sd := b_ne e
    subst e2
    exact .inr ⟨h1, by rw [hw]; exact h2⟩
 ·intro l hl hc
  rcases hi.st l hl hc with h3 | h3
  ·exact .inl (List.mem_append.2 (.inl h3))
  ·exact .inl (List.mem_append.2 (.inr (by rw [one l hl h3]; simp)))
 ·intro l hl h1 h2
  have : l = k := h.sw_one (sd := !sd) hl hk h1 (by rw [h2, k2, hw]; omega)
  exact List.mem_append.2 (.inr (by rw [this]; simp))
structure Closed (s : Sp) (cs : List Cl) (a b B : Int) (ch : List Nat) : Prop where
 nd : ch.Nodup
 lt : ∀ k ∈ ch, k < cs.length
 ab : ∀ k ∈ ch, (gc cs k).v = a ∨ (gc cs k).v = b
 from_ : ∀ k ∈ ch, (gc cs k).v = b → ∃ l ∈ ch, (gc cs l).v = a ∧ sw s false (gc cs l) = sw s false (gc cs k)
 cl : ∀ k ∈ ch, ∀ t l, l < cs.length → sw s t (gc cs l) = sw s t (gc cs k) → (gc cs l).v = a + b - (gc cs k).v → l ∈ ch
 st : ∀ l, l < cs.length → AtC s true B a (gc cs l) → l ∈ ch
omit h hab hB in
theorem Inv.stop {ch : List Nat} {sd : Bool} {x : Int} (hi : Inv s cs a b B ch sd x) (hn : ∀ l, l < cs.length → AtC s sd x (wantOf a b sd) (gc cs l) → l ∈ ch) : Closed s cs a b B ch :=
 ⟨hi.nd, hi.lt, hi.ab, hi.from_, fun k hk t l hl h1 h2 => (hi.cl k hk t l hl h1 h2).elim id (hn l hl), fun l hl hc => (hi.st l hl hc).elim id (hn l hl)⟩
omit h hab hB in
theorem all_in {ch : List Nat} {n : Nat} (h1 : ch.Nodup) (h2 : ∀ k ∈ ch, k < n) (h3 : n ≤ ch.length) {l : Nat} (hl : l < n) : l ∈ ch :=
 Classical.byContradiction fun hm => by
  have := sub_len (xs := l :: ch) (ys := List.range n) (List.nodup_cons.2 ⟨hm, h1⟩) fun y hy => by
   rcases List.mem_cons.1 hy with rfl | hy
   ·exact List.mem_range.2 hl
   ·exact List.mem_range.2 (h2 y hy)
  simp at this; omega
theorem go_closed : ∀ (f : Nat) {ch : List Nat} {sd : Bool} {x : Int}, Inv s cs a b B ch sd x → cs.length ≤ ch.length + f → Closed s cs a b B (go s cs a b f ch sd x)
 | 0, ch, sd, x, hi, hf => hi.stop fun l hl _ => all_in hi.nd hi.lt hf hl
 | f + 1, ch, sd, x, hi, hf => by
  unfold go
  cases hn : nxt s cs ch sd x (wantOf a b sd) cs.length with
  | none => exact hi.stop (nxt_none hn)
  | some k => exact go_closed f (Inv.step h hab hB hi hn) (by simp; omega)
theorem chain_closed : Closed s cs a b B (chain s cs a b B) := go_closed h hab hB cs.length (inv_start h hab hB) (by simp)
end
/-- the calls, those of a chain moved -/
def flip (a b : Int) (ch : List Nat) (cs : List Cl) : List Cl := cs.mapIdx fun k c => if k ∈ ch then ⟨c.i, c.o, a + b - c.v⟩ else c
theorem flip_length (a b : Int) (ch : List Nat) (cs : List Cl) : (flip a b ch cs).length = cs.length := by simp [flip]
theorem flip_some {a b : Int} {ch : List Nat} {cs : List Cl} {k : Nat} {c : Cl} (h : (flip a b ch cs)[k]? = some c) : k < cs.length ∧ c.i = (gc cs k).i ∧ c.o = (gc cs k).o ∧ ((k ∈ ch ∧ c.v = a + b - (gc cs k).v) ∨ (k ∉ ch ∧ c.v = (gc cs k).v)) := by
 have hk : k < cs.length := by
  have := (List.getElem?_eq_some_iff.1 h).1
  rwa [flip_length] at this
 unfold flip at h
 rw [List.getElem?_mapIdx, gc_some hk] at h
 simp only [Option.map_some, Option.some.injEq] at h
 subst h
 refine ⟨hk, ?_⟩
 by_cases hm : k ∈ ch
 ·simp [hm]
 ·simp [hm]
theorem flip_gc {a b : Int} {ch : List Nat} {cs : List Cl} {k : Nat} (hk : k < cs.length) : gc (flip a b ch cs) k = if k ∈ ch then ⟨(gc cs k).i, (gc cs k).o, a + b - (gc cs k).v⟩ else gc cs k := by
 have h1 := gc_some (cs := flip a b ch cs) (k := k) (by rw [flip_length]; exact hk)
 unfold flip at h1
 rw [List.getElem?_mapIdx, gc_some hk] at h1
 simp only [Option.map_some, Option.some.injEq] at h1
 exact h1.symm
/-- with the chain moved the further call is possible -/
theorem flip_CV {s : Sp} {cs : List Cl} {a b i o : Int} {ch : List Nat} (h : CV s cs) (hl : Lines s i o) (hb : ¬ Busy cs i o) (ha : 0 ≤ a ∧ a ≤ s.M - 1) (hb2 : 0 ≤ b ∧ b ≤ s.M - 1)
  (hA : a ∉ usedI s cs (i / s.E)) (hB : b ∉ usedO s cs (o / s.E)) (hc : Closed s cs a b (o / s.E) ch) : CV s (flip a b ch cs ++ [⟨i, o, a⟩]) := by
 have hAk : ∀ k, k < cs.length → sw s false (gc cs k) = i / s.E → (gc cs k).v ≠ a := fun k hk e e2 => hA (mem_usedI.2 ⟨_, gc_mem hk, e, e2⟩)
 have hBk : ∀ k, k < cs.length → sw s true (gc cs k) = o / s.E → (gc cs k).v ≠ b := fun k hk e e2 => hB (mem_usedO.2 ⟨_, gc_mem hk, e, e2⟩)
 rw [CV_snoc]
 refine ⟨CV.of_index h.1 (fun c hcm => ?_) (fun k l c d hk hl2 hlt hh => ?_), ⟨hl.1, hl.2, ha⟩, fun d hd hh => ?_⟩
 ·obtain ⟨k, hk⟩ := List.mem_iff_getElem?.1 hcm
  obtain ⟨hk1, e1, e2, e3⟩ := flip_some hk
  have hr := h.2.1 _ (gc_mem hk1)
  refine ⟨by rw [e1]; exact hr.1, by rw [e2]; exact hr.2.1, ?_⟩
  rcases e3 with ⟨hm, e3⟩ | ⟨hm, e3⟩
  ·rw [e3]
   rcases hc.ab k hm with e | e <;> rw [e]
   ·rw [show a + b - a = b by omega]; exact hb2
   ·rw [show a + b - b = a by omega]; exact ha
  ·rw [e3]; exact hr.2.2
 ·obtain ⟨hk1, e1, e2, e3⟩ := flip_some hk
  obtain ⟨hl1, f1, f2, f3⟩ := flip_some hl2
  have hno := h.two (gc_some hk1) (gc_some hl1) (by omega)
  have key : ∀ t, sw s t (gc cs k) = sw s t (gc cs l) → c.v = d.v → False := fun t ht hv => by
   rcases e3 with ⟨m1, e3⟩ | ⟨m1, e3⟩ <;> rcases f3 with ⟨m2, f3⟩ | ⟨m2, f3⟩
   ·exact hno (hit_sw (sd := t) ht (by omega))
   ·exact m2 (hc.cl k m1 t l hl1 ht.symm (by omega))
   ·exact m1 (hc.cl l m2 t k hk1 ht (by omega))
   ·exact hno (hit_sw (sd := t) ht (by omega))
  rcases hh with e | e | ⟨e, g | g⟩
  ·exact hno (.inl (by rw [← e1, ← f1]; exact e))
  ·exact hno (.inr (.inl (by rw [← e2, ← f2]; exact e)))
  ·exact key false (by rw [e1, f1] at g; exact g) e
  ·exact key true (by rw [e2, f2] at g; exact g) e
 ·obtain ⟨k, hk⟩ := List.mem_iff_getElem?.1 hd
  obtain ⟨hk1, e1, e2, e3⟩ := flip_some hk
  rcases hh with e | e | ⟨e, g⟩
  ·exact hb ⟨_, gc_mem hk1, .inl (by rw [← e1]; exact e.symm)⟩
  ·exact hb ⟨_, gc_mem hk1, .inr (by rw [← e2]; exact e.symm)⟩
  ·rcases e3 with ⟨m1, e3⟩ | ⟨m1, e3⟩
   ·have hv : (gc cs k).v = b := by have : a = a + b - (gc cs k).v := e.trans e3; omega
    rcases g with g | g
    ·obtain ⟨m, hm, h1, h2⟩ := hc.from_ k m1 hv
     exact hAk m (hc.lt m hm) (by rw [h2]; rw [e1] at g; exact g.symm) h1
    ·exact hBk k hk1 (by rw [e2] at g; exact g.symm) hv
   ·have hv : (gc cs k).v = a := (e.trans e3).symm
    rcases g with g | g
    ·exact hAk k hk1 (by rw [e1] at g; exact g.symm) hv
    ·exact m1 (hc.st k hk1 ⟨by rw [e2] at g; exact g.symm, hv⟩)
end Go.Clos
namespace Go.Clos
theorem gc_append {cs ds : List Cl} {k : Nat} (h : k < cs.length) : gc (cs ++ ds) k = gc cs k := by simp [gc, List.getD, List.getElem?_append_left h]
theorem gc_last {cs : List Cl} {c : Cl} : gc (cs ++ [c]) cs.length = c := by simp [gc, List.getD]
/-- with a further call, if there are enough middle switches -/
def wayA (s : Sp) (cs : List Cl) (i : Int) : Int := firstN (usedI s cs (i / s.E)) s.M.toNat 0
def wayB (s : Sp) (cs : List Cl) (o : Int) : Int := firstN (usedO s cs (o / s.E)) s.M.toNat 0
def moveL (s : Sp) (cs : List Cl) (i o : Int) : List Cl :=
 match freeV s cs i o with
 | v :: _ => cs ++ [⟨i, o, v⟩]
 | [] => flip (wayA s cs i) (wayB s cs o) (chain s cs (wayA s cs i) (wayB s cs o) (o / s.E)) cs ++ [⟨i, o, wayA s cs i⟩]
section
variable {s : Sp} {cs : List Cl} {i o : Int} (hs : Enough s) (h : CV s cs) (hl : Lines s i o) (hb : ¬ Busy cs i o)
include hs h hl hb
theorem wayA_ok : (0 ≤ wayA s cs i ∧ wayA s cs i ≤ s.M - 1) ∧ wayA s cs i ∉ usedI s cs (i / s.E) := by
 have f1 := h.from_ (not_busyI hb)
 obtain ⟨⟨-, ⟨e1, e2⟩, -⟩, hm⟩ := hs
 obtain ⟨j, hj, h1, h2⟩ := firstN_some (used := usedI s cs (i / s.E)) (n := s.M.toNat) (by unfold usedI; rw [List.length_map]; omega)
 unfold wayA; rw [hj]; exact ⟨by omega, h2⟩
theorem wayB_ok : (0 ≤ wayB s cs o ∧ wayB s cs o ≤ s.M - 1) ∧ wayB s cs o ∉ usedO s cs (o / s.E) := by
 have f1 := h.to_ (not_busyO hb)
 obtain ⟨⟨-, ⟨e1, e2⟩, -⟩, hm⟩ := hs
 obtain ⟨j, hj, h1, h2⟩ := firstN_some (used := usedO s cs (o / s.E)) (n := s.M.toNat) (by unfold usedO; rw [List.length_map]; omega)
 unfold wayB; rw [hj]; exact ⟨by omega, h2⟩
theorem way_ne (hf : freeV s cs i o = []) : wayA s cs i ≠ wayB s cs o := fun e => by
 obtain ⟨a1, a2⟩ := wayA_ok hs h hl hb
 obtain ⟨b1, b2⟩ := wayB_ok hs h hl hb
 have := mem_freeV.2 ((free_iff h hl hb a1).2 ⟨a2, by rw [e]; exact b2⟩)
 rw [hf] at this; cases this
theorem way_free : ∀ l, l < cs.length → sw s true (gc cs l) = o / s.E → (gc cs l).v ≠ wayB s cs o := fun l hl2 e e2 =>
 (wayB_ok hs h hl hb).2 (mem_usedO.2 ⟨_, gc_mem hl2, e, e2⟩)
theorem chain_ok (hf : freeV s cs i o = []) : Closed s cs (wayA s cs i) (wayB s cs o) (o / s.E) (chain s cs (wayA s cs i) (wayB s cs o) (o / s.E)) :=
 chain_closed h (way_ne hs h hl hb hf) (way_free hs h hl hb)
theorem moveL_CV : CV s (moveL s cs i o) := by
 unfold moveL
 cases hf : freeV s cs i o with
 | cons v vs => exact mem_freeV.1 (by rw [hf]; simp)
 | nil =>
  obtain ⟨a1, a2⟩ := wayA_ok hs h hl hb
  obtain ⟨b1, b2⟩ := wayB_ok hs h hl hb
  exact flip_CV h hl hb a1 b1 a2 b2 (chain_ok hs h hl hb hf)
omit hs h hl hb in
theorem moveL_length : (moveL s cs i o).length = cs.length + 1 := by
 unfold moveL
 split
 ·simp
 ·simp [flip_length]
omit hs h hl hb in
theorem moveL_last : (gc (moveL s cs i o) cs.length).i = i ∧ (gc (moveL s cs i o) cs.length).o = o := by
 unfold moveL
 split
 ·rw [gc_last]; exact ⟨rfl, rfl⟩
 ·have := gc_last (cs := flip (wayA s cs i) (wayB s cs o) (chain s cs (wayA s cs i) (wayB s cs o) (o / s.E)) cs) (c := ⟨i, o, wayA s cs i⟩)
  rw [flip_length] at this
  rw [this]; exact ⟨rfl, rfl⟩
omit hs h hl hb in
theorem moveL_old {k : Nat} (hk : k < cs.length) : (gc (moveL s cs i o) k).i = (gc cs k).i ∧ (gc (moveL s cs i o) k).o = (gc cs k).o := by
 unfold moveL
 split
 ·rw [gc_append hk]; exact ⟨rfl, rfl⟩
 ·rw [gc_append (by rw [flip_length]; exact hk), flip_gc hk]
  split <;> exact ⟨rfl, rfl⟩
end
/-- without the call from an input -/
def dropL (cs : List Cl) (i : Int) : List Cl := cs.filter fun c => c.i ≠ i
theorem dropL_sub (cs : List Cl) (i : Int) : (dropL cs i).Sublist cs := List.filter_sublist
theorem dropL_no {cs : List Cl} {i : Int} (h : ∀ c ∈ cs, c.i ≠ i) : dropL cs i = cs := List.filter_eq_self.2 fun c hc => by simpa using h c hc
theorem dropL_gone {cs : List Cl} {i : Int} {c : Cl} (h : c ∈ dropL cs i) : c.i ≠ i := by simpa using (List.mem_filter.1 h).2
theorem dropL_take (cs : List Cl) (i : Int) {k : Nat} (hk : k < cs.length) : dropL (cs.take (k + 1)) i = dropL (cs.take k) i ++ if (gc cs k).i = i then [] else [gc cs k] := by
 unfold dropL
 rw [List.take_add_one, gc_some hk, List.filter_append]
 congr 1
 by_cases h : (gc cs k).i = i <;> simp [h]
theorem dropL_len {s : Sp} {cs : List Cl} (h : CV s cs) {i : Int} (hi : ∃ c ∈ cs, c.i = i) : (dropL cs i).length + 1 = cs.length := by
 obtain ⟨c, hc, rfl⟩ := hi
 have hn := h.ins
 clear h
 induction cs with
 | nil => cases hc
 | cons d ds ih =>
  rw [List.map_cons, List.nodup_cons] at hn
  unfold dropL
  rcases List.mem_cons.1 hc with rfl | hc
  ·have : dropL ds c.i = ds := dropL_no fun d hd e => hn.1 (List.mem_map.2 ⟨d, hd, e⟩)
   rw [List.filter_cons_of_neg (by simp)]
   unfold dropL at this; rw [this]; rfl
  ·have hne : d.i ≠ c.i := fun e => hn.1 (List.mem_map.2 ⟨c, hc, e.symm⟩)
   have := ih hc hn.2
   rw [List.filter_cons_of_pos (by simpa using hne)]
   unfold dropL at this
   simp only [List.length_cons]; omega
end Go.Clos
namespace Go.Proofs.YtofdnmlpfagibaaDoor
open Go Go.Abs Go.RowKit Go.Dial Go.Clos
/-- an exchange -/
structure Ex where
 s : Sp
 ps : List (List UInt8)
 cs : List Cl
deriving DecidableEq
def ex0 : Ex := ⟨⟨0, 0, 0⟩, [], []⟩
/-- nobody's input is an output -/
def SepC (cs : List Cl) : Prop := ∀ c ∈ cs, ∀ d ∈ cs, c.i ≠ d.o
instance (cs : List Cl) : Decidable (SepC cs) := inferInstanceAs (Decidable (∀ c ∈ cs, ∀ d ∈ cs, c.i ≠ d.o))
def ExOk (e : Ex) : Prop := Enough e.s ∧ PlanOk e.ps ∧ (e.ps.length : Int) = e.s.O * e.s.E ∧ CV e.s e.cs ∧ SepC e.cs
instance (e : Ex) : Decidable (ExOk e) := inferInstanceAs (Decidable (_ ∧ _ ∧ _ ∧ _ ∧ _))
/-- connected -/
def Pr (cs : List Cl) (x y : Int) : Prop := ∃ c ∈ cs, (c.i = x ∧ c.o = y) ∨ (c.o = x ∧ c.i = y)
theorem ins_inj {s : Sp} {cs : List Cl} (h : CV s cs) {c d : Cl} (hc : c ∈ cs) (hd : d ∈ cs) (e : c.i = d.i) : c = d := by
 obtain ⟨k, hk, rfl⟩ := mem_gc hc
 obtain ⟨l, hl, rfl⟩ := mem_gc hd
 rw [h.one (gc_some hk) (gc_some hl) (.inl e)]
theorem outs_inj {s : Sp} {cs : List Cl} (h : CV s cs) {c d : Cl} (hc : c ∈ cs) (hd : d ∈ cs) (e : c.o = d.o) : c = d := by
 obtain ⟨k, hk, rfl⟩ := mem_gc hc
 obtain ⟨l, hl, rfl⟩ := mem_gc hd
 rw [h.one (gc_some hk) (gc_some hl) (.inr (.inl e))]
theorem Pr.lines {s : Sp} {cs : List Cl} (h : CV s cs) {x y : Int} (h1 : Pr cs x y) : (0 ≤ x ∧ x ≤ s.O * s.E - 1) ∧ (0 ≤ y ∧ y ≤ s.O * s.E - 1) := by
 obtain ⟨c, hc, ⟨a1, a2⟩ | ⟨a1, a2⟩⟩ := h1
 ·have := h.2.1 c hc; rw [← a1, ← a2]; exact ⟨this.1, this.2.1⟩
 ·have := h.2.1 c hc; rw [← a1, ← a2]; exact ⟨this.2.1, this.1⟩
/-- the peer of a line: the first call that has it -/
def peerS : List Cl → Int → Int
 | [], _ => -1
 | c :: cs, x => if c.i = x then c.o else if c.o = x then c.i else peerS cs x
def peerV (e : Ex) (x : Int) : Int := if ExOk e then peerS e.cs x else -1
theorem peerS_spec : ∀ (cs : List Cl) (x : Int), Pr cs x (peerS cs x) ∨ (peerS cs x = -1 ∧ ∀ y, ¬ Pr cs x y)
 | [], x => .inr ⟨rfl, fun y ⟨c, hc, _⟩ => by cases hc⟩
 | c :: cs, x => by
  unfold peerS
  by_cases h1 : c.i = x
  ·rw [if_pos h1]; exact .inl ⟨c, by simp, .inl ⟨h1, rfl⟩⟩
  rw [if_neg h1]
  by_cases h2 : c.o = x
  ·rw [if_pos h2]; exact .inl ⟨c, by simp, .inr ⟨h2, rfl⟩⟩
  rw [if_neg h2]
  rcases peerS_spec cs x with ⟨d, hd, h⟩ | ⟨e, h⟩
  ·exact .inl ⟨d, by simp [hd], h⟩
  ·refine .inr ⟨e, fun y ⟨d, hd, hh⟩ => ?_⟩
   rcases List.mem_cons.1 hd with rfl | hd
   ·rcases hh with hh | hh
    ·exact h1 hh.1
    ·exact h2 hh.1
   ·exact h y ⟨d, hd, hh⟩
section
variable {s : Sp} {cs : List Cl} (h : CV s cs) (hs : SepC cs)
include h hs
omit hs in
theorem peer_neg {x : Int} : peerS cs x < 0 ↔ ∀ y, ¬ Pr cs x y := by
 constructor
 ·intro hn y hy
  rcases peerS_spec cs x with h1 | ⟨_, h1⟩
  ·have := (h1.lines h).2; omega
  ·exact h1 y hy
 ·intro hn
  rcases peerS_spec cs x with h1 | ⟨e, _⟩
  ·exact absurd h1 (hn _)
  ·omega
omit hs in
theorem peer_pos {x : Int} (hx : 0 ≤ peerS cs x) : Pr cs x (peerS cs x) := by
 rcases peerS_spec cs x with h1 | ⟨e, _⟩
 ·exact h1
 ·omega
end
/-- a further call -/
theorem pr_move {s : Sp} {cs : List Cl} {i o x y : Int} : Pr (moveL s cs i o) x y ↔ Pr cs x y ∨ (x = i ∧ y = o) ∨ (x = o ∧ y = i) := by
 have hl := moveL_length (s := s) (cs := cs) (i := i) (o := o)
 have hlast := moveL_last (s := s) (cs := cs) (i := i) (o := o)
 have hold := fun k hk => moveL_old (s := s) (cs := cs) (i := i) (o := o) (k := k) hk
 constructor
 ·rintro ⟨c, hc, hh⟩
  obtain ⟨k, hk, rfl⟩ := mem_gc hc
  by_cases hkl : k < cs.length
  ·obtain ⟨e1, e2⟩ := hold k hkl
   rw [e1, e2] at hh
   exact .inl ⟨_, gc_mem hkl, hh⟩
  ·obtain rfl : k = cs.length := by omega
   rw [hlast.1, hlast.2] at hh
   rcases hh with ⟨a, b⟩ | ⟨a, b⟩
   ·exact .inr (.inl ⟨a.symm, b.symm⟩)
   ·exact .inr (.inr ⟨a.symm, b.symm⟩)
 ·rintro (⟨c, hc, hh⟩ | ⟨rfl, rfl⟩ | ⟨rfl, rfl⟩)
  ·obtain ⟨k, hk, rfl⟩ := mem_gc hc
   obtain ⟨e1, e2⟩ := hold k hk
   exact ⟨_, gc_mem (show k < _ by omega), by rw [e1, e2]; exact hh⟩
  ·exact ⟨_, gc_mem (show cs.length < _ by omega), .inl hlast⟩
  ·exact ⟨_, gc_mem (show cs.length < _ by omega), .inr ⟨hlast.2, hlast.1⟩⟩
theorem move_ends {s : Sp} {cs : List Cl} {i o : Int} {c : Cl} (hc : c ∈ moveL s cs i o) : (c.i = i ∧ c.o = o) ∨ ∃ d ∈ cs, c.i = d.i ∧ c.o = d.o := by
 obtain ⟨k, hk, rfl⟩ := mem_gc hc
 rw [moveL_length] at hk
 by_cases hkl : k < cs.length
 ·exact .inr ⟨_, gc_mem hkl, moveL_old hkl⟩
 ·obtain rfl : k = cs.length := by omega
  exact .inl moveL_last
theorem move_sep {s : Sp} {cs : List Cl} (hs : SepC cs) {i o : Int} (hne : i ≠ o) (hi : ∀ y, ¬ Pr cs i y) (ho : ∀ y, ¬ Pr cs o y) : SepC (moveL s cs i o) := by
 intro c hc d hd
 rcases move_ends hc with ⟨a1, a2⟩ | ⟨c', hc', a1, a2⟩ <;> rcases move_ends hd with ⟨b1, b2⟩ | ⟨d', hd', b1, b2⟩
 ·rw [a1, b2]; exact hne
 ·rw [a1, b2]; exact fun e => hi d'.i ⟨d', hd', .inr ⟨e.symm, rfl⟩⟩
 ·rw [a1, b2]; exact fun e => ho c'.o ⟨c', hc', .inl ⟨e, rfl⟩⟩
 ·rw [a1, b2]; exact hs c' hc' d' hd'
/-- without a call -/
theorem pr_drop {s : Sp} {cs : List Cl} (h : CV s cs) (hs : SepC cs) {i o : Int} (hp : ∃ c ∈ cs, c.i = i ∧ c.o = o) {x y : Int} : Pr (dropL cs i) x y ↔ Pr cs x y ∧ x ≠ i ∧ x ≠ o := by
 obtain ⟨c0, h0, rfl, rfl⟩ := hp
 constructor
 ·rintro ⟨c, hc, hh⟩
  have hm := (dropL_sub cs c0.i).subset hc
  have hg := dropL_gone hc
  have hne : c.o ≠ c0.o := fun e => hg (by rw [outs_inj h hm h0 e])
  refine ⟨⟨c, hm, hh⟩, ?_⟩
  rcases hh with ⟨rfl, rfl⟩ | ⟨rfl, rfl⟩
  ·exact ⟨hg, hs c hm c0 h0⟩
  ·exact ⟨(hs c0 h0 c hm).symm, hne⟩
 ·rintro ⟨⟨c, hc, hh⟩, n1, n2⟩
  refine ⟨c, ?_, hh⟩
  unfold dropL
  refine List.mem_filter.2 ⟨hc, ?_⟩
  rcases hh with ⟨rfl, rfl⟩ | ⟨rfl, rfl⟩
  ·simpa using n1
  ·have : c.i ≠ c0.i := fun e => n2 (by rw [ins_inj h hc h0 e])
   simpa using this
theorem sep_sub {cs ds : List Cl} (hs : SepC cs) (hsub : ∀ c ∈ ds, c ∈ cs) : SepC ds := fun c hc d hd => hs c (hsub c hc) d (hsub d hd)
end Go.Proofs.YtofdnmlpfagibaaDoor
namespace Go.Proofs.YtofdnmlpfagibaaDoor
open Go Go.Abs Go.RowKit Go.Dial Go.Clos
variable {w0 : World}
/-- an exchange as a value -/
def exV (v1 v2 : Value) (e : Ex) : Value := .agg #[.int .i64 e.s.O, .int .i64 e.s.E, .int .i64 e.s.M, v1, v2]
/-- an exchange of one's own -/
def OwnX (β σ : AHeap) (v : Value) (e : Ex) : Prop := ∃ v1 v2, v = exV v1 v2 e ∧ OwnS β σ v1 e.ps ∧ OwnC β σ v2 e.cs
/-- an exchange that is only read -/
def ExV (σ : AHeap) (v : Value) (e : Ex) : Prop := ∃ v1 v2, v = exV v1 v2 e ∧ Texts σ v1 e.ps ∧ Tris σ v2 e.cs
/-- not too big -/
def ExB (e : Ex) : Prop := e.ps.length ≤ 1048576 ∧ (∀ x ∈ e.ps, x.length ≤ 1048576) ∧ e.cs.length ≤ 1048576
theorem OwnX.ex {β σ : AHeap} {v : Value} {e : Ex} (h : OwnX β σ v e) : ExV σ v e := let ⟨v1, v2, h1, h2, h3⟩ := h; ⟨v1, v2, h1, h2.texts, h3.tris⟩
theorem ExV.sub {σ τ : AHeap} {v : Value} {e : Ex} (h : ExV σ v e) (hs : Sub σ τ) : ExV τ v e := let ⟨v1, v2, h1, h2, h3⟩ := h; ⟨v1, v2, h1, h2.sub hs, h3.sub hs⟩
theorem texts_cellV {σ : AHeap} {v : Value} {xs : List (List UInt8)} (h : Texts σ v xs) : v.cells = #[v] ∧ Value.oneCell' v = true := by
 rcases h with ⟨rfl, rfl⟩ | ⟨g, o, rfl, -⟩ <;> exact ⟨rfl, rfl⟩
theorem tris_cellV {σ : AHeap} {v : Value} {xs : List Cl} (h : Tris σ v xs) : v.cells = #[v] ∧ Value.oneCell' v = true := by
 rcases h with ⟨rfl, rfl⟩ | ⟨g, o, rfl, -⟩ <;> exact ⟨rfl, rfl⟩
end Go.Proofs.YtofdnmlpfagibaaDoor
namespace Go.Proofs.YtofdnmlpfagibaaDoor
open Go Go.Abs Go.RowKit Go.Dial Go.Clos
def lineS (ps : List (List UInt8)) (t : List UInt8) : Int := match fstN (fun k => decide (ps.getD k [] = t)) 0 ps.length with | some k => k | none => -1
def lineV (e : Ex) (t : List UInt8) : Int := if ExOk e then lineS e.ps t else -1
theorem lineS_spec (ps : List (List UInt8)) (t : List UInt8) : (∃ k : Nat, k < ps.length ∧ lineS ps t = k ∧ ps.getD k [] = t) ∨ (lineS ps t = -1 ∧ ∀ k, k < ps.length → ps.getD k [] ≠ t) := by
 unfold lineS
 cases h : fstN (fun k => decide (ps.getD k [] = t)) 0 ps.length with
 | none => exact .inr ⟨rfl, fun k hk e => by have := fstN_none h (Nat.zero_le k) (by omega); exact absurd e (of_decide_eq_false this)⟩
 | some k =>
  obtain ⟨_, h1, h2⟩ := fstN_some h
  exact .inl ⟨k, by omega, rfl, by simpa using h2⟩
theorem lineS_lt {ps : List (List UInt8)} {t : List UInt8} : lineS ps t < ps.length := by
 rcases lineS_spec ps t with ⟨j, hj, e1, e2⟩ | ⟨e, _⟩
 ·omega
 ·omega
theorem lineS_ge {ps : List (List UInt8)} {t : List UInt8} : -1 ≤ lineS ps t := by
 rcases lineS_spec ps t with ⟨j, hj, e1, e2⟩ | ⟨e, _⟩ <;> omega
/-- the exchange after a deed that can be done -/
def doO (e : Ex) (d : Dd) : Option Ex :=
 if ¬ (0 ≤ d.l ∧ d.l ≤ (e.ps.length : Int) - 1) then none
 else if d.k = 0 then
  if lineS e.ps d.t < 0 ∨ lineS e.ps d.t = d.l ∨ 0 ≤ peerS e.cs d.l ∨ 0 ≤ peerS e.cs (lineS e.ps d.t) then none
  else some ⟨e.s, e.ps, moveL e.s e.cs d.l (lineS e.ps d.t)⟩
 else if d.k = 1 then
  if peerS e.cs d.l < 0 ∨ d.t ≠ [] then none
  else some ⟨e.s, e.ps, if (dropL e.cs d.l).length < e.cs.length then dropL e.cs d.l else dropL e.cs (peerS e.cs d.l)⟩
 else if d.k = 2 then
  if d.t = e.ps.getD d.l.toNat [] ∨ ¬ PlanOk (e.ps.set d.l.toNat d.t) then none
  else some ⟨e.s, e.ps.set d.l.toNat d.t, e.cs⟩
 else none
def exDo (e : Ex) (d : Dd) : Ex × Bool := if ExOk e then (match doO e d with | some x => (x, true) | none => (e, false)) else (ex0, false)
/-- what a deed that was done has done -/
structure Did (e : Ex) (d : Dd) (x : Ex) : Prop where
 ok : ExOk x
 s : x.s = e.s
 len : x.ps.length = e.ps.length
 ne : x ≠ e
 line : 0 ≤ d.l ∧ d.l < e.ps.length
 call : d.k = 0 → x.ps = e.ps ∧ (0 ≤ lineS e.ps d.t ∧ lineS e.ps d.t ≠ d.l) ∧ (∀ a b, Pr x.cs a b ↔ Pr e.cs a b ∨ (a = d.l ∧ b = lineS e.ps d.t) ∨ (a = lineS e.ps d.t ∧ b = d.l)) ∧ (∀ y, ¬ Pr e.cs d.l y) ∧ ∀ y, ¬ Pr e.cs (lineS e.ps d.t) y
 drop : d.k = 1 → x.ps = e.ps ∧ Pr e.cs d.l (peerS e.cs d.l) ∧ ∀ a b, Pr x.cs a b ↔ Pr e.cs a b ∧ a ≠ d.l ∧ a ≠ peerS e.cs d.l
 num : d.k = 2 → x.cs = e.cs
 kind : d.k = 0 ∨ d.k = 1 ∨ d.k = 2
/-- a call between two lines without calls can be put -/
theorem free_move {e : Ex} (h : ExOk e) {i o : Int} (hi : 0 ≤ i ∧ i < e.ps.length) (ho : 0 ≤ o ∧ o < e.ps.length) (hne : i ≠ o) (pi : ∀ y, ¬ Pr e.cs i y) (po : ∀ y, ¬ Pr e.cs o y) :
  Lines e.s i o ∧ ¬ Busy e.cs i o ∧ CV e.s (moveL e.s e.cs i o) ∧ SepC (moveL e.s e.cs i o) := by
 obtain ⟨h1, h2, h3, h4, h5⟩ := h
 have hl : Lines e.s i o := ⟨by omega, by omega⟩
 have hb : ¬ Busy e.cs i o := by
  rintro ⟨c, hc, rfl | rfl⟩
  ·exact pi c.o ⟨c, hc, .inl ⟨rfl, rfl⟩⟩
  ·exact po c.i ⟨c, hc, .inr ⟨rfl, rfl⟩⟩
 exact ⟨hl, hb, moveL_CV h1 h4 hl hb, move_sep h5 hne pi po⟩
theorem doO_did {e x : Ex} {d : Dd} (h : ExOk e) (hd : doO e d = some x) : Did e d x := by
 obtain ⟨h1, h2, h3, h4, h5⟩ := id h
 unfold doO at hd
 split at hd
 ·cases hd
 rename_i hl
 have hl : 0 ≤ d.l ∧ d.l < e.ps.length := by omega
 split at hd
 ·rename_i hk
  split at hd
  ·cases hd
  rename_i hn
  simp only [not_or] at hn
  obtain ⟨n1, n2, n3, n4⟩ := hn
  cases hd
  have pi := (peer_neg h4 (x := d.l)).1 (by omega)
  have po := (peer_neg h4 (x := lineS e.ps d.t)).1 (by omega)
  have hlt := lineS_lt (ps := e.ps) (t := d.t)
  obtain ⟨m1, m2, m3, m4⟩ := free_move h hl (show 0 ≤ lineS e.ps d.t ∧ lineS e.ps d.t < e.ps.length by omega) (fun e => n2 e.symm) pi po
  refine ⟨⟨h1, h2, h3, m3, m4⟩, rfl, rfl, fun ee => ?_, hl, fun _ => ⟨rfl, ⟨by omega, n2⟩, fun a b => pr_move, pi, po⟩, fun e => by omega, fun e => by omega, .inl hk⟩
  have := congrArg (fun e => e.cs.length) ee
  simp only [moveL_length] at this
  omega
 rename_i hk0
 split at hd
 ·rename_i hk
  split at hd
  ·cases hd
  rename_i hn
  simp only [not_or] at hn
  obtain ⟨n1, n2⟩ := hn
  cases hd
  have hp := peer_pos (s := e.s) (cs := e.cs) (x := d.l) h4 (by omega)
  -- the call that ends
  have key : ∃ i o, (∃ c ∈ e.cs, c.i = i ∧ c.o = o) ∧ ((i = d.l ∧ o = peerS e.cs d.l) ∨ (o = d.l ∧ i = peerS e.cs d.l)) ∧ (if (dropL e.cs d.l).length < e.cs.length then dropL e.cs d.l else dropL e.cs (peerS e.cs d.l)) = dropL e.cs i := by
   obtain ⟨c, hc, ⟨a1, a2⟩ | ⟨a1, a2⟩⟩ := hp
   ·have hlen := dropL_len h4 ⟨c, hc, a1⟩
    exact ⟨d.l, peerS e.cs d.l, ⟨c, hc, a1, a2⟩, .inl ⟨rfl, rfl⟩, if_pos (by omega)⟩
   ·have hno : dropL e.cs d.l = e.cs := dropL_no fun c' hc' e' => h5 c' hc' c hc (by rw [e', a1])
    exact ⟨peerS e.cs d.l, d.l, ⟨c, hc, a2, a1⟩, .inr ⟨rfl, rfl⟩, if_neg (by rw [hno]; omega)⟩
  obtain ⟨i, o, hio, hor, he⟩ := key
  rw [he]
  have hlen := dropL_len h4 (i := i) (by obtain ⟨c, hc, a, _⟩ := hio; exact ⟨c, hc, a⟩)
  refine ⟨⟨h1, h2, h3, h4.sub (dropL_sub _ _), sep_sub h5 fun c hc => (dropL_sub _ _).subset hc⟩, rfl, rfl, fun ee => ?_, hl, fun e => by omega, fun _ => ⟨rfl, hp, fun a b => ?_⟩, fun e => by omega, .inr (.inl hk)⟩
  ·have := congrArg (fun e => e.cs.length) ee
   simp only at this
   omega
  ·rw [pr_drop h4 h5 hio]
   rcases hor with ⟨rfl, rfl⟩ | ⟨rfl, rfl⟩
   ·exact Iff.rfl
   ·exact and_congr_right fun _ => And.comm
 rename_i hk1
 split at hd
 ·rename_i hk
  split at hd
  ·cases hd
  rename_i hn
  simp only [not_or] at hn
  obtain ⟨n1, n2⟩ := hn
  cases hd
  refine ⟨⟨h1, Classical.byContradiction n2, by rw [List.length_set]; exact h3, h4, h5⟩, rfl, by rw [List.length_set], fun ee => ?_, hl, fun e => by omega, fun e => by omega, fun _ => rfl, .inr (.inr hk)⟩
  have := congrArg (fun e => e.ps.getD d.l.toNat []) ee
  simp only [List.getD, List.getElem?_set, if_true] at this
  rw [if_pos (by omega)] at this
  exact n1 (by simpa [List.getD] using this)
 ·cases hd
section
variable {e x : Ex} {d : Dd} (h : ExOk e) (D : Did e d x)
include h D
end
end Go.Proofs.YtofdnmlpfagibaaDoor
namespace Go.Proofs.YtofdnmlpfagibaaDoor
open Go Go.Abs Go.RowKit Go.Dial Go.Clos
def w_no : List UInt8 := [110, 111]
def w_wrong : List UInt8 := [119, 114, 111, 110, 103]
def w_busy : List UInt8 := [98, 117, 115, 121]
def refuse (e : Ex) (d : Dd) : List UInt8 := if d.k ≠ 0 ∨ (e.ps.length : Int) ≤ d.l then w_no else if lineS e.ps d.t < 0 then w_wrong else w_busy
theorem ex_plan {e : Ex} (h : ExOk e) : 1 ≤ e.ps.length ∧ e.ps.length ≤ 10 ∧ e.ps.getD 0 [] ≠ [] := by
 obtain ⟨h1, h2, h3, -⟩ := h
 have := h1.1.lines
 have hl : 1 ≤ e.ps.length := by omega
 refine ⟨hl, h2.2, fun e0 => ?_⟩
 have := (h2.1 0 (by omega)).2.1.1
 rw [e0] at this; simp at this
end Go.Proofs.YtofdnmlpfagibaaDoor
namespace Go.Clos
theorem take_gc {cs : List Cl} {k : Nat} (h : k < cs.length) : cs.take (k + 1) = cs.take k ++ [gc cs k] := by
 rw [List.take_succ_eq_append_getElem h]; simp [gc, List.getD, h]
/-- one call more is possible -/
theorem CV_take {s : Sp} {cs : List Cl} {k : Nat} (hk : k < cs.length) : CV s (cs.take (k + 1)) ↔ CV s (cs.take k) ∧ Rg s (gc cs k) ∧ ∀ d ∈ cs.take k, ¬ Hit s (gc cs k) d := by
 rw [take_gc hk, CV_snoc]
theorem CV.take {s : Sp} {cs : List Cl} (h : CV s cs) (k : Nat) : CV s (cs.take k) := h.sub (List.take_sublist _ _)
end Go.Clos
namespace Go.Clos
theorem flip_nil (a b : Int) (cs : List Cl) : flip a b [] cs = cs := by
 apply List.ext_getElem?
 intro j
 unfold flip
 rw [List.getElem?_mapIdx]
 cases cs[j]? <;> simp
theorem flip_step {a b : Int} {ch : List Nat} {cs : List Cl} {k : Nat} (hk : k < cs.length) (hm : k ∉ ch) : (flip a b ch cs).set k ⟨(gc cs k).i, (gc cs k).o, a + b - (gc cs k).v⟩ = flip a b (ch ++ [k]) cs ∧ gc (flip a b ch cs) k = gc cs k := by
 refine ⟨?_, by rw [flip_gc hk, if_neg hm]⟩
 apply List.ext_getElem?
 intro j
 rw [List.getElem?_set]
 have hl := flip_length a b ch cs
 by_cases e : k = j
 ·subst e
  rw [if_pos rfl, if_pos (by omega)]
  unfold flip
  rw [List.getElem?_mapIdx, gc_some hk]
  simp
 ·rw [if_neg e]
  unfold flip
  rw [List.getElem?_mapIdx, List.getElem?_mapIdx]
  cases hj : cs[j]? with
  | none => rfl
  | some c =>
   have : j ≠ k := fun h => e h.symm
   simp [this]
/-- an index, or that there is none, as the reference writes it -/
def nI : Option Nat → Int
 | none => -1
 | some k => k
theorem nxt_succ (s : Sp) (cs : List Cl) (ch : List Nat) (sd : Bool) (x w : Int) (n : Nat) : nI (nxt s cs ch sd x w (n + 1)) = if AtC s sd x w (gc cs n) ∧ n ∉ ch then (n : Int) else nI (nxt s cs ch sd x w n) := by
 conv => lhs; rw [nxt]
 split <;> rfl
def chI (ch : List Nat) : List Int := ch.map fun (k : Nat) => (k : Int)
theorem chI_length (ch : List Nat) : (chI ch).length = ch.length := by simp [chI]
theorem chI_getD {ch : List Nat} {k : Nat} (h : k < ch.length) : (chI ch).getD k 0 = (ch.getD k 0 : Nat) := by simp [chI, List.getD, h]
theorem mem_chI {ch : List Nat} {k : Nat} : (k : Int) ∈ chI ch ↔ k ∈ ch := by
 simp only [chI, List.mem_map]
 constructor
 ·rintro ⟨j, hj, e⟩
  have : j = k := by omega
  rw [← this]; exact hj
 ·intro h; exact ⟨k, h, rfl⟩
theorem chI_snoc (ch : List Nat) (k : Nat) : chI (ch ++ [k]) = chI ch ++ [(k : Int)] := by simp [chI]
theorem go_none {s : Sp} {cs : List Cl} {a b : Int} {f : Nat} {ch : List Nat} {sd : Bool} {x : Int} (h : nxt s cs ch sd x (wantOf a b sd) cs.length = none) : go s cs a b f ch sd x = ch := by
 cases f with
 | zero => rfl
 | succ f => rw [go, h]
theorem go_some {s : Sp} {cs : List Cl} {a b : Int} {f : Nat} {ch : List Nat} {sd : Bool} {x : Int} {k : Nat} (h : nxt s cs ch sd x (wantOf a b sd) cs.length = some k) : go s cs a b (f + 1) ch sd x = go s cs a b f (ch ++ [k]) (!sd) (sw s (!sd) (gc cs k)) := by
 rw [go, h]
/-- there is room for a next one -/
theorem Inv.room {s : Sp} {cs : List Cl} {a b B : Int} {ch : List Nat} {sd : Bool} {x w : Int} {k : Nat} (hi : Inv s cs a b B ch sd x) (h : nxt s cs ch sd x w cs.length = some k) : ch.length < cs.length := by
 obtain ⟨h1, -, h3⟩ := nxt_some h
 have := sub_len (xs := k :: ch) (ys := List.range cs.length) (List.nodup_cons.2 ⟨h3, hi.nd⟩) fun y hy => by
  rcases List.mem_cons.1 hy with rfl | hy
  ·exact List.mem_range.2 h1
  ·exact List.mem_range.2 (hi.lt y hy)
 simp at this; omega
theorem wantOf_not (a b : Int) (sd : Bool) : wantOf a b (!sd) = a + b - wantOf a b sd := by cases sd <;> simp [wantOf] <;> omega
theorem usedI_take {s : Sp} {cs : List Cl} {x : Int} {k : Nat} (h : k < cs.length) : usedI s (cs.take (k + 1)) x = usedI s (cs.take k) x ++ if (gc cs k).i / s.E = x then [(gc cs k).v] else [] := by
 unfold usedI
 rw [take_gc h, List.filter_append, List.map_append]
 congr 1
 by_cases e : (gc cs k).i / s.E = x <;> simp [e]
theorem usedO_take {s : Sp} {cs : List Cl} {x : Int} {k : Nat} (h : k < cs.length) : usedO s (cs.take (k + 1)) x = usedO s (cs.take k) x ++ if (gc cs k).o / s.E = x then [(gc cs k).v] else [] := by
 unfold usedO
 rw [take_gc h, List.filter_append, List.map_append]
 congr 1
 by_cases e : (gc cs k).o / s.E = x <;> simp [e]
theorem used_length (s : Sp) (cs : List Cl) (x : Int) : (usedI s cs x).length ≤ cs.length ∧ (usedO s cs x).length ≤ cs.length := by
 unfold usedI usedO
 rw [List.length_map, List.length_map]
 exact ⟨List.length_filter_le _ _, List.length_filter_le _ _⟩
theorem firstN_step (used : List Int) (n k : Nat) : firstN used (n + 1) k = if (k : Int) ∈ used then firstN used n (k + 1) else k := rfl
end Go.Clos
namespace Go.Proofs.YtofdnmlpfagibaaDoor
open Go Go.Abs Go.RowKit Go.Clos
variable {w0 : World}
set_option maxRecDepth 8000 in
theorem specSV_at (σ : AHeap) (O E M : Int) : ACall Tryd.prog w0 88 [.agg #[.int .i64 O, .int .i64 E, .int .i64 M]] σ fun r σ' => r = .bool (decide (SV ⟨O, E, M⟩)) ∧ σ' = σ := by
 refine acall_go mixed Tryd.func88 rfl good88 fun pr => ?_
 simp -implicitDefEqProofs (disch := omega) only [Nat.reduceEqDiff, ↓reduceIte, vcu, ↓vcd]
 refine r_boxed fun b τ nb s1 e1 => ?_
 replace e1 : τ b = some ⟨[.int .i64 O, .int .i64 E, .int .i64 M], false⟩ := e1
 have lO : ld τ b (0 + 0) = some (.int .i64 O) := ld_of e1 rfl
 have lE : ld τ b (0 + 1) = some (.int .i64 E) := ld_of e1 rfl
 have lM : ld τ b (0 + 2) = some (.int .i64 M) := ld_of e1 rfl
 simp -implicitDefEqProofs (disch := omega) only [Nat.reduceEqDiff, ↓reduceIte, vcu, ↓vcd, lO, lE, lM]
 refine (in_calls τ O 1 4).mono ?_
 rintro r _ ⟨rfl, rfl⟩
 rename_i τ
 by_cases h1 : 1 ≤ O ∧ O ≤ 4
 case neg =>
  have hS : ¬ SV ⟨O, E, M⟩ := fun h => h1 h.1
  rw [decide_eq_false h1, decide_eq_false hS]
  simp -implicitDefEqProofs (disch := omega) only [Nat.reduceEqDiff, ↓reduceIte, vcu, ↓vcd, opK_some]
  refine fin_drop Tryd.results88 σ s1 ⟨?_, rfl⟩
  simp -implicitDefEqProofs (disch := omega) only [Nat.reduceEqDiff, ↓reduceIte, vcu, ↓vcd]
 rw [decide_eq_true h1]
 simp -implicitDefEqProofs (disch := omega) only [Nat.reduceEqDiff, ↓reduceIte, vcu, ↓vcd, opK_some, lO, lE, lM]
 refine (in_calls τ E 1 3).mono ?_
 rintro r _ ⟨rfl, rfl⟩
 rename_i τ
 by_cases h2 : 1 ≤ E ∧ E ≤ 3
 case neg =>
  have hS : ¬ SV ⟨O, E, M⟩ := fun h => h2 h.2.1
  rw [decide_eq_false h2, decide_eq_false hS]
  simp -implicitDefEqProofs (disch := omega) only [Nat.reduceEqDiff, ↓reduceIte, vcu, ↓vcd, opK_some]
  refine fin_drop Tryd.results88 σ s1 ⟨?_, rfl⟩
  simp -implicitDefEqProofs (disch := omega) only [Nat.reduceEqDiff, ↓reduceIte, vcu, ↓vcd]
 rw [decide_eq_true h2]
 simp -implicitDefEqProofs (disch := omega) only [Nat.reduceEqDiff, ↓reduceIte, vcu, ↓vcd, opK_some, lO, lE, lM]
 refine (in_calls τ M 1 5).mono ?_
 rintro r _ ⟨rfl, rfl⟩
 by_cases h3 : 1 ≤ M ∧ M ≤ 5
 ·have hS : SV ⟨O, E, M⟩ := ⟨h1, h2, h3⟩
  rw [decide_eq_true h3, decide_eq_true hS]
  simp -implicitDefEqProofs (disch := omega) only [Nat.reduceEqDiff, ↓reduceIte, vcu, ↓vcd, opK_some]
  refine fin_drop Tryd.results88 σ s1 ⟨?_, rfl⟩
  simp -implicitDefEqProofs (disch := omega) only [Nat.reduceEqDiff, ↓reduceIte, vcu, ↓vcd]
 ·have hS : ¬ SV ⟨O, E, M⟩ := fun h => h3 h.2.2
  rw [decide_eq_false h3, decide_eq_false hS]
  simp -implicitDefEqProofs (disch := omega) only [Nat.reduceEqDiff, ↓reduceIte, vcu, ↓vcd, opK_some]
  refine fin_drop Tryd.results88 σ s1 ⟨?_, rfl⟩
  simp -implicitDefEqProofs (disch := omega) only [Nat.reduceEqDiff, ↓reduceIte, vcu, ↓vcd]
set_option maxRecDepth 8000 in
theorem specLines_at (σ : AHeap) (O E M : Int) (hS : SV ⟨O, E, M⟩) : ACall Tryd.prog w0 69 [.agg #[.int .i64 O, .int .i64 E, .int .i64 M]] σ fun r σ' => r = .int .i64 (O * E) ∧ σ' = σ := by
 have hL := hS.lines
 dsimp only at hL
 refine acall_go mixed Tryd.func69 rfl good69 fun pr => ?_
 simp -implicitDefEqProofs (disch := omega) only [Nat.reduceEqDiff, ↓reduceIte, vcu, ↓vcd]
 refine r_boxed fun b τ nb s1 e1 => ?_
 replace e1 : τ b = some ⟨[.int .i64 O, .int .i64 E, .int .i64 M], false⟩ := e1
 have lO : ld τ b (0 + 0) = some (.int .i64 O) := ld_of e1 rfl
 have lE : ld τ b (0 + 1) = some (.int .i64 E) := ld_of e1 rfl
 simp -implicitDefEqProofs (disch := omega) only [Nat.reduceEqDiff, ↓reduceIte, vcu, ↓vcd, lO, lE]
 refine fin_drop Tryd.results69 σ s1 ⟨?_, rfl⟩
 simp -implicitDefEqProofs (disch := omega) only [Nat.reduceEqDiff, ↓reduceIte, vcu, ↓vcd]
set_option maxRecDepth 8000 in
theorem specEnough_at (σ : AHeap) (O E M : Int) : ACall Tryd.prog w0 68 [.agg #[.int .i64 O, .int .i64 E, .int .i64 M]] σ fun r σ' => r = .bool (decide (Enough ⟨O, E, M⟩)) ∧ σ' = σ := by
 refine acall_go mixed Tryd.func68 rfl good68 fun pr => ?_
 simp -implicitDefEqProofs (disch := omega) only [Nat.reduceEqDiff, ↓reduceIte, vcu, ↓vcd]
 refine r_boxed fun b τ nb s1 e1 => ?_
 replace e1 : τ b = some ⟨[.int .i64 O, .int .i64 E, .int .i64 M], false⟩ := e1
 have lE : ld τ b (0 + 1) = some (.int .i64 E) := ld_of e1 rfl
 have lM : ld τ b (0 + 2) = some (.int .i64 M) := ld_of e1 rfl
 have l3 : lds τ b 0 3 = some [.int .i64 O, .int .i64 E, .int .i64 M] := lds_three (ld_of e1 rfl) (ld_of e1 rfl) (ld_of e1 rfl)
 simp -implicitDefEqProofs (disch := omega) only [Nat.reduceEqDiff, ↓reduceIte, vcu, ↓vcd, l3, co42]
 refine (specSV_at τ O E M).mono ?_
 rintro r _ ⟨rfl, rfl⟩
 rename_i τ
 by_cases hS : SV ⟨O, E, M⟩
 case neg =>
  have hE : ¬ Enough ⟨O, E, M⟩ := fun h => hS h.1
  rw [decide_eq_false hS, decide_eq_false hE]
  simp -implicitDefEqProofs (disch := omega) only [Nat.reduceEqDiff, ↓reduceIte, vcu, ↓vcd, opK_some]
  refine fin_drop Tryd.results68 σ s1 ⟨?_, rfl⟩
  simp -implicitDefEqProofs (disch := omega) only [Nat.reduceEqDiff, ↓reduceIte, vcu, ↓vcd]
 rw [decide_eq_true hS]
 have hd : decide (Enough ⟨O, E, M⟩) = decide (E ≤ M) := by
  by_cases h : E ≤ M
  ·rw [decide_eq_true h, decide_eq_true (show Enough ⟨O, E, M⟩ from ⟨hS, h⟩)]
  ·rw [decide_eq_false h, decide_eq_false (fun hE : Enough ⟨O, E, M⟩ => h hE.2)]
 rw [hd]
 simp -implicitDefEqProofs (disch := omega) only [Nat.reduceEqDiff, ↓reduceIte, vcu, ↓vcd, opK_some, lE, lM]
 refine fin_drop Tryd.results68 σ s1 ⟨?_, rfl⟩
 simp -implicitDefEqProofs (disch := omega) only [Nat.reduceEqDiff, ↓reduceIte, vcu, ↓vcd]
set_option maxRecDepth 8000 in
theorem specCV_at (σ : AHeap) (O E M : Int) (h o : Nat) (cs : List Cl) (hv : TrisAt σ h o cs) (hl : cs.length ≤ 1048576) :
  ACall Tryd.prog w0 70 [.agg #[.int .i64 O, .int .i64 E, .int .i64 M], .slice (some ⟨h, o, none⟩) cs.length 3] σ fun r σ' => r = .bool (decide (CV ⟨O, E, M⟩ cs)) ∧ σ' = σ := by
 refine acall_go mixed Tryd.func70 rfl good70 fun pr => ?_
 simp -implicitDefEqProofs (disch := omega) only [Nat.reduceEqDiff, ↓reduceIte, vcu, ↓vcd]
 refine r_boxed fun b τ nb s1 e1 => ?_
 replace e1 : τ b = some ⟨[.int .i64 O, .int .i64 E, .int .i64 M], false⟩ := e1
 have l3 : lds τ b 0 3 = some [.int .i64 O, .int .i64 E, .int .i64 M] := lds_three (ld_of e1 rfl) (ld_of e1 rfl) (ld_of e1 rfl)
 simp -implicitDefEqProofs (disch := omega) only [Nat.reduceEqDiff, ↓reduceIte, vcu, ↓vcd, l3, co42]
 refine (specSV_at τ O E M).mono ?_
 rintro r _ ⟨rfl, rfl⟩
 rename_i τ
 by_cases hS : SV ⟨O, E, M⟩
 case neg =>
  rw [decide_eq_false hS, decide_eq_false (fun hC : CV ⟨O, E, M⟩ cs => hS hC.1)]
  simp -implicitDefEqProofs (disch := omega) only [Nat.reduceEqDiff, ↓reduceIte, vcu, ↓vcd, opK_some, Bool.not_false]
  refine fin_drop Tryd.results70 σ s1 ⟨?_, rfl⟩
  simp -implicitDefEqProofs (disch := omega) only [Nat.reduceEqDiff, ↓reduceIte, vcu, ↓vcd]
 rw [decide_eq_true hS]
 have hL := hS.lines
 have hS' := hS
 obtain ⟨-, ⟨hE1, hE2⟩, hM1, hM2⟩ := hS'
 dsimp only at hL hE1 hE2 hM1 hM2
 simp -implicitDefEqProofs (disch := omega) only [Nat.reduceEqDiff, ↓reduceIte, vcu, ↓vcd, opK_some, Bool.not_true]
 refine vc_loop_c mixed (by kernel_rfl) [1, 2] (fun m a τ' => ∃ k : Nat, m + k = cs.length ∧ a 5 = .int .i64 k ∧ Sub τ τ' ∧ CV ⟨O, E, M⟩ (cs.take k)) cs.length ⟨0, by simp, rfl, Sub.refl _, by simpa using CV_nil.2 hS⟩ ?_
 rintro m a τ1 hc ⟨k, hk, h5, hs, hC⟩
 simp -implicitDefEqProofs (disch := omega) only [Nat.reduceEqDiff, ↓reduceIte, vcu, ↓vcd] at hc
 obtain ⟨h1, h2, -⟩ := hc
 by_cases hlt : k < cs.length
 case neg =>
  obtain rfl : k = cs.length := by omega
  rw [List.take_length] at hC
  rw [decide_eq_true hC]
  simp -implicitDefEqProofs (disch := omega) only [Nat.reduceEqDiff, ↓reduceIte, vcu, ↓vcd, h1, h2, h5]
  refine fin_drop Tryd.results70 σ (s1.trans hs) ⟨?_, rfl⟩
  simp -implicitDefEqProofs (disch := omega) only [Nat.reduceEqDiff, ↓reduceIte, vcu, ↓vcd]
 have hx := ((hv.sub s1).sub hs).all hlt
 have hgk : cs.getD k cl0 = gc cs k := rfl
 have htk := CV_take (s := ⟨O, E, M⟩) hlt
 have bad : ¬ (Rg ⟨O, E, M⟩ (gc cs k) ∧ ∀ d ∈ cs.take k, ¬ Hit ⟨O, E, M⟩ (gc cs k) d) → ¬ CV ⟨O, E, M⟩ cs := fun hn hC => hn (htk.1 (hC.take (k + 1))).2
 rw [hgk] at hx
 generalize gc cs k = c at hx htk bad
 obtain ⟨ci, co, cv⟩ := c
 dsimp only at hx
 simp -implicitDefEqProofs (disch := omega) only [Nat.reduceEqDiff, ↓reduceIte, vcu, ↓vcd, h1, h2, h5, hx, co79]
 refine r_local (cs := #[.int .i64 ci, .int .i64 co, .int .i64 cv]) ze79 (by decide) z9q (by rw [co79]; rfl) rfl rfl (Nat.zero_lt_succ _) fun g τ2 ng s2 e2 => ?_
 replace e2 : τ2 g = some ⟨[.int .i64 ci, .int .i64 co, .int .i64 cv], false⟩ := e2
 have li : ld τ2 g (0 + 0) = some (.int .i64 ci) := ld_of e2 rfl
 have lo : ld τ2 g (0 + 1) = some (.int .i64 co) := ld_of e2 rfl
 have lv : ld τ2 g (0 + 2) = some (.int .i64 cv) := ld_of e2 rfl
 have hs2 := hs.trans s2
 have f1 := hs2 _ _ e1
 have m3 : lds τ2 b 0 3 = some [.int .i64 O, .int .i64 E, .int .i64 M] := lds_three (ld_of f1 rfl) (ld_of f1 rfl) (ld_of f1 rfl)
 have mM : ld τ2 b (0 + 2) = some (.int .i64 M) := ld_of f1 rfl
 simp -implicitDefEqProofs (disch := omega) only [Nat.reduceEqDiff, ↓reduceIte, vcu, ↓vcd, h1, h2, h5, li, lo, lv, m3, mM, co42]
 rw [r_callq]
 refine ⟨_, specLines_at τ2 O E M hS, ?_⟩
 simp -implicitDefEqProofs (disch := omega) only [Nat.reduceEqDiff, ↓reduceIte, vcu, ↓vcd, h1, h2, h5, li, lo, lv, m3, mM, co42]
 rw [r_callq]
 refine ⟨_, in_calls τ2 _ _ _, ?_⟩
 by_cases hI : 0 ≤ ci ∧ ci ≤ O * E - 1
 case neg =>
  have hn := bad fun hh => hI hh.1.1
  rw [decide_eq_false hI, decide_eq_false hn]
  simp -implicitDefEqProofs (disch := omega) only [Nat.reduceEqDiff, ↓reduceIte, vcu, ↓vcd, Bool.not_false]
  refine fin_drop Tryd.results70 σ (s1.trans hs2) ⟨?_, rfl⟩
  simp -implicitDefEqProofs (disch := omega) only [Nat.reduceEqDiff, ↓reduceIte, vcu, ↓vcd]
 rw [decide_eq_true hI]
 simp -implicitDefEqProofs (disch := omega) only [Nat.reduceEqDiff, ↓reduceIte, vcu, ↓vcd, h1, h2, h5, li, lo, lv, m3, mM, co42, Bool.not_true]
 rw [r_callq]
 refine ⟨_, specLines_at τ2 O E M hS, ?_⟩
 simp -implicitDefEqProofs (disch := omega) only [Nat.reduceEqDiff, ↓reduceIte, vcu, ↓vcd, h1, h2, h5, li, lo, lv, m3, mM, co42]
 rw [r_callq]
 refine ⟨_, in_calls τ2 _ _ _, ?_⟩
 by_cases hO : 0 ≤ co ∧ co ≤ O * E - 1
 case neg =>
  have hn := bad fun hh => hO hh.1.2.1
  rw [decide_eq_false hO, decide_eq_false hn]
  simp -implicitDefEqProofs (disch := omega) only [Nat.reduceEqDiff, ↓reduceIte, vcu, ↓vcd, Bool.not_false]
  refine fin_drop Tryd.results70 σ (s1.trans hs2) ⟨?_, rfl⟩
  simp -implicitDefEqProofs (disch := omega) only [Nat.reduceEqDiff, ↓reduceIte, vcu, ↓vcd]
 rw [decide_eq_true hO]
 simp -implicitDefEqProofs (disch := omega) only [Nat.reduceEqDiff, ↓reduceIte, vcu, ↓vcd, h1, h2, h5, li, lo, lv, m3, mM, co42, Bool.not_true]
 rw [r_callq]
 refine ⟨_, in_calls τ2 _ _ _, ?_⟩
 by_cases hV : 0 ≤ cv ∧ cv ≤ M - 1
 case neg =>
  have hn := bad fun hh => hV hh.1.2.2
  rw [decide_eq_false hV, decide_eq_false hn]
  simp -implicitDefEqProofs (disch := omega) only [Nat.reduceEqDiff, ↓reduceIte, vcu, ↓vcd, Bool.not_false]
  refine fin_drop Tryd.results70 σ (s1.trans hs2) ⟨?_, rfl⟩
  simp -implicitDefEqProofs (disch := omega) only [Nat.reduceEqDiff, ↓reduceIte, vcu, ↓vcd]
 rw [decide_eq_true hV]
 have hRg : Rg ⟨O, E, M⟩ ⟨ci, co, cv⟩ := ⟨hI, hO, hV⟩
 simp -implicitDefEqProofs (disch := omega) only [Nat.reduceEqDiff, ↓reduceIte, vcu, ↓vcd, h1, h2, h5, Bool.not_true]
 refine vc_loop_c mixed (by kernel_rfl) [1, 2, 5, 6] (fun m a τ' => ∃ j : Nat, m + j = k ∧ a 7 = .int .i64 j ∧ Sub τ2 τ' ∧ ∀ d ∈ cs.take j, ¬ Hit ⟨O, E, M⟩ ⟨ci, co, cv⟩ d) k ⟨0, by simp, rfl, Sub.refl _, by simp⟩ ?_
 rintro m2 a2 τ3 hc2 ⟨j, hj, h7, hs3, hN⟩
 simp -implicitDefEqProofs (disch := omega) only [Nat.reduceEqDiff, ↓reduceIte, vcu, ↓vcd, h1, h2, h5] at hc2
 obtain ⟨q1, q2, q5, q6, -⟩ := hc2
 by_cases hjk : j < k
 case neg =>
  obtain rfl : j = k := by omega
  simp -implicitDefEqProofs (disch := omega) only [Nat.reduceEqDiff, ↓reduceIte, vcu, ↓vcd, q1, q2, q5, q6, h7]
  refine ⟨⟨trivial, trivial, trivial⟩, m - 1, by omega, j + 1, by omega, by simp, hs2.trans hs3, ?_⟩
  rw [htk]
  exact ⟨hC, hRg, hN⟩
 have hjl : j < cs.length := by omega
 have hy := (((hv.sub s1).sub hs2).sub hs3).all hjl
 have hgj : cs.getD j cl0 = gc cs j := rfl
 have hdk : gc cs j ∈ cs.take k := List.mem_of_getElem? (i := j) (by rw [List.getElem?_take, if_pos hjk]; exact gc_some hjl)
 have hdr := hC.2.1 _ hdk
 have bad2 : Hit ⟨O, E, M⟩ ⟨ci, co, cv⟩ (gc cs j) → ¬ CV ⟨O, E, M⟩ cs := fun hh => bad fun h2 => h2.2 _ hdk hh
 have hjt := take_gc hjl
 rw [hgj] at hy
 generalize gc cs j = d at hy hdk hdr bad2 hjt
 obtain ⟨di, do', dv⟩ := d
 obtain ⟨⟨d1, d2⟩, ⟨d3, d4⟩, d5, d6⟩ := hdr
 dsimp only at hy d1 d2 d3 d4 d5 d6
 simp -implicitDefEqProofs (disch := omega) only [Nat.reduceEqDiff, ↓reduceIte, vcu, ↓vcd, q1, q2, q5, q6, h7, hy, co79]
 refine r_local (cs := #[.int .i64 di, .int .i64 do', .int .i64 dv]) ze79 (by decide) z9q (by rw [co79]; rfl) rfl rfl (Nat.zero_lt_succ _) fun g2 τ4 ng4 s4 e4 => ?_
 replace e4 : τ4 g2 = some ⟨[.int .i64 di, .int .i64 do', .int .i64 dv], false⟩ := e4
 have hs4 := hs3.trans s4
 have f2 := hs4 _ _ e2
 have f3 := hs4 _ _ f1
 have ki : ld τ4 g (0 + 0) = some (.int .i64 ci) := ld_of f2 rfl
 have ko : ld τ4 g (0 + 1) = some (.int .i64 co) := ld_of f2 rfl
 have kv : ld τ4 g (0 + 2) = some (.int .i64 cv) := ld_of f2 rfl
 have ji : ld τ4 g2 (0 + 0) = some (.int .i64 di) := ld_of e4 rfl
 have jo : ld τ4 g2 (0 + 1) = some (.int .i64 do') := ld_of e4 rfl
 have jv : ld τ4 g2 (0 + 2) = some (.int .i64 dv) := ld_of e4 rfl
 have lE : ld τ4 b (0 + 1) = some (.int .i64 E) := ld_of f3 rfl
 have fine : ¬ Hit ⟨O, E, M⟩ ⟨ci, co, cv⟩ ⟨di, do', dv⟩ → ∀ d ∈ cs.take (j + 1), ¬ Hit ⟨O, E, M⟩ ⟨ci, co, cv⟩ d := fun hn d hd => by
  rw [hjt] at hd
  rcases List.mem_append.1 hd with hd | hd
  ·exact hN d hd
  ·rw [List.mem_singleton] at hd; subst hd; exact hn
 by_cases c1 : ci = di
 ·rw [decide_eq_false (bad2 (.inl c1))]
  simp -implicitDefEqProofs (disch := omega) only [Nat.reduceEqDiff, ↓reduceIte, vcu, ↓vcd, q1, q2, q5, q6, h7, ki, ko, kv, ji, jo, jv, lE]
  refine fin_drop Tryd.results70 σ (s1.trans (hs2.trans hs4)) ⟨?_, rfl⟩
  simp -implicitDefEqProofs (disch := omega) only [Nat.reduceEqDiff, ↓reduceIte, vcu, ↓vcd]
 by_cases c2 : co = do'
 ·rw [decide_eq_false (bad2 (.inr (.inl c2)))]
  simp -implicitDefEqProofs (disch := omega) only [Nat.reduceEqDiff, ↓reduceIte, vcu, ↓vcd, q1, q2, q5, q6, h7, ki, ko, kv, ji, jo, jv, lE]
  refine fin_drop Tryd.results70 σ (s1.trans (hs2.trans hs4)) ⟨?_, rfl⟩
  simp -implicitDefEqProofs (disch := omega) only [Nat.reduceEqDiff, ↓reduceIte, vcu, ↓vcd]
 by_cases c3 : cv = dv
 case neg =>
  have hn := fine fun hh => hh.elim c1 fun hh => hh.elim c2 fun hh => c3 hh.1
  simp -implicitDefEqProofs (disch := omega) only [Nat.reduceEqDiff, ↓reduceIte, vcu, ↓vcd, q1, q2, q5, q6, h7, ki, ko, kv, ji, jo, jv, lE]
  exact ⟨⟨h1.symm, h2.symm, h5.symm, trivial, trivial⟩, m2 - 1, by omega, j + 1, by omega, by simp, hs4, hn⟩
 by_cases c4 : ci / E = di / E
 ·rw [decide_eq_false (bad2 (.inr (.inr ⟨c3, .inl c4⟩)))]
  simp -implicitDefEqProofs (disch := omega) only [Nat.reduceEqDiff, ↓reduceIte, vcu, ↓vcd, q1, q2, q5, q6, h7, ki, ko, kv, ji, jo, jv, lE]
  refine fin_drop Tryd.results70 σ (s1.trans (hs2.trans hs4)) ⟨?_, rfl⟩
  simp -implicitDefEqProofs (disch := omega) only [Nat.reduceEqDiff, ↓reduceIte, vcu, ↓vcd]
 by_cases c5 : co / E = do' / E
 ·rw [decide_eq_false (bad2 (.inr (.inr ⟨c3, .inr c5⟩)))]
  simp -implicitDefEqProofs (disch := omega) only [Nat.reduceEqDiff, ↓reduceIte, vcu, ↓vcd, q1, q2, q5, q6, h7, ki, ko, kv, ji, jo, jv, lE]
  refine fin_drop Tryd.results70 σ (s1.trans (hs2.trans hs4)) ⟨?_, rfl⟩
  simp -implicitDefEqProofs (disch := omega) only [Nat.reduceEqDiff, ↓reduceIte, vcu, ↓vcd]
 have hn := fine fun hh => hh.elim c1 fun hh => hh.elim c2 fun hh => hh.2.elim c4 c5
 simp -implicitDefEqProofs (disch := omega) only [Nat.reduceEqDiff, ↓reduceIte, vcu, ↓vcd, q1, q2, q5, q6, h7, ki, ko, kv, ji, jo, jv, lE]
 exact ⟨⟨h1.symm, h2.symm, h5.symm, trivial, trivial⟩, m2 - 1, by omega, j + 1, by omega, by simp, hs4, hn⟩
end Go.Proofs.YtofdnmlpfagibaaDoor
namespace Go.Proofs.YtofdnmlpfagibaaDoor
open Go Go.Abs Go.RowKit Go.Dial Go.Clos
variable {w0 : World}
theorem rowC {σ : AHeap} {v : Value} {cs : List Cl} (h : Tris σ v cs) (h0 : 0 < cs.length) : ∃ g o, v = .slice (some ⟨g, o, none⟩) cs.length 3 ∧ TrisAt σ g o cs := by
 rcases h with ⟨_, rfl⟩ | h
 ·simp at h0
 ·exact h
theorem rowT {σ : AHeap} {v : Value} {xs : List (List UInt8)} (h : Texts σ v xs) (h0 : 0 < xs.length) : ∃ g o, v = .slice (some ⟨g, o, none⟩) xs.length 1 ∧ TextsAt σ g o xs := by
 rcases h with ⟨_, rfl⟩ | h
 ·simp at h0
 ·exact h
theorem lenC {σ : AHeap} {v : Value} {cs : List Cl} (h : Tris σ v cs) : alenV Tryd.prog 44 v = some (.int .i64 (cs.length : Int)) := by
 rcases h with ⟨rfl, rfl⟩ | ⟨g, o, rfl, -⟩ <;> exact alenV_slice Tryd.underlying44
theorem lenT {σ : AHeap} {v : Value} {xs : List (List UInt8)} (h : Texts σ v xs) : alenV Tryd.prog 43 v = some (.int .i64 (xs.length : Int)) := by
 rcases h with ⟨rfl, rfl⟩ | ⟨g, o, rfl, -⟩ <;> exact alenV_slice Tryd.underlying43
theorem specCV_calls (σ : AHeap) (O E M : Int) (v : Value) (cs : List Cl) (hv : Tris σ v cs) (hl : cs.length ≤ 1048576) :
  ACall Tryd.prog w0 70 [.agg #[.int .i64 O, .int .i64 E, .int .i64 M], v] σ fun r σ' => r = .bool (decide (CV ⟨O, E, M⟩ cs)) ∧ σ' = σ :=
 ACall.tris_quiet (pre := [_]) (post := []) (by kernel_rfl) hv fun σ1 h o _ hg => specCV_at σ1 O E M h o cs hg hl
theorem sep_of {cs : List Cl} (h : ∀ k, k < cs.length → ∀ j, j < cs.length → (gc cs k).i ≠ (gc cs j).o) : SepC cs := by
 intro c hc d hd
 obtain ⟨k, hk, rfl⟩ := mem_gc hc
 obtain ⟨j, hj, rfl⟩ := mem_gc hd
 exact h k hk j hj
set_option maxRecDepth 8000 in
theorem exVal_calls (σ : AHeap) (v : Value) (e : Ex) (hv : ExV σ v e) (hb : ExB e) :
  ACall Tryd.prog w0 53 [v] σ fun r σ' => r = .bool (decide (ExOk e)) ∧ σ' = σ := by
 obtain ⟨⟨O, E, M⟩, ps, cs⟩ := e
 obtain ⟨v1, v2, rfl, t1, t2⟩ := hv
 obtain ⟨b1, b2, b3⟩ := hb
 dsimp only at t1 t2 b1 b2 b3
 unfold exV
 refine acall_go mixed Tryd.func53 rfl good53 fun pr => ?_
 simp -implicitDefEqProofs (disch := omega) only [Nat.reduceEqDiff, ↓reduceIte, vcu, ↓vcd]
 refine r_boxed fun b τ nb s1 e1 => ?_
 replace e1 : τ b = some ⟨[.int .i64 O, .int .i64 E, .int .i64 M, v1, v2], false⟩ := e1
 have x0 : lds τ b 0 3 = some [.int .i64 O, .int .i64 E, .int .i64 M] := lds_three (ld_of e1 rfl) (ld_of e1 rfl) (ld_of e1 rfl)
 have x3 : ld τ b (0 + 3) = some v1 := ld_of e1 rfl
 have x4 : ld τ b (0 + 4) = some v2 := ld_of e1 rfl
 have l1 := lenT (t1.sub s1)
 have l2 := lenC (t2.sub s1)
 simp -implicitDefEqProofs (disch := omega) only [Nat.reduceEqDiff, ↓reduceIte, vcu, ↓vcd, x0, co42, Nat.add_zero]
 rw [r_callq]
 refine ⟨_, specEnough_at τ O E M, ?_⟩
 by_cases hE : Enough ⟨O, E, M⟩
 case neg =>
  rw [decide_eq_false hE]
  simp -implicitDefEqProofs (disch := omega) only [Nat.reduceEqDiff, ↓reduceIte, vcu, ↓vcd, Bool.not_false]
  refine fin_drop Tryd.results53 σ s1 ⟨?_, rfl⟩
  simp -implicitDefEqProofs (disch := omega) only [Nat.reduceEqDiff, ↓reduceIte, vcu, ↓vcd]
  rw [decide_eq_false fun h => hE h.1]
 rw [decide_eq_true hE]
 simp -implicitDefEqProofs (disch := omega) only [Nat.reduceEqDiff, ↓reduceIte, vcu, ↓vcd, Bool.not_true, x3]
 rw [r_callq]
 refine ⟨_, planValid_calls τ v1 ps (t1.sub s1) b1 b2, ?_⟩
 by_cases hP : PlanOk ps
 case neg =>
  rw [decide_eq_false hP]
  simp -implicitDefEqProofs (disch := omega) only [Nat.reduceEqDiff, ↓reduceIte, vcu, ↓vcd, Bool.not_false]
  refine fin_drop Tryd.results53 σ s1 ⟨?_, rfl⟩
  simp -implicitDefEqProofs (disch := omega) only [Nat.reduceEqDiff, ↓reduceIte, vcu, ↓vcd]
  rw [decide_eq_false fun h => hP h.2.1]
 rw [decide_eq_true hP]
 simp -implicitDefEqProofs (disch := omega) only [Nat.reduceEqDiff, ↓reduceIte, vcu, ↓vcd, Bool.not_true, x3, x0, l1, co42, Nat.add_zero]
 rw [r_callq]
 refine ⟨_, specLines_at τ O E M hE.1, ?_⟩
 by_cases hL : (ps.length : Int) = O * E
 case neg =>
  have d : decide ((ps.length : Int) ≠ O * E) = true := decide_eq_true hL
  simp -implicitDefEqProofs (disch := omega) only [Nat.reduceEqDiff, ↓reduceIte, vcu, ↓vcd, d]
  refine fin_drop Tryd.results53 σ s1 ⟨?_, rfl⟩
  simp -implicitDefEqProofs (disch := omega) only [Nat.reduceEqDiff, ↓reduceIte, vcu, ↓vcd]
  rw [decide_eq_false fun h => hL h.2.2.1]
 have d : decide ((ps.length : Int) ≠ O * E) = false := decide_eq_false fun h => h hL
 simp -implicitDefEqProofs (disch := omega) only [Nat.reduceEqDiff, ↓reduceIte, vcu, ↓vcd, d, x0, x4, co42, Nat.add_zero]
 rw [r_callq]
 refine ⟨_, specCV_calls τ O E M v2 cs (t2.sub s1) b3, ?_⟩
 by_cases hC : CV ⟨O, E, M⟩ cs
 case neg =>
  rw [decide_eq_false hC]
  simp -implicitDefEqProofs (disch := omega) only [Nat.reduceEqDiff, ↓reduceIte, vcu, ↓vcd, Bool.not_false]
  refine fin_drop Tryd.results53 σ s1 ⟨?_, rfl⟩
  simp -implicitDefEqProofs (disch := omega) only [Nat.reduceEqDiff, ↓reduceIte, vcu, ↓vcd]
  rw [decide_eq_false fun h => hC h.2.2.2.1]
 rw [decide_eq_true hC]
 simp -implicitDefEqProofs (disch := omega) only [Nat.reduceEqDiff, ↓reduceIte, vcu, ↓vcd, Bool.not_true]
 refine vc_loop_c mixed (by kernel_rfl) [1] (fun m a σ' => ∃ k : Nat, m + k = cs.length ∧ a 3 = .int .i64 k ∧ (∀ i, i < k → ∀ j, j < cs.length → (gc cs i).i ≠ (gc cs j).o) ∧ σ' = τ) cs.length ⟨0, by simp, rfl, fun i hi => absurd hi (by omega), rfl⟩ ?_
 rintro m a _ hc ⟨k, hk, h3, hall, rfl⟩
 rename_i τ
 simp -implicitDefEqProofs (disch := omega) only [Nat.reduceEqDiff, ↓reduceIte, vcu, ↓vcd] at hc
 obtain ⟨h1, -⟩ := hc
 by_cases hlt : k < cs.length
 case neg =>
  simp -implicitDefEqProofs (disch := omega) only [Nat.reduceEqDiff, ↓reduceIte, vcu, ↓vcd, h1, h3, x4, l2]
  refine fin_drop Tryd.results53 σ s1 ⟨?_, rfl⟩
  simp -implicitDefEqProofs (disch := omega) only [Nat.reduceEqDiff, ↓reduceIte, vcu, ↓vcd]
  rw [decide_eq_true ⟨hE, hP, hL, hC, sep_of (cs := cs) fun i hi j hj => hall i (by omega) j hj⟩]
 simp -implicitDefEqProofs (disch := omega) only [Nat.reduceEqDiff, ↓reduceIte, vcu, ↓vcd, h1, h3, x4, l2]
 refine vc_loop_c mixed (by kernel_rfl) [1, 3] (fun m a σ' => ∃ j : Nat, m + j = cs.length ∧ a 4 = .int .i64 j ∧ (∀ i, i < j → (gc cs k).i ≠ (gc cs i).o) ∧ σ' = τ) cs.length ⟨0, by simp, rfl, fun i hi => absurd hi (by omega), rfl⟩ ?_
 rintro m2 a2 _ hc2 ⟨j, hj, h4, hin, rfl⟩
 rename_i τ
 simp -implicitDefEqProofs (disch := omega) only [Nat.reduceEqDiff, ↓reduceIte, vcu, ↓vcd, h1, h3] at hc2
 obtain ⟨g1, g3, -⟩ := hc2
 by_cases hjl : j < cs.length
 case neg =>
  simp -implicitDefEqProofs (disch := omega) only [Nat.reduceEqDiff, ↓reduceIte, vcu, ↓vcd, g1, g3, h4, x4, l2]
  refine ⟨⟨by first | trivial | exact h1.symm, trivial⟩, m - 1, by omega, k + 1, by omega, by simp, fun i hi j' hj' => ?_, trivial⟩
  by_cases e : i = k
  ·subst e; exact hin j' (by omega)
  ·exact hall i (by omega) j' hj'
 obtain ⟨hg, ho, rfl, hrow⟩ := rowC (t2.sub s1) (by omega)
 have hx := (hrow k hlt).1
 have hy := (hrow j hjl).2.1
 have hgk : cs.getD k cl0 = gc cs k := rfl
 have hgj : cs.getD j cl0 = gc cs j := rfl
 rw [hgk] at hx
 rw [hgj] at hy
 by_cases hij : (gc cs k).i = (gc cs j).o
 ·have d2 : decide ((gc cs k).i = (gc cs j).o) = true := decide_eq_true hij
  simp -implicitDefEqProofs (disch := omega) only [Nat.reduceEqDiff, ↓reduceIte, vcu, ↓vcd, g1, g3, h4, x4, hx, hy, d2, Nat.add_zero]
  refine fin_drop Tryd.results53 σ s1 ⟨?_, rfl⟩
  simp -implicitDefEqProofs (disch := omega) only [Nat.reduceEqDiff, ↓reduceIte, vcu, ↓vcd]
  rw [decide_eq_false fun h => h.2.2.2.2 _ (gc_mem hlt) _ (gc_mem hjl) hij]
 ·have d2 : decide ((gc cs k).i = (gc cs j).o) = false := decide_eq_false hij
  simp -implicitDefEqProofs (disch := omega) only [Nat.reduceEqDiff, ↓reduceIte, vcu, ↓vcd, g1, g3, h4, x4, hx, hy, d2, Nat.add_zero]
  refine ⟨⟨by first | trivial | exact h1.symm, by first | trivial | exact h3.symm, trivial⟩, m2 - 1, by omega, j + 1, by omega, by simp, fun i hi => ?_, trivial⟩
  by_cases e : i = j
  ·subst e; exact hij
  ·exact hin i (by omega)
theorem drop_gc {cs : List Cl} {k : Nat} (h : k < cs.length) : cs.drop k = gc cs k :: cs.drop (k + 1) := by
 rw [List.drop_eq_getElem_cons h]; simp [gc, List.getD, h]
set_option maxRecDepth 8000 in
theorem peerOf_calls (σ : AHeap) (v : Value) (e : Ex) (x : Int) (hv : ExV σ v e) (hb : ExB e) :
  ACall Tryd.prog w0 55 [v, .int .i64 x] σ fun r σ' => r = .int .i64 (peerV e x) ∧ σ' = σ := by
 have hv0 := hv
 obtain ⟨⟨O, E, M⟩, ps, cs⟩ := e
 obtain ⟨v1, v2, rfl, t1, t2⟩ := hv
 have hb0 := hb
 obtain ⟨b1, b2, b3⟩ := hb
 dsimp only at t1 t2 b1 b2 b3
 unfold exV
 refine acall_go mixed Tryd.func55 rfl good55 fun pr => ?_
 simp -implicitDefEqProofs (disch := omega) only [Nat.reduceEqDiff, ↓reduceIte, vcu, ↓vcd]
 refine r_boxed fun b τ nb s1 e1 => ?_
 replace e1 : τ b = some ⟨[.int .i64 O, .int .i64 E, .int .i64 M, v1, v2], false⟩ := e1
 have x5 : lds τ b 0 5 = some [.int .i64 O, .int .i64 E, .int .i64 M, v1, v2] := by rw [lds_of e1 (by simp)]; rfl
 have x4 : ld τ b (0 + 4) = some v2 := ld_of e1 rfl
 have l2 := lenC (t2.sub s1)
 have hval := exVal_calls (w0 := w0) τ (exV v1 v2 ⟨⟨O, E, M⟩, ps, cs⟩) ⟨⟨O, E, M⟩, ps, cs⟩ (hv0.sub s1) hb0
 unfold exV at hval
 dsimp only at hval
 simp -implicitDefEqProofs (disch := omega) only [Nat.reduceEqDiff, ↓reduceIte, vcu, ↓vcd]
 refine vc_loop_c mixed (by kernel_rfl) [1, 2] (fun m a σ' => ∃ k : Nat, m + k = cs.length ∧ a 5 = .int .i64 k ∧ (0 < k → ExOk ⟨⟨O, E, M⟩, ps, cs⟩) ∧ peerS cs x = peerS (cs.drop k) x ∧ σ' = τ) cs.length ⟨0, by simp, rfl, fun h => absurd h (by omega), rfl, rfl⟩ ?_
 rintro m a _ hc ⟨k, hk, h5, hk0, hp, rfl⟩
 rename_i τ
 simp -implicitDefEqProofs (disch := omega) only [Nat.reduceEqDiff, ↓reduceIte, vcu, ↓vcd] at hc
 obtain ⟨h1, h2, -⟩ := hc
 by_cases hlt : k < cs.length
 case neg =>
  obtain rfl : k = cs.length := by omega
  simp -implicitDefEqProofs (disch := omega) only [Nat.reduceEqDiff, ↓reduceIte, vcu, ↓vcd, h1, h2, h5, x4, l2]
  refine fin_drop Tryd.results55 σ s1 ⟨?_, rfl⟩
  simp -implicitDefEqProofs (disch := omega) only [Nat.reduceEqDiff, ↓reduceIte, vcu, ↓vcd]
  rw [List.drop_length] at hp
  unfold peerV
  split
  ·show _ = Value.int .i64 (peerS cs x); rw [hp]; rfl
  ·rfl
 by_cases hok : ExOk ⟨⟨O, E, M⟩, ps, cs⟩
 case neg =>
  rw [decide_eq_false hok] at hval
  simp -implicitDefEqProofs (disch := omega) only [Nat.reduceEqDiff, ↓reduceIte, vcu, ↓vcd, h1, h2, h5, x4, l2, x5, co46]
  refine hval.mono ?_
  rintro _ _ ⟨rfl, rfl⟩
  simp -implicitDefEqProofs (disch := omega) only [Nat.reduceEqDiff, ↓reduceIte, vcu, ↓vcd, opK_some]
  refine fin_drop Tryd.results55 σ s1 ⟨?_, rfl⟩
  simp -implicitDefEqProofs (disch := omega) only [Nat.reduceEqDiff, ↓reduceIte, vcu, ↓vcd]
  rw [peerV, if_neg hok]
 rw [decide_eq_true hok] at hval
 have hpv : peerV ⟨⟨O, E, M⟩, ps, cs⟩ x = peerS cs x := if_pos hok
 rw [drop_gc hlt] at hp
 obtain ⟨hg, ho, rfl, hrow⟩ := rowC (t2.sub s1) (by omega)
 obtain ⟨hx, hy, -⟩ := hrow k hlt
 have hgk : cs.getD k cl0 = gc cs k := rfl
 rw [hgk] at hx hy
 have hpc : peerS (gc cs k :: cs.drop (k + 1)) x = if (gc cs k).i = x then (gc cs k).o else if (gc cs k).o = x then (gc cs k).i else peerS (cs.drop (k + 1)) x := rfl
 rw [hpc] at hp
 simp -implicitDefEqProofs (disch := omega) only [Nat.reduceEqDiff, ↓reduceIte, vcu, ↓vcd, h1, h2, h5, x4, l2, x5, co46]
 refine hval.mono ?_
 rintro _ _ ⟨rfl, rfl⟩
 rename_i τ
 by_cases hi : (gc cs k).i = x
 ·have d : decide ((gc cs k).i = x) = true := decide_eq_true hi
  rw [if_pos hi] at hp
  simp -implicitDefEqProofs (disch := omega) only [Nat.reduceEqDiff, ↓reduceIte, vcu, ↓vcd, opK_some, h1, h2, h5, x4, hx, hy, d, Nat.add_zero]
  refine fin_drop Tryd.results55 σ s1 ⟨?_, rfl⟩
  simp -implicitDefEqProofs (disch := omega) only [Nat.reduceEqDiff, ↓reduceIte, vcu, ↓vcd]
  rw [hpv, hp]
 have d : decide ((gc cs k).i = x) = false := decide_eq_false hi
 rw [if_neg hi] at hp
 by_cases ho' : (gc cs k).o = x
 ·have d2 : decide ((gc cs k).o = x) = true := decide_eq_true ho'
  rw [if_pos ho'] at hp
  simp -implicitDefEqProofs (disch := omega) only [Nat.reduceEqDiff, ↓reduceIte, vcu, ↓vcd, opK_some, h1, h2, h5, x4, hx, hy, d, d2, Nat.add_zero]
  refine fin_drop Tryd.results55 σ s1 ⟨?_, rfl⟩
  simp -implicitDefEqProofs (disch := omega) only [Nat.reduceEqDiff, ↓reduceIte, vcu, ↓vcd]
  rw [hpv, hp]
 have d2 : decide ((gc cs k).o = x) = false := decide_eq_false ho'
 rw [if_neg ho'] at hp
 simp -implicitDefEqProofs (disch := omega) only [Nat.reduceEqDiff, ↓reduceIte, vcu, ↓vcd, opK_some, h1, h2, h5, x4, hx, hy, d, d2, Nat.add_zero]
 exact ⟨⟨trivial, trivial, trivial⟩, m - 1, by omega, k + 1, by omega, by simp, fun _ => hok, hp, trivial⟩
end Go.Proofs.YtofdnmlpfagibaaDoor
namespace Go.Proofs.YtofdnmlpfagibaaDoor
open Go Go.Abs Go.RowKit Go.Dial Go.Clos
section
variable {P : Program} {w0 : Base} {n : NR} {a : AFrame} {σ : AHeap} {K : AK} {Q : AQ} {q : Bool} {all os : List Oper}
variable {d : Nat} {dd : Option Tmp} {ty : TypeId} {pos : String} {af : Array Edge}
/-- append a row of texts that may be nil to a row of one's own -/
theorem r_pushXV {t u : TypeId} {zv : Value} {b : Nat} {x y : Operand} {g len : Nat} {xs ys : List (List UInt8)} (hE : Elems P t 1 zv b) (hb : b ≤ 64) (hu : ∃ e2, P.underlying u = some (.slice e2))
  (hx : ev a x = .slice (some ⟨g, 0, none⟩) len 1) (hg : σ g = some ⟨texts xs, false⟩) (hn : xs.length = len) (hy : Texts σ (ev a y) ys) (hl : len + ys.length ≤ 4294967296)
  (hk : ∀ g' τ, σ g' = none → Kept g σ τ → τ g' = some ⟨texts (xs ++ ys), false⟩ → vcR P w0 false all os (fset a d (.slice (some ⟨g', 0, none⟩) (len + ys.length) 1)) τ K) :
  vcR P w0 false all (⟨some d, .call ⟨.builtin .append, #[x, y], #[t, u]⟩, ty, pos, af, none⟩ :: os) a σ K := by
 rcases hy with ⟨e, rfl⟩ | ⟨h, o, e, hat⟩
 ·subst hn
  refine r_push hE hu hx hg (by rw [texts_length]; omega) (D := []) (by rw [e]; rfl) rfl ?_ fun g' τ h1 h2 h3 => ?_
  ·have : xs.length * 1 * b ≤ 4294967296 * 64 := Nat.mul_le_mul (by simp at hl; omega) hb
   simp at hl
   refine ⟨?_, ?_⟩
   ·show (xs.length * 1 + 0) * b ≤ _
    rw [Nat.add_zero]; omega
   ·show xs.length * 1 + 0 ≤ _
    omega
  ·exact hk g' τ h1 h2 (by rw [List.append_nil]; rwa [List.append_nil] at h3)
 ·exact r_pushX hE hb hu hx hg hn e hat rfl hl hk
/-- the same of calls -/
theorem r_pushCV {t u : TypeId} {zv : Value} {b : Nat} {x y : Operand} {g len : Nat} {xs ys : List Cl} (hE : Elems P t 3 zv b) (hb : b ≤ 64) (hu : ∃ e2, P.underlying u = some (.slice e2))
  (hx : ev a x = .slice (some ⟨g, 0, none⟩) len 3) (hg : σ g = some ⟨tris xs, false⟩) (hn : xs.length = len) (hy : Tris σ (ev a y) ys) (hl : len + ys.length ≤ 4294967296)
  (hk : ∀ g' τ, σ g' = none → Kept g σ τ → τ g' = some ⟨tris (xs ++ ys), false⟩ → vcR P w0 false all os (fset a d (.slice (some ⟨g', 0, none⟩) (len + ys.length) 3)) τ K) :
  vcR P w0 false all (⟨some d, .call ⟨.builtin .append, #[x, y], #[t, u]⟩, ty, pos, af, none⟩ :: os) a σ K := by
 rcases hy with ⟨e, rfl⟩ | ⟨h, o, e, hat⟩
 ·subst hn
  refine r_push hE hu hx hg (by rw [tris_length]) (D := []) (by rw [e]; rfl) rfl ?_ fun g' τ h1 h2 h3 => ?_
  ·have : xs.length * 3 * b ≤ 4294967296 * 3 * 64 := Nat.mul_le_mul (by simp at hl; omega) hb
   simp at hl
   refine ⟨?_, ?_⟩
   ·show (xs.length * 3 + 0) * b ≤ _
    rw [Nat.add_zero]; omega
   ·show xs.length * 3 + 0 ≤ _
    omega
  ·exact hk g' τ h1 h2 (by rw [List.append_nil]; rwa [List.append_nil] at h3)
 ·exact r_pushC hE hb hu hx hg hn e hat rfl hl hk
end
variable {w0 : World}
set_option maxRecDepth 8000 in
theorem lineOf_calls (σ : AHeap) (v : Value) (e : Ex) (t : List UInt8) (hv : ExV σ v e) (hb : ExB e) :
  ACall Tryd.prog w0 56 [v, .string (tx t)] σ fun r σ' => r = .int .i64 (lineV e t) ∧ σ' = σ := by
 have hv0 := hv
 obtain ⟨⟨O, E, M⟩, ps, cs⟩ := e
 obtain ⟨v1, v2, rfl, t1, t2⟩ := hv
 have hb0 := hb
 obtain ⟨b1, b2, b3⟩ := hb
 dsimp only at t1 t2 b1 b2 b3
 unfold exV
 refine acall_go mixed Tryd.func56 rfl good56 fun pr => ?_
 simp -implicitDefEqProofs (disch := omega) only [Nat.reduceEqDiff, ↓reduceIte, vcu, ↓vcd]
 refine r_boxed fun b τ nb s1 e1 => ?_
 replace e1 : τ b = some ⟨[.int .i64 O, .int .i64 E, .int .i64 M, v1, v2], false⟩ := e1
 have x5 : lds τ b 0 5 = some [.int .i64 O, .int .i64 E, .int .i64 M, v1, v2] := by rw [lds_of e1 (by simp)]; rfl
 have x3 : ld τ b (0 + 3) = some v1 := ld_of e1 rfl
 have l1 := lenT (t1.sub s1)
 have hval := exVal_calls (w0 := w0) τ (exV v1 v2 ⟨⟨O, E, M⟩, ps, cs⟩) ⟨⟨O, E, M⟩, ps, cs⟩ (hv0.sub s1) hb0
 unfold exV at hval
 dsimp only at hval
 simp -implicitDefEqProofs (disch := omega) only [Nat.reduceEqDiff, ↓reduceIte, vcu, ↓vcd]
 refine vc_loop_c mixed (by kernel_rfl) [1, 2] (fun m a σ' => ∃ k : Nat, m + k = ps.length ∧ a 5 = .int .i64 k ∧ (0 < k → ExOk ⟨⟨O, E, M⟩, ps, cs⟩) ∧ fstN (fun k => decide (ps.getD k [] = t)) 0 ps.length = fstN (fun k => decide (ps.getD k [] = t)) k m ∧ σ' = τ) ps.length ⟨0, by simp, rfl, fun h => absurd h (by omega), rfl, rfl⟩ ?_
 rintro m a _ hc ⟨k, hk, h5, hk0, hp, rfl⟩
 rename_i τ
 simp -implicitDefEqProofs (disch := omega) only [Nat.reduceEqDiff, ↓reduceIte, vcu, ↓vcd] at hc
 obtain ⟨h1, h2, -⟩ := hc
 by_cases hlt : k < ps.length
 case neg =>
  obtain rfl : m = 0 := by omega
  simp -implicitDefEqProofs (disch := omega) only [Nat.reduceEqDiff, ↓reduceIte, vcu, ↓vcd, h1, h2, h5, x3, l1]
  refine fin_drop Tryd.results56 σ s1 ⟨?_, rfl⟩
  simp -implicitDefEqProofs (disch := omega) only [Nat.reduceEqDiff, ↓reduceIte, vcu, ↓vcd]
  unfold lineV
  split
  ·show _ = Value.int .i64 (lineS ps t)
   unfold lineS; rw [hp]; rfl
  ·rfl
 by_cases hok : ExOk ⟨⟨O, E, M⟩, ps, cs⟩
 case neg =>
  rw [decide_eq_false hok] at hval
  simp -implicitDefEqProofs (disch := omega) only [Nat.reduceEqDiff, ↓reduceIte, vcu, ↓vcd, h1, h2, h5, x3, l1, x5, co46]
  refine hval.mono ?_
  rintro _ _ ⟨rfl, rfl⟩
  simp -implicitDefEqProofs (disch := omega) only [Nat.reduceEqDiff, ↓reduceIte, vcu, ↓vcd, opK_some]
  refine fin_drop Tryd.results56 σ s1 ⟨?_, rfl⟩
  simp -implicitDefEqProofs (disch := omega) only [Nat.reduceEqDiff, ↓reduceIte, vcu, ↓vcd]
  rw [lineV, if_neg hok]
 rw [decide_eq_true hok] at hval
 have hpv : lineV ⟨⟨O, E, M⟩, ps, cs⟩ t = lineS ps t := if_pos hok
 obtain ⟨m', rfl⟩ : ∃ m', m = m' + 1 := ⟨m - 1, by omega⟩
 rw [fstN] at hp
 obtain ⟨hg, ho, rfl, hrow⟩ := rowT (t1.sub s1) (by omega)
 have hx := hrow k hlt
 simp -implicitDefEqProofs (disch := omega) only [Nat.reduceEqDiff, ↓reduceIte, vcu, ↓vcd, h1, h2, h5, x3, l1, x5, co46]
 refine hval.mono ?_
 rintro _ _ ⟨rfl, rfl⟩
 rename_i τ
 by_cases hi : ps.getD k [] = t
 ·have d : decide (ps.getD k [] = t) = true := decide_eq_true hi
  rw [d, if_pos rfl] at hp
  simp -implicitDefEqProofs (disch := omega) only [Nat.reduceEqDiff, ↓reduceIte, vcu, ↓vcd, opK_some, h1, h2, h5, x3, hx, abin_seql, d]
  refine fin_drop Tryd.results56 σ s1 ⟨?_, rfl⟩
  simp -implicitDefEqProofs (disch := omega) only [Nat.reduceEqDiff, ↓reduceIte, vcu, ↓vcd]
  rw [hpv]; unfold lineS; rw [hp]
 have d : decide (ps.getD k [] = t) = false := decide_eq_false hi
 rw [d, if_neg (by simp)] at hp
 simp -implicitDefEqProofs (disch := omega) only [Nat.reduceEqDiff, ↓reduceIte, vcu, ↓vcd, opK_some, h1, h2, h5, x3, hx, abin_seql, d]
 exact ⟨⟨trivial, trivial, trivial⟩, m', by omega, k + 1, by omega, by simp, fun _ => hok, hp, trivial⟩
end Go.Proofs.YtofdnmlpfagibaaDoor
