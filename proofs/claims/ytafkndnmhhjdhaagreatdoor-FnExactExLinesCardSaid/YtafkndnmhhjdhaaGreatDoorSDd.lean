/- Parts. -/
import Derived.Test.YtafkndnmhhjdhaaGreatDoorSDc
import Derived.Test.YtafkndnmhhjdhaaGreatDoorRows
import Derived.KernelRfl
set_option linter.unusedSimpArgs false
set_option linter.unusedVariables false
set_option linter.unusedSectionVars false
namespace Go.Proofs.YtafkndnmhhjdhaaGreatDoor
open Go Go.Abs
theorem mixed : Tryz.prog.follows .mixedOrders = true := by kernel_rfl
theorem own : ownKnob Tryz.prog.godebug = none := by kernel_rfl
theorem laidOut : laidOutB Tryz.prog = true := by kernel_rfl
theorem pt0 : isPtr Tryz.prog 0 = false := by kernel_rfl
theorem sc0 : isSlc Tryz.prog 0 = false := by kernel_rfl
theorem ag1 : aisAgg Tryz.prog 1 = false := by kernel_rfl
theorem pt1 : isPtr Tryz.prog 1 = false := by kernel_rfl
theorem sc1 : isSlc Tryz.prog 1 = false := by kernel_rfl
theorem ag2 : aisAgg Tryz.prog 2 = false := by kernel_rfl
theorem pt2 : isPtr Tryz.prog 2 = false := by kernel_rfl
theorem sc2 : isSlc Tryz.prog 2 = false := by kernel_rfl
theorem co3 : Tryz.prog.cellsOf 3 = 1 := by kernel_rfl
theorem ag3 : aisAgg Tryz.prog 3 = false := by kernel_rfl
theorem pt3 : isPtr Tryz.prog 3 = false := by kernel_rfl
theorem sc3 : isSlc Tryz.prog 3 = false := by kernel_rfl
theorem ze3 : azero Tryz.prog 3 = some (Value.int IntKind.i64 0) := by kernel_rfl
theorem ag4 : aisAgg Tryz.prog 4 = false := by kernel_rfl
theorem pt4 : isPtr Tryz.prog 4 = false := by kernel_rfl
theorem sc4 : isSlc Tryz.prog 4 = false := by kernel_rfl
theorem bo4 : isBool Tryz.prog 4 = true := by kernel_rfl
theorem co5 : Tryz.prog.cellsOf 5 = 1 := by kernel_rfl
theorem ag5 : aisAgg Tryz.prog 5 = false := by kernel_rfl
theorem pt5 : isPtr Tryz.prog 5 = false := by kernel_rfl
theorem sc5 : isSlc Tryz.prog 5 = false := by kernel_rfl
theorem ag6 : aisAgg Tryz.prog 6 = false := by kernel_rfl
theorem pt6 : isPtr Tryz.prog 6 = false := by kernel_rfl
theorem sc6 : isSlc Tryz.prog 6 = false := by kernel_rfl
theorem co9 : Tryz.prog.cellsOf 9 = 1 := by kernel_rfl
theorem ag9 : aisAgg Tryz.prog 9 = false := by kernel_rfl
theorem pt9 : isPtr Tryz.prog 9 = false := by kernel_rfl
theorem sc9 : isSlc Tryz.prog 9 = false := by kernel_rfl
theorem ag10 : aisAgg Tryz.prog 10 = false := by kernel_rfl
theorem pt10 : isPtr Tryz.prog 10 = false := by kernel_rfl
theorem sc10 : isSlc Tryz.prog 10 = false := by kernel_rfl
theorem ag11 : aisAgg Tryz.prog 11 = false := by kernel_rfl
theorem pt11 : isPtr Tryz.prog 11 = false := by kernel_rfl
theorem sc11 : isSlc Tryz.prog 11 = false := by kernel_rfl
theorem ag12 : aisAgg Tryz.prog 12 = false := by kernel_rfl
theorem pt12 : isPtr Tryz.prog 12 = false := by kernel_rfl
theorem sc12 : isSlc Tryz.prog 12 = false := by kernel_rfl
theorem ag15 : aisAgg Tryz.prog 15 = false := by kernel_rfl
theorem pt15 : isPtr Tryz.prog 15 = true := by kernel_rfl
theorem sc15 : isSlc Tryz.prog 15 = false := by kernel_rfl
theorem co16 : Tryz.prog.cellsOf 16 = 1 := by kernel_rfl
theorem ag16 : aisAgg Tryz.prog 16 = false := by kernel_rfl
theorem pt16 : isPtr Tryz.prog 16 = true := by kernel_rfl
theorem sc16 : isSlc Tryz.prog 16 = false := by kernel_rfl
theorem ag17 : aisAgg Tryz.prog 17 = false := by kernel_rfl
theorem pt17 : isPtr Tryz.prog 17 = true := by kernel_rfl
theorem sc17 : isSlc Tryz.prog 17 = false := by kernel_rfl
theorem pt20 : isPtr Tryz.prog 20 = false := by kernel_rfl
theorem sc20 : isSlc Tryz.prog 20 = false := by kernel_rfl
theorem ag21 : aisAgg Tryz.prog 21 = false := by kernel_rfl
theorem pt21 : isPtr Tryz.prog 21 = false := by kernel_rfl
theorem sc21 : isSlc Tryz.prog 21 = false := by kernel_rfl
theorem ag22 : aisAgg Tryz.prog 22 = true := by kernel_rfl
theorem pt22 : isPtr Tryz.prog 22 = false := by kernel_rfl
theorem sc22 : isSlc Tryz.prog 22 = false := by kernel_rfl
theorem fv22_0 {x0 x1 x2 : Value} : afieldV Tryz.prog 22 0 (.agg #[x0, x1, x2]) = some x0 := by simp [afieldV, Tryz.underlying22, apart, Tryz.underlying3, ag3, co3, aisAgg]
theorem fl22_0 {h b : Nat} : afield Tryz.prog 22 0 (.pointer (some ⟨h, b, none⟩)) = some (.pointer (some ⟨h, b + 0, none⟩)) := by simp [afield, Tryz.underlying22]
theorem fv22_1 {x0 x1 x2 : Value} : afieldV Tryz.prog 22 1 (.agg #[x0, x1, x2]) = some x1 := by simp [afieldV, Tryz.underlying22, apart, Tryz.underlying3, ag3, co3, aisAgg]
theorem fl22_1 {h b : Nat} : afield Tryz.prog 22 1 (.pointer (some ⟨h, b, none⟩)) = some (.pointer (some ⟨h, b + 1, none⟩)) := by simp [afield, Tryz.underlying22]
theorem fv22_2 {x0 x1 x2 : Value} : afieldV Tryz.prog 22 2 (.agg #[x0, x1, x2]) = some x2 := by simp [afieldV, Tryz.underlying22, apart, Tryz.underlying3, ag3, co3, aisAgg]
theorem fl22_2 {h b : Nat} : afield Tryz.prog 22 2 (.pointer (some ⟨h, b, none⟩)) = some (.pointer (some ⟨h, b + 2, none⟩)) := by simp [afield, Tryz.underlying22]
theorem co23 : Tryz.prog.cellsOf 23 = 3 := by kernel_rfl
theorem ag23 : aisAgg Tryz.prog 23 = true := by kernel_rfl
theorem pt23 : isPtr Tryz.prog 23 = false := by kernel_rfl
theorem sc23 : isSlc Tryz.prog 23 = false := by kernel_rfl
theorem fv23_0 {x0 x1 x2 : Value} : afieldV Tryz.prog 23 0 (.agg #[x0, x1, x2]) = some x0 := by simp [afieldV, Tryz.underlying23, apart, Tryz.underlying3, ag3, co3, aisAgg]
theorem fl23_0 {h b : Nat} : afield Tryz.prog 23 0 (.pointer (some ⟨h, b, none⟩)) = some (.pointer (some ⟨h, b + 0, none⟩)) := by simp [afield, Tryz.underlying23]
theorem fv23_1 {x0 x1 x2 : Value} : afieldV Tryz.prog 23 1 (.agg #[x0, x1, x2]) = some x1 := by simp [afieldV, Tryz.underlying23, apart, Tryz.underlying3, ag3, co3, aisAgg]
theorem fl23_1 {h b : Nat} : afield Tryz.prog 23 1 (.pointer (some ⟨h, b, none⟩)) = some (.pointer (some ⟨h, b + 1, none⟩)) := by simp [afield, Tryz.underlying23]
theorem fv23_2 {x0 x1 x2 : Value} : afieldV Tryz.prog 23 2 (.agg #[x0, x1, x2]) = some x2 := by simp [afieldV, Tryz.underlying23, apart, Tryz.underlying3, ag3, co3, aisAgg]
theorem fl23_2 {h b : Nat} : afield Tryz.prog 23 2 (.pointer (some ⟨h, b, none⟩)) = some (.pointer (some ⟨h, b + 2, none⟩)) := by simp [afield, Tryz.underlying23]
theorem co24 : Tryz.prog.cellsOf 24 = 1 := by kernel_rfl
theorem ag24 : aisAgg Tryz.prog 24 = false := by kernel_rfl
theorem pt24 : isPtr Tryz.prog 24 = false := by kernel_rfl
theorem sc24 : isSlc Tryz.prog 24 = true := by kernel_rfl
theorem esz24 : aesz Tryz.prog 24 = 1 := by kernel_rfl
theorem el24 : Elems Tryz.prog 24 1 (Value.string { data := #[] }) 16 := ⟨⟨9, Tryz.t9, Tryz.underlying24, by kernel_rfl, rfl, rfl, rfl⟩, ⟨9, Tryz.underlying24, by kernel_rfl, by kernel_rfl⟩⟩
theorem sl24 : ∃ e, Tryz.prog.underlying 24 = some (.slice e) := ⟨9, Tryz.underlying24⟩
theorem co25 : Tryz.prog.cellsOf 25 = 1 := by kernel_rfl
theorem ag25 : aisAgg Tryz.prog 25 = false := by kernel_rfl
theorem pt25 : isPtr Tryz.prog 25 = false := by kernel_rfl
theorem sc25 : isSlc Tryz.prog 25 = true := by kernel_rfl
theorem esz25 : aesz Tryz.prog 25 = 3 := by kernel_rfl
theorem ag26 : aisAgg Tryz.prog 26 = true := by kernel_rfl
theorem pt26 : isPtr Tryz.prog 26 = false := by kernel_rfl
theorem sc26 : isSlc Tryz.prog 26 = true := by kernel_rfl
theorem fl26_0 {h b : Nat} : afield Tryz.prog 26 0 (.pointer (some ⟨h, b, none⟩)) = some (.pointer (some ⟨h, b + 0, none⟩)) := by simp [afield, Tryz.underlying26]
theorem fv26_1 {x0 x1 x2 x3 x4 : Value} : afieldV Tryz.prog 26 1 (.agg #[x0, x1, x2, x3, x4]) = some x3 := by simp [afieldV, Tryz.underlying26, apart, Tryz.underlying24, ag24, co24, aisAgg]
theorem fl26_1 {h b : Nat} : afield Tryz.prog 26 1 (.pointer (some ⟨h, b, none⟩)) = some (.pointer (some ⟨h, b + 3, none⟩)) := by simp [afield, Tryz.underlying26]
theorem fv26_2 {x0 x1 x2 x3 x4 : Value} : afieldV Tryz.prog 26 2 (.agg #[x0, x1, x2, x3, x4]) = some x4 := by simp [afieldV, Tryz.underlying26, apart, Tryz.underlying25, ag25, co25, aisAgg]
theorem fl26_2 {h b : Nat} : afield Tryz.prog 26 2 (.pointer (some ⟨h, b, none⟩)) = some (.pointer (some ⟨h, b + 4, none⟩)) := by simp [afield, Tryz.underlying26]
theorem co27 : Tryz.prog.cellsOf 27 = 5 := by kernel_rfl
theorem ag27 : aisAgg Tryz.prog 27 = true := by kernel_rfl
theorem pt27 : isPtr Tryz.prog 27 = false := by kernel_rfl
theorem sc27 : isSlc Tryz.prog 27 = true := by kernel_rfl
theorem fl27_0 {h b : Nat} : afield Tryz.prog 27 0 (.pointer (some ⟨h, b, none⟩)) = some (.pointer (some ⟨h, b + 0, none⟩)) := by simp [afield, Tryz.underlying27]
theorem fv27_1 {x0 x1 x2 x3 x4 : Value} : afieldV Tryz.prog 27 1 (.agg #[x0, x1, x2, x3, x4]) = some x3 := by simp [afieldV, Tryz.underlying27, apart, Tryz.underlying24, ag24, co24, aisAgg]
theorem fl27_1 {h b : Nat} : afield Tryz.prog 27 1 (.pointer (some ⟨h, b, none⟩)) = some (.pointer (some ⟨h, b + 3, none⟩)) := by simp [afield, Tryz.underlying27]
theorem fv27_2 {x0 x1 x2 x3 x4 : Value} : afieldV Tryz.prog 27 2 (.agg #[x0, x1, x2, x3, x4]) = some x4 := by simp [afieldV, Tryz.underlying27, apart, Tryz.underlying25, ag25, co25, aisAgg]
theorem fl27_2 {h b : Nat} : afield Tryz.prog 27 2 (.pointer (some ⟨h, b, none⟩)) = some (.pointer (some ⟨h, b + 4, none⟩)) := by simp [afield, Tryz.underlying27]
theorem ag28 : aisAgg Tryz.prog 28 = false := by kernel_rfl
theorem pt28 : isPtr Tryz.prog 28 = false := by kernel_rfl
theorem sc28 : isSlc Tryz.prog 28 = false := by kernel_rfl
theorem co29 : Tryz.prog.cellsOf 29 = 3 := by kernel_rfl
theorem ag29 : aisAgg Tryz.prog 29 = true := by kernel_rfl
theorem pt29 : isPtr Tryz.prog 29 = false := by kernel_rfl
theorem sc29 : isSlc Tryz.prog 29 = false := by kernel_rfl
theorem ze29 : azero Tryz.prog 29 = some (Value.agg #[Value.int IntKind.i64 0, Value.int IntKind.i64 0, Value.int IntKind.i64 0]) := by kernel_rfl
theorem fv29_0 {x0 x1 x2 : Value} : afieldV Tryz.prog 29 0 (.agg #[x0, x1, x2]) = some x0 := by simp [afieldV, Tryz.underlying29, apart, Tryz.underlying3, ag3, co3, aisAgg]
theorem fl29_0 {h b : Nat} : afield Tryz.prog 29 0 (.pointer (some ⟨h, b, none⟩)) = some (.pointer (some ⟨h, b + 0, none⟩)) := by simp [afield, Tryz.underlying29]
theorem fv29_1 {x0 x1 x2 : Value} : afieldV Tryz.prog 29 1 (.agg #[x0, x1, x2]) = some x1 := by simp [afieldV, Tryz.underlying29, apart, Tryz.underlying3, ag3, co3, aisAgg]
theorem fl29_1 {h b : Nat} : afield Tryz.prog 29 1 (.pointer (some ⟨h, b, none⟩)) = some (.pointer (some ⟨h, b + 1, none⟩)) := by simp [afield, Tryz.underlying29]
theorem fv29_2 {x0 x1 x2 : Value} : afieldV Tryz.prog 29 2 (.agg #[x0, x1, x2]) = some x2 := by simp [afieldV, Tryz.underlying29, apart, Tryz.underlying3, ag3, co3, aisAgg]
theorem fl29_2 {h b : Nat} : afield Tryz.prog 29 2 (.pointer (some ⟨h, b, none⟩)) = some (.pointer (some ⟨h, b + 2, none⟩)) := by simp [afield, Tryz.underlying29]
theorem co30 : Tryz.prog.cellsOf 30 = 1 := by kernel_rfl
theorem ag30 : aisAgg Tryz.prog 30 = false := by kernel_rfl
theorem pt30 : isPtr Tryz.prog 30 = false := by kernel_rfl
theorem sc30 : isSlc Tryz.prog 30 = true := by kernel_rfl
theorem esz30 : aesz Tryz.prog 30 = 3 := by kernel_rfl
theorem el30 : Elems Tryz.prog 30 3 (Value.agg #[Value.int IntKind.i64 0, Value.int IntKind.i64 0, Value.int IntKind.i64 0]) 24 := ⟨⟨76, Tryz.t76, Tryz.underlying30, by kernel_rfl, rfl, rfl, rfl⟩, ⟨76, Tryz.underlying30, by kernel_rfl, by kernel_rfl⟩⟩
theorem sl30 : ∃ e, Tryz.prog.underlying 30 = some (.slice e) := ⟨76, Tryz.underlying30⟩
theorem ag31 : aisAgg Tryz.prog 31 = true := by kernel_rfl
theorem pt31 : isPtr Tryz.prog 31 = false := by kernel_rfl
theorem sc31 : isSlc Tryz.prog 31 = true := by kernel_rfl
theorem fl31_0 {h b : Nat} : afield Tryz.prog 31 0 (.pointer (some ⟨h, b, none⟩)) = some (.pointer (some ⟨h, b + 0, none⟩)) := by simp [afield, Tryz.underlying31]
theorem fv31_1 {x0 x1 x2 x3 x4 : Value} : afieldV Tryz.prog 31 1 (.agg #[x0, x1, x2, x3, x4]) = some x3 := by simp [afieldV, Tryz.underlying31, apart, Tryz.underlying24, ag24, co24, aisAgg]
theorem fl31_1 {h b : Nat} : afield Tryz.prog 31 1 (.pointer (some ⟨h, b, none⟩)) = some (.pointer (some ⟨h, b + 3, none⟩)) := by simp [afield, Tryz.underlying31]
theorem fv31_2 {x0 x1 x2 x3 x4 : Value} : afieldV Tryz.prog 31 2 (.agg #[x0, x1, x2, x3, x4]) = some x4 := by simp [afieldV, Tryz.underlying31, apart, Tryz.underlying30, ag30, co30, aisAgg]
theorem fl31_2 {h b : Nat} : afield Tryz.prog 31 2 (.pointer (some ⟨h, b, none⟩)) = some (.pointer (some ⟨h, b + 4, none⟩)) := by simp [afield, Tryz.underlying31]
theorem co32 : Tryz.prog.cellsOf 32 = 5 := by kernel_rfl
theorem ag32 : aisAgg Tryz.prog 32 = true := by kernel_rfl
theorem pt32 : isPtr Tryz.prog 32 = false := by kernel_rfl
theorem sc32 : isSlc Tryz.prog 32 = true := by kernel_rfl
theorem ze32 : azero Tryz.prog 32 = some (Value.agg #[Value.int IntKind.i64 0, Value.int IntKind.i64 0, Value.int IntKind.i64 0, Value.slice none 0 0, Value.slice none 0 0]) := by kernel_rfl
theorem fl32_0 {h b : Nat} : afield Tryz.prog 32 0 (.pointer (some ⟨h, b, none⟩)) = some (.pointer (some ⟨h, b + 0, none⟩)) := by simp [afield, Tryz.underlying32]
theorem fv32_1 {x0 x1 x2 x3 x4 : Value} : afieldV Tryz.prog 32 1 (.agg #[x0, x1, x2, x3, x4]) = some x3 := by simp [afieldV, Tryz.underlying32, apart, Tryz.underlying24, ag24, co24, aisAgg]
theorem fl32_1 {h b : Nat} : afield Tryz.prog 32 1 (.pointer (some ⟨h, b, none⟩)) = some (.pointer (some ⟨h, b + 3, none⟩)) := by simp [afield, Tryz.underlying32]
theorem fv32_2 {x0 x1 x2 x3 x4 : Value} : afieldV Tryz.prog 32 2 (.agg #[x0, x1, x2, x3, x4]) = some x4 := by simp [afieldV, Tryz.underlying32, apart, Tryz.underlying30, ag30, co30, aisAgg]
theorem fl32_2 {h b : Nat} : afield Tryz.prog 32 2 (.pointer (some ⟨h, b, none⟩)) = some (.pointer (some ⟨h, b + 4, none⟩)) := by simp [afield, Tryz.underlying32]
theorem pt33 : isPtr Tryz.prog 33 = false := by kernel_rfl
theorem sc33 : isSlc Tryz.prog 33 = true := by kernel_rfl
theorem ag34 : aisAgg Tryz.prog 34 = false := by kernel_rfl
theorem pt34 : isPtr Tryz.prog 34 = false := by kernel_rfl
theorem sc34 : isSlc Tryz.prog 34 = false := by kernel_rfl
theorem ag35 : aisAgg Tryz.prog 35 = false := by kernel_rfl
theorem pt35 : isPtr Tryz.prog 35 = false := by kernel_rfl
theorem sc35 : isSlc Tryz.prog 35 = false := by kernel_rfl
theorem ag36 : aisAgg Tryz.prog 36 = false := by kernel_rfl
theorem pt36 : isPtr Tryz.prog 36 = false := by kernel_rfl
theorem sc36 : isSlc Tryz.prog 36 = false := by kernel_rfl
theorem ag37 : aisAgg Tryz.prog 37 = false := by kernel_rfl
theorem pt37 : isPtr Tryz.prog 37 = false := by kernel_rfl
theorem sc37 : isSlc Tryz.prog 37 = false := by kernel_rfl
theorem ag38 : aisAgg Tryz.prog 38 = false := by kernel_rfl
theorem pt38 : isPtr Tryz.prog 38 = false := by kernel_rfl
theorem sc38 : isSlc Tryz.prog 38 = false := by kernel_rfl
theorem ag39 : aisAgg Tryz.prog 39 = false := by kernel_rfl
theorem pt39 : isPtr Tryz.prog 39 = false := by kernel_rfl
theorem sc39 : isSlc Tryz.prog 39 = false := by kernel_rfl
theorem pt40 : isPtr Tryz.prog 40 = false := by kernel_rfl
theorem sc40 : isSlc Tryz.prog 40 = true := by kernel_rfl
theorem ag41 : aisAgg Tryz.prog 41 = false := by kernel_rfl
theorem pt41 : isPtr Tryz.prog 41 = false := by kernel_rfl
theorem sc41 : isSlc Tryz.prog 41 = false := by kernel_rfl
theorem ag42 : aisAgg Tryz.prog 42 = false := by kernel_rfl
theorem pt42 : isPtr Tryz.prog 42 = false := by kernel_rfl
theorem sc42 : isSlc Tryz.prog 42 = false := by kernel_rfl
theorem ag43 : aisAgg Tryz.prog 43 = false := by kernel_rfl
theorem pt43 : isPtr Tryz.prog 43 = false := by kernel_rfl
theorem sc43 : isSlc Tryz.prog 43 = false := by kernel_rfl
theorem ag44 : aisAgg Tryz.prog 44 = false := by kernel_rfl
theorem pt44 : isPtr Tryz.prog 44 = false := by kernel_rfl
theorem sc44 : isSlc Tryz.prog 44 = false := by kernel_rfl
theorem ag45 : aisAgg Tryz.prog 45 = false := by kernel_rfl
theorem pt45 : isPtr Tryz.prog 45 = false := by kernel_rfl
theorem sc45 : isSlc Tryz.prog 45 = false := by kernel_rfl
theorem ag46 : aisAgg Tryz.prog 46 = false := by kernel_rfl
theorem pt46 : isPtr Tryz.prog 46 = false := by kernel_rfl
theorem sc46 : isSlc Tryz.prog 46 = false := by kernel_rfl
theorem ag47 : aisAgg Tryz.prog 47 = true := by kernel_rfl
theorem pt47 : isPtr Tryz.prog 47 = false := by kernel_rfl
theorem sc47 : isSlc Tryz.prog 47 = false := by kernel_rfl
theorem fv47_0 {x0 x1 x2 : Value} : afieldV Tryz.prog 47 0 (.agg #[x0, x1, x2]) = some x0 := by simp [afieldV, Tryz.underlying47, apart, Tryz.underlying3, ag3, co3, aisAgg]
theorem fl47_0 {h b : Nat} : afield Tryz.prog 47 0 (.pointer (some ⟨h, b, none⟩)) = some (.pointer (some ⟨h, b + 0, none⟩)) := by simp [afield, Tryz.underlying47]
theorem fv47_1 {x0 x1 x2 : Value} : afieldV Tryz.prog 47 1 (.agg #[x0, x1, x2]) = some x1 := by simp [afieldV, Tryz.underlying47, apart, Tryz.underlying3, ag3, co3, aisAgg]
theorem fl47_1 {h b : Nat} : afield Tryz.prog 47 1 (.pointer (some ⟨h, b, none⟩)) = some (.pointer (some ⟨h, b + 1, none⟩)) := by simp [afield, Tryz.underlying47]
theorem fv47_2 {x0 x1 x2 : Value} : afieldV Tryz.prog 47 2 (.agg #[x0, x1, x2]) = some x2 := by simp [afieldV, Tryz.underlying47, apart, Tryz.underlying9, ag9, co9, aisAgg]
theorem fl47_2 {h b : Nat} : afield Tryz.prog 47 2 (.pointer (some ⟨h, b, none⟩)) = some (.pointer (some ⟨h, b + 2, none⟩)) := by simp [afield, Tryz.underlying47]
theorem co48 : Tryz.prog.cellsOf 48 = 3 := by kernel_rfl
theorem ag48 : aisAgg Tryz.prog 48 = true := by kernel_rfl
theorem pt48 : isPtr Tryz.prog 48 = false := by kernel_rfl
theorem sc48 : isSlc Tryz.prog 48 = false := by kernel_rfl
theorem ze48 : azero Tryz.prog 48 = some (Value.agg #[Value.int IntKind.i64 0, Value.int IntKind.i64 0, Value.string { data := #[] }]) := by kernel_rfl
theorem fv48_0 {x0 x1 x2 : Value} : afieldV Tryz.prog 48 0 (.agg #[x0, x1, x2]) = some x0 := by simp [afieldV, Tryz.underlying48, apart, Tryz.underlying3, ag3, co3, aisAgg]
theorem fl48_0 {h b : Nat} : afield Tryz.prog 48 0 (.pointer (some ⟨h, b, none⟩)) = some (.pointer (some ⟨h, b + 0, none⟩)) := by simp [afield, Tryz.underlying48]
theorem fv48_1 {x0 x1 x2 : Value} : afieldV Tryz.prog 48 1 (.agg #[x0, x1, x2]) = some x1 := by simp [afieldV, Tryz.underlying48, apart, Tryz.underlying3, ag3, co3, aisAgg]
theorem fl48_1 {h b : Nat} : afield Tryz.prog 48 1 (.pointer (some ⟨h, b, none⟩)) = some (.pointer (some ⟨h, b + 1, none⟩)) := by simp [afield, Tryz.underlying48]
theorem fv48_2 {x0 x1 x2 : Value} : afieldV Tryz.prog 48 2 (.agg #[x0, x1, x2]) = some x2 := by simp [afieldV, Tryz.underlying48, apart, Tryz.underlying9, ag9, co9, aisAgg]
theorem fl48_2 {h b : Nat} : afield Tryz.prog 48 2 (.pointer (some ⟨h, b, none⟩)) = some (.pointer (some ⟨h, b + 2, none⟩)) := by simp [afield, Tryz.underlying48]
theorem pt49 : isPtr Tryz.prog 49 = false := by kernel_rfl
theorem sc49 : isSlc Tryz.prog 49 = false := by kernel_rfl
theorem ag50 : aisAgg Tryz.prog 50 = false := by kernel_rfl
theorem pt50 : isPtr Tryz.prog 50 = false := by kernel_rfl
theorem sc50 : isSlc Tryz.prog 50 = false := by kernel_rfl
theorem ag51 : aisAgg Tryz.prog 51 = false := by kernel_rfl
theorem pt51 : isPtr Tryz.prog 51 = false := by kernel_rfl
theorem sc51 : isSlc Tryz.prog 51 = false := by kernel_rfl
theorem ag52 : aisAgg Tryz.prog 52 = false := by kernel_rfl
theorem pt52 : isPtr Tryz.prog 52 = false := by kernel_rfl
theorem sc52 : isSlc Tryz.prog 52 = false := by kernel_rfl
theorem ag53 : aisAgg Tryz.prog 53 = false := by kernel_rfl
theorem pt53 : isPtr Tryz.prog 53 = false := by kernel_rfl
theorem sc53 : isSlc Tryz.prog 53 = false := by kernel_rfl
theorem pt54 : isPtr Tryz.prog 54 = false := by kernel_rfl
theorem sc54 : isSlc Tryz.prog 54 = true := by kernel_rfl
theorem ag55 : aisAgg Tryz.prog 55 = false := by kernel_rfl
theorem pt55 : isPtr Tryz.prog 55 = false := by kernel_rfl
theorem sc55 : isSlc Tryz.prog 55 = false := by kernel_rfl
theorem ag56 : aisAgg Tryz.prog 56 = false := by kernel_rfl
theorem pt56 : isPtr Tryz.prog 56 = false := by kernel_rfl
theorem sc56 : isSlc Tryz.prog 56 = false := by kernel_rfl
theorem pt57 : isPtr Tryz.prog 57 = false := by kernel_rfl
theorem sc57 : isSlc Tryz.prog 57 = true := by kernel_rfl
theorem ag58 : aisAgg Tryz.prog 58 = false := by kernel_rfl
theorem pt58 : isPtr Tryz.prog 58 = false := by kernel_rfl
theorem sc58 : isSlc Tryz.prog 58 = false := by kernel_rfl
theorem ag59 : aisAgg Tryz.prog 59 = false := by kernel_rfl
theorem pt59 : isPtr Tryz.prog 59 = false := by kernel_rfl
theorem sc59 : isSlc Tryz.prog 59 = true := by kernel_rfl
theorem esz59 : aesz Tryz.prog 59 = 3 := by kernel_rfl
theorem el59 : Elems Tryz.prog 59 3 (Value.agg #[Value.int IntKind.i64 0, Value.int IntKind.i64 0, Value.string { data := #[] }]) 32 := ⟨⟨48, Tryz.t48, Tryz.underlying59, by kernel_rfl, rfl, rfl, rfl⟩, ⟨48, Tryz.underlying59, by kernel_rfl, by kernel_rfl⟩⟩
theorem sl59 : ∃ e, Tryz.prog.underlying 59 = some (.slice e) := ⟨48, Tryz.underlying59⟩
theorem ag60 : aisAgg Tryz.prog 60 = false := by kernel_rfl
theorem pt60 : isPtr Tryz.prog 60 = false := by kernel_rfl
theorem sc60 : isSlc Tryz.prog 60 = false := by kernel_rfl
theorem ag61 : aisAgg Tryz.prog 61 = false := by kernel_rfl
theorem pt61 : isPtr Tryz.prog 61 = false := by kernel_rfl
theorem sc61 : isSlc Tryz.prog 61 = false := by kernel_rfl
theorem ag62 : aisAgg Tryz.prog 62 = false := by kernel_rfl
theorem pt62 : isPtr Tryz.prog 62 = false := by kernel_rfl
theorem sc62 : isSlc Tryz.prog 62 = false := by kernel_rfl
theorem ag63 : aisAgg Tryz.prog 63 = false := by kernel_rfl
theorem pt63 : isPtr Tryz.prog 63 = false := by kernel_rfl
theorem sc63 : isSlc Tryz.prog 63 = false := by kernel_rfl
theorem ag64 : aisAgg Tryz.prog 64 = false := by kernel_rfl
theorem pt64 : isPtr Tryz.prog 64 = true := by kernel_rfl
theorem sc64 : isSlc Tryz.prog 64 = false := by kernel_rfl
theorem ag65 : aisAgg Tryz.prog 65 = false := by kernel_rfl
theorem pt65 : isPtr Tryz.prog 65 = false := by kernel_rfl
theorem sc65 : isSlc Tryz.prog 65 = false := by kernel_rfl
theorem ag66 : aisAgg Tryz.prog 66 = false := by kernel_rfl
theorem pt66 : isPtr Tryz.prog 66 = false := by kernel_rfl
theorem sc66 : isSlc Tryz.prog 66 = false := by kernel_rfl
theorem ag67 : aisAgg Tryz.prog 67 = false := by kernel_rfl
theorem pt67 : isPtr Tryz.prog 67 = false := by kernel_rfl
theorem sc67 : isSlc Tryz.prog 67 = false := by kernel_rfl
theorem ag68 : aisAgg Tryz.prog 68 = false := by kernel_rfl
theorem pt68 : isPtr Tryz.prog 68 = false := by kernel_rfl
theorem sc68 : isSlc Tryz.prog 68 = false := by kernel_rfl
theorem ag69 : aisAgg Tryz.prog 69 = false := by kernel_rfl
theorem pt69 : isPtr Tryz.prog 69 = false := by kernel_rfl
theorem sc69 : isSlc Tryz.prog 69 = false := by kernel_rfl
theorem ag70 : aisAgg Tryz.prog 70 = false := by kernel_rfl
theorem pt70 : isPtr Tryz.prog 70 = false := by kernel_rfl
theorem sc70 : isSlc Tryz.prog 70 = false := by kernel_rfl
theorem ag71 : aisAgg Tryz.prog 71 = false := by kernel_rfl
theorem pt71 : isPtr Tryz.prog 71 = false := by kernel_rfl
theorem sc71 : isSlc Tryz.prog 71 = false := by kernel_rfl
theorem ag72 : aisAgg Tryz.prog 72 = false := by kernel_rfl
theorem pt72 : isPtr Tryz.prog 72 = false := by kernel_rfl
theorem sc72 : isSlc Tryz.prog 72 = false := by kernel_rfl
theorem ag73 : aisAgg Tryz.prog 73 = false := by kernel_rfl
theorem pt73 : isPtr Tryz.prog 73 = false := by kernel_rfl
theorem sc73 : isSlc Tryz.prog 73 = false := by kernel_rfl
theorem ag74 : aisAgg Tryz.prog 74 = false := by kernel_rfl
theorem pt74 : isPtr Tryz.prog 74 = false := by kernel_rfl
theorem sc74 : isSlc Tryz.prog 74 = false := by kernel_rfl
theorem ag75 : aisAgg Tryz.prog 75 = true := by kernel_rfl
theorem pt75 : isPtr Tryz.prog 75 = false := by kernel_rfl
theorem sc75 : isSlc Tryz.prog 75 = false := by kernel_rfl
theorem fv75_0 {x0 x1 x2 : Value} : afieldV Tryz.prog 75 0 (.agg #[x0, x1, x2]) = some x0 := by simp [afieldV, Tryz.underlying75, apart, Tryz.underlying3, ag3, co3, aisAgg]
theorem fl75_0 {h b : Nat} : afield Tryz.prog 75 0 (.pointer (some ⟨h, b, none⟩)) = some (.pointer (some ⟨h, b + 0, none⟩)) := by simp [afield, Tryz.underlying75]
theorem fv75_1 {x0 x1 x2 : Value} : afieldV Tryz.prog 75 1 (.agg #[x0, x1, x2]) = some x1 := by simp [afieldV, Tryz.underlying75, apart, Tryz.underlying3, ag3, co3, aisAgg]
theorem fl75_1 {h b : Nat} : afield Tryz.prog 75 1 (.pointer (some ⟨h, b, none⟩)) = some (.pointer (some ⟨h, b + 1, none⟩)) := by simp [afield, Tryz.underlying75]
theorem fv75_2 {x0 x1 x2 : Value} : afieldV Tryz.prog 75 2 (.agg #[x0, x1, x2]) = some x2 := by simp [afieldV, Tryz.underlying75, apart, Tryz.underlying3, ag3, co3, aisAgg]
theorem fl75_2 {h b : Nat} : afield Tryz.prog 75 2 (.pointer (some ⟨h, b, none⟩)) = some (.pointer (some ⟨h, b + 2, none⟩)) := by simp [afield, Tryz.underlying75]
theorem co76 : Tryz.prog.cellsOf 76 = 3 := by kernel_rfl
theorem ag76 : aisAgg Tryz.prog 76 = true := by kernel_rfl
theorem pt76 : isPtr Tryz.prog 76 = false := by kernel_rfl
theorem sc76 : isSlc Tryz.prog 76 = false := by kernel_rfl
theorem ze76 : azero Tryz.prog 76 = some (Value.agg #[Value.int IntKind.i64 0, Value.int IntKind.i64 0, Value.int IntKind.i64 0]) := by kernel_rfl
theorem fv76_0 {x0 x1 x2 : Value} : afieldV Tryz.prog 76 0 (.agg #[x0, x1, x2]) = some x0 := by simp [afieldV, Tryz.underlying76, apart, Tryz.underlying3, ag3, co3, aisAgg]
theorem fl76_0 {h b : Nat} : afield Tryz.prog 76 0 (.pointer (some ⟨h, b, none⟩)) = some (.pointer (some ⟨h, b + 0, none⟩)) := by simp [afield, Tryz.underlying76]
theorem fv76_1 {x0 x1 x2 : Value} : afieldV Tryz.prog 76 1 (.agg #[x0, x1, x2]) = some x1 := by simp [afieldV, Tryz.underlying76, apart, Tryz.underlying3, ag3, co3, aisAgg]
theorem fl76_1 {h b : Nat} : afield Tryz.prog 76 1 (.pointer (some ⟨h, b, none⟩)) = some (.pointer (some ⟨h, b + 1, none⟩)) := by simp [afield, Tryz.underlying76]
theorem fv76_2 {x0 x1 x2 : Value} : afieldV Tryz.prog 76 2 (.agg #[x0, x1, x2]) = some x2 := by simp [afieldV, Tryz.underlying76, apart, Tryz.underlying3, ag3, co3, aisAgg]
theorem fl76_2 {h b : Nat} : afield Tryz.prog 76 2 (.pointer (some ⟨h, b, none⟩)) = some (.pointer (some ⟨h, b + 2, none⟩)) := by simp [afield, Tryz.underlying76]
theorem ag77 : aisAgg Tryz.prog 77 = false := by kernel_rfl
theorem pt77 : isPtr Tryz.prog 77 = false := by kernel_rfl
theorem sc77 : isSlc Tryz.prog 77 = false := by kernel_rfl
theorem ag78 : aisAgg Tryz.prog 78 = false := by kernel_rfl
theorem pt78 : isPtr Tryz.prog 78 = false := by kernel_rfl
theorem sc78 : isSlc Tryz.prog 78 = false := by kernel_rfl
theorem pt79 : isPtr Tryz.prog 79 = false := by kernel_rfl
theorem sc79 : isSlc Tryz.prog 79 = true := by kernel_rfl
theorem ag80 : aisAgg Tryz.prog 80 = false := by kernel_rfl
theorem pt80 : isPtr Tryz.prog 80 = false := by kernel_rfl
theorem sc80 : isSlc Tryz.prog 80 = false := by kernel_rfl
theorem ag81 : aisAgg Tryz.prog 81 = false := by kernel_rfl
theorem pt81 : isPtr Tryz.prog 81 = false := by kernel_rfl
theorem sc81 : isSlc Tryz.prog 81 = false := by kernel_rfl
theorem ag82 : aisAgg Tryz.prog 82 = false := by kernel_rfl
theorem pt82 : isPtr Tryz.prog 82 = false := by kernel_rfl
theorem sc82 : isSlc Tryz.prog 82 = true := by kernel_rfl
theorem esz82 : aesz Tryz.prog 82 = 1 := by kernel_rfl
theorem el82 : Elems Tryz.prog 82 1 (Value.int IntKind.u8 0) 1 := ⟨⟨5, Tryz.t5, Tryz.underlying82, by kernel_rfl, rfl, rfl, rfl⟩, ⟨5, Tryz.underlying82, by kernel_rfl, by kernel_rfl⟩⟩
theorem ag83 : aisAgg Tryz.prog 83 = false := by kernel_rfl
theorem pt83 : isPtr Tryz.prog 83 = false := by kernel_rfl
theorem sc83 : isSlc Tryz.prog 83 = false := by kernel_rfl
theorem co84 : Tryz.prog.cellsOf 84 = 3 := by kernel_rfl
theorem ag84 : aisAgg Tryz.prog 84 = true := by kernel_rfl
theorem pt84 : isPtr Tryz.prog 84 = false := by kernel_rfl
theorem sc84 : isSlc Tryz.prog 84 = false := by kernel_rfl
theorem fv84_0 {x0 x1 x2 : Value} : afieldV Tryz.prog 84 0 (.agg #[x0, x1, x2]) = some x0 := by simp [afieldV, Tryz.underlying84, apart, Tryz.underlying3, ag3, co3, aisAgg]
theorem fl84_0 {h b : Nat} : afield Tryz.prog 84 0 (.pointer (some ⟨h, b, none⟩)) = some (.pointer (some ⟨h, b + 0, none⟩)) := by simp [afield, Tryz.underlying84]
theorem fv84_1 {x0 x1 x2 : Value} : afieldV Tryz.prog 84 1 (.agg #[x0, x1, x2]) = some x1 := by simp [afieldV, Tryz.underlying84, apart, Tryz.underlying3, ag3, co3, aisAgg]
theorem fl84_1 {h b : Nat} : afield Tryz.prog 84 1 (.pointer (some ⟨h, b, none⟩)) = some (.pointer (some ⟨h, b + 1, none⟩)) := by simp [afield, Tryz.underlying84]
theorem fv84_2 {x0 x1 x2 : Value} : afieldV Tryz.prog 84 2 (.agg #[x0, x1, x2]) = some x2 := by simp [afieldV, Tryz.underlying84, apart, Tryz.underlying3, ag3, co3, aisAgg]
theorem fl84_2 {h b : Nat} : afield Tryz.prog 84 2 (.pointer (some ⟨h, b, none⟩)) = some (.pointer (some ⟨h, b + 2, none⟩)) := by simp [afield, Tryz.underlying84]
theorem ag85 : aisAgg Tryz.prog 85 = false := by kernel_rfl
theorem pt85 : isPtr Tryz.prog 85 = false := by kernel_rfl
theorem sc85 : isSlc Tryz.prog 85 = false := by kernel_rfl
theorem ag86 : aisAgg Tryz.prog 86 = false := by kernel_rfl
theorem pt86 : isPtr Tryz.prog 86 = false := by kernel_rfl
theorem sc86 : isSlc Tryz.prog 86 = false := by kernel_rfl
theorem ag87 : aisAgg Tryz.prog 87 = false := by kernel_rfl
theorem pt87 : isPtr Tryz.prog 87 = false := by kernel_rfl
theorem sc87 : isSlc Tryz.prog 87 = false := by kernel_rfl
theorem ag88 : aisAgg Tryz.prog 88 = true := by kernel_rfl
theorem pt88 : isPtr Tryz.prog 88 = false := by kernel_rfl
theorem sc88 : isSlc Tryz.prog 88 = true := by kernel_rfl
theorem fl88_0 {h b : Nat} : afield Tryz.prog 88 0 (.pointer (some ⟨h, b, none⟩)) = some (.pointer (some ⟨h, b + 0, none⟩)) := by simp [afield, Tryz.underlying88]
theorem fv88_1 {x0 x1 x2 x3 : Value} : afieldV Tryz.prog 88 1 (.agg #[x0, x1, x2, x3]) = some x3 := by simp [afieldV, Tryz.underlying88, apart, Tryz.underlying30, ag30, co30, aisAgg]
theorem fl88_1 {h b : Nat} : afield Tryz.prog 88 1 (.pointer (some ⟨h, b, none⟩)) = some (.pointer (some ⟨h, b + 3, none⟩)) := by simp [afield, Tryz.underlying88]
theorem ag89 : aisAgg Tryz.prog 89 = true := by kernel_rfl
theorem pt89 : isPtr Tryz.prog 89 = false := by kernel_rfl
theorem sc89 : isSlc Tryz.prog 89 = true := by kernel_rfl
theorem ze89 : azero Tryz.prog 89 = some (Value.agg #[Value.int IntKind.i64 0, Value.int IntKind.i64 0, Value.int IntKind.i64 0, Value.slice none 0 0]) := by kernel_rfl
theorem fl89_0 {h b : Nat} : afield Tryz.prog 89 0 (.pointer (some ⟨h, b, none⟩)) = some (.pointer (some ⟨h, b + 0, none⟩)) := by simp [afield, Tryz.underlying89]
theorem fv89_1 {x0 x1 x2 x3 : Value} : afieldV Tryz.prog 89 1 (.agg #[x0, x1, x2, x3]) = some x3 := by simp [afieldV, Tryz.underlying89, apart, Tryz.underlying30, ag30, co30, aisAgg]
theorem fl89_1 {h b : Nat} : afield Tryz.prog 89 1 (.pointer (some ⟨h, b, none⟩)) = some (.pointer (some ⟨h, b + 3, none⟩)) := by simp [afield, Tryz.underlying89]
theorem co90 : Tryz.prog.cellsOf 90 = 1 := by kernel_rfl
theorem ag90 : aisAgg Tryz.prog 90 = false := by kernel_rfl
theorem pt90 : isPtr Tryz.prog 90 = true := by kernel_rfl
theorem sc90 : isSlc Tryz.prog 90 = true := by kernel_rfl
theorem esz90 : aesz Tryz.prog 90 = 1 := by kernel_rfl
theorem ag91 : aisAgg Tryz.prog 91 = true := by kernel_rfl
theorem pt91 : isPtr Tryz.prog 91 = false := by kernel_rfl
theorem sc91 : isSlc Tryz.prog 91 = true := by kernel_rfl
theorem fl91_0 {h b : Nat} : afield Tryz.prog 91 0 (.pointer (some ⟨h, b, none⟩)) = some (.pointer (some ⟨h, b + 0, none⟩)) := by simp [afield, Tryz.underlying91]
theorem fv91_1 {x0 x1 x2 x3 x4 : Value} : afieldV Tryz.prog 91 1 (.agg #[x0, x1, x2, x3, x4]) = some x4 := by simp [afieldV, Tryz.underlying91, apart, Tryz.underlying90, ag90, co90, aisAgg]
theorem fl91_1 {h b : Nat} : afield Tryz.prog 91 1 (.pointer (some ⟨h, b, none⟩)) = some (.pointer (some ⟨h, b + 4, none⟩)) := by simp [afield, Tryz.underlying91]
theorem ag92 : aisAgg Tryz.prog 92 = true := by kernel_rfl
theorem pt92 : isPtr Tryz.prog 92 = false := by kernel_rfl
theorem sc92 : isSlc Tryz.prog 92 = true := by kernel_rfl
theorem ze92 : azero Tryz.prog 92 = some (Value.agg #[Value.int IntKind.i64 0, Value.int IntKind.i64 0, Value.int IntKind.i64 0, Value.slice none 0 0, Value.slice none 0 0]) := by kernel_rfl
theorem fl92_0 {h b : Nat} : afield Tryz.prog 92 0 (.pointer (some ⟨h, b, none⟩)) = some (.pointer (some ⟨h, b + 0, none⟩)) := by simp [afield, Tryz.underlying92]
theorem fv92_1 {x0 x1 x2 x3 x4 : Value} : afieldV Tryz.prog 92 1 (.agg #[x0, x1, x2, x3, x4]) = some x4 := by simp [afieldV, Tryz.underlying92, apart, Tryz.underlying90, ag90, co90, aisAgg]
theorem fl92_1 {h b : Nat} : afield Tryz.prog 92 1 (.pointer (some ⟨h, b, none⟩)) = some (.pointer (some ⟨h, b + 4, none⟩)) := by simp [afield, Tryz.underlying92]
theorem ag93 : aisAgg Tryz.prog 93 = false := by kernel_rfl
theorem pt93 : isPtr Tryz.prog 93 = false := by kernel_rfl
theorem sc93 : isSlc Tryz.prog 93 = false := by kernel_rfl
theorem ag94 : aisAgg Tryz.prog 94 = false := by kernel_rfl
theorem pt94 : isPtr Tryz.prog 94 = false := by kernel_rfl
theorem sc94 : isSlc Tryz.prog 94 = false := by kernel_rfl
theorem pt95 : isPtr Tryz.prog 95 = false := by kernel_rfl
theorem sc95 : isSlc Tryz.prog 95 = false := by kernel_rfl
theorem ag96 : aisAgg Tryz.prog 96 = false := by kernel_rfl
theorem pt96 : isPtr Tryz.prog 96 = false := by kernel_rfl
theorem sc96 : isSlc Tryz.prog 96 = false := by kernel_rfl
theorem pt97 : isPtr Tryz.prog 97 = false := by kernel_rfl
theorem sc97 : isSlc Tryz.prog 97 = false := by kernel_rfl
theorem ag98 : aisAgg Tryz.prog 98 = false := by kernel_rfl
theorem pt98 : isPtr Tryz.prog 98 = false := by kernel_rfl
theorem sc98 : isSlc Tryz.prog 98 = false := by kernel_rfl
theorem ag99 : aisAgg Tryz.prog 99 = false := by kernel_rfl
theorem pt99 : isPtr Tryz.prog 99 = false := by kernel_rfl
theorem sc99 : isSlc Tryz.prog 99 = false := by kernel_rfl
theorem ag100 : aisAgg Tryz.prog 100 = false := by kernel_rfl
theorem pt100 : isPtr Tryz.prog 100 = false := by kernel_rfl
theorem sc100 : isSlc Tryz.prog 100 = false := by kernel_rfl
theorem ag101 : aisAgg Tryz.prog 101 = false := by kernel_rfl
theorem pt101 : isPtr Tryz.prog 101 = false := by kernel_rfl
theorem sc101 : isSlc Tryz.prog 101 = false := by kernel_rfl
theorem ag102 : aisAgg Tryz.prog 102 = false := by kernel_rfl
theorem pt102 : isPtr Tryz.prog 102 = false := by kernel_rfl
theorem sc102 : isSlc Tryz.prog 102 = false := by kernel_rfl
theorem ag103 : aisAgg Tryz.prog 103 = false := by kernel_rfl
theorem pt103 : isPtr Tryz.prog 103 = false := by kernel_rfl
theorem sc103 : isSlc Tryz.prog 103 = false := by kernel_rfl
theorem ag104 : aisAgg Tryz.prog 104 = false := by kernel_rfl
theorem pt104 : isPtr Tryz.prog 104 = false := by kernel_rfl
theorem sc104 : isSlc Tryz.prog 104 = true := by kernel_rfl
theorem esz104 : aesz Tryz.prog 104 = 1 := by kernel_rfl
theorem el104 : Elems Tryz.prog 104 1 (Value.int IntKind.i64 0) 8 := ⟨⟨3, Tryz.t3, Tryz.underlying104, by kernel_rfl, rfl, rfl, rfl⟩, ⟨3, Tryz.underlying104, by kernel_rfl, by kernel_rfl⟩⟩
theorem sl104 : ∃ e, Tryz.prog.underlying 104 = some (.slice e) := ⟨3, Tryz.underlying104⟩
theorem ag105 : aisAgg Tryz.prog 105 = false := by kernel_rfl
theorem pt105 : isPtr Tryz.prog 105 = false := by kernel_rfl
theorem sc105 : isSlc Tryz.prog 105 = false := by kernel_rfl
theorem ag106 : aisAgg Tryz.prog 106 = false := by kernel_rfl
theorem pt106 : isPtr Tryz.prog 106 = false := by kernel_rfl
theorem sc106 : isSlc Tryz.prog 106 = false := by kernel_rfl
theorem ag107 : aisAgg Tryz.prog 107 = false := by kernel_rfl
theorem pt107 : isPtr Tryz.prog 107 = false := by kernel_rfl
theorem sc107 : isSlc Tryz.prog 107 = false := by kernel_rfl
theorem ag108 : aisAgg Tryz.prog 108 = false := by kernel_rfl
theorem pt108 : isPtr Tryz.prog 108 = false := by kernel_rfl
theorem sc108 : isSlc Tryz.prog 108 = false := by kernel_rfl
theorem ag109 : aisAgg Tryz.prog 109 = false := by kernel_rfl
theorem pt109 : isPtr Tryz.prog 109 = false := by kernel_rfl
theorem sc109 : isSlc Tryz.prog 109 = false := by kernel_rfl
theorem pt110 : isPtr Tryz.prog 110 = false := by kernel_rfl
theorem sc110 : isSlc Tryz.prog 110 = false := by kernel_rfl
theorem pt111 : isPtr Tryz.prog 111 = false := by kernel_rfl
theorem sc111 : isSlc Tryz.prog 111 = false := by kernel_rfl
theorem pt112 : isPtr Tryz.prog 112 = false := by kernel_rfl
theorem sc112 : isSlc Tryz.prog 112 = false := by kernel_rfl
theorem ag113 : aisAgg Tryz.prog 113 = false := by kernel_rfl
theorem pt113 : isPtr Tryz.prog 113 = false := by kernel_rfl
theorem sc113 : isSlc Tryz.prog 113 = false := by kernel_rfl
theorem ag114 : aisAgg Tryz.prog 114 = false := by kernel_rfl
theorem pt114 : isPtr Tryz.prog 114 = false := by kernel_rfl
theorem sc114 : isSlc Tryz.prog 114 = false := by kernel_rfl
theorem ag115 : aisAgg Tryz.prog 115 = false := by kernel_rfl
theorem pt115 : isPtr Tryz.prog 115 = false := by kernel_rfl
theorem sc115 : isSlc Tryz.prog 115 = false := by kernel_rfl
theorem ag116 : aisAgg Tryz.prog 116 = false := by kernel_rfl
theorem pt116 : isPtr Tryz.prog 116 = false := by kernel_rfl
theorem sc116 : isSlc Tryz.prog 116 = false := by kernel_rfl
theorem ag117 : aisAgg Tryz.prog 117 = false := by kernel_rfl
theorem pt117 : isPtr Tryz.prog 117 = false := by kernel_rfl
theorem sc117 : isSlc Tryz.prog 117 = false := by kernel_rfl
theorem ag118 : aisAgg Tryz.prog 118 = false := by kernel_rfl
theorem pt118 : isPtr Tryz.prog 118 = true := by kernel_rfl
theorem sc118 : isSlc Tryz.prog 118 = false := by kernel_rfl
theorem ag121 : aisAgg Tryz.prog 121 = false := by kernel_rfl
theorem pt121 : isPtr Tryz.prog 121 = false := by kernel_rfl
theorem sc121 : isSlc Tryz.prog 121 = false := by kernel_rfl
theorem ag122 : aisAgg Tryz.prog 122 = false := by kernel_rfl
theorem pt122 : isPtr Tryz.prog 122 = false := by kernel_rfl
theorem sc122 : isSlc Tryz.prog 122 = false := by kernel_rfl
theorem ag123 : aisAgg Tryz.prog 123 = false := by kernel_rfl
theorem pt123 : isPtr Tryz.prog 123 = true := by kernel_rfl
theorem sc123 : isSlc Tryz.prog 123 = false := by kernel_rfl
theorem ag124 : aisAgg Tryz.prog 124 = false := by kernel_rfl
theorem pt124 : isPtr Tryz.prog 124 = false := by kernel_rfl
theorem sc124 : isSlc Tryz.prog 124 = false := by kernel_rfl
theorem ag125 : aisAgg Tryz.prog 125 = false := by kernel_rfl
theorem pt125 : isPtr Tryz.prog 125 = false := by kernel_rfl
theorem sc125 : isSlc Tryz.prog 125 = false := by kernel_rfl
theorem ag126 : aisAgg Tryz.prog 126 = false := by kernel_rfl
theorem pt126 : isPtr Tryz.prog 126 = false := by kernel_rfl
theorem sc126 : isSlc Tryz.prog 126 = false := by kernel_rfl
theorem ag127 : aisAgg Tryz.prog 127 = false := by kernel_rfl
theorem pt127 : isPtr Tryz.prog 127 = false := by kernel_rfl
theorem sc127 : isSlc Tryz.prog 127 = false := by kernel_rfl
theorem ag128 : aisAgg Tryz.prog 128 = false := by kernel_rfl
theorem pt128 : isPtr Tryz.prog 128 = true := by kernel_rfl
theorem sc128 : isSlc Tryz.prog 128 = false := by kernel_rfl
theorem ag129 : aisAgg Tryz.prog 129 = false := by kernel_rfl
theorem pt129 : isPtr Tryz.prog 129 = false := by kernel_rfl
theorem sc129 : isSlc Tryz.prog 129 = false := by kernel_rfl
theorem ag130 : aisAgg Tryz.prog 130 = false := by kernel_rfl
theorem pt130 : isPtr Tryz.prog 130 = false := by kernel_rfl
theorem sc130 : isSlc Tryz.prog 130 = false := by kernel_rfl
theorem pt131 : isPtr Tryz.prog 131 = false := by kernel_rfl
theorem sc131 : isSlc Tryz.prog 131 = false := by kernel_rfl
theorem ag132 : aisAgg Tryz.prog 132 = false := by kernel_rfl
theorem pt132 : isPtr Tryz.prog 132 = false := by kernel_rfl
theorem sc132 : isSlc Tryz.prog 132 = false := by kernel_rfl
theorem ag133 : aisAgg Tryz.prog 133 = false := by kernel_rfl
theorem pt133 : isPtr Tryz.prog 133 = true := by kernel_rfl
theorem sc133 : isSlc Tryz.prog 133 = false := by kernel_rfl
theorem ag134 : aisAgg Tryz.prog 134 = false := by kernel_rfl
theorem pt134 : isPtr Tryz.prog 134 = false := by kernel_rfl
theorem sc134 : isSlc Tryz.prog 134 = false := by kernel_rfl
theorem ag135 : aisAgg Tryz.prog 135 = false := by kernel_rfl
theorem pt135 : isPtr Tryz.prog 135 = false := by kernel_rfl
theorem sc135 : isSlc Tryz.prog 135 = false := by kernel_rfl
theorem ag136 : aisAgg Tryz.prog 136 = false := by kernel_rfl
theorem pt136 : isPtr Tryz.prog 136 = false := by kernel_rfl
theorem sc136 : isSlc Tryz.prog 136 = false := by kernel_rfl
theorem ag137 : aisAgg Tryz.prog 137 = false := by kernel_rfl
theorem pt137 : isPtr Tryz.prog 137 = false := by kernel_rfl
theorem sc137 : isSlc Tryz.prog 137 = false := by kernel_rfl
theorem ag138 : aisAgg Tryz.prog 138 = false := by kernel_rfl
theorem pt138 : isPtr Tryz.prog 138 = false := by kernel_rfl
theorem sc138 : isSlc Tryz.prog 138 = false := by kernel_rfl
theorem ag139 : aisAgg Tryz.prog 139 = true := by kernel_rfl
theorem pt139 : isPtr Tryz.prog 139 = false := by kernel_rfl
theorem sc139 : isSlc Tryz.prog 139 = false := by kernel_rfl
theorem esz139 : aesz Tryz.prog 139 = 1 := by kernel_rfl
theorem co140 : Tryz.prog.cellsOf 140 = 1 := by kernel_rfl
theorem ag140 : aisAgg Tryz.prog 140 = false := by kernel_rfl
theorem pt140 : isPtr Tryz.prog 140 = false := by kernel_rfl
theorem sc140 : isSlc Tryz.prog 140 = false := by kernel_rfl
theorem ag141 : aisAgg Tryz.prog 141 = false := by kernel_rfl
theorem pt141 : isPtr Tryz.prog 141 = false := by kernel_rfl
theorem sc141 : isSlc Tryz.prog 141 = false := by kernel_rfl
theorem ag142 : aisAgg Tryz.prog 142 = false := by kernel_rfl
theorem pt142 : isPtr Tryz.prog 142 = false := by kernel_rfl
theorem sc142 : isSlc Tryz.prog 142 = false := by kernel_rfl
theorem pt143 : isPtr Tryz.prog 143 = false := by kernel_rfl
theorem sc143 : isSlc Tryz.prog 143 = true := by kernel_rfl
theorem ag144 : aisAgg Tryz.prog 144 = false := by kernel_rfl
theorem pt144 : isPtr Tryz.prog 144 = false := by kernel_rfl
theorem sc144 : isSlc Tryz.prog 144 = false := by kernel_rfl
theorem pt145 : isPtr Tryz.prog 145 = false := by kernel_rfl
theorem sc145 : isSlc Tryz.prog 145 = false := by kernel_rfl
theorem ag146 : aisAgg Tryz.prog 146 = false := by kernel_rfl
theorem pt146 : isPtr Tryz.prog 146 = false := by kernel_rfl
theorem sc146 : isSlc Tryz.prog 146 = false := by kernel_rfl
theorem ag147 : aisAgg Tryz.prog 147 = false := by kernel_rfl
theorem pt147 : isPtr Tryz.prog 147 = false := by kernel_rfl
theorem sc147 : isSlc Tryz.prog 147 = false := by kernel_rfl
theorem ag148 : aisAgg Tryz.prog 148 = false := by kernel_rfl
theorem pt148 : isPtr Tryz.prog 148 = false := by kernel_rfl
theorem sc148 : isSlc Tryz.prog 148 = false := by kernel_rfl
theorem ag149 : aisAgg Tryz.prog 149 = false := by kernel_rfl
theorem pt149 : isPtr Tryz.prog 149 = false := by kernel_rfl
theorem sc149 : isSlc Tryz.prog 149 = false := by kernel_rfl
theorem pt150 : isPtr Tryz.prog 150 = false := by kernel_rfl
theorem sc150 : isSlc Tryz.prog 150 = false := by kernel_rfl
theorem ag151 : aisAgg Tryz.prog 151 = false := by kernel_rfl
theorem pt151 : isPtr Tryz.prog 151 = false := by kernel_rfl
theorem sc151 : isSlc Tryz.prog 151 = false := by kernel_rfl
theorem ag154 : aisAgg Tryz.prog 154 = false := by kernel_rfl
theorem pt154 : isPtr Tryz.prog 154 = false := by kernel_rfl
theorem sc154 : isSlc Tryz.prog 154 = false := by kernel_rfl
theorem ag155 : aisAgg Tryz.prog 155 = false := by kernel_rfl
theorem pt155 : isPtr Tryz.prog 155 = false := by kernel_rfl
theorem sc155 : isSlc Tryz.prog 155 = false := by kernel_rfl
theorem ag156 : aisAgg Tryz.prog 156 = true := by kernel_rfl
theorem pt156 : isPtr Tryz.prog 156 = false := by kernel_rfl
theorem sc156 : isSlc Tryz.prog 156 = false := by kernel_rfl
theorem esz156 : aesz Tryz.prog 156 = 1 := by kernel_rfl
theorem ag157 : aisAgg Tryz.prog 157 = false := by kernel_rfl
theorem pt157 : isPtr Tryz.prog 157 = false := by kernel_rfl
theorem sc157 : isSlc Tryz.prog 157 = false := by kernel_rfl
theorem ag158 : aisAgg Tryz.prog 158 = true := by kernel_rfl
theorem pt158 : isPtr Tryz.prog 158 = false := by kernel_rfl
theorem sc158 : isSlc Tryz.prog 158 = false := by kernel_rfl
theorem esz158 : aesz Tryz.prog 158 = 1 := by kernel_rfl
theorem ag159 : aisAgg Tryz.prog 159 = false := by kernel_rfl
theorem pt159 : isPtr Tryz.prog 159 = false := by kernel_rfl
theorem sc159 : isSlc Tryz.prog 159 = false := by kernel_rfl
theorem pt160 : isPtr Tryz.prog 160 = false := by kernel_rfl
theorem sc160 : isSlc Tryz.prog 160 = false := by kernel_rfl
theorem ag161 : aisAgg Tryz.prog 161 = false := by kernel_rfl
theorem pt161 : isPtr Tryz.prog 161 = false := by kernel_rfl
theorem sc161 : isSlc Tryz.prog 161 = false := by kernel_rfl
theorem ag162 : aisAgg Tryz.prog 162 = false := by kernel_rfl
theorem pt162 : isPtr Tryz.prog 162 = false := by kernel_rfl
theorem sc162 : isSlc Tryz.prog 162 = false := by kernel_rfl
theorem ag163 : aisAgg Tryz.prog 163 = false := by kernel_rfl
theorem pt163 : isPtr Tryz.prog 163 = true := by kernel_rfl
theorem sc163 : isSlc Tryz.prog 163 = false := by kernel_rfl
theorem ag166 : aisAgg Tryz.prog 166 = false := by kernel_rfl
theorem pt166 : isPtr Tryz.prog 166 = false := by kernel_rfl
theorem sc166 : isSlc Tryz.prog 166 = false := by kernel_rfl
theorem ag167 : aisAgg Tryz.prog 167 = true := by kernel_rfl
theorem pt167 : isPtr Tryz.prog 167 = false := by kernel_rfl
theorem sc167 : isSlc Tryz.prog 167 = false := by kernel_rfl
theorem esz167 : aesz Tryz.prog 167 = 1 := by kernel_rfl
theorem ag168 : aisAgg Tryz.prog 168 = true := by kernel_rfl
theorem pt168 : isPtr Tryz.prog 168 = false := by kernel_rfl
theorem sc168 : isSlc Tryz.prog 168 = false := by kernel_rfl
theorem esz168 : aesz Tryz.prog 168 = 1 := by kernel_rfl
theorem pt171 : isPtr Tryz.prog 171 = false := by kernel_rfl
theorem sc171 : isSlc Tryz.prog 171 = false := by kernel_rfl
theorem esz171 : aesz Tryz.prog 171 = 1 := by kernel_rfl
theorem ag174 : aisAgg Tryz.prog 174 = false := by kernel_rfl
theorem pt174 : isPtr Tryz.prog 174 = false := by kernel_rfl
theorem sc174 : isSlc Tryz.prog 174 = false := by kernel_rfl
theorem ag175 : aisAgg Tryz.prog 175 = false := by kernel_rfl
theorem pt175 : isPtr Tryz.prog 175 = false := by kernel_rfl
theorem sc175 : isSlc Tryz.prog 175 = false := by kernel_rfl
theorem ag176 : aisAgg Tryz.prog 176 = false := by kernel_rfl
theorem pt176 : isPtr Tryz.prog 176 = false := by kernel_rfl
theorem sc176 : isSlc Tryz.prog 176 = false := by kernel_rfl
theorem ag177 : aisAgg Tryz.prog 177 = false := by kernel_rfl
theorem pt177 : isPtr Tryz.prog 177 = false := by kernel_rfl
theorem sc177 : isSlc Tryz.prog 177 = false := by kernel_rfl
theorem ag178 : aisAgg Tryz.prog 178 = false := by kernel_rfl
theorem pt178 : isPtr Tryz.prog 178 = false := by kernel_rfl
theorem sc178 : isSlc Tryz.prog 178 = false := by kernel_rfl
theorem ag179 : aisAgg Tryz.prog 179 = false := by kernel_rfl
theorem pt179 : isPtr Tryz.prog 179 = false := by kernel_rfl
theorem sc179 : isSlc Tryz.prog 179 = false := by kernel_rfl
theorem nf3 : noisyF Tryz.prog 3 = false := by kernel_rfl
theorem nf4 : noisyF Tryz.prog 4 = false := by kernel_rfl
theorem nf5 : noisyF Tryz.prog 5 = false := by kernel_rfl
theorem nf6 : noisyF Tryz.prog 6 = false := by kernel_rfl
theorem nf7 : noisyF Tryz.prog 7 = false := by kernel_rfl
theorem nf8 : noisyF Tryz.prog 8 = false := by kernel_rfl
theorem nf9 : noisyF Tryz.prog 9 = false := by kernel_rfl
theorem nf10 : noisyF Tryz.prog 10 = false := by kernel_rfl
theorem nf11 : noisyF Tryz.prog 11 = false := by kernel_rfl
theorem nf12 : noisyF Tryz.prog 12 = false := by kernel_rfl
theorem nf13 : noisyF Tryz.prog 13 = false := by kernel_rfl
theorem nf14 : noisyF Tryz.prog 14 = false := by kernel_rfl
theorem nf15 : noisyF Tryz.prog 15 = false := by kernel_rfl
theorem nf16 : noisyF Tryz.prog 16 = false := by kernel_rfl
theorem nf17 : noisyF Tryz.prog 17 = false := by kernel_rfl
theorem nf18 : noisyF Tryz.prog 18 = false := by kernel_rfl
theorem nf19 : noisyF Tryz.prog 19 = false := by kernel_rfl
theorem nf20 : noisyF Tryz.prog 20 = false := by kernel_rfl
theorem nf21 : noisyF Tryz.prog 21 = false := by kernel_rfl
theorem nf22 : noisyF Tryz.prog 22 = false := by kernel_rfl
theorem nf23 : noisyF Tryz.prog 23 = false := by kernel_rfl
theorem nf24 : noisyF Tryz.prog 24 = false := by kernel_rfl
theorem nf25 : noisyF Tryz.prog 25 = false := by kernel_rfl
theorem nf26 : noisyF Tryz.prog 26 = false := by kernel_rfl
theorem nf27 : noisyF Tryz.prog 27 = false := by kernel_rfl
theorem nf28 : noisyF Tryz.prog 28 = false := by kernel_rfl
theorem nf29 : noisyF Tryz.prog 29 = false := by kernel_rfl
theorem nf30 : noisyF Tryz.prog 30 = false := by kernel_rfl
theorem nf31 : noisyF Tryz.prog 31 = false := by kernel_rfl
theorem nf32 : noisyF Tryz.prog 32 = false := by kernel_rfl
theorem nf33 : noisyF Tryz.prog 33 = false := by kernel_rfl
theorem nf34 : noisyF Tryz.prog 34 = false := by kernel_rfl
theorem nf35 : noisyF Tryz.prog 35 = false := by kernel_rfl
theorem nf36 : noisyF Tryz.prog 36 = true := by kernel_rfl
theorem nf37 : noisyF Tryz.prog 37 = true := by kernel_rfl
theorem nf38 : noisyF Tryz.prog 38 = false := by kernel_rfl
theorem nf39 : noisyF Tryz.prog 39 = false := by kernel_rfl
theorem nf40 : noisyF Tryz.prog 40 = false := by kernel_rfl
theorem nf41 : noisyF Tryz.prog 41 = false := by kernel_rfl
theorem nf42 : noisyF Tryz.prog 42 = false := by kernel_rfl
theorem nf43 : noisyF Tryz.prog 43 = false := by kernel_rfl
theorem nf44 : noisyF Tryz.prog 44 = false := by kernel_rfl
theorem nf45 : noisyF Tryz.prog 45 = false := by kernel_rfl
theorem nf46 : noisyF Tryz.prog 46 = false := by kernel_rfl
theorem nf47 : noisyF Tryz.prog 47 = false := by kernel_rfl
theorem nf48 : noisyF Tryz.prog 48 = false := by kernel_rfl
theorem nf49 : noisyF Tryz.prog 49 = false := by kernel_rfl
theorem nf50 : noisyF Tryz.prog 50 = false := by kernel_rfl
theorem nf51 : noisyF Tryz.prog 51 = false := by kernel_rfl
theorem nf52 : noisyF Tryz.prog 52 = false := by kernel_rfl
theorem nf53 : noisyF Tryz.prog 53 = false := by kernel_rfl
theorem nf54 : noisyF Tryz.prog 54 = false := by kernel_rfl
theorem nf55 : noisyF Tryz.prog 55 = false := by kernel_rfl
theorem nf56 : noisyF Tryz.prog 56 = false := by kernel_rfl
theorem nf57 : noisyF Tryz.prog 57 = false := by kernel_rfl
theorem nf58 : noisyF Tryz.prog 58 = false := by kernel_rfl
theorem nf59 : noisyF Tryz.prog 59 = false := by kernel_rfl
theorem nf60 : noisyF Tryz.prog 60 = true := by kernel_rfl
theorem nf61 : noisyF Tryz.prog 61 = true := by kernel_rfl
theorem nf62 : noisyF Tryz.prog 62 = false := by kernel_rfl
theorem nf63 : noisyF Tryz.prog 63 = false := by kernel_rfl
theorem nf64 : noisyF Tryz.prog 64 = false := by kernel_rfl
theorem nf65 : noisyF Tryz.prog 65 = false := by kernel_rfl
theorem nf66 : noisyF Tryz.prog 66 = false := by kernel_rfl
theorem nf67 : noisyF Tryz.prog 67 = false := by kernel_rfl
theorem nf68 : noisyF Tryz.prog 68 = true := by kernel_rfl
theorem nf69 : noisyF Tryz.prog 69 = true := by kernel_rfl
theorem nf70 : noisyF Tryz.prog 70 = false := by kernel_rfl
theorem nf71 : noisyF Tryz.prog 71 = false := by kernel_rfl
theorem nf72 : noisyF Tryz.prog 72 = false := by kernel_rfl
theorem nf73 : noisyF Tryz.prog 73 = false := by kernel_rfl
theorem nf74 : noisyF Tryz.prog 74 = false := by kernel_rfl
theorem nf75 : noisyF Tryz.prog 75 = false := by kernel_rfl
theorem nf76 : noisyF Tryz.prog 76 = false := by kernel_rfl
theorem nf77 : noisyF Tryz.prog 77 = false := by kernel_rfl
theorem nf78 : noisyF Tryz.prog 78 = false := by kernel_rfl
theorem nf79 : noisyF Tryz.prog 79 = false := by kernel_rfl
theorem nf80 : noisyF Tryz.prog 80 = false := by kernel_rfl
theorem nf81 : noisyF Tryz.prog 81 = false := by kernel_rfl
theorem nf82 : noisyF Tryz.prog 82 = false := by kernel_rfl
theorem nf83 : noisyF Tryz.prog 83 = false := by kernel_rfl
theorem nf84 : noisyF Tryz.prog 84 = false := by kernel_rfl
theorem nf85 : noisyF Tryz.prog 85 = false := by kernel_rfl
theorem nf86 : noisyF Tryz.prog 86 = false := by kernel_rfl
theorem nf87 : noisyF Tryz.prog 87 = true := by kernel_rfl
theorem nf88 : noisyF Tryz.prog 88 = true := by kernel_rfl
theorem nf89 : noisyF Tryz.prog 89 = true := by kernel_rfl
theorem nf90 : noisyF Tryz.prog 90 = true := by kernel_rfl
theorem nf91 : noisyF Tryz.prog 91 = false := by kernel_rfl
theorem nf92 : noisyF Tryz.prog 92 = true := by kernel_rfl
theorem nf93 : noisyF Tryz.prog 93 = true := by kernel_rfl
theorem nf94 : noisyF Tryz.prog 94 = true := by kernel_rfl
theorem nf95 : noisyF Tryz.prog 95 = false := by kernel_rfl
theorem nf96 : noisyF Tryz.prog 96 = true := by kernel_rfl
theorem nf97 : noisyF Tryz.prog 97 = false := by kernel_rfl
theorem nf98 : noisyF Tryz.prog 98 = false := by kernel_rfl
theorem nf99 : noisyF Tryz.prog 99 = false := by kernel_rfl
theorem nf100 : noisyF Tryz.prog 100 = false := by kernel_rfl
theorem nf101 : noisyF Tryz.prog 101 = false := by kernel_rfl
theorem nf102 : noisyF Tryz.prog 102 = false := by kernel_rfl
theorem nf103 : noisyF Tryz.prog 103 = false := by kernel_rfl
theorem nf104 : noisyF Tryz.prog 104 = false := by kernel_rfl
theorem nf105 : noisyF Tryz.prog 105 = true := by kernel_rfl
theorem nf106 : noisyF Tryz.prog 106 = false := by kernel_rfl
theorem nf107 : noisyF Tryz.prog 107 = false := by kernel_rfl
theorem nf108 : noisyF Tryz.prog 108 = true := by kernel_rfl
theorem nf109 : noisyF Tryz.prog 109 = true := by kernel_rfl
theorem nf110 : noisyF Tryz.prog 110 = false := by kernel_rfl
theorem nf111 : noisyF Tryz.prog 111 = false := by kernel_rfl
theorem nf112 : noisyF Tryz.prog 112 = false := by kernel_rfl
theorem nf113 : noisyF Tryz.prog 113 = false := by kernel_rfl
theorem nf114 : noisyF Tryz.prog 114 = false := by kernel_rfl
theorem nf115 : noisyF Tryz.prog 115 = false := by kernel_rfl
theorem nf116 : noisyF Tryz.prog 116 = false := by kernel_rfl
theorem nf117 : noisyF Tryz.prog 117 = false := by kernel_rfl
theorem nf118 : noisyF Tryz.prog 118 = false := by kernel_rfl
theorem nf119 : noisyF Tryz.prog 119 = false := by kernel_rfl
theorem nf120 : noisyF Tryz.prog 120 = false := by kernel_rfl
theorem nf121 : noisyF Tryz.prog 121 = false := by kernel_rfl
theorem nf122 : noisyF Tryz.prog 122 = false := by kernel_rfl
theorem nf123 : noisyF Tryz.prog 123 = false := by kernel_rfl
theorem nf124 : noisyF Tryz.prog 124 = false := by kernel_rfl
theorem nf125 : noisyF Tryz.prog 125 = false := by kernel_rfl
theorem nf126 : noisyF Tryz.prog 126 = false := by kernel_rfl
theorem nf127 : noisyF Tryz.prog 127 = false := by kernel_rfl
theorem nf128 : noisyF Tryz.prog 128 = false := by kernel_rfl
theorem nf131 : noisyF Tryz.prog 131 = false := by kernel_rfl
theorem nf135 : noisyF Tryz.prog 135 = false := by kernel_rfl
theorem nf136 : noisyF Tryz.prog 136 = false := by kernel_rfl
theorem nf138 : noisyF Tryz.prog 138 = false := by kernel_rfl
theorem nf139 : noisyF Tryz.prog 139 = false := by kernel_rfl
theorem nf140 : noisyF Tryz.prog 140 = false := by kernel_rfl
theorem nf141 : noisyF Tryz.prog 141 = false := by kernel_rfl
theorem nf142 : noisyF Tryz.prog 142 = false := by kernel_rfl
theorem nf143 : noisyF Tryz.prog 143 = false := by kernel_rfl
theorem nf144 : noisyF Tryz.prog 144 = false := by kernel_rfl
theorem nf145 : noisyF Tryz.prog 145 = false := by kernel_rfl
theorem nf148 : noisyF Tryz.prog 148 = false := by kernel_rfl
theorem nf149 : noisyF Tryz.prog 149 = false := by kernel_rfl
theorem nf150 : noisyF Tryz.prog 150 = false := by kernel_rfl
theorem nf151 : noisyF Tryz.prog 151 = false := by kernel_rfl
theorem nf167 : noisyF Tryz.prog 167 = true := by kernel_rfl
theorem nf168 : noisyF Tryz.prog 168 = false := by kernel_rfl
theorem nf169 : noisyF Tryz.prog 169 = true := by kernel_rfl
theorem nf173 : noisyF Tryz.prog 173 = false := by kernel_rfl
theorem nf174 : noisyF Tryz.prog 174 = false := by kernel_rfl
theorem nf175 : noisyF Tryz.prog 175 = false := by kernel_rfl
theorem nf176 : noisyF Tryz.prog 176 = false := by kernel_rfl
theorem nf177 : noisyF Tryz.prog 177 = false := by kernel_rfl
theorem good3 : (callable Tryz.prog 3 && tmpsOnly Tryz.f3 && decide (2 ≤ Tryz.f3.ntmps) && (match Tryz.f3.body with | some c => goodC Tryz.prog Tryz.f3.ntmps c | none => false)) = true := by kernel_rfl
theorem good4 : (callable Tryz.prog 4 && tmpsOnly Tryz.f4 && decide (2 ≤ Tryz.f4.ntmps) && (match Tryz.f4.body with | some c => goodC Tryz.prog Tryz.f4.ntmps c | none => false)) = true := by kernel_rfl
theorem good5 : (callable Tryz.prog 5 && tmpsOnly Tryz.f5 && decide (2 ≤ Tryz.f5.ntmps) && (match Tryz.f5.body with | some c => goodC Tryz.prog Tryz.f5.ntmps c | none => false)) = true := by kernel_rfl
theorem goodc6 : (callable Tryz.prog 6 && Tryz.f6.results.toList.all (rok Tryz.prog) && decide (2 ≤ Tryz.f6.ntmps) && (match Tryz.f6.body with | some c => goodC Tryz.prog Tryz.f6.ntmps c | none => false)) = true := by kernel_rfl
theorem goodc7 : (callable Tryz.prog 7 && Tryz.f7.results.toList.all (rok Tryz.prog) && decide (1 ≤ Tryz.f7.ntmps) && (match Tryz.f7.body with | some c => goodC Tryz.prog Tryz.f7.ntmps c | none => false)) = true := by kernel_rfl
theorem goodc8 : (callable Tryz.prog 8 && Tryz.f8.results.toList.all (rok Tryz.prog) && decide (2 ≤ Tryz.f8.ntmps) && (match Tryz.f8.body with | some c => goodC Tryz.prog Tryz.f8.ntmps c | none => false)) = true := by kernel_rfl
theorem good9 : (callable Tryz.prog 9 && tmpsOnly Tryz.f9 && decide (2 ≤ Tryz.f9.ntmps) && (match Tryz.f9.body with | some c => goodC Tryz.prog Tryz.f9.ntmps c | none => false)) = true := by kernel_rfl
theorem good10 : (callable Tryz.prog 10 && tmpsOnly Tryz.f10 && decide (2 ≤ Tryz.f10.ntmps) && (match Tryz.f10.body with | some c => goodC Tryz.prog Tryz.f10.ntmps c | none => false)) = true := by kernel_rfl
theorem good11 : (callable Tryz.prog 11 && tmpsOnly Tryz.f11 && decide (2 ≤ Tryz.f11.ntmps) && (match Tryz.f11.body with | some c => goodC Tryz.prog Tryz.f11.ntmps c | none => false)) = true := by kernel_rfl
theorem good12 : (callable Tryz.prog 12 && tmpsOnly Tryz.f12 && decide (2 ≤ Tryz.f12.ntmps) && (match Tryz.f12.body with | some c => goodC Tryz.prog Tryz.f12.ntmps c | none => false)) = true := by kernel_rfl
theorem goodc13 : (callable Tryz.prog 13 && Tryz.f13.results.toList.all (rok Tryz.prog) && decide (2 ≤ Tryz.f13.ntmps) && (match Tryz.f13.body with | some c => goodC Tryz.prog Tryz.f13.ntmps c | none => false)) = true := by kernel_rfl
theorem good14 : (callable Tryz.prog 14 && tmpsOnly Tryz.f14 && decide (1 ≤ Tryz.f14.ntmps) && (match Tryz.f14.body with | some c => goodC Tryz.prog Tryz.f14.ntmps c | none => false)) = true := by kernel_rfl
theorem goodc15 : (callable Tryz.prog 15 && Tryz.f15.results.toList.all (rok Tryz.prog) && decide (2 ≤ Tryz.f15.ntmps) && (match Tryz.f15.body with | some c => goodC Tryz.prog Tryz.f15.ntmps c | none => false)) = true := by kernel_rfl
theorem good16 : (callable Tryz.prog 16 && tmpsOnly Tryz.f16 && decide (2 ≤ Tryz.f16.ntmps) && (match Tryz.f16.body with | some c => goodC Tryz.prog Tryz.f16.ntmps c | none => false)) = true := by kernel_rfl
theorem good17 : (callable Tryz.prog 17 && tmpsOnly Tryz.f17 && decide (2 ≤ Tryz.f17.ntmps) && (match Tryz.f17.body with | some c => goodC Tryz.prog Tryz.f17.ntmps c | none => false)) = true := by kernel_rfl
theorem good18 : (callable Tryz.prog 18 && tmpsOnly Tryz.f18 && decide (2 ≤ Tryz.f18.ntmps) && (match Tryz.f18.body with | some c => goodC Tryz.prog Tryz.f18.ntmps c | none => false)) = true := by kernel_rfl
theorem good19 : (callable Tryz.prog 19 && tmpsOnly Tryz.f19 && decide (2 ≤ Tryz.f19.ntmps) && (match Tryz.f19.body with | some c => goodC Tryz.prog Tryz.f19.ntmps c | none => false)) = true := by kernel_rfl
theorem good20 : (callable Tryz.prog 20 && tmpsOnly Tryz.f20 && decide (1 ≤ Tryz.f20.ntmps) && (match Tryz.f20.body with | some c => goodC Tryz.prog Tryz.f20.ntmps c | none => false)) = true := by kernel_rfl
theorem goodc21 : (callable Tryz.prog 21 && Tryz.f21.results.toList.all (rok Tryz.prog) && decide (1 ≤ Tryz.f21.ntmps) && (match Tryz.f21.body with | some c => goodC Tryz.prog Tryz.f21.ntmps c | none => false)) = true := by kernel_rfl
theorem good22 : (callable Tryz.prog 22 && tmpsOnly Tryz.f22 && decide (2 ≤ Tryz.f22.ntmps) && (match Tryz.f22.body with | some c => goodC Tryz.prog Tryz.f22.ntmps c | none => false)) = true := by kernel_rfl
theorem goodc23 : (callable Tryz.prog 23 && Tryz.f23.results.toList.all (rok Tryz.prog) && decide (1 ≤ Tryz.f23.ntmps) && (match Tryz.f23.body with | some c => goodC Tryz.prog Tryz.f23.ntmps c | none => false)) = true := by kernel_rfl
theorem good24 : (callable Tryz.prog 24 && tmpsOnly Tryz.f24 && decide (1 ≤ Tryz.f24.ntmps) && (match Tryz.f24.body with | some c => goodC Tryz.prog Tryz.f24.ntmps c | none => false)) = true := by kernel_rfl
theorem goodc25 : (callable Tryz.prog 25 && Tryz.f25.results.toList.all (rok Tryz.prog) && decide (2 ≤ Tryz.f25.ntmps) && (match Tryz.f25.body with | some c => goodC Tryz.prog Tryz.f25.ntmps c | none => false)) = true := by kernel_rfl
theorem good26 : (callable Tryz.prog 26 && tmpsOnly Tryz.f26 && decide (2 ≤ Tryz.f26.ntmps) && (match Tryz.f26.body with | some c => goodC Tryz.prog Tryz.f26.ntmps c | none => false)) = true := by kernel_rfl
theorem goodc27 : (callable Tryz.prog 27 && Tryz.f27.results.toList.all (rok Tryz.prog) && decide (2 ≤ Tryz.f27.ntmps) && (match Tryz.f27.body with | some c => goodC Tryz.prog Tryz.f27.ntmps c | none => false)) = true := by kernel_rfl
theorem good28 : (callable Tryz.prog 28 && tmpsOnly Tryz.f28 && decide (1 ≤ Tryz.f28.ntmps) && (match Tryz.f28.body with | some c => goodC Tryz.prog Tryz.f28.ntmps c | none => false)) = true := by kernel_rfl
theorem good29 : (callable Tryz.prog 29 && tmpsOnly Tryz.f29 && decide (1 ≤ Tryz.f29.ntmps) && (match Tryz.f29.body with | some c => goodC Tryz.prog Tryz.f29.ntmps c | none => false)) = true := by kernel_rfl
theorem good30 : (callable Tryz.prog 30 && tmpsOnly Tryz.f30 && decide (2 ≤ Tryz.f30.ntmps) && (match Tryz.f30.body with | some c => goodC Tryz.prog Tryz.f30.ntmps c | none => false)) = true := by kernel_rfl
theorem good31 : (callable Tryz.prog 31 && tmpsOnly Tryz.f31 && decide (2 ≤ Tryz.f31.ntmps) && (match Tryz.f31.body with | some c => goodC Tryz.prog Tryz.f31.ntmps c | none => false)) = true := by kernel_rfl
theorem goodc32 : (callable Tryz.prog 32 && Tryz.f32.results.toList.all (rok Tryz.prog) && decide (1 ≤ Tryz.f32.ntmps) && (match Tryz.f32.body with | some c => goodC Tryz.prog Tryz.f32.ntmps c | none => false)) = true := by kernel_rfl
theorem good33 : (callable Tryz.prog 33 && tmpsOnly Tryz.f33 && decide (1 ≤ Tryz.f33.ntmps) && (match Tryz.f33.body with | some c => goodC Tryz.prog Tryz.f33.ntmps c | none => false)) = true := by kernel_rfl
theorem good34 : (callable Tryz.prog 34 && tmpsOnly Tryz.f34 && decide (1 ≤ Tryz.f34.ntmps) && (match Tryz.f34.body with | some c => goodC Tryz.prog Tryz.f34.ntmps c | none => false)) = true := by kernel_rfl
theorem good35 : (callable Tryz.prog 35 && tmpsOnly Tryz.f35 && decide (1 ≤ Tryz.f35.ntmps) && (match Tryz.f35.body with | some c => goodC Tryz.prog Tryz.f35.ntmps c | none => false)) = true := by kernel_rfl
theorem good36 : (callable Tryz.prog 36 && tmpsOnly Tryz.f36 && decide (2 ≤ Tryz.f36.ntmps) && (match Tryz.f36.body with | some c => goodC Tryz.prog Tryz.f36.ntmps c | none => false)) = true := by kernel_rfl
theorem goodc37 : (callable Tryz.prog 37 && Tryz.f37.results.toList.all (rok Tryz.prog) && decide (1 ≤ Tryz.f37.ntmps) && (match Tryz.f37.body with | some c => goodC Tryz.prog Tryz.f37.ntmps c | none => false)) = true := by kernel_rfl
theorem good38 : (callable Tryz.prog 38 && tmpsOnly Tryz.f38 && decide (2 ≤ Tryz.f38.ntmps) && (match Tryz.f38.body with | some c => goodC Tryz.prog Tryz.f38.ntmps c | none => false)) = true := by kernel_rfl
theorem good39 : (callable Tryz.prog 39 && tmpsOnly Tryz.f39 && decide (2 ≤ Tryz.f39.ntmps) && (match Tryz.f39.body with | some c => goodC Tryz.prog Tryz.f39.ntmps c | none => false)) = true := by kernel_rfl
theorem good40 : (callable Tryz.prog 40 && tmpsOnly Tryz.f40 && decide (2 ≤ Tryz.f40.ntmps) && (match Tryz.f40.body with | some c => goodC Tryz.prog Tryz.f40.ntmps c | none => false)) = true := by kernel_rfl
theorem good41 : (callable Tryz.prog 41 && tmpsOnly Tryz.f41 && decide (2 ≤ Tryz.f41.ntmps) && (match Tryz.f41.body with | some c => goodC Tryz.prog Tryz.f41.ntmps c | none => false)) = true := by kernel_rfl
theorem good42 : (callable Tryz.prog 42 && tmpsOnly Tryz.f42 && decide (1 ≤ Tryz.f42.ntmps) && (match Tryz.f42.body with | some c => goodC Tryz.prog Tryz.f42.ntmps c | none => false)) = true := by kernel_rfl
theorem good43 : (callable Tryz.prog 43 && tmpsOnly Tryz.f43 && decide (1 ≤ Tryz.f43.ntmps) && (match Tryz.f43.body with | some c => goodC Tryz.prog Tryz.f43.ntmps c | none => false)) = true := by kernel_rfl
theorem good44 : (callable Tryz.prog 44 && tmpsOnly Tryz.f44 && decide (1 ≤ Tryz.f44.ntmps) && (match Tryz.f44.body with | some c => goodC Tryz.prog Tryz.f44.ntmps c | none => false)) = true := by kernel_rfl
theorem good45 : (callable Tryz.prog 45 && tmpsOnly Tryz.f45 && decide (1 ≤ Tryz.f45.ntmps) && (match Tryz.f45.body with | some c => goodC Tryz.prog Tryz.f45.ntmps c | none => false)) = true := by kernel_rfl
theorem good46 : (callable Tryz.prog 46 && tmpsOnly Tryz.f46 && decide (2 ≤ Tryz.f46.ntmps) && (match Tryz.f46.body with | some c => goodC Tryz.prog Tryz.f46.ntmps c | none => false)) = true := by kernel_rfl
theorem good47 : (callable Tryz.prog 47 && tmpsOnly Tryz.f47 && decide (1 ≤ Tryz.f47.ntmps) && (match Tryz.f47.body with | some c => goodC Tryz.prog Tryz.f47.ntmps c | none => false)) = true := by kernel_rfl
theorem good48 : (callable Tryz.prog 48 && tmpsOnly Tryz.f48 && decide (3 ≤ Tryz.f48.ntmps) && (match Tryz.f48.body with | some c => goodC Tryz.prog Tryz.f48.ntmps c | none => false)) = true := by kernel_rfl
theorem good49 : (callable Tryz.prog 49 && tmpsOnly Tryz.f49 && decide (4 ≤ Tryz.f49.ntmps) && (match Tryz.f49.body with | some c => goodC Tryz.prog Tryz.f49.ntmps c | none => false)) = true := by kernel_rfl
theorem good50 : (callable Tryz.prog 50 && tmpsOnly Tryz.f50 && decide (3 ≤ Tryz.f50.ntmps) && (match Tryz.f50.body with | some c => goodC Tryz.prog Tryz.f50.ntmps c | none => false)) = true := by kernel_rfl
theorem goodc51 : (callable Tryz.prog 51 && Tryz.f51.results.toList.all (rok Tryz.prog) && decide (1 ≤ Tryz.f51.ntmps) && (match Tryz.f51.body with | some c => goodC Tryz.prog Tryz.f51.ntmps c | none => false)) = true := by kernel_rfl
theorem good52 : (callable Tryz.prog 52 && tmpsOnly Tryz.f52 && decide (1 ≤ Tryz.f52.ntmps) && (match Tryz.f52.body with | some c => goodC Tryz.prog Tryz.f52.ntmps c | none => false)) = true := by kernel_rfl
theorem good53 : (callable Tryz.prog 53 && tmpsOnly Tryz.f53 && decide (1 ≤ Tryz.f53.ntmps) && (match Tryz.f53.body with | some c => goodC Tryz.prog Tryz.f53.ntmps c | none => false)) = true := by kernel_rfl
theorem good54 : (callable Tryz.prog 54 && tmpsOnly Tryz.f54 && decide (2 ≤ Tryz.f54.ntmps) && (match Tryz.f54.body with | some c => goodC Tryz.prog Tryz.f54.ntmps c | none => false)) = true := by kernel_rfl
theorem good55 : (callable Tryz.prog 55 && tmpsOnly Tryz.f55 && decide (2 ≤ Tryz.f55.ntmps) && (match Tryz.f55.body with | some c => goodC Tryz.prog Tryz.f55.ntmps c | none => false)) = true := by kernel_rfl
theorem good56 : (callable Tryz.prog 56 && tmpsOnly Tryz.f56 && decide (2 ≤ Tryz.f56.ntmps) && (match Tryz.f56.body with | some c => goodC Tryz.prog Tryz.f56.ntmps c | none => false)) = true := by kernel_rfl
theorem good57 : (callable Tryz.prog 57 && tmpsOnly Tryz.f57 && decide (1 ≤ Tryz.f57.ntmps) && (match Tryz.f57.body with | some c => goodC Tryz.prog Tryz.f57.ntmps c | none => false)) = true := by kernel_rfl
theorem good58 : (callable Tryz.prog 58 && tmpsOnly Tryz.f58 && decide (1 ≤ Tryz.f58.ntmps) && (match Tryz.f58.body with | some c => goodC Tryz.prog Tryz.f58.ntmps c | none => false)) = true := by kernel_rfl
theorem goodc59 : (callable Tryz.prog 59 && Tryz.f59.results.toList.all (rok Tryz.prog) && decide (1 ≤ Tryz.f59.ntmps) && (match Tryz.f59.body with | some c => goodC Tryz.prog Tryz.f59.ntmps c | none => false)) = true := by kernel_rfl
theorem good60 : (callable Tryz.prog 60 && tmpsOnly Tryz.f60 && decide (2 ≤ Tryz.f60.ntmps) && (match Tryz.f60.body with | some c => goodC Tryz.prog Tryz.f60.ntmps c | none => false)) = true := by kernel_rfl
theorem good61 : (callable Tryz.prog 61 && tmpsOnly Tryz.f61 && decide (2 ≤ Tryz.f61.ntmps) && (match Tryz.f61.body with | some c => goodC Tryz.prog Tryz.f61.ntmps c | none => false)) = true := by kernel_rfl
theorem good62 : (callable Tryz.prog 62 && tmpsOnly Tryz.f62 && decide (1 ≤ Tryz.f62.ntmps) && (match Tryz.f62.body with | some c => goodC Tryz.prog Tryz.f62.ntmps c | none => false)) = true := by kernel_rfl
theorem good66 : (callable Tryz.prog 66 && tmpsOnly Tryz.f66 && decide (1 ≤ Tryz.f66.ntmps) && (match Tryz.f66.body with | some c => goodC Tryz.prog Tryz.f66.ntmps c | none => false)) = true := by kernel_rfl
theorem good67 : (callable Tryz.prog 67 && tmpsOnly Tryz.f67 && decide (1 ≤ Tryz.f67.ntmps) && (match Tryz.f67.body with | some c => goodC Tryz.prog Tryz.f67.ntmps c | none => false)) = true := by kernel_rfl
theorem good68 : (callable Tryz.prog 68 && tmpsOnly Tryz.f68 && decide (2 ≤ Tryz.f68.ntmps) && (match Tryz.f68.body with | some c => goodC Tryz.prog Tryz.f68.ntmps c | none => false)) = true := by kernel_rfl
theorem good69 : (callable Tryz.prog 69 && tmpsOnly Tryz.f69 && decide (2 ≤ Tryz.f69.ntmps) && (match Tryz.f69.body with | some c => goodC Tryz.prog Tryz.f69.ntmps c | none => false)) = true := by kernel_rfl
theorem good70 : (callable Tryz.prog 70 && tmpsOnly Tryz.f70 && decide (2 ≤ Tryz.f70.ntmps) && (match Tryz.f70.body with | some c => goodC Tryz.prog Tryz.f70.ntmps c | none => false)) = true := by kernel_rfl
theorem good71 : (callable Tryz.prog 71 && tmpsOnly Tryz.f71 && decide (1 ≤ Tryz.f71.ntmps) && (match Tryz.f71.body with | some c => goodC Tryz.prog Tryz.f71.ntmps c | none => false)) = true := by kernel_rfl
theorem good72 : (callable Tryz.prog 72 && tmpsOnly Tryz.f72 && decide (1 ≤ Tryz.f72.ntmps) && (match Tryz.f72.body with | some c => goodC Tryz.prog Tryz.f72.ntmps c | none => false)) = true := by kernel_rfl
theorem good73 : (callable Tryz.prog 73 && tmpsOnly Tryz.f73 && decide (2 ≤ Tryz.f73.ntmps) && (match Tryz.f73.body with | some c => goodC Tryz.prog Tryz.f73.ntmps c | none => false)) = true := by kernel_rfl
theorem good74 : (callable Tryz.prog 74 && tmpsOnly Tryz.f74 && decide (3 ≤ Tryz.f74.ntmps) && (match Tryz.f74.body with | some c => goodC Tryz.prog Tryz.f74.ntmps c | none => false)) = true := by kernel_rfl
theorem good75 : (callable Tryz.prog 75 && tmpsOnly Tryz.f75 && decide (4 ≤ Tryz.f75.ntmps) && (match Tryz.f75.body with | some c => goodC Tryz.prog Tryz.f75.ntmps c | none => false)) = true := by kernel_rfl
theorem good76 : (callable Tryz.prog 76 && tmpsOnly Tryz.f76 && decide (2 ≤ Tryz.f76.ntmps) && (match Tryz.f76.body with | some c => goodC Tryz.prog Tryz.f76.ntmps c | none => false)) = true := by kernel_rfl
theorem good77 : (callable Tryz.prog 77 && tmpsOnly Tryz.f77 && decide (4 ≤ Tryz.f77.ntmps) && (match Tryz.f77.body with | some c => goodC Tryz.prog Tryz.f77.ntmps c | none => false)) = true := by kernel_rfl
theorem good78 : (callable Tryz.prog 78 && tmpsOnly Tryz.f78 && decide (2 ≤ Tryz.f78.ntmps) && (match Tryz.f78.body with | some c => goodC Tryz.prog Tryz.f78.ntmps c | none => false)) = true := by kernel_rfl
theorem good79 : (callable Tryz.prog 79 && tmpsOnly Tryz.f79 && decide (1 ≤ Tryz.f79.ntmps) && (match Tryz.f79.body with | some c => goodC Tryz.prog Tryz.f79.ntmps c | none => false)) = true := by kernel_rfl
theorem good80 : (callable Tryz.prog 80 && tmpsOnly Tryz.f80 && decide (1 ≤ Tryz.f80.ntmps) && (match Tryz.f80.body with | some c => goodC Tryz.prog Tryz.f80.ntmps c | none => false)) = true := by kernel_rfl
theorem good81 : (callable Tryz.prog 81 && tmpsOnly Tryz.f81 && decide (2 ≤ Tryz.f81.ntmps) && (match Tryz.f81.body with | some c => goodC Tryz.prog Tryz.f81.ntmps c | none => false)) = true := by kernel_rfl
theorem good82 : (callable Tryz.prog 82 && tmpsOnly Tryz.f82 && decide (3 ≤ Tryz.f82.ntmps) && (match Tryz.f82.body with | some c => goodC Tryz.prog Tryz.f82.ntmps c | none => false)) = true := by kernel_rfl
theorem good83 : (callable Tryz.prog 83 && tmpsOnly Tryz.f83 && decide (2 ≤ Tryz.f83.ntmps) && (match Tryz.f83.body with | some c => goodC Tryz.prog Tryz.f83.ntmps c | none => false)) = true := by kernel_rfl
theorem good85 : (callable Tryz.prog 85 && tmpsOnly Tryz.f85 && decide (1 ≤ Tryz.f85.ntmps) && (match Tryz.f85.body with | some c => goodC Tryz.prog Tryz.f85.ntmps c | none => false)) = true := by kernel_rfl
theorem good86 : (callable Tryz.prog 86 && tmpsOnly Tryz.f86 && decide (2 ≤ Tryz.f86.ntmps) && (match Tryz.f86.body with | some c => goodC Tryz.prog Tryz.f86.ntmps c | none => false)) = true := by kernel_rfl
theorem good87 : (callable Tryz.prog 87 && tmpsOnly Tryz.f87 && decide (3 ≤ Tryz.f87.ntmps) && (match Tryz.f87.body with | some c => goodC Tryz.prog Tryz.f87.ntmps c | none => false)) = true := by kernel_rfl
theorem good88 : (callable Tryz.prog 88 && tmpsOnly Tryz.f88 && decide (2 ≤ Tryz.f88.ntmps) && (match Tryz.f88.body with | some c => goodC Tryz.prog Tryz.f88.ntmps c | none => false)) = true := by kernel_rfl
theorem good89 : (callable Tryz.prog 89 && tmpsOnly Tryz.f89 && decide (2 ≤ Tryz.f89.ntmps) && (match Tryz.f89.body with | some c => goodC Tryz.prog Tryz.f89.ntmps c | none => false)) = true := by kernel_rfl
theorem good90 : (callable Tryz.prog 90 && tmpsOnly Tryz.f90 && decide (3 ≤ Tryz.f90.ntmps) && (match Tryz.f90.body with | some c => goodC Tryz.prog Tryz.f90.ntmps c | none => false)) = true := by kernel_rfl
theorem good96 : (callable Tryz.prog 96 && tmpsOnly Tryz.f96 && decide (2 ≤ Tryz.f96.ntmps) && (match Tryz.f96.body with | some c => goodC Tryz.prog Tryz.f96.ntmps c | none => false)) = true := by kernel_rfl
theorem good97 : (callable Tryz.prog 97 && tmpsOnly Tryz.f97 && decide (2 ≤ Tryz.f97.ntmps) && (match Tryz.f97.body with | some c => goodC Tryz.prog Tryz.f97.ntmps c | none => false)) = true := by kernel_rfl
theorem good98 : (callable Tryz.prog 98 && tmpsOnly Tryz.f98 && decide (2 ≤ Tryz.f98.ntmps) && (match Tryz.f98.body with | some c => goodC Tryz.prog Tryz.f98.ntmps c | none => false)) = true := by kernel_rfl
theorem good99 : (callable Tryz.prog 99 && tmpsOnly Tryz.f99 && decide (3 ≤ Tryz.f99.ntmps) && (match Tryz.f99.body with | some c => goodC Tryz.prog Tryz.f99.ntmps c | none => false)) = true := by kernel_rfl
theorem good100 : (callable Tryz.prog 100 && tmpsOnly Tryz.f100 && decide (3 ≤ Tryz.f100.ntmps) && (match Tryz.f100.body with | some c => goodC Tryz.prog Tryz.f100.ntmps c | none => false)) = true := by kernel_rfl
theorem good103 : (callable Tryz.prog 103 && tmpsOnly Tryz.f103 && decide (1 ≤ Tryz.f103.ntmps) && (match Tryz.f103.body with | some c => goodC Tryz.prog Tryz.f103.ntmps c | none => false)) = true := by kernel_rfl
theorem good104 : (callable Tryz.prog 104 && tmpsOnly Tryz.f104 && decide (4 ≤ Tryz.f104.ntmps) && (match Tryz.f104.body with | some c => goodC Tryz.prog Tryz.f104.ntmps c | none => false)) = true := by kernel_rfl
theorem good105 : (callable Tryz.prog 105 && tmpsOnly Tryz.f105 && decide (2 ≤ Tryz.f105.ntmps) && (match Tryz.f105.body with | some c => goodC Tryz.prog Tryz.f105.ntmps c | none => false)) = true := by kernel_rfl
theorem good106 : (callable Tryz.prog 106 && tmpsOnly Tryz.f106 && decide (3 ≤ Tryz.f106.ntmps) && (match Tryz.f106.body with | some c => goodC Tryz.prog Tryz.f106.ntmps c | none => false)) = true := by kernel_rfl
theorem good111 : (callable Tryz.prog 111 && tmpsOnly Tryz.f111 && decide (2 ≤ Tryz.f111.ntmps) && (match Tryz.f111.body with | some c => goodC Tryz.prog Tryz.f111.ntmps c | none => false)) = true := by kernel_rfl
theorem good117 : (callable Tryz.prog 117 && tmpsOnly Tryz.f117 && decide (4 ≤ Tryz.f117.ntmps) && (match Tryz.f117.body with | some c => goodC Tryz.prog Tryz.f117.ntmps c | none => false)) = true := by kernel_rfl
theorem good118 : (callable Tryz.prog 118 && tmpsOnly Tryz.f118 && decide (4 ≤ Tryz.f118.ntmps) && (match Tryz.f118.body with | some c => goodC Tryz.prog Tryz.f118.ntmps c | none => false)) = true := by kernel_rfl
theorem good119 : (callable Tryz.prog 119 && tmpsOnly Tryz.f119 && decide (2 ≤ Tryz.f119.ntmps) && (match Tryz.f119.body with | some c => goodC Tryz.prog Tryz.f119.ntmps c | none => false)) = true := by kernel_rfl
theorem good120 : (callable Tryz.prog 120 && tmpsOnly Tryz.f120 && decide (3 ≤ Tryz.f120.ntmps) && (match Tryz.f120.body with | some c => goodC Tryz.prog Tryz.f120.ntmps c | none => false)) = true := by kernel_rfl
theorem good121 : (callable Tryz.prog 121 && tmpsOnly Tryz.f121 && decide (3 ≤ Tryz.f121.ntmps) && (match Tryz.f121.body with | some c => goodC Tryz.prog Tryz.f121.ntmps c | none => false)) = true := by kernel_rfl
theorem good122 : (callable Tryz.prog 122 && tmpsOnly Tryz.f122 && decide (3 ≤ Tryz.f122.ntmps) && (match Tryz.f122.body with | some c => goodC Tryz.prog Tryz.f122.ntmps c | none => false)) = true := by kernel_rfl
theorem good123 : (callable Tryz.prog 123 && tmpsOnly Tryz.f123 && decide (2 ≤ Tryz.f123.ntmps) && (match Tryz.f123.body with | some c => goodC Tryz.prog Tryz.f123.ntmps c | none => false)) = true := by kernel_rfl
theorem good124 : (callable Tryz.prog 124 && tmpsOnly Tryz.f124 && decide (2 ≤ Tryz.f124.ntmps) && (match Tryz.f124.body with | some c => goodC Tryz.prog Tryz.f124.ntmps c | none => false)) = true := by kernel_rfl
theorem good138 : (callable Tryz.prog 138 && tmpsOnly Tryz.f138 && decide (4 ≤ Tryz.f138.ntmps) && (match Tryz.f138.body with | some c => goodC Tryz.prog Tryz.f138.ntmps c | none => false)) = true := by kernel_rfl
theorem good139 : (callable Tryz.prog 139 && tmpsOnly Tryz.f139 && decide (3 ≤ Tryz.f139.ntmps) && (match Tryz.f139.body with | some c => goodC Tryz.prog Tryz.f139.ntmps c | none => false)) = true := by kernel_rfl
theorem good140 : (callable Tryz.prog 140 && tmpsOnly Tryz.f140 && decide (3 ≤ Tryz.f140.ntmps) && (match Tryz.f140.body with | some c => goodC Tryz.prog Tryz.f140.ntmps c | none => false)) = true := by kernel_rfl
abbrev chr (n : Nat) : Char := Char.ofNat n
set_option maxRecDepth 20000 in
theorem initS : Tryz.prog.initOrder.toList = [chr 104, chr 97, chr 114, chr 110, chr 101, chr 115, chr 115, chr 32, chr 57, chr 100, chr 51, chr 102, chr 51, chr 100, chr 55, chr 49, chr 100, chr 54, chr 52, chr 98, chr 56, chr 99, chr 49, chr 98, chr 102, chr 97, chr 56, chr 48, chr 97, chr 49, chr 100, chr 57, chr 53, chr 52, chr 56, chr 48, chr 50, chr 57, chr 51, chr 100, chr 100, chr 99, chr 49, chr 51, chr 97, chr 55, chr 53, chr 102, chr 51, chr 53, chr 50, chr 52, chr 48, chr 97, chr 100, chr 101, chr 51, chr 97, chr 54, chr 56, chr 54, chr 57, chr 97, chr 54, chr 102, chr 49, chr 54, chr 57, chr 57, chr 50, chr 48, chr 48, chr 32, chr 99, chr 117, chr 116, chr 32, chr 97, chr 116, chr 32, chr 108, chr 111, chr 111, chr 112, chr 46, chr 101, chr 120, chr 97, chr 109, chr 112, chr 108, chr 101, chr 47, chr 99, chr 105, chr 114, chr 99, chr 117, chr 105, chr 116, chr 115, chr 119, chr 105, chr 116, chr 99, chr 104, chr 105, chr 110, chr 103, chr 47, chr 108, chr 97, chr 119, chr 115, chr 46, chr 70, chr 110, chr 69, chr 120, chr 97, chr 99, chr 116, chr 69, chr 120, chr 76, chr 105, chr 110, chr 101, chr 32, chr 108, chr 111, chr 111, chr 112, chr 46, chr 101, chr 120, chr 97, chr 109, chr 112, chr 108, chr 101, chr 47, chr 99, chr 105, chr 114, chr 99, chr 117, chr 105, chr 116, chr 115, chr 119, chr 105, chr 116, chr 99, chr 104, chr 105, chr 110, chr 103, chr 47, chr 108, chr 97, chr 119, chr 115, chr 46, chr 70, chr 110, chr 69, chr 120, chr 97, chr 99, chr 116, chr 69, chr 120, chr 76, chr 105, chr 110, chr 101, chr 115] := by
  rw [show Tryz.prog.initOrder = String.ofList [chr 104, chr 97, chr 114, chr 110, chr 101, chr 115, chr 115, chr 32, chr 57, chr 100, chr 51, chr 102, chr 51, chr 100, chr 55, chr 49, chr 100, chr 54, chr 52, chr 98, chr 56, chr 99, chr 49, chr 98, chr 102, chr 97, chr 56, chr 48, chr 97, chr 49, chr 100, chr 57, chr 53, chr 52, chr 56, chr 48, chr 50, chr 57, chr 51, chr 100, chr 100, chr 99, chr 49, chr 51, chr 97, chr 55, chr 53, chr 102, chr 51, chr 53, chr 50, chr 52, chr 48, chr 97, chr 100, chr 101, chr 51, chr 97, chr 54, chr 56, chr 54, chr 57, chr 97, chr 54, chr 102, chr 49, chr 54, chr 57, chr 57, chr 50, chr 48, chr 48, chr 32, chr 99, chr 117, chr 116, chr 32, chr 97, chr 116, chr 32, chr 108, chr 111, chr 111, chr 112, chr 46, chr 101, chr 120, chr 97, chr 109, chr 112, chr 108, chr 101, chr 47, chr 99, chr 105, chr 114, chr 99, chr 117, chr 105, chr 116, chr 115, chr 119, chr 105, chr 116, chr 99, chr 104, chr 105, chr 110, chr 103, chr 47, chr 108, chr 97, chr 119, chr 115, chr 46, chr 70, chr 110, chr 69, chr 120, chr 97, chr 99, chr 116, chr 69, chr 120, chr 76, chr 105, chr 110, chr 101, chr 32, chr 108, chr 111, chr 111, chr 112, chr 46, chr 101, chr 120, chr 97, chr 109, chr 112, chr 108, chr 101, chr 47, chr 99, chr 105, chr 114, chr 99, chr 117, chr 105, chr 116, chr 115, chr 119, chr 105, chr 116, chr 99, chr 104, chr 105, chr 110, chr 103, chr 47, chr 108, chr 97, chr 119, chr 115, chr 46, chr 70, chr 110, chr 69, chr 120, chr 97, chr 99, chr 116, chr 69, chr 120, chr 76, chr 105, chr 110, chr 101, chr 115] from by kernel_rfl, String.toList_ofList]
set_option maxRecDepth 20000 in
theorem behind : behindMainWord (wordsSigns Tryz.prog.initOrder.toList) = cutW :: [[chr 97, chr 116], [chr 108, chr 111, chr 111, chr 112, chr 46, chr 101, chr 120, chr 97, chr 109, chr 112, chr 108, chr 101, chr 47, chr 99, chr 105, chr 114, chr 99, chr 117, chr 105, chr 116, chr 115, chr 119, chr 105, chr 116, chr 99, chr 104, chr 105, chr 110, chr 103, chr 47, chr 108, chr 97, chr 119, chr 115, chr 46, chr 70, chr 110, chr 69, chr 120, chr 97, chr 99, chr 116, chr 69, chr 120, chr 76, chr 105, chr 110, chr 101], [chr 108, chr 111, chr 111, chr 112, chr 46, chr 101, chr 120, chr 97, chr 109, chr 112, chr 108, chr 101, chr 47, chr 99, chr 105, chr 114, chr 99, chr 117, chr 105, chr 116, chr 115, chr 119, chr 105, chr 116, chr 99, chr 104, chr 105, chr 110, chr 103, chr 47, chr 108, chr 97, chr 119, chr 115, chr 46, chr 70, chr 110, chr 69, chr 120, chr 97, chr 99, chr 116, chr 69, chr 120, chr 76, chr 105, chr 110, chr 101, chr 115]] := by
  rw [initS]; kernel_rfl
theorem mayE : Tryz.prog.mayEnter = true := may_of behind (by kernel_rfl) (by kernel_rfl) (by kernel_rfl)
theorem liftsE : Tryz.prog.liftsFinal = false := lifts_of behind
theorem makeE : Tryz.prog.make = some .cut := mk_of behind
theorem vcu0 : type_of% (And.intro (And.intro (And.intro (And.intro (@decide_true) (@decide_false)) (And.intro (@Bool.or_false) (@Bool.or_true))) (And.intro (And.intro (@Bool.false_or) (@Bool.true_or)) (And.intro (@noisy_nil) (@nq_move)))) (And.intro (And.intro (And.intro (@nq_assign) (@nq_pick)) (And.intro (@nq_binOp) (@nq_unOp))) (And.intro (And.intro (@nq_convert) (@nq_nilCheck)) (And.intro (@nq_indexAddr) (@nq_index))))) := (And.intro (And.intro (And.intro (And.intro (@decide_true) (@decide_false)) (And.intro (@Bool.or_false) (@Bool.or_true))) (And.intro (And.intro (@Bool.false_or) (@Bool.true_or)) (And.intro (@noisy_nil) (@nq_move)))) (And.intro (And.intro (And.intro (@nq_assign) (@nq_pick)) (And.intro (@nq_binOp) (@nq_unOp))) (And.intro (And.intro (@nq_convert) (@nq_nilCheck)) (And.intro (@nq_indexAddr) (@nq_index)))))
theorem vcu1 : type_of% (And.intro (And.intro (And.intro (And.intro (@nq_load) (@nq_field)) (And.intro (@nq_fieldAddr) (@nq_extract))) (And.intro (And.intro (@nq_build) (@nq_makeFunc)) (And.intro (@nq_slice) (@nq_len)))) (And.intro (And.intro (And.intro (@nq_min) (@nq_max)) (And.intro (@nq_call) (@nl_callv))) (And.intro (And.intro (@nl_append) (@nl_copy)) (And.intro (@nl_clear) (@nl_alloc))))) := (And.intro (And.intro (And.intro (And.intro (@nq_load) (@nq_field)) (And.intro (@nq_fieldAddr) (@nq_extract))) (And.intro (And.intro (@nq_build) (@nq_makeFunc)) (And.intro (@nq_slice) (@nq_len)))) (And.intro (And.intro (And.intro (@nq_min) (@nq_max)) (And.intro (@nq_call) (@nl_callv))) (And.intro (And.intro (@nl_append) (@nl_copy)) (And.intro (@nl_clear) (@nl_alloc)))))
theorem vcu2 : type_of% (And.intro (And.intro (And.intro (And.intro (@nl_box) (@nl_store)) (And.intro (@nl_makeSlice) (@nl_buildSlice))) (And.intro (And.intro (@nl_slice3) (@bindO_some)) (And.intro (@bindI_some) (@bindS_some)))) (And.intro (And.intro (And.intro (@pickR_yes) (@pickR_no)) (And.intro (@pickR_tt) (@pickR_ff))) (And.intro (And.intro (@gvb_some) (@vb_bool)) (And.intro (@vb_undef) (@gslot_zero))))) := (And.intro (And.intro (And.intro (And.intro (@nl_box) (@nl_store)) (And.intro (@nl_makeSlice) (@nl_buildSlice))) (And.intro (And.intro (@nl_slice3) (@bindO_some)) (And.intro (@bindI_some) (@bindS_some)))) (And.intro (And.intro (And.intro (@pickR_yes) (@pickR_no)) (And.intro (@pickR_tt) (@pickR_ff))) (And.intro (And.intro (@gvb_some) (@vb_bool)) (And.intro (@vb_undef) (@gslot_zero)))))
theorem vcu3 : type_of% (And.intro (And.intro (And.intro (And.intro (@gslot_succ) (@guardR_tt)) (And.intro (@guardR_ff) (@guardR_tf))) (And.intro (And.intro (@guardR_ft) (@guardR_nt)) (And.intro (@guardR_pt) (@guardR_pf)))) (And.intro (And.intro (And.intro (@guardR_nT) (@guardR_nF)) (And.intro (@aput_some) (@aput_none))) (And.intro (And.intro (@condR_true) (@condR_false)) (And.intro (@condR_yes) (@condR_no))))) := (And.intro (And.intro (And.intro (And.intro (@gslot_succ) (@guardR_tt)) (And.intro (@guardR_ff) (@guardR_tf))) (And.intro (And.intro (@guardR_ft) (@guardR_nt)) (And.intro (@guardR_pt) (@guardR_pf)))) (And.intro (And.intro (And.intro (@guardR_nT) (@guardR_nF)) (And.intro (@aput_some) (@aput_none))) (And.intro (And.intro (@condR_true) (@condR_false)) (And.intro (@condR_yes) (@condR_no)))))
theorem vcu4 : type_of% (And.intro (And.intro (And.intro (And.intro (@condR_not) (@Bool.not_true)) (And.intro (@Bool.not_false) (@ev_const))) (And.intro (And.intro (@ev_tmp) (@ev_func)) (And.intro (@fset_app) (@abin_add)))) (And.intro (And.intro (And.intro (@abin_sub) (@abin_mul)) (And.intro (@abin_quo) (@abin_rem))) (And.intro (And.intro (@abin_eql) (@abin_neq)) (And.intro (@abin_lss) (@abin_leq))))) := (And.intro (And.intro (And.intro (And.intro (@condR_not) (@Bool.not_true)) (And.intro (@Bool.not_false) (@ev_const))) (And.intro (And.intro (@ev_tmp) (@ev_func)) (And.intro (@fset_app) (@abin_add)))) (And.intro (And.intro (And.intro (@abin_sub) (@abin_mul)) (And.intro (@abin_quo) (@abin_rem))) (And.intro (And.intro (@abin_eql) (@abin_neq)) (And.intro (@abin_lss) (@abin_leq)))))
theorem vcu5 : type_of% (And.intro (And.intro (And.intro (And.intro (@abin_gtr) (@abin_geq)) (And.intro (@abin_seql) (@abin_sneq))) (And.intro (And.intro (@abin_sadd) (@bindX_some)) (And.intro (@tx_nil) (@tx_empty)))) (And.intro (And.intro (And.intro (@aun_not) (@aun_neg)) (And.intro (@aconvH_int) (@amin_two))) (And.intro (And.intro (@amax_two) (@anil_ptr)) (And.intro (@aextract_tuple) (@dec_true))))) := (And.intro (And.intro (And.intro (And.intro (@abin_gtr) (@abin_geq)) (And.intro (@abin_seql) (@abin_sneq))) (And.intro (And.intro (@abin_sadd) (@bindX_some)) (And.intro (@tx_nil) (@tx_empty)))) (And.intro (And.intro (And.intro (@aun_not) (@aun_neg)) (And.intro (@aconvH_int) (@amin_two))) (And.intro (And.intro (@amax_two) (@anil_ptr)) (And.intro (@aextract_tuple) (@dec_true)))))
theorem vcu6 : type_of% (And.intro (And.intro (And.intro (And.intro (@dec_false) (@Nat.mul_one)) (And.intro (@Int.toNat_natCast) (@not_not_p))) (And.intro (And.intro (@aenter_zero) (@aenter_succ)) (And.intro (abin_beql' bo4) (abin_bneq' bo4)))) (And.intro (And.intro (And.intro (alenV_tx' Tryz.underlying9) (aslice_thi' Tryz.underlying9)) (And.intro (aslice_tlo' Tryz.underlying9) (aslice_tlohi' Tryz.underlying9))) (And.intro (And.intro (alenV_tx' Tryz.underlying10) (aslice_thi' Tryz.underlying10)) (And.intro (aslice_tlo' Tryz.underlying10) (aslice_tlohi' Tryz.underlying10))))) := (And.intro (And.intro (And.intro (And.intro (@dec_false) (@Nat.mul_one)) (And.intro (@Int.toNat_natCast) (@not_not_p))) (And.intro (And.intro (@aenter_zero) (@aenter_succ)) (And.intro (abin_beql' bo4) (abin_bneq' bo4)))) (And.intro (And.intro (And.intro (alenV_tx' Tryz.underlying9) (aslice_thi' Tryz.underlying9)) (And.intro (aslice_tlo' Tryz.underlying9) (aslice_tlohi' Tryz.underlying9))) (And.intro (And.intro (alenV_tx' Tryz.underlying10) (aslice_thi' Tryz.underlying10)) (And.intro (aslice_tlo' Tryz.underlying10) (aslice_tlohi' Tryz.underlying10)))))
theorem vcu7 : type_of% (And.intro (And.intro (And.intro (And.intro (alenV_tx' Tryz.underlying11) (aslice_thi' Tryz.underlying11)) (And.intro (aslice_tlo' Tryz.underlying11) (aslice_tlohi' Tryz.underlying11))) (And.intro (And.intro (@fl22_0) (@fl22_1)) (And.intro (@fl22_2) (@fv22_0)))) (And.intro (And.intro (And.intro (@fv22_1) (@fv22_2)) (And.intro (@fl23_0) (@fl23_1))) (And.intro (And.intro (@fl23_2) (@fv23_0)) (And.intro (@fv23_1) (@fv23_2))))) := (And.intro (And.intro (And.intro (And.intro (alenV_tx' Tryz.underlying11) (aslice_thi' Tryz.underlying11)) (And.intro (aslice_tlo' Tryz.underlying11) (aslice_tlohi' Tryz.underlying11))) (And.intro (And.intro (@fl22_0) (@fl22_1)) (And.intro (@fl22_2) (@fv22_0)))) (And.intro (And.intro (And.intro (@fv22_1) (@fv22_2)) (And.intro (@fl23_0) (@fl23_1))) (And.intro (And.intro (@fl23_2) (@fv23_0)) (And.intro (@fv23_1) (@fv23_2)))))
theorem vcu8 : type_of% (And.intro (And.intro (And.intro (And.intro (alenV_slice' Tryz.underlying24) (aidx_slice' Tryz.underlying24 co9)) (And.intro (@esz24) (aslice_hi' Tryz.underlying24 co9))) (And.intro (And.intro (aslice_lo' Tryz.underlying24 co9) (aslice_lohi' Tryz.underlying24 co9)) (And.intro (aslice_nhi' Tryz.underlying24) (aslice_nlo' Tryz.underlying24)))) (And.intro (And.intro (And.intro (aslice_nlohi' Tryz.underlying24) (alenV_slice' Tryz.underlying25)) (And.intro (aidx_slice' Tryz.underlying25 co84) (@esz25))) (And.intro (And.intro (aslice_hi' Tryz.underlying25 co84) (aslice_lo' Tryz.underlying25 co84)) (And.intro (aslice_lohi' Tryz.underlying25 co84) (aslice_nhi' Tryz.underlying25))))) := (And.intro (And.intro (And.intro (And.intro (alenV_slice' Tryz.underlying24) (aidx_slice' Tryz.underlying24 co9)) (And.intro (@esz24) (aslice_hi' Tryz.underlying24 co9))) (And.intro (And.intro (aslice_lo' Tryz.underlying24 co9) (aslice_lohi' Tryz.underlying24 co9)) (And.intro (aslice_nhi' Tryz.underlying24) (aslice_nlo' Tryz.underlying24)))) (And.intro (And.intro (And.intro (aslice_nlohi' Tryz.underlying24) (alenV_slice' Tryz.underlying25)) (And.intro (aidx_slice' Tryz.underlying25 co84) (@esz25))) (And.intro (And.intro (aslice_hi' Tryz.underlying25 co84) (aslice_lo' Tryz.underlying25 co84)) (And.intro (aslice_lohi' Tryz.underlying25 co84) (aslice_nhi' Tryz.underlying25)))))
theorem vcu9 : type_of% (And.intro (And.intro (And.intro (And.intro (aslice_nlo' Tryz.underlying25) (aslice_nlohi' Tryz.underlying25)) (And.intro (@fl26_0) (@fl26_1))) (And.intro (And.intro (@fl26_2) (@fv26_1)) (And.intro (@fv26_2) (@fl27_0)))) (And.intro (And.intro (And.intro (@fl27_1) (@fl27_2)) (And.intro (@fv27_1) (@fv27_2))) (And.intro (And.intro (@fl29_0) (@fl29_1)) (And.intro (@fl29_2) (@fv29_0))))) := (And.intro (And.intro (And.intro (And.intro (aslice_nlo' Tryz.underlying25) (aslice_nlohi' Tryz.underlying25)) (And.intro (@fl26_0) (@fl26_1))) (And.intro (And.intro (@fl26_2) (@fv26_1)) (And.intro (@fv26_2) (@fl27_0)))) (And.intro (And.intro (And.intro (@fl27_1) (@fl27_2)) (And.intro (@fv27_1) (@fv27_2))) (And.intro (And.intro (@fl29_0) (@fl29_1)) (And.intro (@fl29_2) (@fv29_0)))))
theorem vcu10 : type_of% (And.intro (And.intro (And.intro (And.intro (@fv29_1) (@fv29_2)) (And.intro (alenV_slice' Tryz.underlying30) (aidx_slice' Tryz.underlying30 co76))) (And.intro (And.intro (@esz30) (aslice_hi' Tryz.underlying30 co76)) (And.intro (aslice_lo' Tryz.underlying30 co76) (aslice_lohi' Tryz.underlying30 co76)))) (And.intro (And.intro (And.intro (aslice_nhi' Tryz.underlying30) (aslice_nlo' Tryz.underlying30)) (And.intro (aslice_nlohi' Tryz.underlying30) (@fl31_0))) (And.intro (And.intro (@fl31_1) (@fl31_2)) (And.intro (@fv31_1) (@fv31_2))))) := (And.intro (And.intro (And.intro (And.intro (@fv29_1) (@fv29_2)) (And.intro (alenV_slice' Tryz.underlying30) (aidx_slice' Tryz.underlying30 co76))) (And.intro (And.intro (@esz30) (aslice_hi' Tryz.underlying30 co76)) (And.intro (aslice_lo' Tryz.underlying30 co76) (aslice_lohi' Tryz.underlying30 co76)))) (And.intro (And.intro (And.intro (aslice_nhi' Tryz.underlying30) (aslice_nlo' Tryz.underlying30)) (And.intro (aslice_nlohi' Tryz.underlying30) (@fl31_0))) (And.intro (And.intro (@fl31_1) (@fl31_2)) (And.intro (@fv31_1) (@fv31_2)))))
theorem vcu11 : type_of% (And.intro (And.intro (And.intro (And.intro (@fl32_0) (@fl32_1)) (And.intro (@fl32_2) (@fv32_1))) (And.intro (And.intro (@fv32_2) (@fl47_0)) (And.intro (@fl47_1) (@fl47_2)))) (And.intro (And.intro (And.intro (@fv47_0) (@fv47_1)) (And.intro (@fv47_2) (@fl48_0))) (And.intro (And.intro (@fl48_1) (@fl48_2)) (And.intro (@fv48_0) (@fv48_1))))) := (And.intro (And.intro (And.intro (And.intro (@fl32_0) (@fl32_1)) (And.intro (@fl32_2) (@fv32_1))) (And.intro (And.intro (@fv32_2) (@fl47_0)) (And.intro (@fl47_1) (@fl47_2)))) (And.intro (And.intro (And.intro (@fv47_0) (@fv47_1)) (And.intro (@fv47_2) (@fl48_0))) (And.intro (And.intro (@fl48_1) (@fl48_2)) (And.intro (@fv48_0) (@fv48_1)))))
theorem vcu12 : type_of% (And.intro (And.intro (And.intro (And.intro (@fv48_2) (alenV_slice' Tryz.underlying59)) (And.intro (aidx_slice' Tryz.underlying59 co48) (@esz59))) (And.intro (And.intro (aslice_hi' Tryz.underlying59 co48) (aslice_lo' Tryz.underlying59 co48)) (And.intro (aslice_lohi' Tryz.underlying59 co48) (aslice_nhi' Tryz.underlying59)))) (And.intro (And.intro (And.intro (aslice_nlo' Tryz.underlying59) (aslice_nlohi' Tryz.underlying59)) (And.intro (@fl75_0) (@fl75_1))) (And.intro (And.intro (@fl75_2) (@fv75_0)) (And.intro (@fv75_1) (@fv75_2))))) := (And.intro (And.intro (And.intro (And.intro (@fv48_2) (alenV_slice' Tryz.underlying59)) (And.intro (aidx_slice' Tryz.underlying59 co48) (@esz59))) (And.intro (And.intro (aslice_hi' Tryz.underlying59 co48) (aslice_lo' Tryz.underlying59 co48)) (And.intro (aslice_lohi' Tryz.underlying59 co48) (aslice_nhi' Tryz.underlying59)))) (And.intro (And.intro (And.intro (aslice_nlo' Tryz.underlying59) (aslice_nlohi' Tryz.underlying59)) (And.intro (@fl75_0) (@fl75_1))) (And.intro (And.intro (@fl75_2) (@fv75_0)) (And.intro (@fv75_1) (@fv75_2)))))
theorem vcu13 : type_of% (And.intro (And.intro (And.intro (And.intro (@fl76_0) (@fl76_1)) (And.intro (@fl76_2) (@fv76_0))) (And.intro (And.intro (@fv76_1) (@fv76_2)) (And.intro (alenV_slice' Tryz.underlying82) (aidx_slice' Tryz.underlying82 co5)))) (And.intro (And.intro (And.intro (@esz82) (aslice_hi' Tryz.underlying82 co5)) (And.intro (aslice_lo' Tryz.underlying82 co5) (aslice_lohi' Tryz.underlying82 co5))) (And.intro (And.intro (aslice_nhi' Tryz.underlying82) (aslice_nlo' Tryz.underlying82)) (And.intro (aslice_nlohi' Tryz.underlying82) (@fl84_0))))) := (And.intro (And.intro (And.intro (And.intro (@fl76_0) (@fl76_1)) (And.intro (@fl76_2) (@fv76_0))) (And.intro (And.intro (@fv76_1) (@fv76_2)) (And.intro (alenV_slice' Tryz.underlying82) (aidx_slice' Tryz.underlying82 co5)))) (And.intro (And.intro (And.intro (@esz82) (aslice_hi' Tryz.underlying82 co5)) (And.intro (aslice_lo' Tryz.underlying82 co5) (aslice_lohi' Tryz.underlying82 co5))) (And.intro (And.intro (aslice_nhi' Tryz.underlying82) (aslice_nlo' Tryz.underlying82)) (And.intro (aslice_nlohi' Tryz.underlying82) (@fl84_0)))))
theorem vcu14 : type_of% (And.intro (And.intro (And.intro (And.intro (@fl84_1) (@fl84_2)) (And.intro (@fv84_0) (@fv84_1))) (And.intro (And.intro (@fv84_2) (@fl88_0)) (And.intro (@fl88_1) (@fv88_1)))) (And.intro (And.intro (And.intro (@fl89_0) (@fl89_1)) (And.intro (@fv89_1) (alenV_slice' Tryz.underlying90))) (And.intro (And.intro (aidx_slice' Tryz.underlying90 co9) (@esz90)) (And.intro (aslice_hi' Tryz.underlying90 co9) (aslice_lo' Tryz.underlying90 co9))))) := (And.intro (And.intro (And.intro (And.intro (@fl84_1) (@fl84_2)) (And.intro (@fv84_0) (@fv84_1))) (And.intro (And.intro (@fv84_2) (@fl88_0)) (And.intro (@fl88_1) (@fv88_1)))) (And.intro (And.intro (And.intro (@fl89_0) (@fl89_1)) (And.intro (@fv89_1) (alenV_slice' Tryz.underlying90))) (And.intro (And.intro (aidx_slice' Tryz.underlying90 co9) (@esz90)) (And.intro (aslice_hi' Tryz.underlying90 co9) (aslice_lo' Tryz.underlying90 co9)))))
theorem vcu15 : type_of% (And.intro (And.intro (And.intro (And.intro (aslice_lohi' Tryz.underlying90 co9) (aslice_nhi' Tryz.underlying90)) (And.intro (aslice_nlo' Tryz.underlying90) (aslice_nlohi' Tryz.underlying90))) (And.intro (And.intro (@fl91_0) (@fl91_1)) (And.intro (@fv91_1) (@fl92_0)))) (And.intro (And.intro (And.intro (@fl92_1) (@fv92_1)) (And.intro (alenV_slice' Tryz.underlying104) (aidx_slice' Tryz.underlying104 co3))) (And.intro (And.intro (@esz104) (aslice_hi' Tryz.underlying104 co3)) (And.intro (aslice_lo' Tryz.underlying104 co3) (aslice_lohi' Tryz.underlying104 co3))))) := (And.intro (And.intro (And.intro (And.intro (aslice_lohi' Tryz.underlying90 co9) (aslice_nhi' Tryz.underlying90)) (And.intro (aslice_nlo' Tryz.underlying90) (aslice_nlohi' Tryz.underlying90))) (And.intro (And.intro (@fl91_0) (@fl91_1)) (And.intro (@fv91_1) (@fl92_0)))) (And.intro (And.intro (And.intro (@fl92_1) (@fv92_1)) (And.intro (alenV_slice' Tryz.underlying104) (aidx_slice' Tryz.underlying104 co3))) (And.intro (And.intro (@esz104) (aslice_hi' Tryz.underlying104 co3)) (And.intro (aslice_lo' Tryz.underlying104 co3) (aslice_lohi' Tryz.underlying104 co3)))))
theorem vcu16 : type_of% (And.intro (And.intro (And.intro (And.intro (aslice_nhi' Tryz.underlying104) (aslice_nlo' Tryz.underlying104)) (And.intro (aslice_nlohi' Tryz.underlying104) (aidx_array' Tryz.underlying139 co5))) (And.intro (And.intro (@esz139) (aidx_array' Tryz.underlying156 co140)) (And.intro (@esz156) (aidx_array' Tryz.underlying158 co5)))) (And.intro (And.intro (And.intro (@esz158) (aidx_array' Tryz.underlying167 co5)) (And.intro (@esz167) (aidx_array' Tryz.underlying168 co5))) (And.intro (And.intro (@esz168) (aidx_array' Tryz.underlying171 co16)) (And.intro (@esz171) (@pt0))))) := (And.intro (And.intro (And.intro (And.intro (aslice_nhi' Tryz.underlying104) (aslice_nlo' Tryz.underlying104)) (And.intro (aslice_nlohi' Tryz.underlying104) (aidx_array' Tryz.underlying139 co5))) (And.intro (And.intro (@esz139) (aidx_array' Tryz.underlying156 co140)) (And.intro (@esz156) (aidx_array' Tryz.underlying158 co5)))) (And.intro (And.intro (And.intro (@esz158) (aidx_array' Tryz.underlying167 co5)) (And.intro (@esz167) (aidx_array' Tryz.underlying168 co5))) (And.intro (And.intro (@esz168) (aidx_array' Tryz.underlying171 co16)) (And.intro (@esz171) (@pt0)))))
theorem vcu17 : type_of% (And.intro (And.intro (And.intro (And.intro (@pt1) (@pt2)) (And.intro (@pt3) (@pt4))) (And.intro (And.intro (@pt5) (@pt6)) (And.intro (@pt9) (@pt10)))) (And.intro (And.intro (And.intro (@pt11) (@pt12)) (And.intro (@pt15) (@pt16))) (And.intro (And.intro (@pt17) (@pt20)) (And.intro (@pt21) (@pt22))))) := (And.intro (And.intro (And.intro (And.intro (@pt1) (@pt2)) (And.intro (@pt3) (@pt4))) (And.intro (And.intro (@pt5) (@pt6)) (And.intro (@pt9) (@pt10)))) (And.intro (And.intro (And.intro (@pt11) (@pt12)) (And.intro (@pt15) (@pt16))) (And.intro (And.intro (@pt17) (@pt20)) (And.intro (@pt21) (@pt22)))))
theorem vcu18 : type_of% (And.intro (And.intro (And.intro (And.intro (@pt23) (@pt24)) (And.intro (@pt25) (@pt26))) (And.intro (And.intro (@pt27) (@pt28)) (And.intro (@pt29) (@pt30)))) (And.intro (And.intro (And.intro (@pt31) (@pt32)) (And.intro (@pt33) (@pt34))) (And.intro (And.intro (@pt35) (@pt36)) (And.intro (@pt37) (@pt38))))) := (And.intro (And.intro (And.intro (And.intro (@pt23) (@pt24)) (And.intro (@pt25) (@pt26))) (And.intro (And.intro (@pt27) (@pt28)) (And.intro (@pt29) (@pt30)))) (And.intro (And.intro (And.intro (@pt31) (@pt32)) (And.intro (@pt33) (@pt34))) (And.intro (And.intro (@pt35) (@pt36)) (And.intro (@pt37) (@pt38)))))
theorem vcu19 : type_of% (And.intro (And.intro (And.intro (And.intro (@pt39) (@pt40)) (And.intro (@pt41) (@pt42))) (And.intro (And.intro (@pt43) (@pt44)) (And.intro (@pt45) (@pt46)))) (And.intro (And.intro (And.intro (@pt47) (@pt48)) (And.intro (@pt49) (@pt50))) (And.intro (And.intro (@pt51) (@pt52)) (And.intro (@pt53) (@pt54))))) := (And.intro (And.intro (And.intro (And.intro (@pt39) (@pt40)) (And.intro (@pt41) (@pt42))) (And.intro (And.intro (@pt43) (@pt44)) (And.intro (@pt45) (@pt46)))) (And.intro (And.intro (And.intro (@pt47) (@pt48)) (And.intro (@pt49) (@pt50))) (And.intro (And.intro (@pt51) (@pt52)) (And.intro (@pt53) (@pt54)))))
theorem vcu20 : type_of% (And.intro (And.intro (And.intro (And.intro (@pt55) (@pt56)) (And.intro (@pt57) (@pt58))) (And.intro (And.intro (@pt59) (@pt60)) (And.intro (@pt61) (@pt62)))) (And.intro (And.intro (And.intro (@pt63) (@pt64)) (And.intro (@pt65) (@pt66))) (And.intro (And.intro (@pt67) (@pt68)) (And.intro (@pt69) (@pt70))))) := (And.intro (And.intro (And.intro (And.intro (@pt55) (@pt56)) (And.intro (@pt57) (@pt58))) (And.intro (And.intro (@pt59) (@pt60)) (And.intro (@pt61) (@pt62)))) (And.intro (And.intro (And.intro (@pt63) (@pt64)) (And.intro (@pt65) (@pt66))) (And.intro (And.intro (@pt67) (@pt68)) (And.intro (@pt69) (@pt70)))))
theorem vcu21 : type_of% (And.intro (And.intro (And.intro (And.intro (@pt71) (@pt72)) (And.intro (@pt73) (@pt74))) (And.intro (And.intro (@pt75) (@pt76)) (And.intro (@pt77) (@pt78)))) (And.intro (And.intro (And.intro (@pt79) (@pt80)) (And.intro (@pt81) (@pt82))) (And.intro (And.intro (@pt83) (@pt84)) (And.intro (@pt85) (@pt86))))) := (And.intro (And.intro (And.intro (And.intro (@pt71) (@pt72)) (And.intro (@pt73) (@pt74))) (And.intro (And.intro (@pt75) (@pt76)) (And.intro (@pt77) (@pt78)))) (And.intro (And.intro (And.intro (@pt79) (@pt80)) (And.intro (@pt81) (@pt82))) (And.intro (And.intro (@pt83) (@pt84)) (And.intro (@pt85) (@pt86)))))
theorem vcu22 : type_of% (And.intro (And.intro (And.intro (And.intro (@pt87) (@pt88)) (And.intro (@pt89) (@pt90))) (And.intro (And.intro (@pt91) (@pt92)) (And.intro (@pt93) (@pt94)))) (And.intro (And.intro (And.intro (@pt95) (@pt96)) (And.intro (@pt97) (@pt98))) (And.intro (And.intro (@pt99) (@pt100)) (And.intro (@pt101) (@pt102))))) := (And.intro (And.intro (And.intro (And.intro (@pt87) (@pt88)) (And.intro (@pt89) (@pt90))) (And.intro (And.intro (@pt91) (@pt92)) (And.intro (@pt93) (@pt94)))) (And.intro (And.intro (And.intro (@pt95) (@pt96)) (And.intro (@pt97) (@pt98))) (And.intro (And.intro (@pt99) (@pt100)) (And.intro (@pt101) (@pt102)))))
theorem vcu23 : type_of% (And.intro (And.intro (And.intro (And.intro (@pt103) (@pt104)) (And.intro (@pt105) (@pt106))) (And.intro (And.intro (@pt107) (@pt108)) (And.intro (@pt109) (@pt110)))) (And.intro (And.intro (And.intro (@pt111) (@pt112)) (And.intro (@pt113) (@pt114))) (And.intro (And.intro (@pt115) (@pt116)) (And.intro (@pt117) (@pt118))))) := (And.intro (And.intro (And.intro (And.intro (@pt103) (@pt104)) (And.intro (@pt105) (@pt106))) (And.intro (And.intro (@pt107) (@pt108)) (And.intro (@pt109) (@pt110)))) (And.intro (And.intro (And.intro (@pt111) (@pt112)) (And.intro (@pt113) (@pt114))) (And.intro (And.intro (@pt115) (@pt116)) (And.intro (@pt117) (@pt118)))))
theorem vcu24 : type_of% (And.intro (And.intro (And.intro (And.intro (@pt121) (@pt122)) (And.intro (@pt123) (@pt124))) (And.intro (And.intro (@pt125) (@pt126)) (And.intro (@pt127) (@pt128)))) (And.intro (And.intro (And.intro (@pt129) (@pt130)) (And.intro (@pt131) (@pt132))) (And.intro (And.intro (@pt133) (@pt134)) (And.intro (@pt135) (@pt136))))) := (And.intro (And.intro (And.intro (And.intro (@pt121) (@pt122)) (And.intro (@pt123) (@pt124))) (And.intro (And.intro (@pt125) (@pt126)) (And.intro (@pt127) (@pt128)))) (And.intro (And.intro (And.intro (@pt129) (@pt130)) (And.intro (@pt131) (@pt132))) (And.intro (And.intro (@pt133) (@pt134)) (And.intro (@pt135) (@pt136)))))
theorem vcu25 : type_of% (And.intro (And.intro (And.intro (And.intro (@pt137) (@pt138)) (And.intro (@pt139) (@pt140))) (And.intro (And.intro (@pt141) (@pt142)) (And.intro (@pt143) (@pt144)))) (And.intro (And.intro (And.intro (@pt145) (@pt146)) (And.intro (@pt147) (@pt148))) (And.intro (And.intro (@pt149) (@pt150)) (And.intro (@pt151) (@pt154))))) := (And.intro (And.intro (And.intro (And.intro (@pt137) (@pt138)) (And.intro (@pt139) (@pt140))) (And.intro (And.intro (@pt141) (@pt142)) (And.intro (@pt143) (@pt144)))) (And.intro (And.intro (And.intro (@pt145) (@pt146)) (And.intro (@pt147) (@pt148))) (And.intro (And.intro (@pt149) (@pt150)) (And.intro (@pt151) (@pt154)))))
theorem vcu26 : type_of% (And.intro (And.intro (And.intro (And.intro (@pt155) (@pt156)) (And.intro (@pt157) (@pt158))) (And.intro (And.intro (@pt159) (@pt160)) (And.intro (@pt161) (@pt162)))) (And.intro (And.intro (And.intro (@pt163) (@pt166)) (And.intro (@pt167) (@pt168))) (And.intro (And.intro (@pt171) (@pt174)) (And.intro (@pt175) (@pt176))))) := (And.intro (And.intro (And.intro (And.intro (@pt155) (@pt156)) (And.intro (@pt157) (@pt158))) (And.intro (And.intro (@pt159) (@pt160)) (And.intro (@pt161) (@pt162)))) (And.intro (And.intro (And.intro (@pt163) (@pt166)) (And.intro (@pt167) (@pt168))) (And.intro (And.intro (@pt171) (@pt174)) (And.intro (@pt175) (@pt176)))))
theorem vcu27 : type_of% (And.intro (And.intro (And.intro (And.intro (@pt177) (@pt178)) (And.intro (@pt179) (@sc0))) (And.intro (And.intro (@sc1) (@sc2)) (And.intro (@sc3) (@sc4)))) (And.intro (And.intro (And.intro (@sc5) (@sc6)) (And.intro (@sc9) (@sc10))) (And.intro (And.intro (@sc11) (@sc12)) (And.intro (@sc15) (@sc16))))) := (And.intro (And.intro (And.intro (And.intro (@pt177) (@pt178)) (And.intro (@pt179) (@sc0))) (And.intro (And.intro (@sc1) (@sc2)) (And.intro (@sc3) (@sc4)))) (And.intro (And.intro (And.intro (@sc5) (@sc6)) (And.intro (@sc9) (@sc10))) (And.intro (And.intro (@sc11) (@sc12)) (And.intro (@sc15) (@sc16)))))
theorem vcu28 : type_of% (And.intro (And.intro (And.intro (And.intro (@sc17) (@sc20)) (And.intro (@sc21) (@sc22))) (And.intro (And.intro (@sc23) (@sc24)) (And.intro (@sc25) (@sc26)))) (And.intro (And.intro (And.intro (@sc27) (@sc28)) (And.intro (@sc29) (@sc30))) (And.intro (And.intro (@sc31) (@sc32)) (And.intro (@sc33) (@sc34))))) := (And.intro (And.intro (And.intro (And.intro (@sc17) (@sc20)) (And.intro (@sc21) (@sc22))) (And.intro (And.intro (@sc23) (@sc24)) (And.intro (@sc25) (@sc26)))) (And.intro (And.intro (And.intro (@sc27) (@sc28)) (And.intro (@sc29) (@sc30))) (And.intro (And.intro (@sc31) (@sc32)) (And.intro (@sc33) (@sc34)))))
theorem vcu29 : type_of% (And.intro (And.intro (And.intro (And.intro (@sc35) (@sc36)) (And.intro (@sc37) (@sc38))) (And.intro (And.intro (@sc39) (@sc40)) (And.intro (@sc41) (@sc42)))) (And.intro (And.intro (And.intro (@sc43) (@sc44)) (And.intro (@sc45) (@sc46))) (And.intro (And.intro (@sc47) (@sc48)) (And.intro (@sc49) (@sc50))))) := (And.intro (And.intro (And.intro (And.intro (@sc35) (@sc36)) (And.intro (@sc37) (@sc38))) (And.intro (And.intro (@sc39) (@sc40)) (And.intro (@sc41) (@sc42)))) (And.intro (And.intro (And.intro (@sc43) (@sc44)) (And.intro (@sc45) (@sc46))) (And.intro (And.intro (@sc47) (@sc48)) (And.intro (@sc49) (@sc50)))))
theorem vcu30 : type_of% (And.intro (And.intro (And.intro (And.intro (@sc51) (@sc52)) (And.intro (@sc53) (@sc54))) (And.intro (And.intro (@sc55) (@sc56)) (And.intro (@sc57) (@sc58)))) (And.intro (And.intro (And.intro (@sc59) (@sc60)) (And.intro (@sc61) (@sc62))) (And.intro (And.intro (@sc63) (@sc64)) (And.intro (@sc65) (@sc66))))) := (And.intro (And.intro (And.intro (And.intro (@sc51) (@sc52)) (And.intro (@sc53) (@sc54))) (And.intro (And.intro (@sc55) (@sc56)) (And.intro (@sc57) (@sc58)))) (And.intro (And.intro (And.intro (@sc59) (@sc60)) (And.intro (@sc61) (@sc62))) (And.intro (And.intro (@sc63) (@sc64)) (And.intro (@sc65) (@sc66)))))
theorem vcu31 : type_of% (And.intro (And.intro (And.intro (And.intro (@sc67) (@sc68)) (And.intro (@sc69) (@sc70))) (And.intro (And.intro (@sc71) (@sc72)) (And.intro (@sc73) (@sc74)))) (And.intro (And.intro (And.intro (@sc75) (@sc76)) (And.intro (@sc77) (@sc78))) (And.intro (And.intro (@sc79) (@sc80)) (And.intro (@sc81) (@sc82))))) := (And.intro (And.intro (And.intro (And.intro (@sc67) (@sc68)) (And.intro (@sc69) (@sc70))) (And.intro (And.intro (@sc71) (@sc72)) (And.intro (@sc73) (@sc74)))) (And.intro (And.intro (And.intro (@sc75) (@sc76)) (And.intro (@sc77) (@sc78))) (And.intro (And.intro (@sc79) (@sc80)) (And.intro (@sc81) (@sc82)))))
theorem vcu32 : type_of% (And.intro (And.intro (And.intro (And.intro (@sc83) (@sc84)) (And.intro (@sc85) (@sc86))) (And.intro (And.intro (@sc87) (@sc88)) (And.intro (@sc89) (@sc90)))) (And.intro (And.intro (And.intro (@sc91) (@sc92)) (And.intro (@sc93) (@sc94))) (And.intro (And.intro (@sc95) (@sc96)) (And.intro (@sc97) (@sc98))))) := (And.intro (And.intro (And.intro (And.intro (@sc83) (@sc84)) (And.intro (@sc85) (@sc86))) (And.intro (And.intro (@sc87) (@sc88)) (And.intro (@sc89) (@sc90)))) (And.intro (And.intro (And.intro (@sc91) (@sc92)) (And.intro (@sc93) (@sc94))) (And.intro (And.intro (@sc95) (@sc96)) (And.intro (@sc97) (@sc98)))))
theorem vcu33 : type_of% (And.intro (And.intro (And.intro (And.intro (@sc99) (@sc100)) (And.intro (@sc101) (@sc102))) (And.intro (And.intro (@sc103) (@sc104)) (And.intro (@sc105) (@sc106)))) (And.intro (And.intro (And.intro (@sc107) (@sc108)) (And.intro (@sc109) (@sc110))) (And.intro (And.intro (@sc111) (@sc112)) (And.intro (@sc113) (@sc114))))) := (And.intro (And.intro (And.intro (And.intro (@sc99) (@sc100)) (And.intro (@sc101) (@sc102))) (And.intro (And.intro (@sc103) (@sc104)) (And.intro (@sc105) (@sc106)))) (And.intro (And.intro (And.intro (@sc107) (@sc108)) (And.intro (@sc109) (@sc110))) (And.intro (And.intro (@sc111) (@sc112)) (And.intro (@sc113) (@sc114)))))
theorem vcu34 : type_of% (And.intro (And.intro (And.intro (And.intro (@sc115) (@sc116)) (And.intro (@sc117) (@sc118))) (And.intro (And.intro (@sc121) (@sc122)) (And.intro (@sc123) (@sc124)))) (And.intro (And.intro (And.intro (@sc125) (@sc126)) (And.intro (@sc127) (@sc128))) (And.intro (And.intro (@sc129) (@sc130)) (And.intro (@sc131) (@sc132))))) := (And.intro (And.intro (And.intro (And.intro (@sc115) (@sc116)) (And.intro (@sc117) (@sc118))) (And.intro (And.intro (@sc121) (@sc122)) (And.intro (@sc123) (@sc124)))) (And.intro (And.intro (And.intro (@sc125) (@sc126)) (And.intro (@sc127) (@sc128))) (And.intro (And.intro (@sc129) (@sc130)) (And.intro (@sc131) (@sc132)))))
theorem vcu35 : type_of% (And.intro (And.intro (And.intro (And.intro (@sc133) (@sc134)) (And.intro (@sc135) (@sc136))) (And.intro (And.intro (@sc137) (@sc138)) (And.intro (@sc139) (@sc140)))) (And.intro (And.intro (And.intro (@sc141) (@sc142)) (And.intro (@sc143) (@sc144))) (And.intro (And.intro (@sc145) (@sc146)) (And.intro (@sc147) (@sc148))))) := (And.intro (And.intro (And.intro (And.intro (@sc133) (@sc134)) (And.intro (@sc135) (@sc136))) (And.intro (And.intro (@sc137) (@sc138)) (And.intro (@sc139) (@sc140)))) (And.intro (And.intro (And.intro (@sc141) (@sc142)) (And.intro (@sc143) (@sc144))) (And.intro (And.intro (@sc145) (@sc146)) (And.intro (@sc147) (@sc148)))))
theorem vcu36 : type_of% (And.intro (And.intro (And.intro (And.intro (@sc149) (@sc150)) (And.intro (@sc151) (@sc154))) (And.intro (And.intro (@sc155) (@sc156)) (And.intro (@sc157) (@sc158)))) (And.intro (And.intro (And.intro (@sc159) (@sc160)) (And.intro (@sc161) (@sc162))) (And.intro (And.intro (@sc163) (@sc166)) (And.intro (@sc167) (@sc168))))) := (And.intro (And.intro (And.intro (And.intro (@sc149) (@sc150)) (And.intro (@sc151) (@sc154))) (And.intro (And.intro (@sc155) (@sc156)) (And.intro (@sc157) (@sc158)))) (And.intro (And.intro (And.intro (@sc159) (@sc160)) (And.intro (@sc161) (@sc162))) (And.intro (And.intro (@sc163) (@sc166)) (And.intro (@sc167) (@sc168)))))
theorem vcu37 : type_of% (And.intro (And.intro (And.intro (And.intro (@sc171) (@sc174)) (And.intro (@sc175) (@sc176))) (And.intro (And.intro (@sc177) (@sc178)) (And.intro (@sc179) (@nf3)))) (And.intro (And.intro (And.intro (@nf4) (@nf5)) (And.intro (@nf6) (@nf7))) (And.intro (And.intro (@nf8) (@nf9)) (And.intro (@nf10) (@nf11))))) := (And.intro (And.intro (And.intro (And.intro (@sc171) (@sc174)) (And.intro (@sc175) (@sc176))) (And.intro (And.intro (@sc177) (@sc178)) (And.intro (@sc179) (@nf3)))) (And.intro (And.intro (And.intro (@nf4) (@nf5)) (And.intro (@nf6) (@nf7))) (And.intro (And.intro (@nf8) (@nf9)) (And.intro (@nf10) (@nf11)))))
theorem vcu38 : type_of% (And.intro (And.intro (And.intro (And.intro (@nf12) (@nf13)) (And.intro (@nf14) (@nf15))) (And.intro (And.intro (@nf16) (@nf17)) (And.intro (@nf18) (@nf19)))) (And.intro (And.intro (And.intro (@nf20) (@nf21)) (And.intro (@nf22) (@nf23))) (And.intro (And.intro (@nf24) (@nf25)) (And.intro (@nf26) (@nf27))))) := (And.intro (And.intro (And.intro (And.intro (@nf12) (@nf13)) (And.intro (@nf14) (@nf15))) (And.intro (And.intro (@nf16) (@nf17)) (And.intro (@nf18) (@nf19)))) (And.intro (And.intro (And.intro (@nf20) (@nf21)) (And.intro (@nf22) (@nf23))) (And.intro (And.intro (@nf24) (@nf25)) (And.intro (@nf26) (@nf27)))))
theorem vcu39 : type_of% (And.intro (And.intro (And.intro (And.intro (@nf28) (@nf29)) (And.intro (@nf30) (@nf31))) (And.intro (And.intro (@nf32) (@nf33)) (And.intro (@nf34) (@nf35)))) (And.intro (And.intro (And.intro (@nf36) (@nf37)) (And.intro (@nf38) (@nf39))) (And.intro (And.intro (@nf40) (@nf41)) (And.intro (@nf42) (@nf43))))) := (And.intro (And.intro (And.intro (And.intro (@nf28) (@nf29)) (And.intro (@nf30) (@nf31))) (And.intro (And.intro (@nf32) (@nf33)) (And.intro (@nf34) (@nf35)))) (And.intro (And.intro (And.intro (@nf36) (@nf37)) (And.intro (@nf38) (@nf39))) (And.intro (And.intro (@nf40) (@nf41)) (And.intro (@nf42) (@nf43)))))
theorem vcu40 : type_of% (And.intro (And.intro (And.intro (And.intro (@nf44) (@nf45)) (And.intro (@nf46) (@nf47))) (And.intro (And.intro (@nf48) (@nf49)) (And.intro (@nf50) (@nf51)))) (And.intro (And.intro (And.intro (@nf52) (@nf53)) (And.intro (@nf54) (@nf55))) (And.intro (And.intro (@nf56) (@nf57)) (And.intro (@nf58) (@nf59))))) := (And.intro (And.intro (And.intro (And.intro (@nf44) (@nf45)) (And.intro (@nf46) (@nf47))) (And.intro (And.intro (@nf48) (@nf49)) (And.intro (@nf50) (@nf51)))) (And.intro (And.intro (And.intro (@nf52) (@nf53)) (And.intro (@nf54) (@nf55))) (And.intro (And.intro (@nf56) (@nf57)) (And.intro (@nf58) (@nf59)))))
theorem vcu41 : type_of% (And.intro (And.intro (And.intro (And.intro (@nf60) (@nf61)) (And.intro (@nf62) (@nf63))) (And.intro (And.intro (@nf64) (@nf65)) (And.intro (@nf66) (@nf67)))) (And.intro (And.intro (And.intro (@nf68) (@nf69)) (And.intro (@nf70) (@nf71))) (And.intro (And.intro (@nf72) (@nf73)) (And.intro (@nf74) (@nf75))))) := (And.intro (And.intro (And.intro (And.intro (@nf60) (@nf61)) (And.intro (@nf62) (@nf63))) (And.intro (And.intro (@nf64) (@nf65)) (And.intro (@nf66) (@nf67)))) (And.intro (And.intro (And.intro (@nf68) (@nf69)) (And.intro (@nf70) (@nf71))) (And.intro (And.intro (@nf72) (@nf73)) (And.intro (@nf74) (@nf75)))))
theorem vcu42 : type_of% (And.intro (And.intro (And.intro (And.intro (@nf76) (@nf77)) (And.intro (@nf78) (@nf79))) (And.intro (And.intro (@nf80) (@nf81)) (And.intro (@nf82) (@nf83)))) (And.intro (And.intro (And.intro (@nf84) (@nf85)) (And.intro (@nf86) (@nf87))) (And.intro (And.intro (@nf88) (@nf89)) (And.intro (@nf90) (@nf91))))) := (And.intro (And.intro (And.intro (And.intro (@nf76) (@nf77)) (And.intro (@nf78) (@nf79))) (And.intro (And.intro (@nf80) (@nf81)) (And.intro (@nf82) (@nf83)))) (And.intro (And.intro (And.intro (@nf84) (@nf85)) (And.intro (@nf86) (@nf87))) (And.intro (And.intro (@nf88) (@nf89)) (And.intro (@nf90) (@nf91)))))
theorem vcu43 : type_of% (And.intro (And.intro (And.intro (And.intro (@nf92) (@nf93)) (And.intro (@nf94) (@nf95))) (And.intro (And.intro (@nf96) (@nf97)) (And.intro (@nf98) (@nf99)))) (And.intro (And.intro (And.intro (@nf100) (@nf101)) (And.intro (@nf102) (@nf103))) (And.intro (And.intro (@nf104) (@nf105)) (And.intro (@nf106) (@nf107))))) := (And.intro (And.intro (And.intro (And.intro (@nf92) (@nf93)) (And.intro (@nf94) (@nf95))) (And.intro (And.intro (@nf96) (@nf97)) (And.intro (@nf98) (@nf99)))) (And.intro (And.intro (And.intro (@nf100) (@nf101)) (And.intro (@nf102) (@nf103))) (And.intro (And.intro (@nf104) (@nf105)) (And.intro (@nf106) (@nf107)))))
theorem vcu44 : type_of% (And.intro (And.intro (And.intro (And.intro (@nf108) (@nf109)) (And.intro (@nf110) (@nf111))) (And.intro (And.intro (@nf112) (@nf113)) (And.intro (@nf114) (@nf115)))) (And.intro (And.intro (And.intro (@nf116) (@nf117)) (And.intro (@nf118) (@nf119))) (And.intro (And.intro (@nf120) (@nf121)) (And.intro (@nf122) (@nf123))))) := (And.intro (And.intro (And.intro (And.intro (@nf108) (@nf109)) (And.intro (@nf110) (@nf111))) (And.intro (And.intro (@nf112) (@nf113)) (And.intro (@nf114) (@nf115)))) (And.intro (And.intro (And.intro (@nf116) (@nf117)) (And.intro (@nf118) (@nf119))) (And.intro (And.intro (@nf120) (@nf121)) (And.intro (@nf122) (@nf123)))))
theorem vcu45 : type_of% (And.intro (And.intro (And.intro (And.intro (@nf124) (@nf125)) (And.intro (@nf126) (@nf127))) (And.intro (And.intro (@nf128) (@nf131)) (And.intro (@nf135) (@nf136)))) (And.intro (And.intro (And.intro (@nf138) (@nf139)) (And.intro (@nf140) (@nf141))) (And.intro (And.intro (@nf142) (@nf143)) (And.intro (@nf144) (@nf145))))) := (And.intro (And.intro (And.intro (And.intro (@nf124) (@nf125)) (And.intro (@nf126) (@nf127))) (And.intro (And.intro (@nf128) (@nf131)) (And.intro (@nf135) (@nf136)))) (And.intro (And.intro (And.intro (@nf138) (@nf139)) (And.intro (@nf140) (@nf141))) (And.intro (And.intro (@nf142) (@nf143)) (And.intro (@nf144) (@nf145)))))
theorem vcu46 : type_of% (And.intro (And.intro (And.intro (And.intro (@nf148) (@nf149)) (And.intro (@nf150) (@nf151))) (And.intro (And.intro (@nf167) (@nf168)) (And.intro (@nf169) (@nf173)))) (And.intro (And.intro (And.intro (@nf174) (@nf175)) (And.intro (@nf176) (@nf177))) (And.intro (And.intro (aload_agg' ag22) (aload_agg' ag23)) (And.intro (aload_agg' ag26) (aload_agg' ag27))))) := (And.intro (And.intro (And.intro (And.intro (@nf148) (@nf149)) (And.intro (@nf150) (@nf151))) (And.intro (And.intro (@nf167) (@nf168)) (And.intro (@nf169) (@nf173)))) (And.intro (And.intro (And.intro (@nf174) (@nf175)) (And.intro (@nf176) (@nf177))) (And.intro (And.intro (aload_agg' ag22) (aload_agg' ag23)) (And.intro (aload_agg' ag26) (aload_agg' ag27)))))
theorem vcu47 : type_of% (And.intro (And.intro (And.intro (And.intro (aload_agg' ag29) (aload_agg' ag31)) (And.intro (aload_agg' ag32) (aload_agg' ag47))) (And.intro (And.intro (aload_agg' ag48) (aload_agg' ag75)) (And.intro (aload_agg' ag76) (aload_agg' ag84)))) (And.intro (And.intro (And.intro (aload_agg' ag88) (aload_agg' ag89)) (And.intro (aload_agg' ag91) (aload_agg' ag92))) (And.intro (And.intro (aload_agg' ag139) (aload_agg' ag156)) (And.intro (aload_agg' ag158) (aload_agg' ag167))))) := (And.intro (And.intro (And.intro (And.intro (aload_agg' ag29) (aload_agg' ag31)) (And.intro (aload_agg' ag32) (aload_agg' ag47))) (And.intro (And.intro (aload_agg' ag48) (aload_agg' ag75)) (And.intro (aload_agg' ag76) (aload_agg' ag84)))) (And.intro (And.intro (And.intro (aload_agg' ag88) (aload_agg' ag89)) (And.intro (aload_agg' ag91) (aload_agg' ag92))) (And.intro (And.intro (aload_agg' ag139) (aload_agg' ag156)) (And.intro (aload_agg' ag158) (aload_agg' ag167)))))
theorem vcu48 : type_of% (And.intro (And.intro (And.intro (And.intro (aload_agg' ag168) (aload_cell' ag1)) (And.intro (aload_cell' ag2) (aload_cell' ag3))) (And.intro (And.intro (aload_cell' ag4) (aload_cell' ag5)) (And.intro (aload_cell' ag6) (aload_cell' ag9)))) (And.intro (And.intro (And.intro (aload_cell' ag10) (aload_cell' ag11)) (And.intro (aload_cell' ag12) (aload_cell' ag15))) (And.intro (And.intro (aload_cell' ag16) (aload_cell' ag17)) (And.intro (aload_cell' ag21) (aload_cell' ag24))))) := (And.intro (And.intro (And.intro (And.intro (aload_agg' ag168) (aload_cell' ag1)) (And.intro (aload_cell' ag2) (aload_cell' ag3))) (And.intro (And.intro (aload_cell' ag4) (aload_cell' ag5)) (And.intro (aload_cell' ag6) (aload_cell' ag9)))) (And.intro (And.intro (And.intro (aload_cell' ag10) (aload_cell' ag11)) (And.intro (aload_cell' ag12) (aload_cell' ag15))) (And.intro (And.intro (aload_cell' ag16) (aload_cell' ag17)) (And.intro (aload_cell' ag21) (aload_cell' ag24)))))
theorem vcu49 : type_of% (And.intro (And.intro (And.intro (And.intro (aload_cell' ag25) (aload_cell' ag28)) (And.intro (aload_cell' ag30) (aload_cell' ag34))) (And.intro (And.intro (aload_cell' ag35) (aload_cell' ag36)) (And.intro (aload_cell' ag37) (aload_cell' ag38)))) (And.intro (And.intro (And.intro (aload_cell' ag39) (aload_cell' ag41)) (And.intro (aload_cell' ag42) (aload_cell' ag43))) (And.intro (And.intro (aload_cell' ag44) (aload_cell' ag45)) (And.intro (aload_cell' ag46) (aload_cell' ag50))))) := (And.intro (And.intro (And.intro (And.intro (aload_cell' ag25) (aload_cell' ag28)) (And.intro (aload_cell' ag30) (aload_cell' ag34))) (And.intro (And.intro (aload_cell' ag35) (aload_cell' ag36)) (And.intro (aload_cell' ag37) (aload_cell' ag38)))) (And.intro (And.intro (And.intro (aload_cell' ag39) (aload_cell' ag41)) (And.intro (aload_cell' ag42) (aload_cell' ag43))) (And.intro (And.intro (aload_cell' ag44) (aload_cell' ag45)) (And.intro (aload_cell' ag46) (aload_cell' ag50)))))
theorem vcu50 : type_of% (And.intro (And.intro (And.intro (And.intro (aload_cell' ag51) (aload_cell' ag52)) (And.intro (aload_cell' ag53) (aload_cell' ag55))) (And.intro (And.intro (aload_cell' ag56) (aload_cell' ag58)) (And.intro (aload_cell' ag59) (aload_cell' ag60)))) (And.intro (And.intro (And.intro (aload_cell' ag61) (aload_cell' ag62)) (And.intro (aload_cell' ag63) (aload_cell' ag64))) (And.intro (And.intro (aload_cell' ag65) (aload_cell' ag66)) (And.intro (aload_cell' ag67) (aload_cell' ag68))))) := (And.intro (And.intro (And.intro (And.intro (aload_cell' ag51) (aload_cell' ag52)) (And.intro (aload_cell' ag53) (aload_cell' ag55))) (And.intro (And.intro (aload_cell' ag56) (aload_cell' ag58)) (And.intro (aload_cell' ag59) (aload_cell' ag60)))) (And.intro (And.intro (And.intro (aload_cell' ag61) (aload_cell' ag62)) (And.intro (aload_cell' ag63) (aload_cell' ag64))) (And.intro (And.intro (aload_cell' ag65) (aload_cell' ag66)) (And.intro (aload_cell' ag67) (aload_cell' ag68)))))
theorem vcu51 : type_of% (And.intro (And.intro (And.intro (And.intro (aload_cell' ag69) (aload_cell' ag70)) (And.intro (aload_cell' ag71) (aload_cell' ag72))) (And.intro (And.intro (aload_cell' ag73) (aload_cell' ag74)) (And.intro (aload_cell' ag77) (aload_cell' ag78)))) (And.intro (And.intro (And.intro (aload_cell' ag80) (aload_cell' ag81)) (And.intro (aload_cell' ag82) (aload_cell' ag83))) (And.intro (And.intro (aload_cell' ag85) (aload_cell' ag86)) (And.intro (aload_cell' ag87) (aload_cell' ag90))))) := (And.intro (And.intro (And.intro (And.intro (aload_cell' ag69) (aload_cell' ag70)) (And.intro (aload_cell' ag71) (aload_cell' ag72))) (And.intro (And.intro (aload_cell' ag73) (aload_cell' ag74)) (And.intro (aload_cell' ag77) (aload_cell' ag78)))) (And.intro (And.intro (And.intro (aload_cell' ag80) (aload_cell' ag81)) (And.intro (aload_cell' ag82) (aload_cell' ag83))) (And.intro (And.intro (aload_cell' ag85) (aload_cell' ag86)) (And.intro (aload_cell' ag87) (aload_cell' ag90)))))
theorem vcu52 : type_of% (And.intro (And.intro (And.intro (And.intro (aload_cell' ag93) (aload_cell' ag94)) (And.intro (aload_cell' ag96) (aload_cell' ag98))) (And.intro (And.intro (aload_cell' ag99) (aload_cell' ag100)) (And.intro (aload_cell' ag101) (aload_cell' ag102)))) (And.intro (And.intro (And.intro (aload_cell' ag103) (aload_cell' ag104)) (And.intro (aload_cell' ag105) (aload_cell' ag106))) (And.intro (And.intro (aload_cell' ag107) (aload_cell' ag108)) (And.intro (aload_cell' ag109) (aload_cell' ag113))))) := (And.intro (And.intro (And.intro (And.intro (aload_cell' ag93) (aload_cell' ag94)) (And.intro (aload_cell' ag96) (aload_cell' ag98))) (And.intro (And.intro (aload_cell' ag99) (aload_cell' ag100)) (And.intro (aload_cell' ag101) (aload_cell' ag102)))) (And.intro (And.intro (And.intro (aload_cell' ag103) (aload_cell' ag104)) (And.intro (aload_cell' ag105) (aload_cell' ag106))) (And.intro (And.intro (aload_cell' ag107) (aload_cell' ag108)) (And.intro (aload_cell' ag109) (aload_cell' ag113)))))
theorem vcu53 : type_of% (And.intro (And.intro (And.intro (And.intro (aload_cell' ag114) (aload_cell' ag115)) (And.intro (aload_cell' ag116) (aload_cell' ag117))) (And.intro (And.intro (aload_cell' ag118) (aload_cell' ag121)) (And.intro (aload_cell' ag122) (aload_cell' ag123)))) (And.intro (And.intro (And.intro (aload_cell' ag124) (aload_cell' ag125)) (And.intro (aload_cell' ag126) (aload_cell' ag127))) (And.intro (And.intro (aload_cell' ag128) (aload_cell' ag129)) (And.intro (aload_cell' ag130) (aload_cell' ag132))))) := (And.intro (And.intro (And.intro (And.intro (aload_cell' ag114) (aload_cell' ag115)) (And.intro (aload_cell' ag116) (aload_cell' ag117))) (And.intro (And.intro (aload_cell' ag118) (aload_cell' ag121)) (And.intro (aload_cell' ag122) (aload_cell' ag123)))) (And.intro (And.intro (And.intro (aload_cell' ag124) (aload_cell' ag125)) (And.intro (aload_cell' ag126) (aload_cell' ag127))) (And.intro (And.intro (aload_cell' ag128) (aload_cell' ag129)) (And.intro (aload_cell' ag130) (aload_cell' ag132)))))
theorem vcu54 : type_of% (And.intro (And.intro (And.intro (And.intro (aload_cell' ag133) (aload_cell' ag134)) (And.intro (aload_cell' ag135) (aload_cell' ag136))) (And.intro (And.intro (aload_cell' ag137) (aload_cell' ag138)) (And.intro (aload_cell' ag140) (aload_cell' ag141)))) (And.intro (And.intro (And.intro (aload_cell' ag142) (aload_cell' ag144)) (And.intro (aload_cell' ag146) (aload_cell' ag147))) (And.intro (And.intro (aload_cell' ag148) (aload_cell' ag149)) (And.intro (aload_cell' ag151) (aload_cell' ag154))))) := (And.intro (And.intro (And.intro (And.intro (aload_cell' ag133) (aload_cell' ag134)) (And.intro (aload_cell' ag135) (aload_cell' ag136))) (And.intro (And.intro (aload_cell' ag137) (aload_cell' ag138)) (And.intro (aload_cell' ag140) (aload_cell' ag141)))) (And.intro (And.intro (And.intro (aload_cell' ag142) (aload_cell' ag144)) (And.intro (aload_cell' ag146) (aload_cell' ag147))) (And.intro (And.intro (aload_cell' ag148) (aload_cell' ag149)) (And.intro (aload_cell' ag151) (aload_cell' ag154)))))
theorem vcu55 : type_of% (And.intro (And.intro (And.intro (And.intro (aload_cell' ag155) (aload_cell' ag157)) (And.intro (aload_cell' ag159) (aload_cell' ag161))) (And.intro (And.intro (aload_cell' ag162) (aload_cell' ag163)) (And.intro (aload_cell' ag166) (aload_cell' ag174)))) (And.intro (And.intro (And.intro (aload_cell' ag175) (aload_cell' ag176)) (And.intro (aload_cell' ag177) (aload_cell' ag178))) (And.intro (And.intro (aload_cell' ag179) (@List.any_cons.{0})) (And.intro (@List.any_nil.{0}) (@List.map_cons.{0, 0}))))) := (And.intro (And.intro (And.intro (And.intro (aload_cell' ag155) (aload_cell' ag157)) (And.intro (aload_cell' ag159) (aload_cell' ag161))) (And.intro (And.intro (aload_cell' ag162) (aload_cell' ag163)) (And.intro (aload_cell' ag166) (aload_cell' ag174)))) (And.intro (And.intro (And.intro (aload_cell' ag175) (aload_cell' ag176)) (And.intro (aload_cell' ag177) (aload_cell' ag178))) (And.intro (And.intro (aload_cell' ag179) (@List.any_cons.{0})) (And.intro (@List.any_nil.{0}) (@List.map_cons.{0, 0})))))
theorem vcu56 : type_of% (And.intro (And.intro (@List.map_nil.{0, 0}) (@Option.map_some.{0, 0})) (And.intro (@Option.map_none.{0, 0}) (@List.nil_append.{0}))) := (And.intro (And.intro (@List.map_nil.{0, 0}) (@Option.map_some.{0, 0})) (And.intro (@Option.map_none.{0, 0}) (@List.nil_append.{0})))
theorem vcd0 : type_of% (And.intro (And.intro (And.intro (And.intro (@cs_cons) (@cs_nil)) (And.intro (@retC_normal) (@retC_ret))) (And.intro (And.intro (@vc_seq) (@vc_block)) (And.intro (@vc_region) (@vc_regionD)))) (And.intro (And.intro (And.intro (@vcD_false) (@vcD_true)) (And.intro (@vc_loop_eq) (@vc_cond))) (And.intro (And.intro (@vc_skip) (@vc_exit)) (And.intro (@vc_ret) (@seqC_normal))))) := (And.intro (And.intro (And.intro (And.intro (@cs_cons) (@cs_nil)) (And.intro (@retC_normal) (@retC_ret))) (And.intro (And.intro (@vc_seq) (@vc_block)) (And.intro (@vc_region) (@vc_regionD)))) (And.intro (And.intro (And.intro (@vcD_false) (@vcD_true)) (And.intro (@vc_loop_eq) (@vc_cond))) (And.intro (And.intro (@vc_skip) (@vc_exit)) (And.intro (@vc_ret) (@seqC_normal)))))
theorem vcd1 : type_of% (And.intro (And.intro (And.intro (And.intro (@seqC_exit) (@seqC_ret)) (And.intro (@blockK_normal) (@blockK_exit))) (And.intro (And.intro (@blockK_ret) (@retK_normal)) (And.intro (@retK_ret) (@seqK_normal)))) (And.intro (And.intro (And.intro (@seqK_exit) (@seqK_ret)) (And.intro (@r_nil) (@r_assign))) (And.intro (And.intro (@r_move) (@r_len)) (And.intro (@r_binOpT) (@r_binOpI))))) := (And.intro (And.intro (And.intro (And.intro (@seqC_exit) (@seqC_ret)) (And.intro (@blockK_normal) (@blockK_exit))) (And.intro (And.intro (@blockK_ret) (@retK_normal)) (And.intro (@retK_ret) (@seqK_normal)))) (And.intro (And.intro (And.intro (@seqK_exit) (@seqK_ret)) (And.intro (@r_nil) (@r_assign))) (And.intro (And.intro (@r_move) (@r_len)) (And.intro (@r_binOpT) (@r_binOpI)))))
theorem vcd2 : type_of% (And.intro (And.intro (And.intro (And.intro (@r_binOpB) (@r_binOpS)) (And.intro (@r_unOp) (@r_convert))) (And.intro (And.intro (@r_indexAddr) (@r_load)) (And.intro (@r_pick) (@r_slice)))) (And.intro (And.intro (And.intro (@r_nilCheck) (@r_fieldAddr)) (And.intro (@r_field) (@r_extract))) (And.intro (And.intro (@r_min) (@r_max)) (And.intro (@r_call) (@r_makeFunc))))) := (And.intro (And.intro (And.intro (And.intro (@r_binOpB) (@r_binOpS)) (And.intro (@r_unOp) (@r_convert))) (And.intro (And.intro (@r_indexAddr) (@r_load)) (And.intro (@r_pick) (@r_slice)))) (And.intro (And.intro (And.intro (@r_nilCheck) (@r_fieldAddr)) (And.intro (@r_field) (@r_extract))) (And.intro (And.intro (@r_min) (@r_max)) (And.intro (@r_call) (@r_makeFunc)))))
theorem vcd3 : type_of% (And.intro (And.intro (@r_guard) (r_index' Tryz.underlying9)) (And.intro (r_index' Tryz.underlying10) (r_index' Tryz.underlying11))) := (And.intro (And.intro (@r_guard) (r_index' Tryz.underlying9)) (And.intro (r_index' Tryz.underlying10) (r_index' Tryz.underlying11)))
theorem vcu : type_of% (And.intro (And.intro (And.intro (And.intro (And.intro @vcu0 (And.intro @vcu1 @vcu2)) (And.intro (And.intro @vcu3 @vcu4) (And.intro @vcu5 @vcu6))) (And.intro (And.intro @vcu7 (And.intro @vcu8 @vcu9)) (And.intro (And.intro @vcu10 @vcu11) (And.intro @vcu12 @vcu13)))) (And.intro (And.intro (And.intro @vcu14 (And.intro @vcu15 @vcu16)) (And.intro (And.intro @vcu17 @vcu18) (And.intro @vcu19 @vcu20))) (And.intro (And.intro @vcu21 (And.intro @vcu22 @vcu23)) (And.intro (And.intro @vcu24 @vcu25) (And.intro @vcu26 @vcu27))))) (And.intro (And.intro (And.intro (And.intro @vcu28 (And.intro @vcu29 @vcu30)) (And.intro (And.intro @vcu31 @vcu32) (And.intro @vcu33 @vcu34))) (And.intro (And.intro @vcu35 (And.intro @vcu36 @vcu37)) (And.intro (And.intro @vcu38 @vcu39) (And.intro @vcu40 @vcu41)))) (And.intro (And.intro (And.intro @vcu42 (And.intro @vcu43 @vcu44)) (And.intro (And.intro @vcu45 @vcu46) (And.intro @vcu47 @vcu48))) (And.intro (And.intro (And.intro @vcu49 @vcu50) (And.intro @vcu51 @vcu52)) (And.intro (And.intro @vcu53 @vcu54) (And.intro @vcu55 @vcu56)))))) := (And.intro (And.intro (And.intro (And.intro (And.intro @vcu0 (And.intro @vcu1 @vcu2)) (And.intro (And.intro @vcu3 @vcu4) (And.intro @vcu5 @vcu6))) (And.intro (And.intro @vcu7 (And.intro @vcu8 @vcu9)) (And.intro (And.intro @vcu10 @vcu11) (And.intro @vcu12 @vcu13)))) (And.intro (And.intro (And.intro @vcu14 (And.intro @vcu15 @vcu16)) (And.intro (And.intro @vcu17 @vcu18) (And.intro @vcu19 @vcu20))) (And.intro (And.intro @vcu21 (And.intro @vcu22 @vcu23)) (And.intro (And.intro @vcu24 @vcu25) (And.intro @vcu26 @vcu27))))) (And.intro (And.intro (And.intro (And.intro @vcu28 (And.intro @vcu29 @vcu30)) (And.intro (And.intro @vcu31 @vcu32) (And.intro @vcu33 @vcu34))) (And.intro (And.intro @vcu35 (And.intro @vcu36 @vcu37)) (And.intro (And.intro @vcu38 @vcu39) (And.intro @vcu40 @vcu41)))) (And.intro (And.intro (And.intro @vcu42 (And.intro @vcu43 @vcu44)) (And.intro (And.intro @vcu45 @vcu46) (And.intro @vcu47 @vcu48))) (And.intro (And.intro (And.intro @vcu49 @vcu50) (And.intro @vcu51 @vcu52)) (And.intro (And.intro @vcu53 @vcu54) (And.intro @vcu55 @vcu56))))))
theorem vcd : type_of% (And.intro (And.intro @vcd0 @vcd1) (And.intro @vcd2 @vcd3)) := (And.intro (And.intro @vcd0 @vcd1) (And.intro @vcd2 @vcd3))
theorem z9q {p : Prop} (h : p := by simp -implicitDefEqProofs (disch := omega) only [Nat.reduceEqDiff, ↓reduceIte, vcu, ↓vcd]) : p := h
theorem z9r {p : Prop} (h : p := by simp -implicitDefEqProofs (disch := omega) only [Nat.reduceEqDiff, ↓reduceIte, vcu, ↓vcd]; rfl) : p := h
theorem z9z {p : Prop} (h : p := by simp -implicitDefEqProofs (disch := omega) only [Nat.reduceEqDiff, ↓reduceIte, vcu, ↓vcd]; exact Nat.zero_lt_succ _) : p := h
theorem z9l {p : Prop} (h : p := by simp -implicitDefEqProofs (disch := omega) only [Nat.reduceEqDiff, ↓reduceIte, vcu, ↓vcd]; exact Nat.le_refl _) : p := h
theorem z9co29 {p : Prop} (h : p := by simp -implicitDefEqProofs (disch := omega) only [Nat.reduceEqDiff, ↓reduceIte, vcu, ↓vcd, co29]; rfl) : p := h
theorem z9co32 {p : Prop} (h : p := by simp -implicitDefEqProofs (disch := omega) only [Nat.reduceEqDiff, ↓reduceIte, vcu, ↓vcd, co32]; rfl) : p := h
theorem z9co48 {p : Prop} (h : p := by simp -implicitDefEqProofs (disch := omega) only [Nat.reduceEqDiff, ↓reduceIte, vcu, ↓vcd, co48]; rfl) : p := h
theorem z9co76 {p : Prop} (h : p := by simp -implicitDefEqProofs (disch := omega) only [Nat.reduceEqDiff, ↓reduceIte, vcu, ↓vcd, co76]; rfl) : p := h
end Go.Proofs.YtafkndnmhhjdhaaGreatDoor
namespace Go.Proofs.YtafkndnmhhjdhaaGreatDoor
open Go Go.Abs Go.RowKit
variable {w0 : World}
theorem in_calls (σ : AHeap) (n lo hi : Int) : ACall Tryz.prog w0 48 [.int .i64 n, .int .i64 lo, .int .i64 hi] σ fun r σ' => r = .bool (decide (lo ≤ n ∧ n ≤ hi)) ∧ σ' = σ := by
 refine acall_go mixed Tryz.func48 rfl good48 fun pr => ?_
 by_cases h : lo ≤ n
 ·simp -implicitDefEqProofs (disch := omega) only [Nat.reduceEqDiff, ↓reduceIte, vcu, ↓vcd]
  refine fin_one Tryz.results48 ⟨?_, rfl⟩
  simp -implicitDefEqProofs (disch := omega) only [Nat.reduceEqDiff, ↓reduceIte, vcu, ↓vcd]
  simp [h]
 ·simp -implicitDefEqProofs (disch := omega) only [Nat.reduceEqDiff, ↓reduceIte, vcu, ↓vcd]
  refine fin_one Tryz.results48 ⟨?_, rfl⟩
  simp -implicitDefEqProofs (disch := omega) only [Nat.reduceEqDiff, ↓reduceIte, vcu, ↓vcd]
  simp [h]
theorem set_at {α : Type} (xs : List α) (d : α) {k n : Nat} (hk : k < xs.length) (hn : n = xs.length) : (xs.take k ++ List.replicate (n - k) d).set k (xs.getD k d) = xs.take (k + 1) ++ List.replicate (n - (k + 1)) d := by
 subst hn
 obtain ⟨m, hm⟩ : ∃ m, xs.length - k = m + 1 := ⟨xs.length - k - 1, by omega⟩
 have e : xs.length - (k + 1) = m := by omega
 rw [hm, e, List.set_append_right _ _ (by simp; omega), List.take_succ_eq_append_getElem hk, List.append_assoc]
 have : k - (xs.take k).length = 0 := by simp; omega
 rw [this]
 simp [List.getD, hk, List.replicate_succ]
theorem has_at (σ : AHeap) (h o : Nat) (xs : List Int) (n : Int) (hv : IntsAt .i64 σ h o xs) (hl : xs.length ≤ 1048576) :
  ACall Tryz.prog w0 78 [.slice (some ⟨h, o, none⟩) xs.length 1, .int .i64 n] σ fun r σ' => r = .bool (decide (n ∈ xs)) ∧ σ' = σ := by
 refine acall_go mixed Tryz.func78 rfl good78 fun pr => ?_
 simp -implicitDefEqProofs (disch := omega) only [Nat.reduceEqDiff, ↓reduceIte, vcu, ↓vcd]
 refine vc_loop mixed (by kernel_rfl) (fun m a σ' => ∃ k : Nat, m + k = xs.length ∧ a 0 = .slice (some ⟨h, o, none⟩) xs.length 1 ∧ a 1 = .int .i64 n ∧ a 5 = .int .i64 k ∧ σ' = σ ∧ ∀ j, j < k → xs.getD j 0 ≠ n) xs.length ⟨0, by simp, rfl, rfl, rfl, rfl, by simp⟩ ?_
 rintro m a σ' ⟨k, hk, h0, h1, h5, rfl, hne⟩
 by_cases hlt : k < xs.length
 ·have hx := hv k hlt
  simp -implicitDefEqProofs (disch := omega) only [Nat.reduceEqDiff, ↓reduceIte, vcu, ↓vcd, h0, h1, h5, hx]
  rw [condR_dec]
  refine ⟨fun heq => ?_, fun hneq => ?_⟩
  ·rw [vcH_eq]
   simp -implicitDefEqProofs (disch := omega) only [Nat.reduceEqDiff, ↓reduceIte, vcu, ↓vcd]
   refine fin_one Tryz.results78 ⟨?_, rfl⟩
   simp -implicitDefEqProofs (disch := omega) only [Nat.reduceEqDiff, ↓reduceIte, vcu, ↓vcd]
   have : n ∈ xs := by rw [← heq]; simp [List.getD, hlt]
   simp [this]
  ·rw [vcH_eq]
   simp -implicitDefEqProofs (disch := omega) only [Nat.reduceEqDiff, ↓reduceIte, vcu, ↓vcd, h0, h1, h5]
   refine ⟨m - 1, by omega, k + 1, by omega, trivial, trivial, by simp, trivial, fun j hj => ?_⟩
   by_cases e : j = k
   ·subst e; exact hneq
   ·exact hne j (by omega)
 ·simp -implicitDefEqProofs (disch := omega) only [Nat.reduceEqDiff, ↓reduceIte, vcu, ↓vcd, h0, h1, h5]
  refine fin_one Tryz.results78 ⟨?_, rfl⟩
  simp -implicitDefEqProofs (disch := omega) only [Nat.reduceEqDiff, ↓reduceIte, vcu, ↓vcd]
  have : n ∉ xs := by
   intro hm
   obtain ⟨i, hi, rfl⟩ := List.getElem_of_mem hm
   exact hne i (by omega) (by simp [List.getD, hi])
  simp [this]
def seq (k : Int) (n : Nat) : List Int := (List.range n).map fun (i : Nat) => k + i
end Go.Proofs.YtafkndnmhhjdhaaGreatDoor
namespace Go.Proofs.YtafkndnmhhjdhaaGreatDoor
open Go Go.Abs Go.RowKit
variable {w0 : World}
/-- a text of digits -/
def DgT (xs : List UInt8) : Prop := ∀ b ∈ xs, 48 ≤ b.toNat ∧ b.toNat ≤ 51
instance (xs : List UInt8) : Decidable (DgT xs) := inferInstanceAs (Decidable (∀ b ∈ xs, 48 ≤ b.toNat ∧ b.toNat ≤ 51))
theorem DgT.at {xs : List UInt8} (h : DgT xs) {k : Nat} (hk : k < xs.length) : 48 ≤ (xs.getD k 0).toNat ∧ (xs.getD k 0).toNat ≤ 51 := h _ (by simp [List.getD, hk])
theorem dgT_of {xs : List UInt8} (h : ∀ k, k < xs.length → 48 ≤ (xs.getD k 0).toNat ∧ (xs.getD k 0).toNat ≤ 51) : DgT xs := by
 intro b hb
 obtain ⟨k, hk, rfl⟩ := List.mem_iff_getElem.1 hb
 have := h k hk
 simpa [List.getD, hk] using this
theorem conv_u8 {b : Int} (h : 0 ≤ b ∧ b ≤ 255) : aconv Tryz.prog 5 3 (.int .u8 b) = some (.int .i64 b) := by
 simp only [aconv, Tryz.underlying5, Tryz.underlying3]
 rw [wrap_i64_ok (by omega)]
set_option maxRecDepth 8000 in
theorem abin_usub {t : TypeId} {a b : Int} : abin Tryz.prog t .sub (.int .u8 a) (.int .u8 b) = some (.int .u8 ((a - b) % 256)) := by
 simp only [abin, if_true]; congr 2
set_option maxRecDepth 8000 in
theorem abin_ulss {t : TypeId} {a b : Int} : abin Tryz.prog t .lss (.int .u8 a) (.int .u8 b) = some (.bool (decide (a < b))) := by simp [abin]
theorem u8_le (b : UInt8) : b.toNat ≤ 255 := by have := b.toNat_lt; omega
set_option maxRecDepth 8000 in
theorem digits_calls (σ : AHeap) (xs : List UInt8) (hl : xs.length ≤ 1048576) : ACall Tryz.prog w0 72 [.string (tx xs)] σ fun r σ' => r = .bool (decide (DgT xs)) ∧ σ' = σ := by
 refine acall_go mixed Tryz.func72 rfl good72 fun pr => ?_
 simp -implicitDefEqProofs (disch := omega) only [Nat.reduceEqDiff, ↓reduceIte, vcu, ↓vcd]
 refine vc_loop_c mixed (by kernel_rfl) [0] (fun m a σ' => ∃ k : Nat, m + k = xs.length ∧ a 3 = .int .i64 k ∧ (∀ j, j < k → 48 ≤ (xs.getD j 0).toNat ∧ (xs.getD j 0).toNat ≤ 51) ∧ σ' = σ) xs.length ⟨0, by simp, rfl, fun j hj => absurd hj (by omega), rfl⟩ ?_
 rintro m a σ' hc ⟨k, hk, h3, hd, rfl⟩
 simp -implicitDefEqProofs (disch := omega) only [Nat.reduceEqDiff, ↓reduceIte, vcu, ↓vcd] at hc
 obtain ⟨h0, -⟩ := hc
 by_cases hlt : k < xs.length
 ·have hb := u8_le (xs.getD k 0)
  by_cases hdg : 48 ≤ (xs.getD k 0).toNat ∧ (xs.getD k 0).toNat ≤ 51
  ·have hd1 : decide (0 ≤ (((xs.getD k 0).toNat : Int) - 48) % 256 ∧ (((xs.getD k 0).toNat : Int) - 48) % 256 ≤ 3) = true := decide_eq_true (by omega)
   simp -implicitDefEqProofs (disch := omega) only [Nat.reduceEqDiff, ↓reduceIte, vcu, ↓vcd, h0, h3, abin_usub, conv_u8]
   refine (in_calls _ _ 0 3).mono ?_
   rintro r τ ⟨rfl, rfl⟩
   simp -implicitDefEqProofs (disch := omega) only [Nat.reduceEqDiff, ↓reduceIte, vcu, ↓vcd, opK_some, h0, h3, abin_ulss, hd1]
   refine ⟨⟨trivial, trivial⟩, m - 1, by omega, k + 1, by omega, by simp, fun j hj => ?_, trivial⟩
   by_cases hjk : j = k
   ·subst hjk; exact hdg
   ·exact hd j (by omega)
  ·have hn : ¬DgT xs := fun h => hdg (h.at hlt)
   have hd1 : decide (0 ≤ (((xs.getD k 0).toNat : Int) - 48) % 256 ∧ (((xs.getD k 0).toNat : Int) - 48) % 256 ≤ 3) = false := decide_eq_false (by omega)
   simp -implicitDefEqProofs (disch := omega) only [Nat.reduceEqDiff, ↓reduceIte, vcu, ↓vcd, h0, h3, abin_usub, conv_u8]
   refine (in_calls _ _ 0 3).mono ?_
   rintro r τ ⟨rfl, rfl⟩
   simp -implicitDefEqProofs (disch := omega) only [Nat.reduceEqDiff, ↓reduceIte, vcu, ↓vcd, opK_some, h0, h3, abin_ulss, hd1]
   refine fin_one Tryz.results72 ⟨?_, rfl⟩
   simp -implicitDefEqProofs (disch := omega) only [Nat.reduceEqDiff, ↓reduceIte, vcu, ↓vcd]
   simp [hn]
 ·simp -implicitDefEqProofs (disch := omega) only [Nat.reduceEqDiff, ↓reduceIte, vcu, ↓vcd, h0, h3]
  have e : k = xs.length := by omega
  refine fin_one Tryz.results72 ⟨?_, rfl⟩
  simp -implicitDefEqProofs (disch := omega) only [Nat.reduceEqDiff, ↓reduceIte, vcu, ↓vcd]
  subst e
  simp [dgT_of hd]
/-- a text begins with another one -/
def Beg (s t : List UInt8) : Prop := t.length ≤ s.length ∧ s.take t.length = t
instance (s t : List UInt8) : Decidable (Beg s t) := inferInstanceAs (Decidable (_ ∧ _))
set_option maxRecDepth 8000 in
theorem begins_calls (σ : AHeap) (s t : List UInt8) : ACall Tryz.prog w0 73 [.string (tx s), .string (tx t)] σ fun r σ' => r = .bool (decide (Beg s t)) ∧ σ' = σ := by
 refine acall_go mixed Tryz.func73 rfl good73 fun pr => ?_
 by_cases h : t.length ≤ s.length
 ·simp -implicitDefEqProofs (disch := omega) only [Nat.reduceEqDiff, ↓reduceIte, vcu, ↓vcd]
  refine fin_one Tryz.results73 ⟨?_, rfl⟩
  simp -implicitDefEqProofs (disch := omega) only [Nat.reduceEqDiff, ↓reduceIte, vcu, ↓vcd]
  simp [Beg, h]
 ·simp -implicitDefEqProofs (disch := omega) only [Nat.reduceEqDiff, ↓reduceIte, vcu, ↓vcd]
  refine fin_one Tryz.results73 ⟨?_, rfl⟩
  simp -implicitDefEqProofs (disch := omega) only [Nat.reduceEqDiff, ↓reduceIte, vcu, ↓vcd]
  simp [Beg, h]
/-- a power of four -/
def pw (n : Nat) : Int := 4 ^ n
theorem conv_to_u8 {b : Int} (h : 0 ≤ b ∧ b ≤ 255) : aconv Tryz.prog 3 5 (.int .i64 b) = some (.int .u8 b) := by
 simp only [aconv, Tryz.underlying5, Tryz.underlying3]
 congr 2
 show b % 256 = b
 omega
end Go.Proofs.YtafkndnmhhjdhaaGreatDoor
namespace Go.Proofs.YtafkndnmhhjdhaaGreatDoor
open Go Go.Abs Go.RowKit Go.Dial
/-- the decimals of a number -/
def decN (n : Nat) : List UInt8 := if h : n < 10 then [UInt8.ofNat (48 + n)] else decN (n / 10) ++ [UInt8.ofNat (48 + n % 10)]
/-- the number of decimals -/
def rdS (s : List UInt8) : Nat → Option Int
 | 0 => some 0
 | k + 1 => (rdS s k).bind fun n => if 48 ≤ (s.getD k 0).toNat ∧ (s.getD k 0).toNat ≤ 57 then some (10 * n + ((s.getD k 0).toNat - 48 : Nat)) else none
def rdN (s : List UInt8) : Int := if (1 ≤ s.length ∧ s.length ≤ 4) ∧ ¬ (1 < s.length ∧ s.getD 0 0 = 48) then (rdS s s.length).getD (-1) else -1
/-- what stands between the bytes c: of the word begun and what follows -/
def cutF (c : UInt8) : List UInt8 → List UInt8 → List (List UInt8)
 | w, [] => [w]
 | w, b :: s => if b = c then w :: cutF c [] s else cutF c (w ++ [b]) s
def cutT (c : UInt8) (s : List UInt8) : List (List UInt8) := cutF c [] s
theorem cutF_plain {c : UInt8} : ∀ {s w : List UInt8}, (∀ b ∈ s, b ≠ c) → cutF c w s = [w ++ s]
 | [], w, _ => by simp [cutF]
 | b :: s, w, h => by
  rw [cutF, if_neg (h b (by simp)), cutF_plain fun x hx => h x (by simp [hx])]; simp
theorem cutF_app {c : UInt8} : ∀ {s w t : List UInt8}, (∀ b ∈ s, b ≠ c) → cutF c w (s ++ c :: t) = (w ++ s) :: cutF c [] t
 | [], w, t, _ => by simp [cutF]
 | b :: s, w, t, h => by
  rw [List.cons_append, cutF, if_neg (h b (by simp)), cutF_app fun x hx => h x (by simp [hx])]; simp
theorem cutF_ne (c : UInt8) : ∀ (s w : List UInt8), cutF c w s ≠ []
 | [], w => by simp [cutF]
 | b :: s, w => by
  rw [cutF]
  split
  ·simp
  ·exact cutF_ne c s _
/-- the word of a kind -/
def kwT (k : Int) : List UInt8 := if k = 0 then [99, 97, 108, 108] else if k = 1 then [100, 114, 111, 112] else [110, 117, 109, 98, 101, 114]
def DdOk (d : Dd) : Prop := (0 ≤ d.k ∧ d.k ≤ 2) ∧ (0 ≤ d.l ∧ d.l ≤ 99) ∧ ((d.k = 1 ∧ d.t = []) ∨ (d.k ≠ 1 ∧ DgT d.t ∧ 1 ≤ d.t.length ∧ d.t.length ≤ 3))
instance (d : Dd) : Decidable (DdOk d) := inferInstanceAs (Decidable (_ ∧ _ ∧ _))
/-- the text of a deed -/
def deedT (d : Dd) : List UInt8 := if DdOk d then kwT d.k ++ 32 :: (decN d.l.toNat ++ (if d.k = 1 then [] else 32 :: d.t)) else []
theorem deedT_ok {d : Dd} (h : deedT d ≠ []) : DdOk d := Classical.byContradiction fun hn => h (by rw [deedT, if_neg hn])
/-- which kind a word tells -/
def kdV (w : List UInt8) : Int := if w = kwT 2 then 2 else if w = kwT 1 then 1 else if w = kwT 0 then 0 else -1
def ddW (ws : List (List UInt8)) : Dd := ⟨kdV (ws.getD 0 []), if 1 < ws.length then rdN (ws.getD 1 []) else 0, if 2 < ws.length then ws.getD 2 [] else []⟩
def readO (s : List UInt8) : Option Dd := if s = [] ∨ deedT (ddW (cutT 32 s)) ≠ s then none else some (ddW (cutT 32 s))
theorem readO_some {s : List UInt8} {d : Dd} (h : readO s = some d) : deedT d = s ∧ s ≠ [] := by
 unfold readO at h
 split at h
 ·cases h
 ·rename_i hn
  cases h
  exact ⟨Classical.byContradiction fun e => hn (.inr e), fun e => hn (.inl e)⟩
theorem decN_ok : ∀ n, n < 100 → rdN (decN n) = n ∧ (decN n ≠ []) ∧ ∀ b ∈ decN n, 48 ≤ b.toNat ∧ b.toNat ≤ 57 := by decide +kernel
theorem kdV_kw : ∀ k : Int, 0 ≤ k → k ≤ 2 → kdV (kwT k) = k := by
 intro k h0 h2
 have : k = 0 ∨ k = 1 ∨ k = 2 := by omega
 rcases this with rfl | rfl | rfl <;> decide
theorem kw_b (k : Int) : ∀ b ∈ kwT k, 97 ≤ b.toNat := by
 unfold kwT
 split
 ·decide
 ·split <;> decide
theorem ne_of_nat {b c : UInt8} (h : b.toNat ≠ c.toNat) : b ≠ c := fun e => h (by rw [e])
theorem readO_deed {d : Dd} (h : deedT d ≠ []) : readO (deedT d) = some d := by
 have hk := deedT_ok h
 have e : ddW (cutT 32 (deedT d)) = d := by
  obtain ⟨h1, h2, h3⟩ := id hk
  obtain ⟨n, hn, hl⟩ : ∃ n : Nat, n < 100 ∧ d.l = n := ⟨d.l.toNat, by omega, by omega⟩
  obtain ⟨q1, q2, q3⟩ := decN_ok n hn
  have p1 : ∀ b ∈ kwT d.k, b ≠ 32 := fun b hb => ne_of_nat (by have := kw_b d.k b hb; show _ ≠ 32; omega)
  have p2 : ∀ b ∈ decN n, b ≠ 32 := fun b hb => ne_of_nat (by have := q3 b hb; show _ ≠ 32; omega)
  have hln : d.l.toNat = n := by omega
  rw [deedT, if_pos hk, hln, cutT, cutF_app p1]
  rcases h3 with ⟨e1, e2⟩ | ⟨e1, e2, e3, e4⟩
  ·rw [if_pos e1, List.append_nil, cutF_plain p2]
   obtain ⟨k, l, t⟩ := d
   simp only at *
   subst hl e2
   simp [ddW, kdV_kw k h1.1 h1.2, q1]
  ·have p3 : ∀ b ∈ d.t, b ≠ 32 := fun b hb => ne_of_nat (by have := e2 b hb; show _ ≠ 32; omega)
   rw [if_neg e1, cutF_app p2, cutF_plain p3]
   obtain ⟨k, l, t⟩ := d
   simp only at *
   subst hl
   simp [ddW, kdV_kw k h1.1 h1.2, q1]
 unfold readO
 rw [e, if_neg fun hh => hh.elim h fun hh => hh rfl]
theorem readO_iff {s : List UInt8} {d : Dd} : readO s = some d ↔ deedT d = s ∧ s ≠ [] :=
 ⟨readO_some, fun ⟨e, hne⟩ => by rw [← e] at hne ⊢; exact readO_deed hne⟩
end Go.Proofs.YtafkndnmhhjdhaaGreatDoor
namespace Go.Proofs.YtafkndnmhhjdhaaGreatDoor
open Go Go.Abs Go.RowKit Go.Dial
variable {w0 : World}
theorem decN_len : ∀ n, (decN n).length ≤ n + 1 := fun n => by
 induction n using Nat.strongRecOn with
 | ind n ih =>
  unfold decN
  split
  ·simp
  ·rw [List.length_append, List.length_singleton]
   have := ih (n / 10) (by omega)
   omega
set_option maxRecDepth 8000 in
theorem number_calls (n : Nat) (hn : n ≤ 10000) : ∀ σ : AHeap, ACall Tryz.prog w0 29 [.int .i64 n] σ fun r σ' => r = .string (tx (decN n)) ∧ σ' = σ := by
 induction n using Nat.strongRecOn with
 | ind n ih =>
  intro σ
  have hg : decN n = if h : n < 10 then [UInt8.ofNat (48 + n)] else decN (n / 10) ++ [UInt8.ofNat (48 + n % 10)] := by rw [decN]
  refine acall_go mixed Tryz.func29 rfl good29 fun pr => ?_
  by_cases h10 : n < 10
  ·rw [dif_pos h10] at hg
   simp -implicitDefEqProofs (disch := omega) only [Nat.reduceEqDiff, ↓reduceIte, vcu, ↓vcd, conv_to_u8]
   refine r_lit el82 (out := #[.int .u8 (48 + (n : Int))]) (by first | kernel_rfl | (simp -implicitDefEqProofs (disch := omega) only [Nat.reduceEqDiff, ↓reduceIte, vcu, ↓vcd]; kernel_rfl)) (by rfl) fun g τ n1 s1 v1 => ?_
   have l1 : lds τ g 0 1 = some ([((48 + n : Nat) : Int)].map (.int .u8)) := by
    rw [lds_of v1 (by simp)]; simp
   have hcv := aconvH_bytes (z := 1) Tryz.underlying82 Tryz.underlying5 Tryz.underlying9 l1
   simp -implicitDefEqProofs (disch := omega) only [Nat.reduceEqDiff, ↓reduceIte, vcu, ↓vcd, hcv]
   refine fin_drop Tryz.results29 σ s1 ⟨?_, rfl⟩
   simp -implicitDefEqProofs (disch := omega) only [Nat.reduceEqDiff, ↓reduceIte, vcu, ↓vcd, hg]
  ·rw [dif_neg h10] at hg
   have hl := decN_len (n / 10)
   have c1 := ih (n / 10) (by omega) (by omega)
   have ha := abin_sadd (P := Tryz.prog) (t := 9) (xs := decN (n / 10)) (ys := [UInt8.ofNat (48 + n % 10)]) (by rw [List.length_singleton]; omega)
   have e10 : ((n : Int) / 10) = ((n / 10 : Nat) : Int) := by omega
   have e1 : ((n : Int) % 10) = ((n % 10 : Nat) : Int) := by omega
   simp -implicitDefEqProofs (disch := omega) only [Nat.reduceEqDiff, ↓reduceIte, vcu, ↓vcd]
   refine region_tree mixed (quiets [0, 1, 3, 4, 5, 6] (.two 2 (.one 7 (.one 8 (.one 9 (quiets [10] .stop)))) 7 (.two 2 (.one 8 (.one 9 (quiets [10] .stop))) 8 (.one 2 (.one 9 (quiets [10] .stop)))))) [] (by kernel_rfl) (by kernel_rfl) (fun p hp => by cases hp) ?_
   refine tree_quiets _ _ _ _ sf0 (by kernel_rfl) (by kernel_rfl) ?_
   simp -implicitDefEqProofs (disch := omega) only [Nat.reduceEqDiff, ↓reduceIte, vcu, ↓vcd, pickOps_nil, pickOps_cons, pickO_some, List.getElem?_cons_succ, List.getElem?_cons_zero, e10, e1, conv_to_u8]
   refine tree_two rfl rfl ?_ ?_
   ·simp -implicitDefEqProofs (disch := omega) only [Nat.reduceEqDiff, ↓reduceIte, vcu, ↓vcd]
    refine (c1 _).mono ?_
    rintro _ _ ⟨rfl, rfl⟩
    rename_i σ
    simp -implicitDefEqProofs (disch := omega) only [Nat.reduceEqDiff, ↓reduceIte, vcu, ↓vcd, opK_some]
    refine ⟨keep_of rfl (fun p hp => by cases hp), ?_⟩
    refine tree_one rfl ?_
    refine r_lit el82 (out := #[.int .u8 (48 + (n % 10 : Nat))]) (by first | kernel_rfl | (simp -implicitDefEqProofs (disch := omega) only [Nat.reduceEqDiff, ↓reduceIte, vcu, ↓vcd]; kernel_rfl)) (by rfl) fun g τ n1 s1 v1 => ?_
    have l1 : lds τ g 0 1 = some ([((48 + (n % 10 : Nat) : Nat) : Int)].map (.int .u8)) := by
     rw [lds_of v1 (by simp)]; simp
    have hcv := aconvH_bytes (z := 1) Tryz.underlying82 Tryz.underlying5 Tryz.underlying9 l1
    simp -implicitDefEqProofs (disch := omega) only [Nat.reduceEqDiff, ↓reduceIte, vcu, ↓vcd]
    refine ⟨keep_of rfl (fun p hp => by cases hp), ?_⟩
    refine tree_one rfl ?_
    simp -implicitDefEqProofs (disch := omega) only [Nat.reduceEqDiff, ↓reduceIte, vcu, ↓vcd, hcv]
    refine ⟨keep_of rfl (fun p hp => by cases hp), ?_⟩
    refine tree_one rfl ?_
    simp -implicitDefEqProofs (disch := omega) only [Nat.reduceEqDiff, ↓reduceIte, vcu, ↓vcd, ha]
    refine ⟨keep_of rfl (fun p hp => by cases hp), ?_⟩
    refine tree_quiets _ _ _ _ sf0 (by kernel_rfl) (by kernel_rfl) ?_
    simp -implicitDefEqProofs (disch := omega) only [Nat.reduceEqDiff, ↓reduceIte, vcu, ↓vcd, pickOps_nil, pickOps_cons, pickO_some, List.getElem?_cons_succ, List.getElem?_cons_zero]
    refine tree_stop ?_
    simp -implicitDefEqProofs (disch := omega) only [Nat.reduceEqDiff, ↓reduceIte, vcu, ↓vcd]
    refine fin_drop Tryz.results29 σ s1 ⟨?_, rfl⟩
    simp -implicitDefEqProofs (disch := omega) only [Nat.reduceEqDiff, ↓reduceIte, vcu, ↓vcd, hg]
   ·refine r_lit el82 (out := #[.int .u8 (48 + (n % 10 : Nat))]) (by first | kernel_rfl | (simp -implicitDefEqProofs (disch := omega) only [Nat.reduceEqDiff, ↓reduceIte, vcu, ↓vcd]; kernel_rfl)) (by rfl) fun g τ n1 s1 v1 => ?_
    have l1 : lds τ g 0 1 = some ([((48 + (n % 10 : Nat) : Nat) : Int)].map (.int .u8)) := by
     rw [lds_of v1 (by simp)]; simp
    have hcv := aconvH_bytes (z := 1) Tryz.underlying82 Tryz.underlying5 Tryz.underlying9 l1
    simp -implicitDefEqProofs (disch := omega) only [Nat.reduceEqDiff, ↓reduceIte, vcu, ↓vcd]
    refine ⟨keep_of rfl (fun p hp => by cases hp), ?_⟩
    refine tree_two rfl rfl ?_ ?_
    ·simp -implicitDefEqProofs (disch := omega) only [Nat.reduceEqDiff, ↓reduceIte, vcu, ↓vcd]
     refine (c1 _).mono ?_
     rintro _ _ ⟨rfl, rfl⟩
     simp -implicitDefEqProofs (disch := omega) only [Nat.reduceEqDiff, ↓reduceIte, vcu, ↓vcd, opK_some]
     refine ⟨keep_of rfl (fun p hp => by cases hp), ?_⟩
     refine tree_one rfl ?_
     simp -implicitDefEqProofs (disch := omega) only [Nat.reduceEqDiff, ↓reduceIte, vcu, ↓vcd, hcv]
     refine ⟨keep_of rfl (fun p hp => by cases hp), ?_⟩
     refine tree_one rfl ?_
     simp -implicitDefEqProofs (disch := omega) only [Nat.reduceEqDiff, ↓reduceIte, vcu, ↓vcd, ha]
     refine ⟨keep_of rfl (fun p hp => by cases hp), ?_⟩
     refine tree_quiets _ _ _ _ sf0 (by kernel_rfl) (by kernel_rfl) ?_
     simp -implicitDefEqProofs (disch := omega) only [Nat.reduceEqDiff, ↓reduceIte, vcu, ↓vcd, pickOps_nil, pickOps_cons, pickO_some, List.getElem?_cons_succ, List.getElem?_cons_zero]
     refine tree_stop ?_
     simp -implicitDefEqProofs (disch := omega) only [Nat.reduceEqDiff, ↓reduceIte, vcu, ↓vcd]
     refine fin_drop Tryz.results29 σ s1 ⟨?_, rfl⟩
     simp -implicitDefEqProofs (disch := omega) only [Nat.reduceEqDiff, ↓reduceIte, vcu, ↓vcd, hg]
    ·simp -implicitDefEqProofs (disch := omega) only [Nat.reduceEqDiff, ↓reduceIte, vcu, ↓vcd, hcv]
     refine ⟨keep_of rfl (fun p hp => by cases hp), ?_⟩
     refine tree_one rfl ?_
     simp -implicitDefEqProofs (disch := omega) only [Nat.reduceEqDiff, ↓reduceIte, vcu, ↓vcd]
     refine (c1 _).mono ?_
     rintro _ _ ⟨rfl, rfl⟩
     simp -implicitDefEqProofs (disch := omega) only [Nat.reduceEqDiff, ↓reduceIte, vcu, ↓vcd, opK_some]
     refine ⟨keep_of rfl (fun p hp => by cases hp), ?_⟩
     refine tree_one rfl ?_
     simp -implicitDefEqProofs (disch := omega) only [Nat.reduceEqDiff, ↓reduceIte, vcu, ↓vcd, ha]
     refine ⟨keep_of rfl (fun p hp => by cases hp), ?_⟩
     refine tree_quiets _ _ _ _ sf0 (by kernel_rfl) (by kernel_rfl) ?_
     simp -implicitDefEqProofs (disch := omega) only [Nat.reduceEqDiff, ↓reduceIte, vcu, ↓vcd, pickOps_nil, pickOps_cons, pickO_some, List.getElem?_cons_succ, List.getElem?_cons_zero]
     refine tree_stop ?_
     simp -implicitDefEqProofs (disch := omega) only [Nat.reduceEqDiff, ↓reduceIte, vcu, ↓vcd]
     refine fin_drop Tryz.results29 σ s1 ⟨?_, rfl⟩
     simp -implicitDefEqProofs (disch := omega) only [Nat.reduceEqDiff, ↓reduceIte, vcu, ↓vcd, hg]
end Go.Proofs.YtafkndnmhhjdhaaGreatDoor
namespace Go.Proofs.YtafkndnmhhjdhaaGreatDoor
open Go Go.Abs Go.RowKit Go.Dial
variable {w0 : World}
theorem rdS_le {s : List UInt8} : ∀ {k : Nat} {n : Int}, rdS s k = some n → 0 ≤ n ∧ n < 10 ^ k
 | 0, n, h => by cases h; decide
 | k + 1, n, h => by
  unfold rdS at h
  cases h1 : rdS s k with
  | none => rw [h1] at h; cases h
  | some m =>
   rw [h1] at h
   simp only [Option.bind_some] at h
   split at h
   ·cases h
    have := rdS_le h1
    rw [Int.pow_succ]
    omega
   ·cases h
theorem pow4 {k : Nat} (h : k ≤ 4) : (10 : Int) ^ k ≤ 10000 := by
 have : k = 0 ∨ k = 1 ∨ k = 2 ∨ k = 3 ∨ k = 4 := by omega
 rcases this with rfl | rfl | rfl | rfl | rfl <;> decide
theorem rdS_none {s : List UInt8} {k : Nat} (h : rdS s k = none) : ∀ j, rdS s (k + j) = none
 | 0 => h
 | j + 1 => by rw [← Nat.add_assoc, rdS, rdS_none h j]; rfl
set_option maxRecDepth 8000 in
theorem abin_ugtr {t : TypeId} {a b : Int} : abin Tryz.prog t .gtr (.int .u8 a) (.int .u8 b) = some (.bool (decide (b < a))) := by simp [abin]
set_option maxRecDepth 8000 in
theorem read_calls (σ : AHeap) (s : List UInt8) (hl : s.length ≤ 1048576) : ACall Tryz.prog w0 24 [.string (tx s)] σ fun r σ' => r = .int .i64 (rdN s) ∧ σ' = σ := by
 refine acall_go mixed Tryz.func24 rfl good24 fun pr => ?_
 by_cases hlen : 1 ≤ s.length ∧ s.length ≤ 4
 case neg =>
  have e : rdN s = -1 := if_neg fun h => hlen h.1
  have d1 : decide ((1 : Int) ≤ (s.length : Int) ∧ (s.length : Int) ≤ 4) = false := decide_eq_false (by omega)
  simp -implicitDefEqProofs (disch := omega) only [Nat.reduceEqDiff, ↓reduceIte, vcu, ↓vcd]
  refine (in_calls σ s.length 1 4).mono ?_
  rintro _ _ ⟨rfl, rfl⟩
  rw [d1]
  simp -implicitDefEqProofs (disch := omega) only [Nat.reduceEqDiff, ↓reduceIte, vcu, ↓vcd, opK_some, Bool.not_false]
  refine fin_one Tryz.results24 ⟨?_, rfl⟩
  simp -implicitDefEqProofs (disch := omega) only [Nat.reduceEqDiff, ↓reduceIte, vcu, ↓vcd, e]
 have d1 : decide ((1 : Int) ≤ (s.length : Int) ∧ (s.length : Int) ≤ 4) = true := decide_eq_true (by omega)
 have hb0 := u8_le (s.getD 0 0)
 by_cases hz : 1 < s.length ∧ s.getD 0 0 = 48
 case pos =>
  have e : rdN s = -1 := if_neg fun h => h.2 hz
  have d2 : decide (((s.getD 0 0).toNat : Int) = 48) = true := decide_eq_true (by rw [hz.2]; rfl)
  have h1 := hz.1
  simp -implicitDefEqProofs (disch := omega) only [Nat.reduceEqDiff, ↓reduceIte, vcu, ↓vcd]
  refine (in_calls σ s.length 1 4).mono ?_
  rintro _ _ ⟨rfl, rfl⟩
  rw [d1]
  simp -implicitDefEqProofs (disch := omega) only [Nat.reduceEqDiff, ↓reduceIte, vcu, ↓vcd, opK_some, Bool.not_true, Int.toNat_zero, d2]
  refine fin_one Tryz.results24 ⟨?_, rfl⟩
  simp -implicitDefEqProofs (disch := omega) only [Nat.reduceEqDiff, ↓reduceIte, vcu, ↓vcd, e]
 have eR : rdN s = (rdS s s.length).getD (-1) := if_pos ⟨hlen, hz⟩
 have start : ∀ b : Bool, (decide (1 < (s.length : Int)) = b) → (b = true → decide (((s.getD 0 0).toNat : Int) = 48) = false) := fun b hb hb2 => by
  have h1 : 1 < s.length := by
   rw [hb2] at hb
   have := of_decide_eq_true hb
   omega
  exact decide_eq_false fun h => hz ⟨h1, UInt8.toNat_inj.1 (by show _ = 48; omega)⟩
 simp -implicitDefEqProofs (disch := omega) only [Nat.reduceEqDiff, ↓reduceIte, vcu, ↓vcd]
 refine (in_calls σ s.length 1 4).mono ?_
 rintro _ _ ⟨rfl, rfl⟩
 rename_i σ
 rw [d1]
 by_cases h1 : 1 < s.length
 case pos =>
  have d2 := start true (decide_eq_true (by omega)) rfl
  simp -implicitDefEqProofs (disch := omega) only [Nat.reduceEqDiff, ↓reduceIte, vcu, ↓vcd, opK_some, Bool.not_true, Int.toNat_zero, d2]
  refine vc_loop_c mixed (by kernel_rfl) [0] (fun m a σ' => ∃ (k : Nat) (n : Int), m + k = s.length ∧ a 4 = .int .i64 k ∧ a 3 = .int .i64 n ∧ rdS s k = some n ∧ σ' = σ) s.length ⟨0, 0, by simp, rfl, rfl, rfl, rfl⟩ ?_
  rintro m a σ' hc ⟨k, n, hk, h4, h3, hr, rfl⟩
  simp -implicitDefEqProofs (disch := omega) only [Nat.reduceEqDiff, ↓reduceIte, vcu, ↓vcd] at hc
  obtain ⟨h0, -⟩ := hc
  by_cases hlt : k < s.length
  ·have hb := u8_le (s.getD k 0)
   have hbd := rdS_le hr
   have hp := pow4 (k := k) (by omega)
   have hst : rdS s (k + 1) = if 48 ≤ (s.getD k 0).toNat ∧ (s.getD k 0).toNat ≤ 57 then some (10 * n + ((s.getD k 0).toNat - 48 : Nat)) else none := by rw [rdS, hr]; rfl
   by_cases hdg : 48 ≤ (s.getD k 0).toNat ∧ (s.getD k 0).toNat ≤ 57
   ·rw [if_pos hdg] at hst
    have q1 : decide (((s.getD k 0).toNat : Int) < 48) = false := decide_eq_false (by omega)
    have q2 : decide ((57 : Int) < ((s.getD k 0).toNat : Int)) = false := decide_eq_false (by omega)
    have q3 : (((s.getD k 0).toNat : Int) - 48) % 256 = (((s.getD k 0).toNat - 48 : Nat) : Int) := by omega
    simp -implicitDefEqProofs (disch := omega) only [Nat.reduceEqDiff, ↓reduceIte, vcu, ↓vcd, h0, h3, h4, abin_usub, abin_ulss, abin_ugtr, conv_u8, q1, q2, q3]
    exact ⟨by simp [h0], m - 1, by omega, k + 1, _, by omega, by simp, rfl, hst, trivial⟩
   ·rw [if_neg hdg] at hst
    have e : rdN s = -1 := by
     have hn := rdS_none hst (s.length - (k + 1))
     rw [show k + 1 + (s.length - (k + 1)) = s.length by omega] at hn
     rw [eR, hn]; rfl
    by_cases hlo : (s.getD k 0).toNat < 48
    ·have q1 : decide (((s.getD k 0).toNat : Int) < 48) = true := decide_eq_true (by omega)
     simp -implicitDefEqProofs (disch := omega) only [Nat.reduceEqDiff, ↓reduceIte, vcu, ↓vcd, h0, h3, h4, abin_ulss, abin_ugtr, q1]
     refine fin_one Tryz.results24 ⟨?_, rfl⟩
     simp -implicitDefEqProofs (disch := omega) only [Nat.reduceEqDiff, ↓reduceIte, vcu, ↓vcd, e]
    ·have q1 : decide (((s.getD k 0).toNat : Int) < 48) = false := decide_eq_false (by omega)
     have q2 : decide ((57 : Int) < ((s.getD k 0).toNat : Int)) = true := decide_eq_true (by omega)
     simp -implicitDefEqProofs (disch := omega) only [Nat.reduceEqDiff, ↓reduceIte, vcu, ↓vcd, h0, h3, h4, abin_ulss, abin_ugtr, q1, q2]
     refine fin_one Tryz.results24 ⟨?_, rfl⟩
     simp -implicitDefEqProofs (disch := omega) only [Nat.reduceEqDiff, ↓reduceIte, vcu, ↓vcd, e]
  ·obtain rfl : k = s.length := by omega
   simp -implicitDefEqProofs (disch := omega) only [Nat.reduceEqDiff, ↓reduceIte, vcu, ↓vcd, h0, h3, h4]
   refine fin_one Tryz.results24 ⟨?_, rfl⟩
   simp -implicitDefEqProofs (disch := omega) only [Nat.reduceEqDiff, ↓reduceIte, vcu, ↓vcd, h3]
   rw [eR, hr]; rfl
 case neg =>
  simp -implicitDefEqProofs (disch := omega) only [Nat.reduceEqDiff, ↓reduceIte, vcu, ↓vcd, opK_some, Bool.not_true]
  refine vc_loop_c mixed (by kernel_rfl) [0] (fun m a σ' => ∃ (k : Nat) (n : Int), m + k = s.length ∧ a 4 = .int .i64 k ∧ a 3 = .int .i64 n ∧ rdS s k = some n ∧ σ' = σ) s.length ⟨0, 0, by simp, rfl, rfl, rfl, rfl⟩ ?_
  rintro m a σ' hc ⟨k, n, hk, h4, h3, hr, rfl⟩
  simp -implicitDefEqProofs (disch := omega) only [Nat.reduceEqDiff, ↓reduceIte, vcu, ↓vcd] at hc
  obtain ⟨h0, -⟩ := hc
  by_cases hlt : k < s.length
  ·have hb := u8_le (s.getD k 0)
   have hbd := rdS_le hr
   have hp := pow4 (k := k) (by omega)
   have hst : rdS s (k + 1) = if 48 ≤ (s.getD k 0).toNat ∧ (s.getD k 0).toNat ≤ 57 then some (10 * n + ((s.getD k 0).toNat - 48 : Nat)) else none := by rw [rdS, hr]; rfl
   by_cases hdg : 48 ≤ (s.getD k 0).toNat ∧ (s.getD k 0).toNat ≤ 57
   ·rw [if_pos hdg] at hst
    have q1 : decide (((s.getD k 0).toNat : Int) < 48) = false := decide_eq_false (by omega)
    have q2 : decide ((57 : Int) < ((s.getD k 0).toNat : Int)) = false := decide_eq_false (by omega)
    have q3 : (((s.getD k 0).toNat : Int) - 48) % 256 = (((s.getD k 0).toNat - 48 : Nat) : Int) := by omega
    simp -implicitDefEqProofs (disch := omega) only [Nat.reduceEqDiff, ↓reduceIte, vcu, ↓vcd, h0, h3, h4, abin_usub, abin_ulss, abin_ugtr, conv_u8, q1, q2, q3]
    exact ⟨by simp [h0], m - 1, by omega, k + 1, _, by omega, by simp, rfl, hst, trivial⟩
   ·rw [if_neg hdg] at hst
    have e : rdN s = -1 := by
     have hn := rdS_none hst (s.length - (k + 1))
     rw [show k + 1 + (s.length - (k + 1)) = s.length by omega] at hn
     rw [eR, hn]; rfl
    by_cases hlo : (s.getD k 0).toNat < 48
    ·have q1 : decide (((s.getD k 0).toNat : Int) < 48) = true := decide_eq_true (by omega)
     simp -implicitDefEqProofs (disch := omega) only [Nat.reduceEqDiff, ↓reduceIte, vcu, ↓vcd, h0, h3, h4, abin_ulss, abin_ugtr, q1]
     refine fin_one Tryz.results24 ⟨?_, rfl⟩
     simp -implicitDefEqProofs (disch := omega) only [Nat.reduceEqDiff, ↓reduceIte, vcu, ↓vcd, e]
    ·have q1 : decide (((s.getD k 0).toNat : Int) < 48) = false := decide_eq_false (by omega)
     have q2 : decide ((57 : Int) < ((s.getD k 0).toNat : Int)) = true := decide_eq_true (by omega)
     simp -implicitDefEqProofs (disch := omega) only [Nat.reduceEqDiff, ↓reduceIte, vcu, ↓vcd, h0, h3, h4, abin_ulss, abin_ugtr, q1, q2]
     refine fin_one Tryz.results24 ⟨?_, rfl⟩
     simp -implicitDefEqProofs (disch := omega) only [Nat.reduceEqDiff, ↓reduceIte, vcu, ↓vcd, e]
  ·obtain rfl : k = s.length := by omega
   simp -implicitDefEqProofs (disch := omega) only [Nat.reduceEqDiff, ↓reduceIte, vcu, ↓vcd, h0, h3, h4]
   refine fin_one Tryz.results24 ⟨?_, rfl⟩
   simp -implicitDefEqProofs (disch := omega) only [Nat.reduceEqDiff, ↓reduceIte, vcu, ↓vcd, h3]
   rw [eR, hr]; rfl
end Go.Proofs.YtafkndnmhhjdhaaGreatDoor
namespace Go.Proofs.YtafkndnmhhjdhaaGreatDoor
open Go Go.Abs Go.RowKit Go.Dial
variable {w0 : World}
theorem cutF_step {c : UInt8} {s w : List UInt8} {k : Nat} (h : k < s.length) : cutF c w (s.drop k) = if s.getD k 0 = c then w :: cutF c [] (s.drop (k + 1)) else cutF c (w ++ [s.getD k 0]) (s.drop (k + 1)) := by
 rw [List.drop_eq_getElem_cons h, cutF]
 have e : s.getD k 0 = s[k] := by simp [List.getD, h]
 rw [e]
set_option maxRecDepth 8000 in
theorem cut_calls (σ : AHeap) (s : List UInt8) (c : UInt8) (hl : s.length ≤ 1048576) : ACall Tryz.prog w0 22 [.string (tx s), .int .u8 c.toNat] σ fun r σ' => ∃ g, r = .slice (some ⟨g, 0, none⟩) (cutT c s).length 1 ∧ Sub σ σ' ∧ σ' g = some ⟨texts (cutT c s), false⟩ ∧ σ g = none := by
 refine acall_go mixed Tryz.func22 rfl good22 fun pr => ?_
 simp -implicitDefEqProofs (disch := omega) only [Nat.reduceEqDiff, ↓reduceIte, vcu, ↓vcd]
 refine r_lit el24 (out := #[]) (by kernel_rfl) (by kernel_rfl) fun g0 τ0 n0 s0 v0 => ?_
 replace v0 : τ0 g0 = some ⟨texts [], false⟩ := v0
 simp -implicitDefEqProofs (disch := omega) only [Nat.reduceEqDiff, ↓reduceIte, vcu, ↓vcd]
 refine vc_loop_c mixed (by kernel_rfl) [0, 1] (fun m a σ' => ∃ (k f g : Nat) (xs : List (List UInt8)), m + k = s.length ∧ f ≤ k ∧ a 7 = .int .i64 k ∧ a 6 = .int .i64 f ∧ a 5 = .slice (some ⟨g, 0, none⟩) xs.length 1 ∧ xs.length ≤ k ∧ Sub σ σ' ∧ σ' g = some ⟨texts xs, false⟩ ∧ σ g = none ∧ cutT c s = xs ++ cutF c ((s.drop f).take (k - f)) (s.drop k)) s.length ⟨0, 0, g0, [], by simp, by omega, rfl, rfl, rfl, by simp, s0, v0, n0, by simp [cutT]⟩ ?_
 rintro m a σ' hc ⟨k, f, g, xs, hk, hf, h7, h6, h5, hxl, hs, hg, hn, he⟩
 simp -implicitDefEqProofs (disch := omega) only [Nat.reduceEqDiff, ↓reduceIte, vcu, ↓vcd] at hc
 obtain ⟨h0, h1, -⟩ := hc
 by_cases hlt : k < s.length
 ·have hb := u8_le (s.getD k 0)
  rw [cutF_step hlt] at he
  by_cases hq : s.getD k 0 = c
  ·rw [if_pos hq] at he
   have q1 : decide (((s.getD k 0).toNat : Int) = (c.toNat : Int)) = true := decide_eq_true (by rw [hq])
   simp -implicitDefEqProofs (disch := omega) only [Nat.reduceEqDiff, ↓reduceIte, vcu, ↓vcd, h0, h1, h5, h6, h7, q1, Int.toNat_natCast]
   refine r_lit el24 (out := #[.string (tx ((s.drop f).take (k - f)))]) (by simp -implicitDefEqProofs (disch := omega) only [Nat.reduceEqDiff, ↓reduceIte, vcu, ↓vcd]; kernel_rfl) (by kernel_rfl) fun g3 τ3 n3 s3 v3 => ?_
   replace v3 : τ3 g3 = some ⟨texts [(s.drop f).take (k - f)], false⟩ := v3
   refine r_pushX (g := g) (e := g3) (o := 0) (xs := xs) (ys := [(s.drop f).take (k - f)]) (m := 1) (len := xs.length) el24 (by omega) sl24 (by simp -implicitDefEqProofs (disch := omega) only [Nat.reduceEqDiff, ↓reduceIte, vcu, ↓vcd, h5]) (s3 _ _ hg) rfl z9q (textsAt_own v3) rfl (by omega) fun g4 τ4 n4 k4 v4 => ?_
   have hs4 : Sub σ τ4 := k4.sub (hs.trans s3) hn
   have hn4 := free_sub (hs.trans s3) n4
   simp -implicitDefEqProofs (disch := omega) only [Nat.reduceEqDiff, ↓reduceIte, vcu, ↓vcd, h7]
   refine ⟨by simp [h0, h1], m - 1, by omega, k + 1, k + 1, g4, xs ++ [(s.drop f).take (k - f)], by omega, by omega, by simp, by simp, by simp, by simp; omega, hs4, v4, hn4, ?_⟩
   rw [he]; simp
  ·rw [if_neg hq] at he
   have q1 : decide (((s.getD k 0).toNat : Int) = (c.toNat : Int)) = false := decide_eq_false fun h => hq (UInt8.toNat_inj.1 (by omega))
   simp -implicitDefEqProofs (disch := omega) only [Nat.reduceEqDiff, ↓reduceIte, vcu, ↓vcd, h0, h1, h5, h6, h7, q1]
   refine ⟨by simp [h0, h1], m - 1, by omega, k + 1, f, g, xs, by omega, by omega, by simp, rfl, rfl, by omega, hs, hg, hn, ?_⟩
   have e2 : (s.drop f).take (k + 1 - f) = (s.drop f).take (k - f) ++ [s.getD k 0] := by
    rw [show k + 1 - f = (k - f) + 1 by omega, List.take_succ_eq_append_getElem (by rw [List.length_drop]; omega)]
    congr 2
    have : s.getD k 0 = s[k] := by simp [List.getD, hlt]
    rw [this, List.getElem_drop]
    congr 1; omega
   rw [he, e2]
 ·obtain rfl : k = s.length := by omega
  have e3 : cutT c s = xs ++ [s.drop f] := by
   rw [he, List.drop_length, cutF, List.take_of_length_le (by rw [List.length_drop]; omega)]
  simp -implicitDefEqProofs (disch := omega) only [Nat.reduceEqDiff, ↓reduceIte, vcu, ↓vcd, h0, h1, h5, h6, h7, Int.toNat_natCast]
  refine r_lit el24 (out := #[.string (tx (s.drop f))]) (by simp -implicitDefEqProofs (disch := omega) only [Nat.reduceEqDiff, ↓reduceIte, vcu, ↓vcd]; kernel_rfl) (by kernel_rfl) fun g3 τ3 n3 s3 v3 => ?_
  replace v3 : τ3 g3 = some ⟨texts [s.drop f], false⟩ := v3
  refine r_pushX (g := g) (e := g3) (o := 0) (xs := xs) (ys := [s.drop f]) (m := 1) (len := xs.length) el24 (by omega) sl24 (by simp -implicitDefEqProofs (disch := omega) only [Nat.reduceEqDiff, ↓reduceIte, vcu, ↓vcd, h5]) (s3 _ _ hg) rfl z9q (textsAt_own v3) rfl (by omega) fun g4 τ4 n4 k4 v4 => ?_
  have hs4 : Sub σ τ4 := k4.sub (hs.trans s3) hn
  have hn4 := free_sub (hs.trans s3) n4
  simp -implicitDefEqProofs (disch := omega) only [Nat.reduceEqDiff, ↓reduceIte, vcu, ↓vcd]
  refine fin_one Tryz.results22 ⟨g4, ?_, hs4, by rw [e3]; exact v4, hn4⟩
  simp -implicitDefEqProofs (disch := omega) only [Nat.reduceEqDiff, ↓reduceIte, vcu, ↓vcd]
  rw [e3]; simp
end Go.Proofs.YtafkndnmhhjdhaaGreatDoor
namespace Go.Proofs.YtafkndnmhhjdhaaGreatDoor
open Go Go.Abs Go.RowKit Go.Dial
variable {w0 : World}
theorem acodeB_monoW {P : Program} {b : Base} {n : NR} {c : Code} {a : AFrame} {σ : AHeap} {Q Q' : AQ} (h : ACodeB P b n c a σ Q') (hq : ∀ e a σ, Q' e a σ → Q e a σ) : ACodeB P b n c a σ Q := ACode.mono h hq
def kws : List (List UInt8) := [[99, 97, 108, 108], [100, 114, 111, 112], [110, 117, 109, 98, 101, 114]]
theorem kws_at {k : Nat} (h : k < 3) : kws.getD k [] = kwT k := by
 have : k = 0 ∨ k = 1 ∨ k = 2 := by omega
 rcases this with rfl | rfl | rfl <;> decide
theorem kwT_len (k : Int) : (kwT k).length ≤ 6 := by
 unfold kwT
 split
 ·decide
 ·split <;> decide
set_option maxRecDepth 8000 in
theorem deedText_calls (σ : AHeap) (d : Dd) (ht : d.t.length ≤ 1048576) : ACall Tryz.prog w0 47 [.agg #[.int .i64 d.k, .int .i64 d.l, .string (tx d.t)]] σ fun r σ' => r = .string (tx (deedT d)) ∧ σ' = σ := by
 obtain ⟨K, L, t⟩ := d
 refine acall_go mixed Tryz.func47 rfl good47 fun pr => ?_
 simp -implicitDefEqProofs (disch := omega) only [Nat.reduceEqDiff, ↓reduceIte, vcu, ↓vcd]
 refine r_boxed fun b τ nb s1 e1 => ?_
 replace e1 : τ b = some ⟨[.int .i64 K, .int .i64 L, .string (tx t)], false⟩ := e1
 have x0 : ld τ b 0 = some (.int .i64 K) := ld_of e1 rfl
 have x1 : ld τ b 1 = some (.int .i64 L) := ld_of e1 rfl
 have x2 : ld τ b 2 = some (.string (tx t)) := ld_of e1 rfl
 simp -implicitDefEqProofs (disch := omega) only [Nat.reduceEqDiff, ↓reduceIte, vcu, ↓vcd, x0]
 refine (in_calls τ K 0 2).mono ?_
 rintro _ _ ⟨rfl, rfl⟩
 rename_i τ
 by_cases hk : 0 ≤ K ∧ K ≤ 2
 case neg =>
  rw [decide_eq_false hk]
  simp -implicitDefEqProofs (disch := omega) only [Nat.reduceEqDiff, ↓reduceIte, vcu, ↓vcd, opK_some, Bool.not_false]
  refine fin_drop Tryz.results47 σ s1 ⟨?_, rfl⟩
  simp -implicitDefEqProofs (disch := omega) only [Nat.reduceEqDiff, ↓reduceIte, vcu, ↓vcd]
  rw [deedT, if_neg fun h => hk h.1]
 rw [decide_eq_true hk]
 simp -implicitDefEqProofs (disch := omega) only [Nat.reduceEqDiff, ↓reduceIte, vcu, ↓vcd, opK_some, Bool.not_true, x1]
 refine (in_calls τ L 0 99).mono ?_
 rintro _ _ ⟨rfl, rfl⟩
 rename_i τ
 by_cases hl : 0 ≤ L ∧ L ≤ 99
 case neg =>
  rw [decide_eq_false hl]
  simp -implicitDefEqProofs (disch := omega) only [Nat.reduceEqDiff, ↓reduceIte, vcu, ↓vcd, opK_some, Bool.not_false]
  refine fin_drop Tryz.results47 σ s1 ⟨?_, rfl⟩
  simp -implicitDefEqProofs (disch := omega) only [Nat.reduceEqDiff, ↓reduceIte, vcu, ↓vcd]
  rw [deedT, if_neg fun h => hl h.2.1]
 rw [decide_eq_true hl]
 simp -implicitDefEqProofs (disch := omega) only [Nat.reduceEqDiff, ↓reduceIte, vcu, ↓vcd, opK_some, Bool.not_true]
 obtain ⟨kn, hkn, rfl⟩ : ∃ kn : Nat, kn < 3 ∧ K = kn := ⟨K.toNat, by omega, by omega⟩
 obtain ⟨n, hn, rfl⟩ : ∃ n : Nat, n < 100 ∧ L = n := ⟨L.toNat, by omega, by omega⟩
 have hkw := kws_at hkn
 have hkl := kwT_len kn
 have hnl := decN_len n
 have ha1 : abin Tryz.prog 9 .add (.string (tx (kwT kn))) (.string { data := #[32] }) = some (.string (tx (kwT kn ++ [32]))) := abin_sadd (by simp; omega)
 have ha2 := abin_sadd (P := Tryz.prog) (t := 9) (xs := kwT kn ++ [32]) (ys := decN n) (by rw [List.length_append, List.length_singleton]; omega)
 refine acodeB_monoW (Q' := fun e a' τ' => e = .normal ∧ a' 1 = .pointer (some ⟨b, 0, none⟩) ∧ a' 3 = .string (tx ((kwT kn ++ [32]) ++ decN n)) ∧ Sub τ τ')
  (region_tree mixed (quiets [1, 6] (quiets [2, 7] (.two 0 (quiets [3] (.two 4 (quiets [5] (.one 8 (.one 9 (quiets [10] .stop)))) 8 (.one 4 (quiets [5] (.one 9 (quiets [10] .stop)))))) 8 (.one 0 (quiets [3] (.one 4 (quiets [5] (.one 9 (quiets [10] .stop))))))))) [([2, 7], Sub τ)] (by kernel_rfl) (by kernel_rfl) (fun p hp => by simp only [List.mem_singleton] at hp; subst hp; exact Sub.refl _) ?_) ?_
 ·refine tree_quiets _ _ _ _ sf0 (by kernel_rfl) (by kernel_rfl) ?_
  simp -implicitDefEqProofs (disch := omega) only [Nat.reduceEqDiff, ↓reduceIte, vcu, ↓vcd, pickOps_nil, pickOps_cons, pickO_some, List.getElem?_cons_succ, List.getElem?_cons_zero]
  refine tree_quiets τ _ _ _ sf1 (by kernel_rfl) (by kernel_rfl) ?_
  simp -implicitDefEqProofs (disch := omega) only [Nat.reduceEqDiff, ↓reduceIte, vcu, ↓vcd, pickOps_nil, pickOps_cons, pickO_some, List.getElem?_cons_succ, List.getElem?_cons_zero, x0, x1]
  refine tree_two rfl rfl ?_ ?_
  ·refine r_lit el24 (out := #[.string (tx [99, 97, 108, 108]), .string (tx [100, 114, 111, 112]), .string (tx [110, 117, 109, 98, 101, 114])]) (by first | kernel_rfl | (simp -implicitDefEqProofs (disch := omega) only [Nat.reduceEqDiff, ↓reduceIte, vcu, ↓vcd]; kernel_rfl)) (by rfl) fun g τ3 n3 s3 v3 => ?_
   replace v3 : τ3 g = some ⟨texts kws, false⟩ := v3
   have y3 : ld τ3 g (0 + kn) = some (.string (tx (kwT kn))) := by rw [← hkw]; exact textsAt_own v3 kn (by show kn < 3; omega)
   simp -implicitDefEqProofs (disch := omega) only [Nat.reduceEqDiff, ↓reduceIte, vcu, ↓vcd]
   refine ⟨keep_of rfl (fun p hp => by simp only [List.mem_singleton] at hp; subst hp; exact .inr (s3)), ?_⟩
   refine tree_quiets _ _ _ _ sf0 (by kernel_rfl) (by kernel_rfl) ?_
   simp -implicitDefEqProofs (disch := omega) only [Nat.reduceEqDiff, ↓reduceIte, vcu, ↓vcd, pickOps_nil, pickOps_cons, pickO_some, List.getElem?_cons_succ, List.getElem?_cons_zero, Int.toNat_natCast]
   refine tree_two rfl rfl ?_ ?_
   ·simp -implicitDefEqProofs (disch := omega) only [Nat.reduceEqDiff, ↓reduceIte, vcu, ↓vcd, y3]
    refine ⟨keep_of rfl (fun p hp => by simp only [List.mem_singleton] at hp; subst hp; exact .inr (s3)), ?_⟩
    refine tree_quiets _ _ _ _ sf0 (by kernel_rfl) (by kernel_rfl) ?_
    simp -implicitDefEqProofs (disch := omega) only [Nat.reduceEqDiff, ↓reduceIte, vcu, ↓vcd, pickOps_nil, pickOps_cons, pickO_some, List.getElem?_cons_succ, List.getElem?_cons_zero, ha1]
    refine tree_one rfl ?_
    simp -implicitDefEqProofs (disch := omega) only [Nat.reduceEqDiff, ↓reduceIte, vcu, ↓vcd]
    refine (number_calls n (by omega) _).mono ?_
    rintro _ τ9 ⟨rfl, e9⟩
    subst τ9
    simp -implicitDefEqProofs (disch := omega) only [Nat.reduceEqDiff, ↓reduceIte, vcu, ↓vcd, opK_some]
    refine ⟨keep_of rfl (fun p hp => by simp only [List.mem_singleton] at hp; subst hp; exact .inr (s3)), ?_⟩
    refine tree_one rfl ?_
    simp -implicitDefEqProofs (disch := omega) only [Nat.reduceEqDiff, ↓reduceIte, vcu, ↓vcd, ha2]
    refine ⟨keep_of rfl (fun p hp => by simp only [List.mem_singleton] at hp; subst hp; exact .inr (s3)), ?_⟩
    refine tree_quiets _ _ _ _ sf0 (by kernel_rfl) (by kernel_rfl) ?_
    simp -implicitDefEqProofs (disch := omega) only [Nat.reduceEqDiff, ↓reduceIte, vcu, ↓vcd, pickOps_nil, pickOps_cons, pickO_some, List.getElem?_cons_succ, List.getElem?_cons_zero]
    refine tree_stop ?_
    refine ⟨trivial, ?_, ?_, s3⟩
    ·simp -implicitDefEqProofs (disch := omega) only [Nat.reduceEqDiff, ↓reduceIte, vcu, ↓vcd]
    ·simp -implicitDefEqProofs (disch := omega) only [Nat.reduceEqDiff, ↓reduceIte, vcu, ↓vcd]
   ·simp -implicitDefEqProofs (disch := omega) only [Nat.reduceEqDiff, ↓reduceIte, vcu, ↓vcd]
    refine (number_calls n (by omega) _).mono ?_
    rintro _ τ9 ⟨rfl, e9⟩
    subst τ9
    simp -implicitDefEqProofs (disch := omega) only [Nat.reduceEqDiff, ↓reduceIte, vcu, ↓vcd, opK_some]
    refine ⟨keep_of rfl (fun p hp => by simp only [List.mem_singleton] at hp; subst hp; exact .inr (s3)), ?_⟩
    refine tree_one rfl ?_
    simp -implicitDefEqProofs (disch := omega) only [Nat.reduceEqDiff, ↓reduceIte, vcu, ↓vcd, y3]
    refine ⟨keep_of rfl (fun p hp => by simp only [List.mem_singleton] at hp; subst hp; exact .inr (s3)), ?_⟩
    refine tree_quiets _ _ _ _ sf0 (by kernel_rfl) (by kernel_rfl) ?_
    simp -implicitDefEqProofs (disch := omega) only [Nat.reduceEqDiff, ↓reduceIte, vcu, ↓vcd, pickOps_nil, pickOps_cons, pickO_some, List.getElem?_cons_succ, List.getElem?_cons_zero, ha1]
    refine tree_one rfl ?_
    simp -implicitDefEqProofs (disch := omega) only [Nat.reduceEqDiff, ↓reduceIte, vcu, ↓vcd, ha2]
    refine ⟨keep_of rfl (fun p hp => by simp only [List.mem_singleton] at hp; subst hp; exact .inr (s3)), ?_⟩
    refine tree_quiets _ _ _ _ sf0 (by kernel_rfl) (by kernel_rfl) ?_
    simp -implicitDefEqProofs (disch := omega) only [Nat.reduceEqDiff, ↓reduceIte, vcu, ↓vcd, pickOps_nil, pickOps_cons, pickO_some, List.getElem?_cons_succ, List.getElem?_cons_zero]
    refine tree_stop ?_
    refine ⟨trivial, ?_, ?_, s3⟩
    ·simp -implicitDefEqProofs (disch := omega) only [Nat.reduceEqDiff, ↓reduceIte, vcu, ↓vcd]
    ·simp -implicitDefEqProofs (disch := omega) only [Nat.reduceEqDiff, ↓reduceIte, vcu, ↓vcd]
  ·simp -implicitDefEqProofs (disch := omega) only [Nat.reduceEqDiff, ↓reduceIte, vcu, ↓vcd]
   refine (number_calls n (by omega) _).mono ?_
   rintro _ τ9 ⟨rfl, e9⟩
   subst τ9
   simp -implicitDefEqProofs (disch := omega) only [Nat.reduceEqDiff, ↓reduceIte, vcu, ↓vcd, opK_some]
   refine ⟨keep_of rfl (fun p hp => by simp only [List.mem_singleton] at hp; subst hp; exact .inr (Sub.refl _)), ?_⟩
   refine tree_one rfl ?_
   refine r_lit el24 (out := #[.string (tx [99, 97, 108, 108]), .string (tx [100, 114, 111, 112]), .string (tx [110, 117, 109, 98, 101, 114])]) (by first | kernel_rfl | (simp -implicitDefEqProofs (disch := omega) only [Nat.reduceEqDiff, ↓reduceIte, vcu, ↓vcd]; kernel_rfl)) (by rfl) fun g τ3 n3 s3 v3 => ?_
   replace v3 : τ3 g = some ⟨texts kws, false⟩ := v3
   have y3 : ld τ3 g (0 + kn) = some (.string (tx (kwT kn))) := by rw [← hkw]; exact textsAt_own v3 kn (by show kn < 3; omega)
   simp -implicitDefEqProofs (disch := omega) only [Nat.reduceEqDiff, ↓reduceIte, vcu, ↓vcd]
   refine ⟨keep_of rfl (fun p hp => by simp only [List.mem_singleton] at hp; subst hp; exact .inr (s3)), ?_⟩
   refine tree_quiets _ _ _ _ sf0 (by kernel_rfl) (by kernel_rfl) ?_
   simp -implicitDefEqProofs (disch := omega) only [Nat.reduceEqDiff, ↓reduceIte, vcu, ↓vcd, pickOps_nil, pickOps_cons, pickO_some, List.getElem?_cons_succ, List.getElem?_cons_zero, Int.toNat_natCast]
   refine tree_one rfl ?_
   simp -implicitDefEqProofs (disch := omega) only [Nat.reduceEqDiff, ↓reduceIte, vcu, ↓vcd, y3]
   refine ⟨keep_of rfl (fun p hp => by simp only [List.mem_singleton] at hp; subst hp; exact .inr (s3)), ?_⟩
   refine tree_quiets _ _ _ _ sf0 (by kernel_rfl) (by kernel_rfl) ?_
   simp -implicitDefEqProofs (disch := omega) only [Nat.reduceEqDiff, ↓reduceIte, vcu, ↓vcd, pickOps_nil, pickOps_cons, pickO_some, List.getElem?_cons_succ, List.getElem?_cons_zero, ha1]
   refine tree_one rfl ?_
   simp -implicitDefEqProofs (disch := omega) only [Nat.reduceEqDiff, ↓reduceIte, vcu, ↓vcd, ha2]
   refine ⟨keep_of rfl (fun p hp => by simp only [List.mem_singleton] at hp; subst hp; exact .inr (s3)), ?_⟩
   refine tree_quiets _ _ _ _ sf0 (by kernel_rfl) (by kernel_rfl) ?_
   simp -implicitDefEqProofs (disch := omega) only [Nat.reduceEqDiff, ↓reduceIte, vcu, ↓vcd, pickOps_nil, pickOps_cons, pickO_some, List.getElem?_cons_succ, List.getElem?_cons_zero]
   refine tree_stop ?_
   refine ⟨trivial, ?_, ?_, s3⟩
   ·simp -implicitDefEqProofs (disch := omega) only [Nat.reduceEqDiff, ↓reduceIte, vcu, ↓vcd]
   ·simp -implicitDefEqProofs (disch := omega) only [Nat.reduceEqDiff, ↓reduceIte, vcu, ↓vcd]
 ·rintro e a' τ' ⟨rfl, p1, p3, s2⟩
  have z0 := ld_sub s2 x0
  have z2 := ld_sub s2 x2
  have s12 := s1.trans s2
  have aq : abin Tryz.prog 9 .eql (.string (tx t)) (.string { data := #[] }) = some (.bool (decide (t = []))) := abin_seql (ys := [])
  have a3 : abin Tryz.prog 9 .add (.string (tx ((kwT kn ++ [32]) ++ decN n))) (.string { data := #[32] }) = some (.string (tx ((kwT kn ++ [32]) ++ decN n ++ [32]))) := abin_sadd (by simp; omega)
  have ht' : t.length ≤ 1048576 := ht
  have a4 := abin_sadd (P := Tryz.prog) (t := 9) (xs := (kwT kn ++ [32]) ++ decN n ++ [32]) (ys := t) (by simp; omega)
  have hN : (n : Int).toNat = n := Int.toNat_natCast n
  by_cases h1 : kn = 1
  ·have d1 : decide ((kn : Int) = 1) = true := decide_eq_true (by omega)
   by_cases he : t = []
   ·simp -implicitDefEqProofs (disch := omega) only [Nat.reduceEqDiff, ↓reduceIte, vcu, ↓vcd, p1, p3, z0, z2, d1, aq, decide_eq_true he]
    refine fin_drop Tryz.results47 σ s12 ⟨?_, rfl⟩
    simp -implicitDefEqProofs (disch := omega) only [Nat.reduceEqDiff, ↓reduceIte, vcu, ↓vcd, p3]
    rw [deedT, if_pos ⟨hk, hl, .inl ⟨by show (kn : Int) = 1; omega, he⟩⟩]
    simp [h1, hN]
   ·have no : ¬ DdOk ⟨kn, n, t⟩ := fun h => h.2.2.elim (fun h => he h.2) fun h => h.1 (by show (kn : Int) = 1; omega)
    simp -implicitDefEqProofs (disch := omega) only [Nat.reduceEqDiff, ↓reduceIte, vcu, ↓vcd, p1, p3, z0, z2, d1, aq, decide_eq_false he]
    refine fin_drop Tryz.results47 σ s12 ⟨?_, rfl⟩
    simp -implicitDefEqProofs (disch := omega) only [Nat.reduceEqDiff, ↓reduceIte, vcu, ↓vcd, p3]
    rw [deedT, if_neg no]
  ·have d1 : decide ((kn : Int) = 1) = false := decide_eq_false (by omega)
   simp -implicitDefEqProofs (disch := omega) only [Nat.reduceEqDiff, ↓reduceIte, vcu, ↓vcd, p1, p3, z0, z2, d1]
   refine (digits_calls τ' t ht').mono ?_
   rintro _ _ ⟨rfl, rfl⟩
   rename_i τ'
   by_cases hdg : DgT t
   case neg =>
    have no : ¬ DdOk ⟨kn, n, t⟩ := fun h => h.2.2.elim (fun h => h1 (by have : (kn : Int) = 1 := h.1; omega)) fun h => hdg h.2.1
    rw [decide_eq_false hdg]
    simp -implicitDefEqProofs (disch := omega) only [Nat.reduceEqDiff, ↓reduceIte, vcu, ↓vcd, opK_some, p1, p3, z0, z2, Bool.not_false]
    refine fin_drop Tryz.results47 σ s12 ⟨?_, rfl⟩
    simp -implicitDefEqProofs (disch := omega) only [Nat.reduceEqDiff, ↓reduceIte, vcu, ↓vcd, p3]
    rw [deedT, if_neg no]
   rw [decide_eq_true hdg]
   simp -implicitDefEqProofs (disch := omega) only [Nat.reduceEqDiff, ↓reduceIte, vcu, ↓vcd, opK_some, p1, p3, z0, z2, Bool.not_true]
   refine (in_calls τ' t.length 1 3).mono ?_
   rintro _ _ ⟨rfl, rfl⟩
   by_cases h13 : (1 : Int) ≤ t.length ∧ (t.length : Int) ≤ 3
   case neg =>
    have no : ¬ DdOk ⟨kn, n, t⟩ := fun h => h.2.2.elim (fun h => h1 (by have : (kn : Int) = 1 := h.1; omega)) fun h => h13 (by have h2 : 1 ≤ t.length := h.2.2.1; have h3 : t.length ≤ 3 := h.2.2.2; omega)
    rw [decide_eq_false h13]
    simp -implicitDefEqProofs (disch := omega) only [Nat.reduceEqDiff, ↓reduceIte, vcu, ↓vcd, opK_some, p1, p3, z0, z2, Bool.not_false]
    refine fin_drop Tryz.results47 σ s12 ⟨?_, rfl⟩
    simp -implicitDefEqProofs (disch := omega) only [Nat.reduceEqDiff, ↓reduceIte, vcu, ↓vcd, p3]
    rw [deedT, if_neg no]
   rw [decide_eq_true h13]
   simp -implicitDefEqProofs (disch := omega) only [Nat.reduceEqDiff, ↓reduceIte, vcu, ↓vcd, opK_some, p1, p3, z0, z2, Bool.not_true, a3, a4]
   refine fin_drop Tryz.results47 σ s12 ⟨?_, rfl⟩
   simp -implicitDefEqProofs (disch := omega) only [Nat.reduceEqDiff, ↓reduceIte, vcu, ↓vcd, p3]
   rw [deedT, if_pos ⟨hk, hl, .inr ⟨by show (kn : Int) ≠ 1; omega, hdg, by show 1 ≤ t.length; omega, by show t.length ≤ 3; omega⟩⟩]
   have : ¬ (kn : Int) = 1 := by omega
   simp [this, hN]
end Go.Proofs.YtafkndnmhhjdhaaGreatDoor
namespace Go.Proofs.YtafkndnmhhjdhaaGreatDoor
open Go Go.Abs Go.RowKit Go.Dial
variable {w0 : World}
/-- a deed as a value -/
def ddA (d : Dd) : Value := .agg #[.int .i64 d.k, .int .i64 d.l, .string (tx d.t)]
def rdP (s : List UInt8) : Dd × Bool := match readO s with | some d => (d, true) | none => (⟨0, 0, []⟩, false)
def kdN (w : List UInt8) : Nat → Int
 | 0 => -1
 | k + 1 => if w = kwT k then k else kdN w k
theorem kdN_3 (w : List UInt8) : kdN w 3 = kdV w := rfl
theorem cutF_len {c : UInt8} : ∀ (s w x : List UInt8), x ∈ cutF c w s → x.length ≤ w.length + s.length
 | [], w, x, h => by
  simp only [cutF, List.mem_singleton] at h
  subst h; simp
 | b :: s, w, x, h => by
  unfold cutF at h
  split at h
  ·rcases List.mem_cons.1 h with rfl | h
   ·simp
   ·have := cutF_len s [] x h; simp at this ⊢; omega
  ·have := cutF_len s _ x h; simp at this ⊢; omega
theorem fin_ct8 {P : Program} {fn : Func} {R : Value → AHeap → Prop} {a : AFrame} {σ : AHeap} {t u : Nat} {ty : TypeId} {v : Value} (h : fn.results = #[.cell t ty, .tmp u]) (σ'' : AHeap) (hs : Sub σ'' σ) (hv : aload P σ ty (a t) = some v) (hr : R (.tuple #[v, a u]) σ'') : finC P fn R a σ :=
 ⟨[v, a u], σ'', by simp [h, rvals, hv], hs, hr⟩
set_option maxRecDepth 8000 in
theorem readDeed_calls (σ : AHeap) (s : List UInt8) (hl : s.length ≤ 1048576) : ACall Tryz.prog w0 21 [.string (tx s)] σ fun r σ' => r = .tuple #[ddA (rdP s).1, .bool (rdP s).2] ∧ σ' = σ := by
 refine acall_goc mixed Tryz.func21 rfl goodc21 fun pr => ?_
 simp -implicitDefEqProofs (disch := omega) only [Nat.reduceEqDiff, ↓reduceIte, vcu, ↓vcd]
 refine r_new ze48 fun c2 τ1 n2 s1 e2 => ?_
 replace e2 : τ1 c2 = some ⟨[.int .i64 0, .int .i64 0, .string (tx [])], false⟩ := e2
 simp -implicitDefEqProofs (disch := omega) only [Nat.reduceEqDiff, ↓reduceIte, vcu, ↓vcd]
 refine (cut_calls τ1 s 32 hl).mono ?_
 rintro _ τ2 ⟨gw, rfl, s2, vw, nw⟩
 simp -implicitDefEqProofs (disch := omega) only [Nat.reduceEqDiff, ↓reduceIte, vcu, ↓vcd, opK_some]
 rw [r_build]
 refine ⟨(_, #[.int .i64 (-1), .int .i64 0, .string (tx [])]), ⟨ze48, by first | kernel_rfl | (simp -implicitDefEqProofs (disch := omega) only [Nat.reduceEqDiff, ↓reduceIte, vcu, ↓vcd]; kernel_rfl)⟩, ?_⟩
 simp -implicitDefEqProofs (disch := omega) only [Nat.reduceEqDiff, ↓reduceIte, vcu, ↓vcd]
 refine r_local (cs := #[.int .i64 (-1), .int .i64 0, .string (tx [])]) ze48 (by decide) z9q (by rw [co48]; rfl) rfl rfl (Nat.zero_lt_succ _) fun c5 τ3 n5 s3 e5 => ?_
 replace e5 : τ3 c5 = some ⟨[.int .i64 (-1), .int .i64 0, .string (tx [])], false⟩ := e5
 have w0p : 0 < (cutT 32 s).length := List.length_pos_iff.2 (cutF_ne 32 s [])
 have d52 : c2 ≠ c5 := ne_of' n5 (s2 _ _ e2)
 have d5w : gw ≠ c5 := ne_of' n5 vw
 have e2' := s3 _ _ (s2 _ _ e2)
 have vw' := s3 _ _ vw
 have s13 := s1.trans (s2.trans s3)
 have nc5 : σ c5 = none := free_sub (s1.trans s2) n5
 simp -implicitDefEqProofs (disch := omega) only [Nat.reduceEqDiff, ↓reduceIte, vcu, ↓vcd]
 refine vc_loop_c mixed (by kernel_rfl) [0, 2, 4, 5] (fun m a σ' => ∃ k : Nat, m + k = 3 ∧ a 6 = .int .i64 k ∧ Sub σ σ' ∧ σ' c2 = some ⟨[.int .i64 0, .int .i64 0, .string (tx [])], false⟩ ∧ σ' gw = some ⟨texts (cutT 32 s), false⟩ ∧ σ' c5 = some ⟨[.int .i64 (kdN ((cutT 32 s).getD 0 []) k), .int .i64 0, .string (tx [])], false⟩) 3 ⟨0, by simp, rfl, s13, e2', vw', e5⟩ ?_
 rintro m a σ' hc ⟨k, hk, h6, hs, q2, qw, q5⟩
 simp -implicitDefEqProofs (disch := omega) only [Nat.reduceEqDiff, ↓reduceIte, vcu, ↓vcd] at hc
 obtain ⟨h0, h2, h4, h5, -⟩ := hc
 have lw0 : ld σ' gw 0 = some (.string (tx ((cutT 32 s).getD 0 []))) := by have := textsAt_own qw 0 w0p; simpa using this
 generalize hW : (cutT 32 s).getD 0 [] = w at *
 by_cases hlt : k < 3
 ·have hkw := kws_at hlt
  have hst : kdN w (k + 1) = if w = kwT k then (k : Int) else kdN w k := rfl
  simp -implicitDefEqProofs (disch := omega) only [Nat.reduceEqDiff, ↓reduceIte, vcu, ↓vcd, h0, h2, h4, h5, h6]
  refine region_tree mixed (quiets [0, 1, 4] (quiets [2] (.one 3 (quiets [5] (.one 6 (quiets [7] .stop)))))) [([2], Sub σ')] (by kernel_rfl) (by kernel_rfl) (fun p hp => by simp only [List.mem_singleton] at hp; subst hp; exact Sub.refl _) ?_
  refine tree_quiets _ _ _ _ sf0 (by kernel_rfl) (by kernel_rfl) ?_
  simp -implicitDefEqProofs (disch := omega) only [Nat.reduceEqDiff, ↓reduceIte, vcu, ↓vcd, pickOps_nil, pickOps_cons, pickO_some, List.getElem?_cons_succ, List.getElem?_cons_zero, h4, h6, Int.toNat_zero]
  refine tree_quiets σ' _ _ _ sf1 (by kernel_rfl) (by kernel_rfl) ?_
  simp -implicitDefEqProofs (disch := omega) only [Nat.reduceEqDiff, ↓reduceIte, vcu, ↓vcd, pickOps_nil, pickOps_cons, pickO_some, List.getElem?_cons_succ, List.getElem?_cons_zero, lw0]
  refine tree_one rfl ?_
  refine r_lit el24 (out := #[.string (tx [99, 97, 108, 108]), .string (tx [100, 114, 111, 112]), .string (tx [110, 117, 109, 98, 101, 114])]) (by first | kernel_rfl | (simp -implicitDefEqProofs (disch := omega) only [Nat.reduceEqDiff, ↓reduceIte, vcu, ↓vcd]; kernel_rfl)) (by rfl) fun g τ5 n6 s5 v5 => ?_
  replace v5 : τ5 g = some ⟨texts kws, false⟩ := v5
  have y5 : ld τ5 g (0 + k) = some (.string (tx (kwT k))) := by rw [← hkw]; exact textsAt_own v5 k (by show k < 3; omega)
  simp -implicitDefEqProofs (disch := omega) only [Nat.reduceEqDiff, ↓reduceIte, vcu, ↓vcd]
  refine ⟨keep_of rfl (fun p hp => by simp only [List.mem_singleton] at hp; subst hp; exact .inr s5), ?_⟩
  refine tree_quiets _ _ _ _ sf0 (by kernel_rfl) (by kernel_rfl) ?_
  simp -implicitDefEqProofs (disch := omega) only [Nat.reduceEqDiff, ↓reduceIte, vcu, ↓vcd, pickOps_nil, pickOps_cons, pickO_some, List.getElem?_cons_succ, List.getElem?_cons_zero, Int.toNat_natCast]
  refine tree_one rfl ?_
  simp -implicitDefEqProofs (disch := omega) only [Nat.reduceEqDiff, ↓reduceIte, vcu, ↓vcd, y5]
  refine ⟨keep_of rfl (fun p hp => by simp only [List.mem_singleton] at hp; subst hp; exact .inr s5), ?_⟩
  refine tree_quiets _ _ _ _ sf0 (by kernel_rfl) (by kernel_rfl) ?_
  simp -implicitDefEqProofs (disch := omega) only [Nat.reduceEqDiff, ↓reduceIte, vcu, ↓vcd, pickOps_nil, pickOps_cons, pickO_some, List.getElem?_cons_succ, List.getElem?_cons_zero]
  refine tree_stop ?_
  by_cases hq : w = kwT k
  ·rw [if_pos hq] at hst
   have dq : decide (w = kwT k) = true := decide_eq_true hq
   simp -implicitDefEqProofs (disch := omega) only [Nat.reduceEqDiff, ↓reduceIte, vcu, ↓vcd, h0, h2, h4, h5, h6, dq]
   refine r_set (g := c5) (i := 0) z9q z9r co3 z9r (s5 _ _ q5) (by show 0 < 3; omega) fun τ6 k6 e6 => ?_
   replace e6 : τ6 c5 = some ⟨[.int .i64 k, .int .i64 0, .string (tx [])], false⟩ := by rw [e6]; simp -implicitDefEqProofs (disch := omega) only [Nat.reduceEqDiff, ↓reduceIte, vcu, ↓vcd]; rfl
   simp -implicitDefEqProofs (disch := omega) only [Nat.reduceEqDiff, ↓reduceIte, vcu, ↓vcd, h0, h2, h4, h5, h6]
   exact ⟨by simp [h0, h2, h4, h5], m - 1, by omega, k + 1, by omega, by simp [h6], k6.sub (hs.trans s5) nc5, k6.at (s5 _ _ q2) d52, k6.at (s5 _ _ qw) d5w, by rw [hst]; exact e6⟩
  ·rw [if_neg hq] at hst
   have dq : decide (w = kwT k) = false := decide_eq_false hq
   simp -implicitDefEqProofs (disch := omega) only [Nat.reduceEqDiff, ↓reduceIte, vcu, ↓vcd, h0, h2, h4, h5, h6, dq]
   exact ⟨by simp [h0, h2, h4, h5], m - 1, by omega, k + 1, by omega, by simp, hs.trans s5, s5 _ _ q2, s5 _ _ qw, by rw [hst]; exact s5 _ _ q5⟩
 ·have e3 : k = 3 := by omega
  subst e3
  rw [kdN_3] at q5
  generalize hD : ddW (cutT 32 s) = D
  have hDt : D.t.length ≤ 1048576 := by
   rw [← hD]
   unfold ddW
   simp only
   split
   ·rename_i h
    have := cutF_len (c := 32) s [] ((cutT 32 s).getD 2 []) (by simp only [List.getD, h, List.getElem?_eq_getElem, Option.getD_some]; exact List.getElem_mem h)
    simp only [List.length_nil] at this
    omega
   ·simp
  by_cases l1 : 1 < (cutT 32 s).length
  case neg =>
   have eD : D = ⟨kdV w, 0, []⟩ := by rw [← hD, ddW, hW, if_neg l1, if_neg (by omega)]
   replace q5 : σ' c5 = some ⟨[.int .i64 D.k, .int .i64 D.l, .string (tx D.t)], false⟩ := by rw [q5, eD]
   clear eD
   simp -implicitDefEqProofs (disch := omega) only [Nat.reduceEqDiff, ↓reduceIte, vcu, ↓vcd, h0, h2, h4, h5, h6]
   have l5 : lds _ c5 0 3 = some [.int .i64 D.k, .int .i64 D.l, .string (tx D.t)] := lds_three (ld_of q5 rfl) (ld_of q5 rfl) (ld_of q5 rfl)
   have aq : abin Tryz.prog 9 .eql (.string (tx s)) (.string { data := #[] }) = some (.bool (decide (s = []))) := abin_seql (ys := [])
   by_cases hs0 : s = []
   ·have hr : rdP s = (⟨0, 0, []⟩, false) := by unfold rdP readO; rw [if_pos (.inl hs0)]
    simp -implicitDefEqProofs (disch := omega) only [Nat.reduceEqDiff, ↓reduceIte, vcu, ↓vcd, h0, h2, h4, h5, aq, decide_eq_true hs0]
    rw [r_build]
    refine ⟨(_, #[.int .i64 0, .int .i64 0, .string (tx [])]), ⟨ze48, by first | kernel_rfl | (simp -implicitDefEqProofs (disch := omega) only [Nat.reduceEqDiff, ↓reduceIte, vcu, ↓vcd]; kernel_rfl)⟩, ?_⟩
    simp -implicitDefEqProofs (disch := omega) only [Nat.reduceEqDiff, ↓reduceIte, vcu, ↓vcd, h2]
    refine r_sets (g := c2) (i := 0) (C := [.int .i64 0, .int .i64 0, .string (tx [])]) (by simp -implicitDefEqProofs (disch := omega) only [Nat.reduceEqDiff, ↓reduceIte, vcu, ↓vcd, h2]) z9co48 z9r z9z q2 z9l fun τ8 k8 e8 => ?_
    replace e8 : τ8 c2 = some ⟨[.int .i64 0, .int .i64 0, .string (tx [])], false⟩ := e8
    have l8 : lds τ8 c2 0 3 = some [.int .i64 0, .int .i64 0, .string (tx [])] := lds_three (ld_of e8 rfl) (ld_of e8 rfl) (ld_of e8 rfl)
    simp -implicitDefEqProofs (disch := omega) only [Nat.reduceEqDiff, ↓reduceIte, vcu, ↓vcd, h2]
    refine fin_ct8 Tryz.results21 σ (k8.sub hs n2) (v := .agg #[.int .i64 0, .int .i64 0, .string (tx [])]) (by simp -implicitDefEqProofs (disch := omega) only [Nat.reduceEqDiff, ↓reduceIte, vcu, ↓vcd, h2, l8, co48]) ⟨?_, rfl⟩
    simp -implicitDefEqProofs (disch := omega) only [Nat.reduceEqDiff, ↓reduceIte, vcu, ↓vcd]
    rw [hr]; rfl
   ·simp -implicitDefEqProofs (disch := omega) only [Nat.reduceEqDiff, ↓reduceIte, vcu, ↓vcd, h0, h2, h4, h5, aq, decide_eq_false hs0, l5, co48]
    refine (deedText_calls _ D hDt).mono ?_
    rintro _ _ ⟨rfl, rfl⟩
    by_cases hne : deedT D = s
    ·have hr : rdP s = (D, true) := by unfold rdP readO; rw [if_neg (by rw [hD]; exact fun h => h.elim hs0 fun h => h hne), hD]
     have dn : decide (deedT D = s) = true := decide_eq_true hne
     simp -implicitDefEqProofs (disch := omega) only [Nat.reduceEqDiff, ↓reduceIte, vcu, ↓vcd, opK_some, h0, h2, h4, h5, abin_sneq, dn, Bool.not_true, l5, co48]
     refine r_sets (g := c2) (i := 0) (C := [.int .i64 0, .int .i64 0, .string (tx [])]) (by simp -implicitDefEqProofs (disch := omega) only [Nat.reduceEqDiff, ↓reduceIte, vcu, ↓vcd, h0, h2, h4, h5]) z9co48 z9r z9z q2 z9l fun τ8 k8 e8 => ?_
     replace e8 : τ8 c2 = some ⟨[.int .i64 D.k, .int .i64 D.l, .string (tx D.t)], false⟩ := e8
     have l8 : lds τ8 c2 0 3 = some [.int .i64 D.k, .int .i64 D.l, .string (tx D.t)] := lds_three (ld_of e8 rfl) (ld_of e8 rfl) (ld_of e8 rfl)
     simp -implicitDefEqProofs (disch := omega) only [Nat.reduceEqDiff, ↓reduceIte, vcu, ↓vcd, h0, h2, h4, h5]
     refine fin_ct8 Tryz.results21 σ (k8.sub hs n2) (v := .agg #[.int .i64 D.k, .int .i64 D.l, .string (tx D.t)]) (by simp -implicitDefEqProofs (disch := omega) only [Nat.reduceEqDiff, ↓reduceIte, vcu, ↓vcd, h0, h2, h4, h5, l8, co48]) ⟨?_, rfl⟩
     simp -implicitDefEqProofs (disch := omega) only [Nat.reduceEqDiff, ↓reduceIte, vcu, ↓vcd]
     rw [hr]; rfl
    ·have hr : rdP s = (⟨0, 0, []⟩, false) := by unfold rdP readO; rw [if_pos (.inr (by rw [hD]; exact hne))]
     have dn : decide (deedT D = s) = false := decide_eq_false hne
     simp -implicitDefEqProofs (disch := omega) only [Nat.reduceEqDiff, ↓reduceIte, vcu, ↓vcd, opK_some, h0, h2, h4, h5, abin_sneq, dn, Bool.not_false]
     rw [r_build]
     refine ⟨(_, #[.int .i64 0, .int .i64 0, .string (tx [])]), ⟨ze48, by first | kernel_rfl | (simp -implicitDefEqProofs (disch := omega) only [Nat.reduceEqDiff, ↓reduceIte, vcu, ↓vcd]; kernel_rfl)⟩, ?_⟩
     simp -implicitDefEqProofs (disch := omega) only [Nat.reduceEqDiff, ↓reduceIte, vcu, ↓vcd, h2]
     refine r_sets (g := c2) (i := 0) (C := [.int .i64 0, .int .i64 0, .string (tx [])]) (by simp -implicitDefEqProofs (disch := omega) only [Nat.reduceEqDiff, ↓reduceIte, vcu, ↓vcd, h2]) z9co48 z9r z9z q2 z9l fun τ8 k8 e8 => ?_
     replace e8 : τ8 c2 = some ⟨[.int .i64 0, .int .i64 0, .string (tx [])], false⟩ := e8
     have l8 : lds τ8 c2 0 3 = some [.int .i64 0, .int .i64 0, .string (tx [])] := lds_three (ld_of e8 rfl) (ld_of e8 rfl) (ld_of e8 rfl)
     simp -implicitDefEqProofs (disch := omega) only [Nat.reduceEqDiff, ↓reduceIte, vcu, ↓vcd, h2]
     refine fin_ct8 Tryz.results21 σ (k8.sub hs n2) (v := .agg #[.int .i64 0, .int .i64 0, .string (tx [])]) (by simp -implicitDefEqProofs (disch := omega) only [Nat.reduceEqDiff, ↓reduceIte, vcu, ↓vcd, h2, l8, co48]) ⟨?_, rfl⟩
     simp -implicitDefEqProofs (disch := omega) only [Nat.reduceEqDiff, ↓reduceIte, vcu, ↓vcd]
     rw [hr]; rfl
  have lw1 : ld σ' gw 1 = some (.string (tx ((cutT 32 s).getD 1 []))) := by have := textsAt_own qw 1 l1; simpa using this
  have hw1 := cutF_len (c := 32) s [] ((cutT 32 s).getD 1 []) (by simp only [List.getD, l1, List.getElem?_eq_getElem, Option.getD_some]; exact List.getElem_mem l1)
  simp only [List.length_nil] at hw1
  simp -implicitDefEqProofs (disch := omega) only [Nat.reduceEqDiff, ↓reduceIte, vcu, ↓vcd, h0, h2, h4, h5, h6, Int.toNat_one, lw1]
  refine (read_calls σ' ((cutT 32 s).getD 1 []) (by omega)).mono ?_
  rintro _ _ ⟨rfl, rfl⟩
  rename_i σ'
  simp -implicitDefEqProofs (disch := omega) only [Nat.reduceEqDiff, ↓reduceIte, vcu, ↓vcd, opK_some, h0, h2, h4, h5, h6]
  refine r_set (g := c5) (i := 1) (by simp -implicitDefEqProofs (disch := omega) only [Nat.reduceEqDiff, ↓reduceIte, vcu, ↓vcd, h5]) z9r co3 z9r q5 (by show 1 < 3; omega) fun τ6 k6 e6 => ?_
  replace e6 : τ6 c5 = some ⟨[.int .i64 (kdV w), .int .i64 (rdN ((cutT 32 s).getD 1 [])), .string (tx [])], false⟩ := by rw [e6]; simp -implicitDefEqProofs (disch := omega) only [Nat.reduceEqDiff, ↓reduceIte, vcu, ↓vcd]; rfl
  replace hs := k6.sub hs nc5
  replace q2 := k6.at q2 d52
  replace qw := k6.at qw d5w
  clear q5
  by_cases l2 : 2 < (cutT 32 s).length
  case neg =>
   have eD : D = ⟨kdV w, rdN ((cutT 32 s).getD 1 []), []⟩ := by rw [← hD, ddW, hW, if_pos l1, if_neg l2]
   have q5 : τ6 c5 = some ⟨[.int .i64 D.k, .int .i64 D.l, .string (tx D.t)], false⟩ := by rw [e6, eD]
   clear eD
   simp -implicitDefEqProofs (disch := omega) only [Nat.reduceEqDiff, ↓reduceIte, vcu, ↓vcd, h0, h2, h4, h5, h6]
   have l5 : lds _ c5 0 3 = some [.int .i64 D.k, .int .i64 D.l, .string (tx D.t)] := lds_three (ld_of q5 rfl) (ld_of q5 rfl) (ld_of q5 rfl)
   have aq : abin Tryz.prog 9 .eql (.string (tx s)) (.string { data := #[] }) = some (.bool (decide (s = []))) := abin_seql (ys := [])
   by_cases hs0 : s = []
   ·have hr : rdP s = (⟨0, 0, []⟩, false) := by unfold rdP readO; rw [if_pos (.inl hs0)]
    simp -implicitDefEqProofs (disch := omega) only [Nat.reduceEqDiff, ↓reduceIte, vcu, ↓vcd, h0, h2, h4, h5, aq, decide_eq_true hs0]
    rw [r_build]
    refine ⟨(_, #[.int .i64 0, .int .i64 0, .string (tx [])]), ⟨ze48, by first | kernel_rfl | (simp -implicitDefEqProofs (disch := omega) only [Nat.reduceEqDiff, ↓reduceIte, vcu, ↓vcd]; kernel_rfl)⟩, ?_⟩
    simp -implicitDefEqProofs (disch := omega) only [Nat.reduceEqDiff, ↓reduceIte, vcu, ↓vcd, h2]
    refine r_sets (g := c2) (i := 0) (C := [.int .i64 0, .int .i64 0, .string (tx [])]) (by simp -implicitDefEqProofs (disch := omega) only [Nat.reduceEqDiff, ↓reduceIte, vcu, ↓vcd, h2]) z9co48 z9r z9z q2 z9l fun τ8 k8 e8 => ?_
    replace e8 : τ8 c2 = some ⟨[.int .i64 0, .int .i64 0, .string (tx [])], false⟩ := e8
    have l8 : lds τ8 c2 0 3 = some [.int .i64 0, .int .i64 0, .string (tx [])] := lds_three (ld_of e8 rfl) (ld_of e8 rfl) (ld_of e8 rfl)
    simp -implicitDefEqProofs (disch := omega) only [Nat.reduceEqDiff, ↓reduceIte, vcu, ↓vcd, h2]
    refine fin_ct8 Tryz.results21 σ (k8.sub hs n2) (v := .agg #[.int .i64 0, .int .i64 0, .string (tx [])]) (by simp -implicitDefEqProofs (disch := omega) only [Nat.reduceEqDiff, ↓reduceIte, vcu, ↓vcd, h2, l8, co48]) ⟨?_, rfl⟩
    simp -implicitDefEqProofs (disch := omega) only [Nat.reduceEqDiff, ↓reduceIte, vcu, ↓vcd]
    rw [hr]; rfl
   ·simp -implicitDefEqProofs (disch := omega) only [Nat.reduceEqDiff, ↓reduceIte, vcu, ↓vcd, h0, h2, h4, h5, aq, decide_eq_false hs0, l5, co48]
    refine (deedText_calls _ D hDt).mono ?_
    rintro _ _ ⟨rfl, rfl⟩
    by_cases hne : deedT D = s
    ·have hr : rdP s = (D, true) := by unfold rdP readO; rw [if_neg (by rw [hD]; exact fun h => h.elim hs0 fun h => h hne), hD]
     have dn : decide (deedT D = s) = true := decide_eq_true hne
     simp -implicitDefEqProofs (disch := omega) only [Nat.reduceEqDiff, ↓reduceIte, vcu, ↓vcd, opK_some, h0, h2, h4, h5, abin_sneq, dn, Bool.not_true, l5, co48]
     refine r_sets (g := c2) (i := 0) (C := [.int .i64 0, .int .i64 0, .string (tx [])]) (by simp -implicitDefEqProofs (disch := omega) only [Nat.reduceEqDiff, ↓reduceIte, vcu, ↓vcd, h0, h2, h4, h5]) z9co48 z9r z9z q2 z9l fun τ8 k8 e8 => ?_
     replace e8 : τ8 c2 = some ⟨[.int .i64 D.k, .int .i64 D.l, .string (tx D.t)], false⟩ := e8
     have l8 : lds τ8 c2 0 3 = some [.int .i64 D.k, .int .i64 D.l, .string (tx D.t)] := lds_three (ld_of e8 rfl) (ld_of e8 rfl) (ld_of e8 rfl)
     simp -implicitDefEqProofs (disch := omega) only [Nat.reduceEqDiff, ↓reduceIte, vcu, ↓vcd, h0, h2, h4, h5]
     refine fin_ct8 Tryz.results21 σ (k8.sub hs n2) (v := .agg #[.int .i64 D.k, .int .i64 D.l, .string (tx D.t)]) (by simp -implicitDefEqProofs (disch := omega) only [Nat.reduceEqDiff, ↓reduceIte, vcu, ↓vcd, h0, h2, h4, h5, l8, co48]) ⟨?_, rfl⟩
     simp -implicitDefEqProofs (disch := omega) only [Nat.reduceEqDiff, ↓reduceIte, vcu, ↓vcd]
     rw [hr]; rfl
    ·have hr : rdP s = (⟨0, 0, []⟩, false) := by unfold rdP readO; rw [if_pos (.inr (by rw [hD]; exact hne))]
     have dn : decide (deedT D = s) = false := decide_eq_false hne
     simp -implicitDefEqProofs (disch := omega) only [Nat.reduceEqDiff, ↓reduceIte, vcu, ↓vcd, opK_some, h0, h2, h4, h5, abin_sneq, dn, Bool.not_false]
     rw [r_build]
     refine ⟨(_, #[.int .i64 0, .int .i64 0, .string (tx [])]), ⟨ze48, by first | kernel_rfl | (simp -implicitDefEqProofs (disch := omega) only [Nat.reduceEqDiff, ↓reduceIte, vcu, ↓vcd]; kernel_rfl)⟩, ?_⟩
     simp -implicitDefEqProofs (disch := omega) only [Nat.reduceEqDiff, ↓reduceIte, vcu, ↓vcd, h2]
     refine r_sets (g := c2) (i := 0) (C := [.int .i64 0, .int .i64 0, .string (tx [])]) (by simp -implicitDefEqProofs (disch := omega) only [Nat.reduceEqDiff, ↓reduceIte, vcu, ↓vcd, h2]) z9co48 z9r z9z q2 z9l fun τ8 k8 e8 => ?_
     replace e8 : τ8 c2 = some ⟨[.int .i64 0, .int .i64 0, .string (tx [])], false⟩ := e8
     have l8 : lds τ8 c2 0 3 = some [.int .i64 0, .int .i64 0, .string (tx [])] := lds_three (ld_of e8 rfl) (ld_of e8 rfl) (ld_of e8 rfl)
     simp -implicitDefEqProofs (disch := omega) only [Nat.reduceEqDiff, ↓reduceIte, vcu, ↓vcd, h2]
     refine fin_ct8 Tryz.results21 σ (k8.sub hs n2) (v := .agg #[.int .i64 0, .int .i64 0, .string (tx [])]) (by simp -implicitDefEqProofs (disch := omega) only [Nat.reduceEqDiff, ↓reduceIte, vcu, ↓vcd, h2, l8, co48]) ⟨?_, rfl⟩
     simp -implicitDefEqProofs (disch := omega) only [Nat.reduceEqDiff, ↓reduceIte, vcu, ↓vcd]
     rw [hr]; rfl
  have lw2 : ld τ6 gw 2 = some (.string (tx ((cutT 32 s).getD 2 []))) := by have := textsAt_own qw 2 l2; simpa using this
  have i2 : Int.toNat 2 = 2 := rfl
  simp -implicitDefEqProofs (disch := omega) only [Nat.reduceEqDiff, ↓reduceIte, vcu, ↓vcd, h0, h2, h4, h5, h6, i2, lw2]
  refine r_set (g := c5) (i := 2) (by simp -implicitDefEqProofs (disch := omega) only [Nat.reduceEqDiff, ↓reduceIte, vcu, ↓vcd, h5]) z9r co9 z9r e6 (by show 2 < 3; omega) fun τ7 k7 e7 => ?_
  have eD : D = ⟨kdV w, rdN ((cutT 32 s).getD 1 []), (cutT 32 s).getD 2 []⟩ := by rw [← hD, ddW, hW, if_pos l1, if_pos l2]
  have q5 : τ7 c5 = some ⟨[.int .i64 D.k, .int .i64 D.l, .string (tx D.t)], false⟩ := by rw [e7, eD]; simp -implicitDefEqProofs (disch := omega) only [Nat.reduceEqDiff, ↓reduceIte, vcu, ↓vcd]; rfl
  replace hs := k7.sub hs nc5
  replace q2 := k7.at q2 d52
  clear eD
  simp -implicitDefEqProofs (disch := omega) only [Nat.reduceEqDiff, ↓reduceIte, vcu, ↓vcd, h0, h2, h4, h5, h6]
  have l5 : lds _ c5 0 3 = some [.int .i64 D.k, .int .i64 D.l, .string (tx D.t)] := lds_three (ld_of q5 rfl) (ld_of q5 rfl) (ld_of q5 rfl)
  have aq : abin Tryz.prog 9 .eql (.string (tx s)) (.string { data := #[] }) = some (.bool (decide (s = []))) := abin_seql (ys := [])
  by_cases hs0 : s = []
  ·have hr : rdP s = (⟨0, 0, []⟩, false) := by unfold rdP readO; rw [if_pos (.inl hs0)]
   simp -implicitDefEqProofs (disch := omega) only [Nat.reduceEqDiff, ↓reduceIte, vcu, ↓vcd, h0, h2, h4, h5, aq, decide_eq_true hs0]
   rw [r_build]
   refine ⟨(_, #[.int .i64 0, .int .i64 0, .string (tx [])]), ⟨ze48, by first | kernel_rfl | (simp -implicitDefEqProofs (disch := omega) only [Nat.reduceEqDiff, ↓reduceIte, vcu, ↓vcd]; kernel_rfl)⟩, ?_⟩
   simp -implicitDefEqProofs (disch := omega) only [Nat.reduceEqDiff, ↓reduceIte, vcu, ↓vcd, h2]
   refine r_sets (g := c2) (i := 0) (C := [.int .i64 0, .int .i64 0, .string (tx [])]) (by simp -implicitDefEqProofs (disch := omega) only [Nat.reduceEqDiff, ↓reduceIte, vcu, ↓vcd, h2]) z9co48 z9r z9z q2 z9l fun τ8 k8 e8 => ?_
   replace e8 : τ8 c2 = some ⟨[.int .i64 0, .int .i64 0, .string (tx [])], false⟩ := e8
   have l8 : lds τ8 c2 0 3 = some [.int .i64 0, .int .i64 0, .string (tx [])] := lds_three (ld_of e8 rfl) (ld_of e8 rfl) (ld_of e8 rfl)
   simp -implicitDefEqProofs (disch := omega) only [Nat.reduceEqDiff, ↓reduceIte, vcu, ↓vcd, h2]
   refine fin_ct8 Tryz.results21 σ (k8.sub hs n2) (v := .agg #[.int .i64 0, .int .i64 0, .string (tx [])]) (by simp -implicitDefEqProofs (disch := omega) only [Nat.reduceEqDiff, ↓reduceIte, vcu, ↓vcd, h2, l8, co48]) ⟨?_, rfl⟩
   simp -implicitDefEqProofs (disch := omega) only [Nat.reduceEqDiff, ↓reduceIte, vcu, ↓vcd]
   rw [hr]; rfl
  ·simp -implicitDefEqProofs (disch := omega) only [Nat.reduceEqDiff, ↓reduceIte, vcu, ↓vcd, h0, h2, h4, h5, aq, decide_eq_false hs0, l5, co48]
   refine (deedText_calls _ D hDt).mono ?_
   rintro _ _ ⟨rfl, rfl⟩
   by_cases hne : deedT D = s
   ·have hr : rdP s = (D, true) := by unfold rdP readO; rw [if_neg (by rw [hD]; exact fun h => h.elim hs0 fun h => h hne), hD]
    have dn : decide (deedT D = s) = true := decide_eq_true hne
    simp -implicitDefEqProofs (disch := omega) only [Nat.reduceEqDiff, ↓reduceIte, vcu, ↓vcd, opK_some, h0, h2, h4, h5, abin_sneq, dn, Bool.not_true, l5, co48]
    refine r_sets (g := c2) (i := 0) (C := [.int .i64 0, .int .i64 0, .string (tx [])]) (by simp -implicitDefEqProofs (disch := omega) only [Nat.reduceEqDiff, ↓reduceIte, vcu, ↓vcd, h0, h2, h4, h5]) z9co48 z9r z9z q2 z9l fun τ8 k8 e8 => ?_
    replace e8 : τ8 c2 = some ⟨[.int .i64 D.k, .int .i64 D.l, .string (tx D.t)], false⟩ := e8
    have l8 : lds τ8 c2 0 3 = some [.int .i64 D.k, .int .i64 D.l, .string (tx D.t)] := lds_three (ld_of e8 rfl) (ld_of e8 rfl) (ld_of e8 rfl)
    simp -implicitDefEqProofs (disch := omega) only [Nat.reduceEqDiff, ↓reduceIte, vcu, ↓vcd, h0, h2, h4, h5]
    refine fin_ct8 Tryz.results21 σ (k8.sub hs n2) (v := .agg #[.int .i64 D.k, .int .i64 D.l, .string (tx D.t)]) (by simp -implicitDefEqProofs (disch := omega) only [Nat.reduceEqDiff, ↓reduceIte, vcu, ↓vcd, h0, h2, h4, h5, l8, co48]) ⟨?_, rfl⟩
    simp -implicitDefEqProofs (disch := omega) only [Nat.reduceEqDiff, ↓reduceIte, vcu, ↓vcd]
    rw [hr]; rfl
   ·have hr : rdP s = (⟨0, 0, []⟩, false) := by unfold rdP readO; rw [if_pos (.inr (by rw [hD]; exact hne))]
    have dn : decide (deedT D = s) = false := decide_eq_false hne
    simp -implicitDefEqProofs (disch := omega) only [Nat.reduceEqDiff, ↓reduceIte, vcu, ↓vcd, opK_some, h0, h2, h4, h5, abin_sneq, dn, Bool.not_false]
    rw [r_build]
    refine ⟨(_, #[.int .i64 0, .int .i64 0, .string (tx [])]), ⟨ze48, by first | kernel_rfl | (simp -implicitDefEqProofs (disch := omega) only [Nat.reduceEqDiff, ↓reduceIte, vcu, ↓vcd]; kernel_rfl)⟩, ?_⟩
    simp -implicitDefEqProofs (disch := omega) only [Nat.reduceEqDiff, ↓reduceIte, vcu, ↓vcd, h2]
    refine r_sets (g := c2) (i := 0) (C := [.int .i64 0, .int .i64 0, .string (tx [])]) (by simp -implicitDefEqProofs (disch := omega) only [Nat.reduceEqDiff, ↓reduceIte, vcu, ↓vcd, h2]) z9co48 z9r z9z q2 z9l fun τ8 k8 e8 => ?_
    replace e8 : τ8 c2 = some ⟨[.int .i64 0, .int .i64 0, .string (tx [])], false⟩ := e8
    have l8 : lds τ8 c2 0 3 = some [.int .i64 0, .int .i64 0, .string (tx [])] := lds_three (ld_of e8 rfl) (ld_of e8 rfl) (ld_of e8 rfl)
    simp -implicitDefEqProofs (disch := omega) only [Nat.reduceEqDiff, ↓reduceIte, vcu, ↓vcd, h2]
    refine fin_ct8 Tryz.results21 σ (k8.sub hs n2) (v := .agg #[.int .i64 0, .int .i64 0, .string (tx [])]) (by simp -implicitDefEqProofs (disch := omega) only [Nat.reduceEqDiff, ↓reduceIte, vcu, ↓vcd, h2, l8, co48]) ⟨?_, rfl⟩
    simp -implicitDefEqProofs (disch := omega) only [Nat.reduceEqDiff, ↓reduceIte, vcu, ↓vcd]
    rw [hr]; rfl
end Go.Proofs.YtafkndnmhhjdhaaGreatDoor
namespace Go.Proofs.YtafkndnmhhjdhaaGreatDoor
open Go Go.Abs Go.RowKit
variable {w0 : World}
theorem toTexts_at (σ : AHeap) (h o : Nat) (xs : List (List UInt8)) (hv : TextsAt σ h o xs) (hl : xs.length ≤ 1048576) :
  ACall Tryz.prog w0 14 [.slice (some ⟨h, o, none⟩) xs.length 1] σ fun r σ' => ∃ g, σ g = none ∧ r = .slice (some ⟨g, 0, none⟩) xs.length 1 ∧ Sub σ σ' ∧ σ' g = some ⟨texts xs, false⟩ := by
 refine acall_go mixed Tryz.func14 rfl good14 fun pr => ?_
 simp -implicitDefEqProofs (disch := omega) only [Nat.reduceEqDiff, ↓reduceIte, vcu, ↓vcd]
 refine r_makeX (kx := .i64) (ky := .i64) (l := xs.length) (c := xs.length) el24 (by omega) z9q z9q (by omega) fun g τ hg hs he => ?_
 simp -implicitDefEqProofs (disch := omega) only [Nat.reduceEqDiff, ↓reduceIte, vcu, ↓vcd]
 refine vc_loop_c mixed (by kernel_rfl) [0, 3] (fun m a σ' => ∃ k : Nat, m + k = xs.length ∧ a 4 = .int .i64 k ∧ Kept g τ σ' ∧ σ' g = some ⟨texts (xs.take k ++ List.replicate (xs.length - k) []), false⟩) xs.length ⟨0, by simp, rfl, Kept.refl _ _, by simpa using he⟩ ?_
 rintro m a σ' hc ⟨k, hk, h4, hkp, hgk⟩
 simp -implicitDefEqProofs (disch := omega) only [Nat.reduceEqDiff, ↓reduceIte, vcu, ↓vcd] at hc
 obtain ⟨h0, h3, -⟩ := hc
 have hsub := hkp.sub hs hg
 by_cases hlt : k < xs.length
 ·have hx := hv.sub hsub k hlt
  simp -implicitDefEqProofs (disch := omega) only [Nat.reduceEqDiff, ↓reduceIte, vcu, ↓vcd, h0, h3, h4, hx]
  refine r_setX (g := g) (i := 0 + k) (v := xs.getD k []) (by simp -implicitDefEqProofs (disch := omega) only [Nat.reduceEqDiff, ↓reduceIte, vcu, ↓vcd, h3]) z9q co9 hgk (by simp; omega) fun τ2 k2 e2 => ?_
  rw [Nat.zero_add, set_at xs [] hlt rfl] at e2
  simp -implicitDefEqProofs (disch := omega) only [Nat.reduceEqDiff, ↓reduceIte, vcu, ↓vcd, h0, h3, h4]
  exact ⟨⟨trivial, trivial, trivial⟩, m - 1, by omega, k + 1, by omega, by simp, hkp.trans k2, e2⟩
 ·simp -implicitDefEqProofs (disch := omega) only [Nat.reduceEqDiff, ↓reduceIte, vcu, ↓vcd, h0, h3, h4]
  have e2 : k = xs.length := by omega
  subst e2
  refine fin_one Tryz.results14 ⟨g, hg, ?_, hsub, by simpa using hgk⟩
  simp -implicitDefEqProofs (disch := omega) only [Nat.reduceEqDiff, ↓reduceIte, vcu, ↓vcd, h3]
theorem eqTexts_at (σ : AHeap) (h o g p : Nat) (xs ys : List (List UInt8)) (hv : TextsAt σ h o xs) (hu : TextsAt σ g p ys) (hl : xs.length ≤ 1048576) (hl2 : ys.length ≤ 1048576) :
  ACall Tryz.prog w0 16 [.slice (some ⟨h, o, none⟩) xs.length 1, .slice (some ⟨g, p, none⟩) ys.length 1] σ fun r σ' => r = .bool (decide (xs = ys)) ∧ σ' = σ := by
 refine acall_go mixed Tryz.func16 rfl good16 fun pr => ?_
 by_cases hlen : xs.length = ys.length
 ·simp -implicitDefEqProofs (disch := omega) only [Nat.reduceEqDiff, ↓reduceIte, vcu, ↓vcd]
  refine vc_loop_c mixed (by kernel_rfl) [0, 1] (fun m a σ' => ∃ k : Nat, m + k = xs.length ∧ a 5 = .int .i64 k ∧ σ' = σ ∧ ∀ j, j < k → xs.getD j [] = ys.getD j []) xs.length ⟨0, by simp, rfl, rfl, by simp⟩ ?_
  rintro m a σ' hc ⟨k, hk, h5, rfl, he⟩
  simp -implicitDefEqProofs (disch := omega) only [Nat.reduceEqDiff, ↓reduceIte, vcu, ↓vcd] at hc
  obtain ⟨h0, h1, -⟩ := hc
  by_cases hlt : k < xs.length
  ·have hx := hv k hlt
   have hy := hu k (by omega)
   by_cases hxy : xs.getD k [] = ys.getD k []
   ·rw [hxy] at hx
    simp -implicitDefEqProofs (disch := omega) only [Nat.reduceEqDiff, ↓reduceIte, vcu, ↓vcd, h0, h1, h5, hx, hy, eq_self, decide_true, Bool.not_true]
    refine ⟨⟨trivial, trivial, trivial⟩, m - 1, by omega, k + 1, by omega, by simp, trivial, fun j hj => ?_⟩
    by_cases e : j = k
    ·subst e; exact hxy
    ·exact he j (by omega)
   ·have hnb : decide (xs.getD k [] = ys.getD k []) = false := decide_eq_false hxy
    simp -implicitDefEqProofs (disch := omega) only [Nat.reduceEqDiff, ↓reduceIte, vcu, ↓vcd, h0, h1, h5, hx, hy, hnb, Bool.not_false]
    refine fin_one Tryz.results16 ⟨?_, rfl⟩
    simp -implicitDefEqProofs (disch := omega) only [Nat.reduceEqDiff, ↓reduceIte, vcu, ↓vcd]
    have : xs ≠ ys := fun e => hxy (by rw [e])
    simp [this]
  ·simp -implicitDefEqProofs (disch := omega) only [Nat.reduceEqDiff, ↓reduceIte, vcu, ↓vcd, h0, h1, h5]
   refine fin_one Tryz.results16 ⟨?_, rfl⟩
   simp -implicitDefEqProofs (disch := omega) only [Nat.reduceEqDiff, ↓reduceIte, vcu, ↓vcd]
   have : xs = ys := by
    apply List.ext_getElem hlen
    intro i h1 h2
    have := he i (by omega)
    simpa [List.getD, h1, h2] using this
   simp [this]
 ·simp -implicitDefEqProofs (disch := omega) only [Nat.reduceEqDiff, ↓reduceIte, vcu, ↓vcd]
  refine fin_one Tryz.results16 ⟨?_, rfl⟩
  simp -implicitDefEqProofs (disch := omega) only [Nat.reduceEqDiff, ↓reduceIte, vcu, ↓vcd]
  have : xs ≠ ys := fun e => hlen (by rw [e])
  simp [this]
theorem eqTexts_calls (σ : AHeap) (v u : Value) (xs ys : List (List UInt8)) (hv : Texts σ v xs) (hu : Texts σ u ys) (hl : xs.length ≤ 1048576) (hl2 : ys.length ≤ 1048576) :
  ACall Tryz.prog w0 16 [v, u] σ fun r σ' => r = .bool (decide (xs = ys)) ∧ σ' = σ :=
 ACall.texts_quiet (pre := []) (post := [u]) (by kernel_rfl) hv fun σ1 h o hs hg =>
  ACall.texts_quiet (pre := [_]) (post := []) (by kernel_rfl) (hu.sub hs) fun σ2 g p hs2 hg2 => eqTexts_at σ2 h o g p xs ys (hg.sub hs2) hg2 hl hl2
theorem toTexts_calls (σ : AHeap) (v : Value) (xs : List (List UInt8)) (hv : Texts σ v xs) (hl : xs.length ≤ 1048576) :
  ACall Tryz.prog w0 14 [v] σ fun r σ' => ∃ g, σ g = none ∧ r = .slice (some ⟨g, 0, none⟩) xs.length 1 ∧ Sub σ σ' ∧ σ' g = some ⟨texts xs, false⟩ := by
 refine ACall.texts_arg (pre := []) (post := []) (by kernel_rfl) hv fun σ1 g1 o1 hs1 hg1 => ?_
 refine (toTexts_at σ1 g1 o1 xs hg1 hl).mono ?_
 rintro r τ1 ⟨q, a1, a2, a3, a4⟩
 exact ⟨q, free_sub hs1 a1, a2, hs1.trans a3, a4⟩
/-- the text of a number -/
def decT (w : Nat) : List UInt8 := if h : w = 0 then [] else decT (w / 10) ++ [UInt8.ofNat (48 + w % 10)]
theorem decT_zero : decT 0 = [] := by rw [decT]; simp
theorem decT_succ {w : Nat} (h : w ≠ 0) : decT w = decT (w / 10) ++ [UInt8.ofNat (48 + w % 10)] := by rw [decT, dif_neg h]
theorem decT_len (w : Nat) : (decT w).length ≤ w := by
 induction w using Nat.strongRecOn with
 | ind w ih =>
  by_cases h : w = 0
  ·subst h; rw [decT_zero]; simp
  ·rw [decT_succ h]
   have := ih (w / 10) (by omega)
   rw [List.length_append, List.length_singleton]; omega
def mkT (k : Int) : List UInt8 := if k ≤ 0 then [109, 48] else 109 :: decT k.toNat
theorem markText_calls (σ : AHeap) (k : Int) (hk : k ≤ 2147483648) : ACall Tryz.prog w0 42 [.int .i64 k] σ fun r σ' => r = .string (tx (mkT k)) ∧ σ' = σ := by
 refine acall_go mixed Tryz.func42 rfl good42 fun pr => ?_
 by_cases h0 : k ≤ 0
 ·simp -implicitDefEqProofs (disch := omega) only [Nat.reduceEqDiff, ↓reduceIte, vcu, ↓vcd]
  refine fin_one Tryz.results42 ⟨?_, rfl⟩
  simp -implicitDefEqProofs (disch := omega) only [Nat.reduceEqDiff, ↓reduceIte, vcu, ↓vcd]
  rw [mkT, if_pos h0]; rfl
 ·simp -implicitDefEqProofs (disch := omega) only [Nat.reduceEqDiff, ↓reduceIte, vcu, ↓vcd]
  refine vc_loop_c mixed (by kernel_rfl) [] (fun m a σ' => ∃ xs : List UInt8, a 0 = .int .i64 m ∧ m ≤ 2147483648 ∧ a 3 = .string (tx xs) ∧ decT m ++ xs = decT k.toNat ∧ Sub σ σ') k.toNat ⟨[], by rw [show ((k.toNat : Nat) : Int) = k by omega]; rfl, by omega, rfl, by simp, Sub.refl _⟩ ?_
  rintro m a σ' hc ⟨xs, h0', hm, h3, he, hs⟩
  clear hc
  have hlen := decT_len k.toNat
  rw [← he, List.length_append] at hlen
  by_cases hlt : 0 < m
  ·simp -implicitDefEqProofs (disch := omega) only [Nat.reduceEqDiff, ↓reduceIte, vcu, ↓vcd, h0', h3, conv_to_u8]
   refine r_lit el82 (out := #[.int .u8 (48 + (m % 10 : Nat))]) (by first | kernel_rfl | (simp -implicitDefEqProofs (disch := omega) only [Nat.reduceEqDiff, ↓reduceIte, vcu, ↓vcd]; kernel_rfl)) (by rfl) fun g τ n1 s1 v1 => ?_
   have l1 : lds τ g 0 1 = some ([((48 + (m % 10 : Nat) : Nat) : Int)].map (.int .u8)) := by
    rw [lds_of v1 (by simp)]; simp
   have hcv := aconvH_bytes (z := 1) Tryz.underlying82 Tryz.underlying5 Tryz.underlying9 l1
   have ha := abin_sadd (P := Tryz.prog) (t := 9) (xs := [UInt8.ofNat (48 + m % 10)]) (ys := xs) (by rw [List.length_singleton]; omega)
   simp -implicitDefEqProofs (disch := omega) only [Nat.reduceEqDiff, ↓reduceIte, vcu, ↓vcd, h0', h3, hcv, ha]
   refine ⟨trivial, m / 10, by omega, _, by simp, by omega, rfl, ?_, hs.trans s1⟩
   rw [← he, decT_succ (w := m) (by omega)]
   simp
  ·have e : m = 0 := by omega
   subst e
   rw [decT_zero, List.nil_append] at he
   have ha := abin_sadd (P := Tryz.prog) (t := 9) (xs := [109]) (ys := xs) (by rw [List.length_singleton]; omega)
   have hlit : (ByteArray.mk #[109]) = tx [109] := rfl
   simp -implicitDefEqProofs (disch := omega) only [Nat.reduceEqDiff, ↓reduceIte, vcu, ↓vcd, h0', h3, hlit, ha]
   refine fin_drop Tryz.results42 σ hs ⟨?_, rfl⟩
   simp -implicitDefEqProofs (disch := omega) only [Nat.reduceEqDiff, ↓reduceIte, vcu, ↓vcd]
   rw [mkT, if_neg h0, ← he]; rfl
def markX (k : Int) (n : Nat) : List (List UInt8) := (List.range n).map fun (i : Nat) => mkT (k + i)
theorem markX_length (k : Int) (n : Nat) : (markX k n).length = n := by simp [markX]
theorem markX_getD {k : Int} {n i : Nat} (h : i < n) : (markX k n).getD i [] = mkT (k + i) := by simp [markX, List.getD, h]
theorem markX_succ (k : Int) (n : Nat) : markX k (n + 1) = markX k n ++ [mkT (k + n)] := by simp [markX, List.range_succ]
theorem set_markX {k : Int} {ys : List (List UInt8)} {i : Nat} (h : i < ys.length) : (markX k i ++ ys.drop i).set i (mkT (k + i)) = markX k (i + 1) ++ ys.drop (i + 1) := by
 rw [List.set_append_right _ _ (by rw [markX_length]; omega), markX_length, Nat.sub_self, markX_succ, List.append_assoc]
 congr 1
 rw [List.drop_eq_getElem_cons h]; rfl
theorem markS_own (σ : AHeap) (g : Nat) (ys : List (List UInt8)) (k : Int) (hg : σ g = some ⟨texts ys, false⟩) (hl : ys.length ≤ 1048576) (hk : 0 ≤ k ∧ k ≤ 1073741824) :
  ACall Tryz.prog w0 17 [.slice (some ⟨g, 0, none⟩) ys.length 1, .int .i64 k] σ fun r σ' => r = .int .i64 (k + ys.length) ∧ Kept g σ σ' ∧ σ' g = some ⟨texts (markX k ys.length), false⟩ := by
 refine acall_go mixed Tryz.func17 rfl good17 fun pr => ?_
 simp -implicitDefEqProofs (disch := omega) only [Nat.reduceEqDiff, ↓reduceIte, vcu, ↓vcd]
 refine vc_loop_c mixed (by kernel_rfl) [0] (fun m a σ' => ∃ i : Nat, m + i = ys.length ∧ a 1 = .int .i64 (k + i) ∧ a 5 = .int .i64 i ∧ Kept g σ σ' ∧ σ' g = some ⟨texts (markX k i ++ ys.drop i), false⟩) ys.length ⟨0, by simp, by simp [fset, aenter], rfl, Kept.refl _ _, by simpa [markX] using hg⟩ ?_
 rintro m a σ' hc ⟨i, hi, h1, h5, hkp, hgk⟩
 simp -implicitDefEqProofs (disch := omega) only [Nat.reduceEqDiff, ↓reduceIte, vcu, ↓vcd] at hc
 obtain ⟨h0, -⟩ := hc
 by_cases hlt : i < ys.length
 ·have hll : (markX k i ++ ys.drop i).length = ys.length := by simp [markX_length]; omega
  simp -implicitDefEqProofs (disch := omega) only [Nat.reduceEqDiff, ↓reduceIte, vcu, ↓vcd, h0, h1, h5]
  refine (markText_calls _ (k + i) (by omega)).mono ?_
  rintro r τ ⟨rfl, rfl⟩
  simp -implicitDefEqProofs (disch := omega) only [Nat.reduceEqDiff, ↓reduceIte, vcu, ↓vcd, opK_some, h0, h1, h5]
  refine r_setX (g := g) (i := 0 + i) (v := mkT (k + i)) (by simp -implicitDefEqProofs (disch := omega) only [Nat.reduceEqDiff, ↓reduceIte, vcu, ↓vcd, h0]) z9q co9 hgk (by omega) fun τ1 k1 e1 => ?_
  rw [Nat.zero_add, set_markX hlt] at e1
  simp -implicitDefEqProofs (disch := omega) only [Nat.reduceEqDiff, ↓reduceIte, vcu, ↓vcd, h0, h1, h5]
  refine ⟨⟨trivial, trivial⟩, m - 1, by omega, i + 1, by omega, ?_, by simp, hkp.trans k1, e1⟩
  congr 1; omega
 ·simp -implicitDefEqProofs (disch := omega) only [Nat.reduceEqDiff, ↓reduceIte, vcu, ↓vcd, h0, h1, h5]
  have e : i = ys.length := by omega
  subst e
  refine fin_one Tryz.results17 ⟨?_, hkp, by simpa using hgk⟩
  simp -implicitDefEqProofs (disch := omega) only [Nat.reduceEqDiff, ↓reduceIte, vcu, ↓vcd, h1]
theorem heldS_at (σ : AHeap) (g o n : Nat) (k : Int) (hv : TextsAt σ g o (markX k n)) (hl : n ≤ 1048576) (hk : 0 ≤ k ∧ k ≤ 1073741824) :
  ACall Tryz.prog w0 18 [.slice (some ⟨g, o, none⟩) n 1, .int .i64 k] σ fun r σ' => r = .int .i64 (k + n) ∧ σ' = σ := by
 refine acall_go mixed Tryz.func18 rfl good18 fun pr => ?_
 simp -implicitDefEqProofs (disch := omega) only [Nat.reduceEqDiff, ↓reduceIte, vcu, ↓vcd]
 refine vc_loop_c mixed (by kernel_rfl) [0] (fun m a σ' => ∃ i : Nat, m + i = n ∧ a 1 = .int .i64 (k + i) ∧ a 5 = .int .i64 i ∧ σ' = σ) n ⟨0, by simp, by simp [fset, aenter], rfl, rfl⟩ ?_
 rintro m a σ' hc ⟨i, hi, h1, h5, rfl⟩
 simp -implicitDefEqProofs (disch := omega) only [Nat.reduceEqDiff, ↓reduceIte, vcu, ↓vcd] at hc
 obtain ⟨h0, -⟩ := hc
 by_cases hlt : i < n
 ·have hx := hv i (by rw [markX_length]; exact hlt)
  rw [markX_getD hlt] at hx
  simp -implicitDefEqProofs (disch := omega) only [Nat.reduceEqDiff, ↓reduceIte, vcu, ↓vcd, h0, h1, h5, hx]
  rw [r_callq]
  refine ⟨_, markText_calls _ (k + i) (by omega), ?_⟩
  simp -implicitDefEqProofs (disch := omega) only [Nat.reduceEqDiff, ↓reduceIte, vcu, ↓vcd, h0, h1, h5, hx, eq_self, decide_true, Bool.not_true]
  refine ⟨⟨trivial, trivial⟩, m - 1, by omega, i + 1, by omega, ?_, by simp, trivial⟩
  congr 1; omega
 ·simp -implicitDefEqProofs (disch := omega) only [Nat.reduceEqDiff, ↓reduceIte, vcu, ↓vcd, h0, h1, h5]
  have e : i = n := by omega
  subst e
  refine fin_one Tryz.results18 ⟨?_, rfl⟩
  simp -implicitDefEqProofs (disch := omega) only [Nat.reduceEqDiff, ↓reduceIte, vcu, ↓vcd, h1]
theorem markS_calls (β σ : AHeap) (v : Value) (xs : List (List UInt8)) (k : Int) (hv : OwnS β σ v xs) (hl : xs.length ≤ 1048576) (hk : 0 ≤ k ∧ k ≤ 1073741824) :
  ACall Tryz.prog w0 17 [v, .int .i64 k] σ fun r σ' => r = .int .i64 (k + xs.length) ∧ OwnS β σ' v (markX k xs.length) ∧ (∀ h ob, β h = some ob → σ h = some ob → σ' h = some ob) := by
 rcases hv with ⟨rfl, rfl⟩ | ⟨g, rfl, hg, hn⟩
 ·refine ACall.nil_arg (pre := []) (z := 1) (by kernel_rfl) fun g hg => ?_
  refine (markS_own _ g [] k (AHeap.upd_same _ _ _) (by simp) hk).mono ?_
  rintro r σ' ⟨rfl, h1, h2⟩
  exact ⟨rfl, .inl ⟨rfl, rfl⟩, fun h ob _ e => h1 h ob (ne_of' hg e) (sub_upd hg h ob e)⟩
 ·refine (markS_own σ g xs k hg hl hk).mono ?_
  rintro r σ' ⟨rfl, h1, h2⟩
  exact ⟨rfl, .inr ⟨g, by rw [markX_length], h2, hn⟩, fun h ob hb e => h1 h ob (ne_of' hn hb) e⟩
theorem heldS_calls (σ : AHeap) (v : Value) (n : Nat) (k : Int) (hv : Texts σ v (markX k n)) (hl : n ≤ 1048576) (hk : 0 ≤ k ∧ k ≤ 1073741824) :
  ACall Tryz.prog w0 18 [v, .int .i64 k] σ fun r σ' => r = .int .i64 (k + n) ∧ σ' = σ :=
 ACall.texts_quiet (pre := []) (by kernel_rfl) hv fun σ1 g o _ hg => by
  rw [markX_length]; exact heldS_at σ1 g o n k hg hl hk
end Go.Proofs.YtafkndnmhhjdhaaGreatDoor
namespace Go.Proofs.YtafkndnmhhjdhaaGreatDoor
open Go Go.Abs Go.RowKit
variable {w0 : World}
/-- a number of a plan -/
def PRow (ps : List (List UInt8)) (k : Nat) : Prop := DgT (ps.getD k []) ∧ (1 ≤ (ps.getD k []).length ∧ (ps.getD k []).length ≤ 3) ∧ ∀ j, j < ps.length → j ≠ k → ¬Beg (ps.getD k []) (ps.getD j [])
def PlanOk (ps : List (List UInt8)) : Prop := (∀ k, k < ps.length → PRow ps k) ∧ ps.length ≤ 10
instance (ps : List (List UInt8)) (k : Nat) : Decidable (PRow ps k) := inferInstanceAs (Decidable (_ ∧ _ ∧ _))
instance (ps : List (List UInt8)) : Decidable (PlanOk ps) := inferInstanceAs (Decidable (_ ∧ _))
theorem planValid_at (σ : AHeap) (h o : Nat) (ps : List (List UInt8)) (hv : TextsAt σ h o ps) (hl : ps.length ≤ 1048576) (hp : ∀ x ∈ ps, x.length ≤ 1048576) :
  ACall Tryz.prog w0 44 [.slice (some ⟨h, o, none⟩) ps.length 1] σ fun r σ' => r = .bool (decide (PlanOk ps)) ∧ σ' = σ := by
 refine acall_go mixed Tryz.func44 rfl good44 fun pr => ?_
 simp -implicitDefEqProofs (disch := omega) only [Nat.reduceEqDiff, ↓reduceIte, vcu, ↓vcd]
 refine vc_loop_c mixed (by kernel_rfl) [0] (fun m a σ' => ∃ k : Nat, m + k = ps.length ∧ a 3 = .int .i64 k ∧ (∀ j, j < k → PRow ps j) ∧ σ' = σ) ps.length ⟨0, by simp, rfl, fun j hj => absurd hj (by omega), rfl⟩ ?_
 rintro m a σ' hc ⟨k, hk, h3, hall, rfl⟩
 simp -implicitDefEqProofs (disch := omega) only [Nat.reduceEqDiff, ↓reduceIte, vcu, ↓vcd] at hc
 obtain ⟨h0, -⟩ := hc
 by_cases hlt : k < ps.length
 ·have hx := hv k hlt
  have hmem : ps.getD k [] ∈ ps := by simp [List.getD, hlt]
  have hb := hp _ hmem
  have stop : ∀ {P : Prop}, (PRow ps k → P) → ¬P → ¬PlanOk ps := fun h1 h2 h3 => h2 (h1 (h3.1 k hlt))
  by_cases hd : DgT (ps.getD k [])
  ·have hd1 : decide (DgT (ps.getD k [])) = true := decide_eq_true hd
   by_cases hr : 1 ≤ (ps.getD k []).length ∧ (ps.getD k []).length ≤ 3
   ·have hr1 : decide ((1 : Int) ≤ ((ps.getD k []).length : Int) ∧ ((ps.getD k []).length : Int) ≤ 3) = true := decide_eq_true (by omega)
    simp -implicitDefEqProofs (disch := omega) only [Nat.reduceEqDiff, ↓reduceIte, vcu, ↓vcd, h0, h3, hx]
    refine (digits_calls _ _ hb).mono ?_
    rintro r τ ⟨rfl, rfl⟩
    simp -implicitDefEqProofs (disch := omega) only [Nat.reduceEqDiff, ↓reduceIte, vcu, ↓vcd, opK_some, h0, h3, hx, hd1]
    refine (in_calls _ _ 1 3).mono ?_
    rintro r τ ⟨rfl, rfl⟩
    simp -implicitDefEqProofs (disch := omega) only [Nat.reduceEqDiff, ↓reduceIte, vcu, ↓vcd, opK_some, h0, h3, hx, hr1]
    refine vc_loop_c mixed (by kernel_rfl) [0, 3] (fun m a σ' => ∃ j : Nat, m + j = ps.length ∧ a 4 = .int .i64 j ∧ (∀ i, i < j → i ≠ k → ¬Beg (ps.getD k []) (ps.getD i [])) ∧ σ' = τ) ps.length ⟨0, by simp, rfl, fun j hj => absurd hj (by omega), rfl⟩ ?_
    rintro m2 a2 σ2 hc2 ⟨j, hj, h4, hin, rfl⟩
    simp -implicitDefEqProofs (disch := omega) only [Nat.reduceEqDiff, ↓reduceIte, vcu, ↓vcd, h0, h3] at hc2
    obtain ⟨g0, g3, -⟩ := hc2
    by_cases hjl : j < ps.length
    ·have hy := hv j hjl
     by_cases hjk : j = k
     ·subst hjk
      simp -implicitDefEqProofs (disch := omega) only [Nat.reduceEqDiff, ↓reduceIte, vcu, ↓vcd, g0, g3, h4, hx, hy]
      exact ⟨⟨h0.symm, h3.symm, trivial⟩, m2 - 1, by omega, j + 1, by omega, by simp, fun i hi hne => hin i (by omega) hne, trivial⟩
     ·have hne : decide ((j : Int) ≠ (k : Int)) = true := decide_eq_true (by omega)
      by_cases hbg : Beg (ps.getD k []) (ps.getD j [])
      ·have hb1 : decide (Beg (ps.getD k []) (ps.getD j [])) = true := decide_eq_true hbg
       simp -implicitDefEqProofs (disch := omega) only [Nat.reduceEqDiff, ↓reduceIte, vcu, ↓vcd, g0, g3, h4, hx, hy, hne]
       rw [r_callq]
       refine ⟨_, begins_calls _ _ _, ?_⟩
       simp -implicitDefEqProofs (disch := omega) only [Nat.reduceEqDiff, ↓reduceIte, vcu, ↓vcd, g0, g3, h4, hx, hy, hne, hb1]
       refine fin_one Tryz.results44 ⟨?_, rfl⟩
       simp -implicitDefEqProofs (disch := omega) only [Nat.reduceEqDiff, ↓reduceIte, vcu, ↓vcd]
       simp [stop (fun h => h.2.2 j hjl hjk) (fun h => h hbg)]
      ·have hb1 : decide (Beg (ps.getD k []) (ps.getD j [])) = false := decide_eq_false hbg
       simp -implicitDefEqProofs (disch := omega) only [Nat.reduceEqDiff, ↓reduceIte, vcu, ↓vcd, g0, g3, h4, hx, hy, hne]
       rw [r_callq]
       refine ⟨_, begins_calls _ _ _, ?_⟩
       simp -implicitDefEqProofs (disch := omega) only [Nat.reduceEqDiff, ↓reduceIte, vcu, ↓vcd, g0, g3, h4, hx, hy, hne, hb1]
       refine ⟨⟨h0.symm, h3.symm, trivial⟩, m2 - 1, by omega, j + 1, by omega, by simp, fun i hi hne' => ?_, trivial⟩
       by_cases e : i = j
       ·subst e; exact hbg
       ·exact hin i (by omega) hne'
    ·simp -implicitDefEqProofs (disch := omega) only [Nat.reduceEqDiff, ↓reduceIte, vcu, ↓vcd, g0, g3, h4]
     refine ⟨⟨trivial, trivial⟩, m - 1, by omega, k + 1, by omega, by simp, fun i hi => ?_, trivial⟩
     by_cases e : i = k
     ·subst e; exact ⟨hd, hr, fun i' h1 h2 => hin i' (by omega) h2⟩
     ·exact hall i (by omega)
   ·have hr1 : decide ((1 : Int) ≤ ((ps.getD k []).length : Int) ∧ ((ps.getD k []).length : Int) ≤ 3) = false := decide_eq_false (by omega)
    simp -implicitDefEqProofs (disch := omega) only [Nat.reduceEqDiff, ↓reduceIte, vcu, ↓vcd, h0, h3, hx]
    refine (digits_calls _ _ hb).mono ?_
    rintro r τ ⟨rfl, rfl⟩
    simp -implicitDefEqProofs (disch := omega) only [Nat.reduceEqDiff, ↓reduceIte, vcu, ↓vcd, opK_some, h0, h3, hx, hd1]
    refine (in_calls _ _ 1 3).mono ?_
    rintro r τ ⟨rfl, rfl⟩
    simp -implicitDefEqProofs (disch := omega) only [Nat.reduceEqDiff, ↓reduceIte, vcu, ↓vcd, opK_some, h0, h3, hx, hr1]
    refine fin_one Tryz.results44 ⟨?_, rfl⟩
    simp -implicitDefEqProofs (disch := omega) only [Nat.reduceEqDiff, ↓reduceIte, vcu, ↓vcd]
    simp [stop (fun h => h.2.1) hr]
  ·have hd1 : decide (DgT (ps.getD k [])) = false := decide_eq_false hd
   simp -implicitDefEqProofs (disch := omega) only [Nat.reduceEqDiff, ↓reduceIte, vcu, ↓vcd, h0, h3, hx]
   refine (digits_calls _ _ hb).mono ?_
   rintro r τ ⟨rfl, rfl⟩
   simp -implicitDefEqProofs (disch := omega) only [Nat.reduceEqDiff, ↓reduceIte, vcu, ↓vcd, opK_some, h0, h3, hx, hd1]
   refine fin_one Tryz.results44 ⟨?_, rfl⟩
   simp -implicitDefEqProofs (disch := omega) only [Nat.reduceEqDiff, ↓reduceIte, vcu, ↓vcd]
   simp [stop (fun h => h.1) hd]
 ·simp -implicitDefEqProofs (disch := omega) only [Nat.reduceEqDiff, ↓reduceIte, vcu, ↓vcd, h0, h3]
  refine fin_one Tryz.results44 ⟨?_, rfl⟩
  simp -implicitDefEqProofs (disch := omega) only [Nat.reduceEqDiff, ↓reduceIte, vcu, ↓vcd]
  congr 1
  rw [decide_eq_decide]
  exact ⟨fun h => ⟨fun j hj => hall j (by omega), by omega⟩, fun h => by have := h.2; omega⟩
end Go.Proofs.YtafkndnmhhjdhaaGreatDoor
namespace Go.Proofs.YtafkndnmhhjdhaaGreatDoor
open Go Go.Abs Go.RowKit
variable {w0 : World}
theorem own_textsI {σ : AHeap} {g : Nat} {xs : List (List UInt8)} (h : σ g = some ⟨texts xs, false⟩) : Texts σ (.slice (some ⟨g, 0, none⟩) xs.length 1) xs := .inr ⟨g, 0, rfl, textsAt_own h⟩
theorem planValid_calls (σ : AHeap) (v : Value) (ps : List (List UInt8)) (hv : Texts σ v ps) (hl : ps.length ≤ 1048576) (hp : ∀ x ∈ ps, x.length ≤ 1048576) : ACall Tryz.prog w0 44 [v] σ fun r σ' => r = .bool (decide (PlanOk ps)) ∧ σ' = σ :=
 ACall.texts_quiet (pre := []) (post := []) (by kernel_rfl) hv fun σ1 h o _ hg => planValid_at σ1 h o ps hg hl hp
end Go.Proofs.YtafkndnmhhjdhaaGreatDoor
namespace Go.Proofs.YtafkndnmhhjdhaaGreatDoor
open Go Go.Abs Go.RowKit
variable {w0 : World}
/-- the first from k on of which it holds -/
def fstN (p : Nat → Bool) : Nat → Nat → Option Nat
 | _, 0 => none
 | k, m + 1 => if p k = true then some k else fstN p (k + 1) m
theorem fstN_some {p : Nat → Bool} : ∀ {m k i : Nat}, fstN p k m = some i → k ≤ i ∧ i < k + m ∧ p i = true
 | 0, _, _, h => by cases h
 | m + 1, k, i, h => by
  unfold fstN at h
  split at h
  ·rename_i hp; cases h; exact ⟨Nat.le_refl _, by omega, hp⟩
  ·have := fstN_some h; exact ⟨by omega, by omega, this.2.2⟩
end Go.Proofs.YtafkndnmhhjdhaaGreatDoor
namespace Go.Proofs.YtafkndnmhhjdhaaGreatDoor
open Go Go.Abs Go.RowKit
def shr : List Int → Int
 | [] => 0
 | l :: ls => 4 ^ (3 - l).toNat + shr ls
end Go.Proofs.YtafkndnmhhjdhaaGreatDoor
namespace Go.Proofs.YtafkndnmhhjdhaaGreatDoor
open Go Go.Abs Go.RowKit
/-- the length at a place; its share -/
def lnA (xs : List Int) (i : Nat) : Nat := (xs.getD i 0).toNat
/-- which numbers are found before -/
def dn (xs : List Int) (L k i : Nat) : Prop := lnA xs i ≤ L ∨ (lnA xs i = L + 1 ∧ i < k)
end Go.Proofs.YtafkndnmhhjdhaaGreatDoor
namespace Go.Proofs.YtafkndnmhhjdhaaGreatDoor
open Go Go.Abs Go.RowKit
theorem fstN_none {p : Nat → Bool} : ∀ {m k i : Nat}, fstN p k m = none → k ≤ i → i < k + m → p i = false
 | 0, k, i, _, h1, h2 => by omega
 | m + 1, k, i, h, h1, h2 => by
  unfold fstN at h
  split at h
  ·cases h
  ·rename_i hp
   by_cases e : i = k
   ·subst e; simpa using hp
   ·exact fstN_none h (by omega) (by omega)
end Go.Proofs.YtafkndnmhhjdhaaGreatDoor
namespace Go.Clos
structure Sp where
 O : Int
 E : Int
 M : Int
deriving DecidableEq
def SV (s : Sp) : Prop := (1 ≤ s.O ∧ s.O ≤ 4) ∧ (1 ≤ s.E ∧ s.E ≤ 3) ∧ (1 ≤ s.M ∧ s.M ≤ 5)
instance (s : Sp) : Decidable (SV s) := by unfold SV; infer_instance
def Rg (s : Sp) (c : Cl) : Prop := (0 ≤ c.i ∧ c.i ≤ s.O * s.E - 1) ∧ (0 ≤ c.o ∧ c.o ≤ s.O * s.E - 1) ∧ (0 ≤ c.v ∧ c.v ≤ s.M - 1)
instance (s : Sp) (c : Cl) : Decidable (Rg s c) := by unfold Rg; infer_instance
/-- two calls that are not possible at the same time -/
def Hit (s : Sp) (c d : Cl) : Prop := c.i = d.i ∨ c.o = d.o ∨ c.v = d.v ∧ (c.i / s.E = d.i / s.E ∨ c.o / s.E = d.o / s.E)
instance (s : Sp) (c d : Cl) : Decidable (Hit s c d) := by unfold Hit; infer_instance
theorem Hit.symm {s : Sp} {c d : Cl} (h : Hit s c d) : Hit s d c := by
 rcases h with h | h | ⟨h, g | g⟩
 ·exact .inl h.symm
 ·exact .inr (.inl h.symm)
 ·exact .inr (.inr ⟨h.symm, .inl g.symm⟩)
 ·exact .inr (.inr ⟨h.symm, .inr g.symm⟩)
def CV (s : Sp) (cs : List Cl) : Prop := SV s ∧ (∀ c ∈ cs, Rg s c) ∧ cs.Pairwise fun d c => ¬ Hit s c d
instance (s : Sp) (cs : List Cl) : Decidable (CV s cs) := by unfold CV; infer_instance
theorem CV_nil {s : Sp} : CV s [] ↔ SV s := by simp [CV]
theorem CV_snoc {s : Sp} {cs : List Cl} {c : Cl} : CV s (cs ++ [c]) ↔ CV s cs ∧ Rg s c ∧ ∀ d ∈ cs, ¬ Hit s c d := by
 unfold CV
 simp only [List.mem_append, List.mem_singleton, List.pairwise_append, List.pairwise_cons, List.Pairwise.nil]
 constructor
 ·rintro ⟨h1, h2, h3, -, h4⟩
  exact ⟨⟨h1, fun d hd => h2 d (.inl hd), h3⟩, h2 c (.inr rfl), fun d hd => h4 d hd c rfl⟩
 ·rintro ⟨⟨h1, h2, h3⟩, h4, h5⟩
  exact ⟨h1, fun d hd => hd.elim (h2 d) (fun e => e ▸ h4), h3, ⟨fun _ h => absurd h (by simp), trivial⟩, fun d hd e he => he ▸ h5 d hd⟩
theorem CV.sub {s : Sp} {cs ds : List Cl} (h : CV s cs) (hs : ds.Sublist cs) : CV s ds := ⟨h.1, fun c hc => h.2.1 c (hs.subset hc), h.2.2.sublist hs⟩
theorem CV.two {s : Sp} {cs : List Cl} (h : CV s cs) {k l : Nat} {c d : Cl} (hk : cs[k]? = some c) (hl : cs[l]? = some d) (hne : k ≠ l) : ¬ Hit s c d := by
 obtain ⟨hk1, rfl⟩ := List.getElem?_eq_some_iff.1 hk
 obtain ⟨hl1, rfl⟩ := List.getElem?_eq_some_iff.1 hl
 have := List.pairwise_iff_getElem.1 h.2.2
 rcases Nat.lt_or_ge k l with hlt | hge
 ·exact fun hh => this k l hk1 hl1 hlt hh.symm
 ·exact fun hh => this l k hl1 hk1 (by omega) hh
theorem CV.one {s : Sp} {cs : List Cl} (h : CV s cs) {k l : Nat} {c d : Cl} (hk : cs[k]? = some c) (hl : cs[l]? = some d) (hh : Hit s c d) : k = l :=
 Classical.byContradiction fun hne => h.two hk hl hne hh
theorem CV.of_index {s : Sp} {cs : List Cl} (h1 : SV s) (h2 : ∀ c ∈ cs, Rg s c) (h3 : ∀ (k l : Nat) (c d : Cl), cs[k]? = some c → cs[l]? = some d → l < k → ¬ Hit s c d) : CV s cs := by
 refine ⟨h1, h2, List.pairwise_iff_getElem.2 fun i j hi hj hij => ?_⟩
 exact h3 j i _ _ (List.getElem?_eq_getElem hj) (List.getElem?_eq_getElem hi) hij
/-- a list without the same twice is not longer than one that has all of it -/
theorem sub_len {α : Type} [DecidableEq α] : ∀ {xs ys : List α}, xs.Nodup → (∀ x ∈ xs, x ∈ ys) → xs.length ≤ ys.length
 | [], ys, _, _ => Nat.zero_le _
 | x :: xs, ys, h, hs => by
  rw [List.nodup_cons] at h
  have hx : x ∈ ys := hs x (by simp)
  have := sub_len (ys := ys.erase x) h.2 fun y hy => (List.mem_erase_of_ne (fun (e : y = x) => h.1 (by rw [← e]; exact hy))).2 (hs y (by simp [hy]))
  rw [List.length_erase_of_mem hx] at this
  have := List.length_pos_of_mem hx
  simp only [List.length_cons]; omega
def rng (n : Nat) : List Int := (List.range n).map fun (k : Nat) => (k : Int)
theorem mem_rng {n : Nat} {x : Int} : x ∈ rng n ↔ 0 ≤ x ∧ x < n := by
 simp only [rng, List.mem_map, List.mem_range]
 constructor
 ·rintro ⟨k, h, rfl⟩; omega
 ·rintro ⟨h1, h2⟩; exact ⟨x.toNat, by omega, by omega⟩
theorem rng_length (n : Nat) : (rng n).length = n := by simp [rng]
theorem rng_nodup (n : Nat) : (rng n).Nodup := by
 unfold rng
 rw [List.nodup_iff_pairwise_ne, List.pairwise_map]
 exact (List.nodup_iff_pairwise_ne.1 List.nodup_range).imp fun h e => h (by omega)
theorem rng_succ (n : Nat) : rng (n + 1) = rng n ++ [(n : Int)] := by simp [rng, List.range_succ]
theorem pig {n : Nat} {lo : Int} {xs : List Int} (h : xs.Nodup) (hx : ∀ x ∈ xs, lo ≤ x ∧ x < lo + n) : xs.length ≤ n := by
 have := sub_len (xs := xs) (ys := (rng n).map (lo + ·)) h fun x hm => List.mem_map.2 ⟨x - lo, mem_rng.2 (by have := hx x hm; omega), by omega⟩
 simpa [rng] using this
theorem nodup_map {α : Type} {f : α → Int} {xs : List α} (h : xs.Pairwise fun d c => f d ≠ f c) : (xs.map f).Nodup := by
 rw [List.nodup_iff_pairwise_ne, List.pairwise_map]; exact h
section
variable {s : Sp} {cs : List Cl} (h : CV s cs)
include h
theorem CV.pw {P : Cl → Cl → Prop} (hp : ∀ c d, ¬ Hit s c d → P d c) : cs.Pairwise P := h.2.2.imp fun {a b} hh => hp b a hh
theorem CV.ins : (cs.map (·.i)).Nodup := nodup_map (h.pw fun c d hh e => hh (.inl e.symm))
theorem CV.outs : (cs.map (·.o)).Nodup := nodup_map (h.pw fun c d hh e => hh (.inr (.inl e.symm)))
theorem CV.len : cs.length ≤ 12 := by
 have := pig (lo := 0) (n := (s.O * s.E).toNat) h.ins fun x hx => by
  obtain ⟨c, hc, rfl⟩ := List.mem_map.1 hx
  have := (h.2.1 c hc).1
  omega
 rw [List.length_map] at this
 obtain ⟨⟨o1, o2⟩, ⟨e1, e2⟩, -⟩ := h.1
 have h12 : s.O * s.E ≤ 4 * 3 := Int.mul_le_mul o2 e2 (by omega) (by omega)
 omega
/-- the calls from an outer switch, of which a line is free -/
theorem CV.from_ {i : Int} (hi : ∀ c ∈ cs, c.i ≠ i) : (cs.filter fun c => c.i / s.E = i / s.E).length + 1 ≤ s.E.toNat := by
 obtain ⟨⟨o1, o2⟩, ⟨e1, e2⟩, -⟩ := h.1
 have hsub : (cs.filter fun c => decide (c.i / s.E = i / s.E)).Sublist cs := List.filter_sublist
 have hn : (i :: (cs.filter fun c => decide (c.i / s.E = i / s.E)).map (·.i)).Nodup := by
  rw [List.nodup_cons]
  refine ⟨fun hm => ?_, (h.sub hsub).ins⟩
  obtain ⟨c, hc, e⟩ := List.mem_map.1 hm
  exact hi c (hsub.subset hc) e
 have := pig (lo := i / s.E * s.E) (n := s.E.toNat) hn fun x hx => by
  have key : ∀ y : Int, y / s.E = i / s.E → i / s.E * s.E ≤ y ∧ y < i / s.E * s.E + s.E.toNat := fun y e => by
   rw [← e]
   have h1 := Int.emod_nonneg y (show s.E ≠ 0 by omega)
   have h2 := Int.emod_lt_of_pos y (show 0 < s.E by omega)
   have h3 := Int.mul_ediv_add_emod y s.E
   rw [Int.mul_comm] at h3
   omega
  rcases List.mem_cons.1 hx with rfl | hx
  ·exact key _ rfl
  ·obtain ⟨c, hc, rfl⟩ := List.mem_map.1 hx
   exact key _ (by simpa using (List.mem_filter.1 hc).2)
 simpa using this
theorem CV.to_ {o : Int} (ho : ∀ c ∈ cs, c.o ≠ o) : (cs.filter fun c => c.o / s.E = o / s.E).length + 1 ≤ s.E.toNat := by
 obtain ⟨⟨o1, o2⟩, ⟨e1, e2⟩, -⟩ := h.1
 have hsub : (cs.filter fun c => decide (c.o / s.E = o / s.E)).Sublist cs := List.filter_sublist
 have hn : (o :: (cs.filter fun c => decide (c.o / s.E = o / s.E)).map (·.o)).Nodup := by
  rw [List.nodup_cons]
  refine ⟨fun hm => ?_, (h.sub hsub).outs⟩
  obtain ⟨c, hc, e⟩ := List.mem_map.1 hm
  exact ho c (hsub.subset hc) e
 have := pig (lo := o / s.E * s.E) (n := s.E.toNat) hn fun x hx => by
  have key : ∀ y : Int, y / s.E = o / s.E → o / s.E * s.E ≤ y ∧ y < o / s.E * s.E + s.E.toNat := fun y e => by
   rw [← e]
   have h1 := Int.emod_nonneg y (show s.E ≠ 0 by omega)
   have h2 := Int.emod_lt_of_pos y (show 0 < s.E by omega)
   have h3 := Int.mul_ediv_add_emod y s.E
   rw [Int.mul_comm] at h3
   omega
  rcases List.mem_cons.1 hx with rfl | hx
  ·exact key _ rfl
  ·obtain ⟨c, hc, rfl⟩ := List.mem_map.1 hx
   exact key _ (by simpa using (List.mem_filter.1 hc).2)
 simpa using this
end
/-- the middle switches that the calls of an outer switch use -/
def usedI (s : Sp) (cs : List Cl) (x : Int) : List Int := (cs.filter fun c => c.i / s.E = x).map (·.v)
def usedO (s : Sp) (cs : List Cl) (x : Int) : List Int := (cs.filter fun c => c.o / s.E = x).map (·.v)
theorem mem_usedI {s : Sp} {cs : List Cl} {x v : Int} : v ∈ usedI s cs x ↔ ∃ c ∈ cs, c.i / s.E = x ∧ c.v = v := by
 unfold usedI
 simp only [List.mem_map, List.mem_filter, decide_eq_true_eq]
 exact ⟨fun ⟨c, ⟨a, b⟩, d⟩ => ⟨c, a, b, d⟩, fun ⟨c, a, b, d⟩ => ⟨c, ⟨a, b⟩, d⟩⟩
theorem mem_usedO {s : Sp} {cs : List Cl} {x v : Int} : v ∈ usedO s cs x ↔ ∃ c ∈ cs, c.o / s.E = x ∧ c.v = v := by
 unfold usedO
 simp only [List.mem_map, List.mem_filter, decide_eq_true_eq]
 exact ⟨fun ⟨c, ⟨a, b⟩, d⟩ => ⟨c, a, b, d⟩, fun ⟨c, a, b, d⟩ => ⟨c, ⟨a, b⟩, d⟩⟩
/-- the first middle switch that is not used -/
def firstN (used : List Int) : Nat → Nat → Int
 | 0, _ => -1
 | n + 1, k => if (k : Int) ∈ used then firstN used n (k + 1) else k
theorem firstN_cases (used : List Int) : ∀ n k : Nat, (firstN used n k = -1 ∧ ∀ j, k ≤ j → j < k + n → (j : Int) ∈ used) ∨ ∃ j : Nat, firstN used n k = j ∧ k ≤ j ∧ j < k + n ∧ (j : Int) ∉ used
 | 0, k => .inl ⟨rfl, fun j h1 h2 => absurd h2 (by omega)⟩
 | n + 1, k => by
  unfold firstN
  by_cases h : (k : Int) ∈ used
  ·rw [if_pos h]
   rcases firstN_cases used n (k + 1) with ⟨e, hj⟩ | ⟨j, e, h1, h2, h3⟩
   ·refine .inl ⟨e, fun j h1 h2 => ?_⟩
    rcases Nat.eq_or_lt_of_le h1 with rfl | h1
    ·exact h
    ·exact hj j (by omega) (by omega)
   ·exact .inr ⟨j, e, by omega, by omega, h3⟩
  ·rw [if_neg h]; exact .inr ⟨k, rfl, by omega, by omega, h⟩
theorem firstN_some {used : List Int} {n : Nat} (h : used.length < n) : ∃ j : Nat, firstN used n 0 = j ∧ j < n ∧ (j : Int) ∉ used := by
 rcases firstN_cases used n 0 with ⟨-, hj⟩ | ⟨j, e, -, h2, h3⟩
 ·exfalso
  have := sub_len (xs := rng n) (ys := used) (rng_nodup n) fun x hx => by
   obtain ⟨a, b⟩ := mem_rng.1 hx
   have := hj x.toNat (by omega) (by omega)
   rwa [Int.toNat_of_nonneg a] at this
  rw [rng_length] at this
  omega
 ·exact ⟨j, e, by omega, h3⟩
/-- a call can go through a middle switch -/
def Free (s : Sp) (cs : List Cl) (i o v : Int) : Prop := CV s (cs ++ [⟨i, o, v⟩])
instance (s : Sp) (cs : List Cl) (i o v : Int) : Decidable (Free s cs i o v) := by unfold Free; infer_instance
/-- a line has a call -/
def Busy (cs : List Cl) (i o : Int) : Prop := ∃ c ∈ cs, c.i = i ∨ c.o = o
instance (cs : List Cl) (i o : Int) : Decidable (Busy cs i o) := by unfold Busy; infer_instance
def Lines (s : Sp) (i o : Int) : Prop := (0 ≤ i ∧ i ≤ s.O * s.E - 1) ∧ (0 ≤ o ∧ o ≤ s.O * s.E - 1)
instance (s : Sp) (i o : Int) : Decidable (Lines s i o) := by unfold Lines; infer_instance
theorem Free.lines {s : Sp} {cs : List Cl} {i o v : Int} (h : Free s cs i o v) : CV s cs ∧ Lines s i o ∧ ¬ Busy cs i o ∧ 0 ≤ v ∧ v ≤ s.M - 1 := by
 obtain ⟨a, ⟨b, c, d⟩, e⟩ := CV_snoc.1 h
 refine ⟨a, ⟨b, c⟩, ?_, d⟩
 rintro ⟨x, hx, h1 | h1⟩
 ·exact e x hx (.inl h1.symm)
 ·exact e x hx (.inr (.inl h1.symm))
theorem free_iff {s : Sp} {cs : List Cl} {i o v : Int} (h : CV s cs) (hl : Lines s i o) (hb : ¬ Busy cs i o) (hv : 0 ≤ v ∧ v ≤ s.M - 1) : Free s cs i o v ↔ v ∉ usedI s cs (i / s.E) ∧ v ∉ usedO s cs (o / s.E) := by
 unfold Free
 rw [CV_snoc, mem_usedI, mem_usedO]
 constructor
 ·rintro ⟨-, -, e⟩
  exact ⟨fun ⟨c, hc, a, b⟩ => e c hc (.inr (.inr ⟨b.symm, .inl a.symm⟩)), fun ⟨c, hc, a, b⟩ => e c hc (.inr (.inr ⟨b.symm, .inr a.symm⟩))⟩
 ·rintro ⟨n1, n2⟩
  refine ⟨h, ⟨hl.1, hl.2, hv⟩, fun d hd hh => ?_⟩
  rcases hh with e | e | ⟨e, e2 | e2⟩
  ·exact hb ⟨d, hd, .inl e.symm⟩
  ·exact hb ⟨d, hd, .inr e.symm⟩
  ·exact n1 ⟨d, hd, e2.symm, e.symm⟩
  ·exact n2 ⟨d, hd, e2.symm, e.symm⟩
def freeL (s : Sp) (cs : List Cl) (i o : Int) (n : Nat) : List Int := (rng n).filter fun v => Free s cs i o v
theorem freeL_succ (s : Sp) (cs : List Cl) (i o : Int) (n : Nat) : freeL s cs i o (n + 1) = freeL s cs i o n ++ (if Free s cs i o n then [(n : Int)] else []) := by
 unfold freeL
 rw [rng_succ, List.filter_append]
 congr 1
 by_cases h : Free s cs i o n <;> simp [h]
/-- the middle switches that are free -/
def freeV (s : Sp) (cs : List Cl) (i o : Int) : List Int := freeL s cs i o s.M.toNat
theorem mem_freeV {s : Sp} {cs : List Cl} {i o v : Int} : v ∈ freeV s cs i o ↔ Free s cs i o v := by
 unfold freeV freeL
 rw [List.mem_filter, mem_rng, decide_eq_true_eq]
 exact ⟨fun h => h.2, fun h => ⟨by have := h.lines.2.2.2; omega, h⟩⟩
theorem freeV_no {s : Sp} {cs : List Cl} {i o : Int} (h : ¬ (CV s cs ∧ Lines s i o ∧ ¬ Busy cs i o)) : freeV s cs i o = [] :=
 List.eq_nil_iff_forall_not_mem.2 fun v hv => h (by have := (mem_freeV.1 hv).lines; exact ⟨this.1, this.2.1, this.2.2.1⟩)
def Enough (s : Sp) : Prop := SV s ∧ s.E ≤ s.M
instance (s : Sp) : Decidable (Enough s) := by unfold Enough; infer_instance
theorem not_busyI {cs : List Cl} {i o : Int} (h : ¬ Busy cs i o) : ∀ c ∈ cs, c.i ≠ i := fun c hc e => h ⟨c, hc, .inl e⟩
theorem not_busyO {cs : List Cl} {i o : Int} (h : ¬ Busy cs i o) : ∀ c ∈ cs, c.o ≠ o := fun c hc e => h ⟨c, hc, .inr e⟩
theorem SV.lines {s : Sp} (h : SV s) : 1 ≤ s.O * s.E ∧ s.O * s.E ≤ 12 := by
 obtain ⟨⟨o1, o2⟩, ⟨e1, e2⟩, -⟩ := h
 have h12 : s.O * s.E ≤ 4 * 3 := Int.mul_le_mul o2 e2 (by omega) (by omega)
 have h1 : 1 * 1 ≤ s.O * s.E := Int.mul_le_mul o1 e1 (by omega) (by omega)
 omega
/-- the numbers of a call that are divided are not below 0 -/
def Nng (c : Cl) : Prop := (0 ≤ c.i ∧ c.i ≤ 1000) ∧ (0 ≤ c.o ∧ c.o ≤ 1000)
theorem Rg.nng {s : Sp} {c : Cl} (hS : SV s) (h : Rg s c) : Nng c := by
 have := hS.lines
 obtain ⟨h1, h2, -⟩ := h
 exact ⟨⟨h1.1, by omega⟩, h2.1, by omega⟩
end Go.Clos
namespace Go.Clos
theorem b_ne {t sd : Bool} (h : ¬ t = sd) : t = !sd := by cases t <;> cases sd <;> simp_all
def gc (cs : List Cl) (k : Nat) : Cl := cs.getD k Go.Abs.cl0
theorem gc_some {cs : List Cl} {k : Nat} (h : k < cs.length) : cs[k]? = some (gc cs k) := by simp [gc, List.getD, h]
theorem gc_mem {cs : List Cl} {k : Nat} (h : k < cs.length) : gc cs k ∈ cs := List.mem_of_getElem? (gc_some h)
theorem mem_gc {cs : List Cl} {c : Cl} (h : c ∈ cs) : ∃ k, k < cs.length ∧ gc cs k = c := by
 obtain ⟨k, hk, rfl⟩ := List.getElem_of_mem h
 exact ⟨k, hk, by simp [gc, List.getD, hk]⟩
/-- the outer switch of a call on a side (true: of its output) -/
def sw (s : Sp) (sd : Bool) (c : Cl) : Int := bif sd then c.o / s.E else c.i / s.E
def AtC (s : Sp) (sd : Bool) (x w : Int) (c : Cl) : Prop := sw s sd c = x ∧ c.v = w
instance (s : Sp) (sd : Bool) (x w : Int) (c : Cl) : Decidable (AtC s sd x w c) := by unfold AtC; infer_instance
theorem hit_sw {s : Sp} {sd : Bool} {c d : Cl} (h1 : sw s sd c = sw s sd d) (h2 : c.v = d.v) : Hit s c d := by
 cases sd
 ·exact .inr (.inr ⟨h2, .inl h1⟩)
 ·exact .inr (.inr ⟨h2, .inr h1⟩)
theorem CV.sw_one {s : Sp} {cs : List Cl} (h : CV s cs) {sd : Bool} {k l : Nat} (hk : k < cs.length) (hl : l < cs.length) (h1 : sw s sd (gc cs k) = sw s sd (gc cs l)) (h2 : (gc cs k).v = (gc cs l).v) : k = l :=
 h.one (gc_some hk) (gc_some hl) (hit_sw h1 h2)
/-- the last of the first n calls at an outer switch through a middle switch that is not in the chain -/
def nxt (s : Sp) (cs : List Cl) (ch : List Nat) (sd : Bool) (x w : Int) : Nat → Option Nat
 | 0 => none
 | n + 1 => if AtC s sd x w (gc cs n) ∧ n ∉ ch then some n else nxt s cs ch sd x w n
theorem nxt_none {s : Sp} {cs : List Cl} {ch : List Nat} {sd : Bool} {x w : Int} : ∀ {n : Nat}, nxt s cs ch sd x w n = none → ∀ l, l < n → AtC s sd x w (gc cs l) → l ∈ ch
 | 0, _, l, hl, _ => absurd hl (by omega)
 | n + 1, h, l, hl, hc => by
  unfold nxt at h
  split at h
  ·cases h
  ·rename_i hn
   by_cases e : l = n
   ·subst e; exact Classical.byContradiction fun hm => hn ⟨hc, hm⟩
   ·exact nxt_none h l (by omega) hc
theorem nxt_some {s : Sp} {cs : List Cl} {ch : List Nat} {sd : Bool} {x w : Int} : ∀ {n k : Nat}, nxt s cs ch sd x w n = some k → k < n ∧ AtC s sd x w (gc cs k) ∧ k ∉ ch
 | 0, k, h => by cases h
 | n + 1, k, h => by
  unfold nxt at h
  split at h
  ·rename_i hn
   cases h; exact ⟨by omega, hn⟩
  ·obtain ⟨a, b⟩ := nxt_some h
   exact ⟨by omega, b⟩
def wantOf (a b : Int) (sd : Bool) : Int := bif sd then a else b
/-- the chain -/
def go (s : Sp) (cs : List Cl) (a b : Int) : Nat → List Nat → Bool → Int → List Nat
 | 0, ch, _, _ => ch
 | f + 1, ch, sd, x => match nxt s cs ch sd x (wantOf a b sd) cs.length with
  | none => ch
  | some k => go s cs a b f (ch ++ [k]) (!sd) (sw s (!sd) (gc cs k))
def chain (s : Sp) (cs : List Cl) (a b : Int) (B : Int) : List Nat := go s cs a b cs.length [] true B
structure Inv (s : Sp) (cs : List Cl) (a b B : Int) (ch : List Nat) (sd : Bool) (x : Int) : Prop where
 nd : ch.Nodup
 lt : ∀ k ∈ ch, k < cs.length
 ab : ∀ k ∈ ch, (gc cs k).v = a ∨ (gc cs k).v = b
 from_ : ∀ k ∈ ch, (gc cs k).v = b → ∃ l ∈ ch, (gc cs l).v = a ∧ sw s false (gc cs l) = sw s false (gc cs k)
 fr : sd = false → ∃ l ∈ ch, (gc cs l).v = a ∧ sw s false (gc cs l) = x
 cl : ∀ k ∈ ch, ∀ t l, l < cs.length → sw s t (gc cs l) = sw s t (gc cs k) → (gc cs l).v = a + b - (gc cs k).v → l ∈ ch ∨ AtC s sd x (wantOf a b sd) (gc cs l)
 st : ∀ l, l < cs.length → AtC s true B a (gc cs l) → l ∈ ch ∨ AtC s sd x (wantOf a b sd) (gc cs l)
 six : ∀ l, l < cs.length → sw s sd (gc cs l) = x → (gc cs l).v = a + b - wantOf a b sd → l ∈ ch
section
variable {s : Sp} {cs : List Cl} {a b B : Int} (h : CV s cs) (hab : a ≠ b) (hB : ∀ l, l < cs.length → sw s true (gc cs l) = B → (gc cs l).v ≠ b)
include h hab hB
theorem inv_start : Inv s cs a b B [] true B where
 nd := List.nodup_nil
 lt := fun k hk => absurd hk (by simp)
 ab := fun k hk => absurd hk (by simp)
 from_ := fun k hk => absurd hk (by simp)
 fr := fun e => by cases e
 cl := fun k hk => absurd hk (by simp)
 st := fun l hl hc => .inr hc
 six := fun l hl h1 h2 => absurd (show (gc cs l).v = b by rw [h2]; show a + b - a = b; omega) (hB l hl h1)
theorem Inv.step {ch : List Nat} {sd : Bool} {x : Int} {k : Nat} (hi : Inv s cs a b B ch sd x) (hn : nxt s cs ch sd x (wantOf a b sd) cs.length = some k) : Inv s cs a b B (ch ++ [k]) (!sd) (sw s (!sd) (gc cs k)) := by
 obtain ⟨hk, ⟨k1, k2⟩, k3⟩ := nxt_some hn
 have one : ∀ l, l < cs.length → AtC s sd x (wantOf a b sd) (gc cs l) → l = k := fun l hl hc => h.sw_one (sd := sd) hl hk (by rw [hc.1, k1]) (by rw [hc.2, k2])
 have hw : wantOf a b (!sd) = a + b - wantOf a b sd := by cases sd <;> simp [wantOf] <;> omega
 refine ⟨?_, ?_, ?_, ?_, ?_, ?_, ?_, ?_⟩
 ·rw [List.nodup_append]
  refine ⟨hi.nd, by simp, fun y hy z hz e => ?_⟩
  rw [List.mem_singleton] at hz
  exact k3 (by rw [← hz, ← e]; exact hy)
 ·intro l hl
  rcases List.mem_append.1 hl with hl | hl
  ·exact hi.lt l hl
  ·rw [List.mem_singleton] at hl; omega
 ·intro l hl
  rcases List.mem_append.1 hl with hl | hl
  ·exact hi.ab l hl
  ·rw [List.mem_singleton] at hl
   subst hl
   rw [k2]; cases sd
   ·exact .inr rfl
   ·exact .inl rfl
 ·intro l hl hv
  rcases List.mem_append.1 hl with hl | hl
  ·obtain ⟨m, hm, h1, h2⟩ := hi.from_ l hl hv
   exact ⟨m, List.mem_append.2 (.inl hm), h1, h2⟩
  ·rw [List.mem_singleton] at hl
   subst hl
   rw [k2] at hv
   cases sd with
   | true => exact absurd hv hab
   | false =>
    obtain ⟨m, hm, h1, h2⟩ := hi.fr rfl
    exact ⟨m, List.mem_append.2 (.inl hm), h1, by rw [h2, k1]⟩
 ·intro e
  cases sd with
  | false => cases e
  | true => exact ⟨k, List.mem_append.2 (.inr (by simp)), k2, rfl⟩
 ·intro j hj t l hl h1 h2
  rcases List.mem_append.1 hj with hj | hj
  ·rcases hi.cl j hj t l hl h1 h2 with h3 | h3
   ·exact .inl (List.mem_append.2 (.inl h3))
   ·exact .inl (List.mem_append.2 (.inr (by rw [one l hl h3]; simp)))
  ·rw [List.mem_singleton] at hj
   subst hj
   rw [k2] at h2
   by_cases e : t = sd
   ·subst e
    exact .inl (List.mem_append.2 (.inl (hi.six l hl (by rw [h1, k1]) h2)))
   ·have e2 : t = !sd := b_ne e
    subst e2
    exact .inr ⟨h1, by rw [hw]; exact h2⟩
 ·intro l hl hc
  rcases hi.st l hl hc with h3 | h3
  ·exact .inl (List.mem_append.2 (.inl h3))
  ·exact .inl (List.mem_append.2 (.inr (by rw [one l hl h3]; simp)))
 ·intro l hl h1 h2
  have : l = k := h.sw_one (sd := !sd) hl hk h1 (by rw [h2, k2, hw]; omega)
  exact List.mem_append.2 (.inr (by rw [this]; simp))
structure Closed (s : Sp) (cs : List Cl) (a b B : Int) (ch : List Nat) : Prop where
 nd : ch.Nodup
 lt : ∀ k ∈ ch, k < cs.length
 ab : ∀ k ∈ ch, (gc cs k).v = a ∨ (gc cs k).v = b
 from_ : ∀ k ∈ ch, (gc cs k).v = b → ∃ l ∈ ch, (gc cs l).v = a ∧ sw s false (gc cs l) = sw s false (gc cs k)
 cl : ∀ k ∈ ch, ∀ t l, l < cs.length → sw s t (gc cs l) = sw s t (gc cs k) → (gc cs l).v = a + b - (gc cs k).v → l ∈ ch
 st : ∀ l, l < cs.length → AtC s true B a (gc cs l) → l ∈ ch
omit h hab hB in
theorem Inv.stop {ch : List Nat} {sd : Bool} {x : Int} (hi : Inv s cs a b B ch sd x) (hn : ∀ l, l < cs.length → AtC s sd x (wantOf a b sd) (gc cs l) → l ∈ ch) : Closed s cs a b B ch :=
 ⟨hi.nd, hi.lt, hi.ab, hi.from_, fun k hk t l hl h1 h2 => (hi.cl k hk t l hl h1 h2).elim id (hn l hl), fun l hl hc => (hi.st l hl hc).elim id (hn l hl)⟩
omit h hab hB in
theorem all_in {ch : List Nat} {n : Nat} (h1 : ch.Nodup) (h2 : ∀ k ∈ ch, k < n) (h3 : n ≤ ch.length) {l : Nat} (hl : l < n) : l ∈ ch :=
 Classical.byContradiction fun hm => by
  have := sub_len (xs := l :: ch) (ys := List.range n) (List.nodup_cons.2 ⟨hm, h1⟩) fun y hy => by
   rcases List.mem_cons.1 hy with rfl | hy
   ·exact List.mem_range.2 hl
   ·exact List.mem_range.2 (h2 y hy)
  simp at this; omega
theorem go_closed : ∀ (f : Nat) {ch : List Nat} {sd : Bool} {x : Int}, Inv s cs a b B ch sd x → cs.length ≤ ch.length + f → Closed s cs a b B (go s cs a b f ch sd x)
 | 0, ch, sd, x, hi, hf => hi.stop fun l hl _ => all_in hi.nd hi.lt hf hl
 | f + 1, ch, sd, x, hi, hf => by
  unfold go
  cases hn : nxt s cs ch sd x (wantOf a b sd) cs.length with
  | none => exact hi.stop (nxt_none hn)
  | some k => exact go_closed f (Inv.step h hab hB hi hn) (by simp; omega)
theorem chain_closed : Closed s cs a b B (chain s cs a b B) := go_closed h hab hB cs.length (inv_start h hab hB) (by simp)
end
/-- the calls, those of a chain moved -/
def flip (a b : Int) (ch : List Nat) (cs : List Cl) : List Cl := cs.mapIdx fun k c => if k ∈ ch then ⟨c.i, c.o, a + b - c.v⟩ else c
theorem flip_length (a b : Int) (ch : List Nat) (cs : List Cl) : (flip a b ch cs).length = cs.length := by simp [flip]
theorem flip_some {a b : Int} {ch : List Nat} {cs : List Cl} {k : Nat} {c : Cl} (h : (flip a b ch cs)[k]? = some c) : k < cs.length ∧ c.i = (gc cs k).i ∧ c.o = (gc cs k).o ∧ ((k ∈ ch ∧ c.v = a + b - (gc cs k).v) ∨ (k ∉ ch ∧ c.v = (gc cs k).v)) := by
 have hk : k < cs.length := by
  have := (List.getElem?_eq_some_iff.1 h).1
  rwa [flip_length] at this
 unfold flip at h
 rw [List.getElem?_mapIdx, gc_some hk] at h
 simp only [Option.map_some, Option.some.injEq] at h
 subst h
 refine ⟨hk, ?_⟩
 by_cases hm : k ∈ ch
 ·simp [hm]
 ·simp [hm]
theorem flip_gc {a b : Int} {ch : List Nat} {cs : List Cl} {k : Nat} (hk : k < cs.length) : gc (flip a b ch cs) k = if k ∈ ch then ⟨(gc cs k).i, (gc cs k).o, a + b - (gc cs k).v⟩ else gc cs k := by
 have h1 := gc_some (cs := flip a b ch cs) (k := k) (by rw [flip_length]; exact hk)
 unfold flip at h1
 rw [List.getElem?_mapIdx, gc_some hk] at h1
 simp only [Option.map_some, Option.some.injEq] at h1
 exact h1.symm
/-- with the chain moved the further call is possible -/
theorem flip_CV {s : Sp} {cs : List Cl} {a b i o : Int} {ch : List Nat} (h : CV s cs) (hl : Lines s i o) (hb : ¬ Busy cs i o) (ha : 0 ≤ a ∧ a ≤ s.M - 1) (hb2 : 0 ≤ b ∧ b ≤ s.M - 1)
  (hA : a ∉ usedI s cs (i / s.E)) (hB : b ∉ usedO s cs (o / s.E)) (hc : Closed s cs a b (o / s.E) ch) : CV s (flip a b ch cs ++ [⟨i, o, a⟩]) := by
 have hAk : ∀ k, k < cs.length → sw s false (gc cs k) = i / s.E → (gc cs k).v ≠ a := fun k hk e e2 => hA (mem_usedI.2 ⟨_, gc_mem hk, e, e2⟩)
 have hBk : ∀ k, k < cs.length → sw s true (gc cs k) = o / s.E → (gc cs k).v ≠ b := fun k hk e e2 => hB (mem_usedO.2 ⟨_, gc_mem hk, e, e2⟩)
 rw [CV_snoc]
 refine ⟨CV.of_index h.1 (fun c hcm => ?_) (fun k l c d hk hl2 hlt hh => ?_), ⟨hl.1, hl.2, ha⟩, fun d hd hh => ?_⟩
 ·obtain ⟨k, hk⟩ := List.mem_iff_getElem?.1 hcm
  obtain ⟨hk1, e1, e2, e3⟩ := flip_some hk
  have hr := h.2.1 _ (gc_mem hk1)
  refine ⟨by rw [e1]; exact hr.1, by rw [e2]; exact hr.2.1, ?_⟩
  rcases e3 with ⟨hm, e3⟩ | ⟨hm, e3⟩
  ·rw [e3]
   rcases hc.ab k hm with e | e <;> rw [e]
   ·rw [show a + b - a = b by omega]; exact hb2
   ·rw [show a + b - b = a by omega]; exact ha
  ·rw [e3]; exact hr.2.2
 ·obtain ⟨hk1, e1, e2, e3⟩ := flip_some hk
  obtain ⟨hl1, f1, f2, f3⟩ := flip_some hl2
  have hno := h.two (gc_some hk1) (gc_some hl1) (by omega)
  have key : ∀ t, sw s t (gc cs k) = sw s t (gc cs l) → c.v = d.v → False := fun t ht hv => by
   rcases e3 with ⟨m1, e3⟩ | ⟨m1, e3⟩ <;> rcases f3 with ⟨m2, f3⟩ | ⟨m2, f3⟩
   ·exact hno (hit_sw (sd := t) ht (by omega))
   ·exact m2 (hc.cl k m1 t l hl1 ht.symm (by omega))
   ·exact m1 (hc.cl l m2 t k hk1 ht (by omega))
   ·exact hno (hit_sw (sd := t) ht (by omega))
  rcases hh with e | e | ⟨e, g | g⟩
  ·exact hno (.inl (by rw [← e1, ← f1]; exact e))
  ·exact hno (.inr (.inl (by rw [← e2, ← f2]; exact e)))
  ·exact key false (by rw [e1, f1] at g; exact g) e
  ·exact key true (by rw [e2, f2] at g; exact g) e
 ·obtain ⟨k, hk⟩ := List.mem_iff_getElem?.1 hd
  obtain ⟨hk1, e1, e2, e3⟩ := flip_some hk
  rcases hh with e | e | ⟨e, g⟩
  ·exact hb ⟨_, gc_mem hk1, .inl (by rw [← e1]; exact e.symm)⟩
  ·exact hb ⟨_, gc_mem hk1, .inr (by rw [← e2]; exact e.symm)⟩
  ·rcases e3 with ⟨m1, e3⟩ | ⟨m1, e3⟩
   ·have hv : (gc cs k).v = b := by have : a = a + b - (gc cs k).v := e.trans e3; omega
    rcases g with g | g
    ·obtain ⟨m, hm, h1, h2⟩ := hc.from_ k m1 hv
     exact hAk m (hc.lt m hm) (by rw [h2]; rw [e1] at g; exact g.symm) h1
    ·exact hBk k hk1 (by rw [e2] at g; exact g.symm) hv
   ·have hv : (gc cs k).v = a := (e.trans e3).symm
    rcases g with g | g
    ·exact hAk k hk1 (by rw [e1] at g; exact g.symm) hv
    ·exact m1 (hc.st k hk1 ⟨by rw [e2] at g; exact g.symm, hv⟩)
end Go.Clos
namespace Go.Clos
theorem gc_append {cs ds : List Cl} {k : Nat} (h : k < cs.length) : gc (cs ++ ds) k = gc cs k := by simp [gc, List.getD, List.getElem?_append_left h]
theorem gc_last {cs : List Cl} {c : Cl} : gc (cs ++ [c]) cs.length = c := by simp [gc, List.getD]
/-- with a further call, if there are enough middle switches -/
def wayA (s : Sp) (cs : List Cl) (i : Int) : Int := firstN (usedI s cs (i / s.E)) s.M.toNat 0
def wayB (s : Sp) (cs : List Cl) (o : Int) : Int := firstN (usedO s cs (o / s.E)) s.M.toNat 0
def moveL (s : Sp) (cs : List Cl) (i o : Int) : List Cl :=
 match freeV s cs i o with
 | v :: _ => cs ++ [⟨i, o, v⟩]
 | [] => flip (wayA s cs i) (wayB s cs o) (chain s cs (wayA s cs i) (wayB s cs o) (o / s.E)) cs ++ [⟨i, o, wayA s cs i⟩]
section
variable {s : Sp} {cs : List Cl} {i o : Int} (hs : Enough s) (h : CV s cs) (hl : Lines s i o) (hb : ¬ Busy cs i o)
include hs h hl hb
theorem wayA_ok : (0 ≤ wayA s cs i ∧ wayA s cs i ≤ s.M - 1) ∧ wayA s cs i ∉ usedI s cs (i / s.E) := by
 have f1 := h.from_ (not_busyI hb)
 obtain ⟨⟨-, ⟨e1, e2⟩, -⟩, hm⟩ := hs
 obtain ⟨j, hj, h1, h2⟩ := firstN_some (used := usedI s cs (i / s.E)) (n := s.M.toNat) (by unfold usedI; rw [List.length_map]; omega)
 unfold wayA; rw [hj]; exact ⟨by omega, h2⟩
theorem wayB_ok : (0 ≤ wayB s cs o ∧ wayB s cs o ≤ s.M - 1) ∧ wayB s cs o ∉ usedO s cs (o / s.E) := by
 have f1 := h.to_ (not_busyO hb)
 obtain ⟨⟨-, ⟨e1, e2⟩, -⟩, hm⟩ := hs
 obtain ⟨j, hj, h1, h2⟩ := firstN_some (used := usedO s cs (o / s.E)) (n := s.M.toNat) (by unfold usedO; rw [List.length_map]; omega)
 unfold wayB; rw [hj]; exact ⟨by omega, h2⟩
theorem way_ne (hf : freeV s cs i o = []) : wayA s cs i ≠ wayB s cs o := fun e => by
 obtain ⟨a1, a2⟩ := wayA_ok hs h hl hb
 obtain ⟨b1, b2⟩ := wayB_ok hs h hl hb
 have := mem_freeV.2 ((free_iff h hl hb a1).2 ⟨a2, by rw [e]; exact b2⟩)
 rw [hf] at this; cases this
theorem way_free : ∀ l, l < cs.length → sw s true (gc cs l) = o / s.E → (gc cs l).v ≠ wayB s cs o := fun l hl2 e e2 =>
 (wayB_ok hs h hl hb).2 (mem_usedO.2 ⟨_, gc_mem hl2, e, e2⟩)
theorem chain_ok (hf : freeV s cs i o = []) : Closed s cs (wayA s cs i) (wayB s cs o) (o / s.E) (chain s cs (wayA s cs i) (wayB s cs o) (o / s.E)) :=
 chain_closed h (way_ne hs h hl hb hf) (way_free hs h hl hb)
theorem moveL_CV : CV s (moveL s cs i o) := by
 unfold moveL
 cases hf : freeV s cs i o with
 | cons v vs => exact mem_freeV.1 (by rw [hf]; simp)
 | nil =>
  obtain ⟨a1, a2⟩ := wayA_ok hs h hl hb
  obtain ⟨b1, b2⟩ := wayB_ok hs h hl hb
  exact flip_CV h hl hb a1 b1 a2 b2 (chain_ok hs h hl hb hf)
omit hs h hl hb in
theorem moveL_length : (moveL s cs i o).length = cs.length + 1 := by
 unfold moveL
 split
 ·simp
 ·simp [flip_length]
omit hs h hl hb in
theorem moveL_last : (gc (moveL s cs i o) cs.length).i = i ∧ (gc (moveL s cs i o) cs.length).o = o := by
 unfold moveL
 split
 ·rw [gc_last]; exact ⟨rfl, rfl⟩
 ·have := gc_last (cs := flip (wayA s cs i) (wayB s cs o) (chain s cs (wayA s cs i) (wayB s cs o) (o / s.E)) cs) (c := ⟨i, o, wayA s cs i⟩)
  rw [flip_length] at this
  rw [this]; exact ⟨rfl, rfl⟩
omit hs h hl hb in
theorem moveL_old {k : Nat} (hk : k < cs.length) : (gc (moveL s cs i o) k).i = (gc cs k).i ∧ (gc (moveL s cs i o) k).o = (gc cs k).o := by
 unfold moveL
 split
 ·rw [gc_append hk]; exact ⟨rfl, rfl⟩
 ·rw [gc_append (by rw [flip_length]; exact hk), flip_gc hk]
  split <;> exact ⟨rfl, rfl⟩
end
/-- without the call from an input -/
def dropL (cs : List Cl) (i : Int) : List Cl := cs.filter fun c => c.i ≠ i
theorem dropL_sub (cs : List Cl) (i : Int) : (dropL cs i).Sublist cs := List.filter_sublist
theorem dropL_no {cs : List Cl} {i : Int} (h : ∀ c ∈ cs, c.i ≠ i) : dropL cs i = cs := List.filter_eq_self.2 fun c hc => by simpa using h c hc
theorem dropL_gone {cs : List Cl} {i : Int} {c : Cl} (h : c ∈ dropL cs i) : c.i ≠ i := by simpa using (List.mem_filter.1 h).2
theorem dropL_take (cs : List Cl) (i : Int) {k : Nat} (hk : k < cs.length) : dropL (cs.take (k + 1)) i = dropL (cs.take k) i ++ if (gc cs k).i = i then [] else [gc cs k] := by
 unfold dropL
 rw [List.take_add_one, gc_some hk, List.filter_append]
 congr 1
 by_cases h : (gc cs k).i = i <;> simp [h]
theorem dropL_len {s : Sp} {cs : List Cl} (h : CV s cs) {i : Int} (hi : ∃ c ∈ cs, c.i = i) : (dropL cs i).length + 1 = cs.length := by
 obtain ⟨c, hc, rfl⟩ := hi
 have hn := h.ins
 clear h
 induction cs with
 | nil => cases hc
 | cons d ds ih =>
  rw [List.map_cons, List.nodup_cons] at hn
  unfold dropL
  rcases List.mem_cons.1 hc with rfl | hc
  ·have : dropL ds c.i = ds := dropL_no fun d hd e => hn.1 (List.mem_map.2 ⟨d, hd, e⟩)
   rw [List.filter_cons_of_neg (by simp)]
   unfold dropL at this; rw [this]; rfl
  ·have hne : d.i ≠ c.i := fun e => hn.1 (List.mem_map.2 ⟨c, hc, e.symm⟩)
   have := ih hc hn.2
   rw [List.filter_cons_of_pos (by simpa using hne)]
   unfold dropL at this
   simp only [List.length_cons]; omega
end Go.Clos
namespace Go.Proofs.YtafkndnmhhjdhaaGreatDoor
open Go Go.Abs Go.RowKit Go.Dial Go.Clos
/-- an exchange -/
structure Ex where
 s : Sp
 ps : List (List UInt8)
 cs : List Cl
deriving DecidableEq
def ex0 : Ex := ⟨⟨0, 0, 0⟩, [], []⟩
/-- nobody's input is an output -/
def SepC (cs : List Cl) : Prop := ∀ c ∈ cs, ∀ d ∈ cs, c.i ≠ d.o
instance (cs : List Cl) : Decidable (SepC cs) := inferInstanceAs (Decidable (∀ c ∈ cs, ∀ d ∈ cs, c.i ≠ d.o))
def ExOk (e : Ex) : Prop := Enough e.s ∧ PlanOk e.ps ∧ (e.ps.length : Int) = e.s.O * e.s.E ∧ CV e.s e.cs ∧ SepC e.cs
instance (e : Ex) : Decidable (ExOk e) := inferInstanceAs (Decidable (_ ∧ _ ∧ _ ∧ _ ∧ _))
/-- connected -/
def Pr (cs : List Cl) (x y : Int) : Prop := ∃ c ∈ cs, (c.i = x ∧ c.o = y) ∨ (c.o = x ∧ c.i = y)
theorem ins_inj {s : Sp} {cs : List Cl} (h : CV s cs) {c d : Cl} (hc : c ∈ cs) (hd : d ∈ cs) (e : c.i = d.i) : c = d := by
 obtain ⟨k, hk, rfl⟩ := mem_gc hc
 obtain ⟨l, hl, rfl⟩ := mem_gc hd
 rw [h.one (gc_some hk) (gc_some hl) (.inl e)]
theorem outs_inj {s : Sp} {cs : List Cl} (h : CV s cs) {c d : Cl} (hc : c ∈ cs) (hd : d ∈ cs) (e : c.o = d.o) : c = d := by
 obtain ⟨k, hk, rfl⟩ := mem_gc hc
 obtain ⟨l, hl, rfl⟩ := mem_gc hd
 rw [h.one (gc_some hk) (gc_some hl) (.inr (.inl e))]
theorem Pr.lines {s : Sp} {cs : List Cl} (h : CV s cs) {x y : Int} (h1 : Pr cs x y) : (0 ≤ x ∧ x ≤ s.O * s.E - 1) ∧ (0 ≤ y ∧ y ≤ s.O * s.E - 1) := by
 obtain ⟨c, hc, ⟨a1, a2⟩ | ⟨a1, a2⟩⟩ := h1
 ·have := h.2.1 c hc; rw [← a1, ← a2]; exact ⟨this.1, this.2.1⟩
 ·have := h.2.1 c hc; rw [← a1, ← a2]; exact ⟨this.2.1, this.1⟩
/-- the peer of a line: the first call that has it -/
def peerS : List Cl → Int → Int
 | [], _ => -1
 | c :: cs, x => if c.i = x then c.o else if c.o = x then c.i else peerS cs x
def peerV (e : Ex) (x : Int) : Int := if ExOk e then peerS e.cs x else -1
theorem peerS_spec : ∀ (cs : List Cl) (x : Int), Pr cs x (peerS cs x) ∨ (peerS cs x = -1 ∧ ∀ y, ¬ Pr cs x y)
 | [], x => .inr ⟨rfl, fun y ⟨c, hc, _⟩ => by cases hc⟩
 | c :: cs, x => by
  unfold peerS
  by_cases h1 : c.i = x
  ·rw [if_pos h1]; exact .inl ⟨c, by simp, .inl ⟨h1, rfl⟩⟩
  rw [if_neg h1]
  by_cases h2 : c.o = x
  ·rw [if_pos h2]; exact .inl ⟨c, by simp, .inr ⟨h2, rfl⟩⟩
  rw [if_neg h2]
  rcases peerS_spec cs x with ⟨d, hd, h⟩ | ⟨e, h⟩
  ·exact .inl ⟨d, by simp [hd], h⟩
  ·refine .inr ⟨e, fun y ⟨d, hd, hh⟩ => ?_⟩
   rcases List.mem_cons.1 hd with rfl | hd
   ·rcases hh with hh | hh
    ·exact h1 hh.1
    ·exact h2 hh.1
   ·exact h y ⟨d, hd, hh⟩
section
variable {s : Sp} {cs : List Cl} (h : CV s cs) (hs : SepC cs)
include h hs
omit hs in
theorem peer_neg {x : Int} : peerS cs x < 0 ↔ ∀ y, ¬ Pr cs x y := by
 constructor
 ·intro hn y hy
  rcases peerS_spec cs x with h1 | ⟨_, h1⟩
  ·have := (h1.lines h).2; omega
  ·exact h1 y hy
 ·intro hn
  rcases peerS_spec cs x with h1 | ⟨e, _⟩
  ·exact absurd h1 (hn _)
  ·omega
omit hs in
theorem peer_pos {x : Int} (hx : 0 ≤ peerS cs x) : Pr cs x (peerS cs x) := by
 rcases peerS_spec cs x with h1 | ⟨e, _⟩
 ·exact h1
 ·omega
end
/-- a further call -/
theorem pr_move {s : Sp} {cs : List Cl} {i o x y : Int} : Pr (moveL s cs i o) x y ↔ Pr cs x y ∨ (x = i ∧ y = o) ∨ (x = o ∧ y = i) := by
 have hl := moveL_length (s := s) (cs := cs) (i := i) (o := o)
 have hlast := moveL_last (s := s) (cs := cs) (i := i) (o := o)
 have hold := fun k hk => moveL_old (s := s) (cs := cs) (i := i) (o := o) (k := k) hk
 constructor
 ·rintro ⟨c, hc, hh⟩
  obtain ⟨k, hk, rfl⟩ := mem_gc hc
  by_cases hkl : k < cs.length
  ·obtain ⟨e1, e2⟩ := hold k hkl
   rw [e1, e2] at hh
   exact .inl ⟨_, gc_mem hkl, hh⟩
  ·obtain rfl : k = cs.length := by omega
   rw [hlast.1, hlast.2] at hh
   rcases hh with ⟨a, b⟩ | ⟨a, b⟩
   ·exact .inr (.inl ⟨a.symm, b.symm⟩)
   ·exact .inr (.inr ⟨a.symm, b.symm⟩)
 ·rintro (⟨c, hc, hh⟩ | ⟨rfl, rfl⟩ | ⟨rfl, rfl⟩)
  ·obtain ⟨k, hk, rfl⟩ := mem_gc hc
   obtain ⟨e1, e2⟩ := hold k hk
   exact ⟨_, gc_mem (show k < _ by omega), by rw [e1, e2]; exact hh⟩
  ·exact ⟨_, gc_mem (show cs.length < _ by omega), .inl hlast⟩
  ·exact ⟨_, gc_mem (show cs.length < _ by omega), .inr ⟨hlast.2, hlast.1⟩⟩
theorem move_ends {s : Sp} {cs : List Cl} {i o : Int} {c : Cl} (hc : c ∈ moveL s cs i o) : (c.i = i ∧ c.o = o) ∨ ∃ d ∈ cs, c.i = d.i ∧ c.o = d.o := by
 obtain ⟨k, hk, rfl⟩ := mem_gc hc
 rw [moveL_length] at hk
 by_cases hkl : k < cs.length
 ·exact .inr ⟨_, gc_mem hkl, moveL_old hkl⟩
 ·obtain rfl : k = cs.length := by omega
  exact .inl moveL_last
theorem move_sep {s : Sp} {cs : List Cl} (hs : SepC cs) {i o : Int} (hne : i ≠ o) (hi : ∀ y, ¬ Pr cs i y) (ho : ∀ y, ¬ Pr cs o y) : SepC (moveL s cs i o) := by
 intro c hc d hd
 rcases move_ends hc with ⟨a1, a2⟩ | ⟨c', hc', a1, a2⟩ <;> rcases move_ends hd with ⟨b1, b2⟩ | ⟨d', hd', b1, b2⟩
 ·rw [a1, b2]; exact hne
 ·rw [a1, b2]; exact fun e => hi d'.i ⟨d', hd', .inr ⟨e.symm, rfl⟩⟩
 ·rw [a1, b2]; exact fun e => ho c'.o ⟨c', hc', .inl ⟨e, rfl⟩⟩
 ·rw [a1, b2]; exact hs c' hc' d' hd'
/-- without a call -/
theorem pr_drop {s : Sp} {cs : List Cl} (h : CV s cs) (hs : SepC cs) {i o : Int} (hp : ∃ c ∈ cs, c.i = i ∧ c.o = o) {x y : Int} : Pr (dropL cs i) x y ↔ Pr cs x y ∧ x ≠ i ∧ x ≠ o := by
 obtain ⟨c0, h0, rfl, rfl⟩ := hp
 constructor
 ·rintro ⟨c, hc, hh⟩
  have hm := (dropL_sub cs c0.i).subset hc
  have hg := dropL_gone hc
  have hne : c.o ≠ c0.o := fun e => hg (by rw [outs_inj h hm h0 e])
  refine ⟨⟨c, hm, hh⟩, ?_⟩
  rcases hh with ⟨rfl, rfl⟩ | ⟨rfl, rfl⟩
  ·exact ⟨hg, hs c hm c0 h0⟩
  ·exact ⟨(hs c0 h0 c hm).symm, hne⟩
 ·rintro ⟨⟨c, hc, hh⟩, n1, n2⟩
  refine ⟨c, ?_, hh⟩
  unfold dropL
  refine List.mem_filter.2 ⟨hc, ?_⟩
  rcases hh with ⟨rfl, rfl⟩ | ⟨rfl, rfl⟩
  ·simpa using n1
  ·have : c.i ≠ c0.i := fun e => n2 (by rw [ins_inj h hc h0 e])
   simpa using this
theorem sep_sub {cs ds : List Cl} (hs : SepC cs) (hsub : ∀ c ∈ ds, c ∈ cs) : SepC ds := fun c hc d hd => hs c (hsub c hc) d (hsub d hd)
end Go.Proofs.YtafkndnmhhjdhaaGreatDoor
