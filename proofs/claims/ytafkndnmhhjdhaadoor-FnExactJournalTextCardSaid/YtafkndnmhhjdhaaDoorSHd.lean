/- Parts. -/
import Derived.Test.YtafkndnmhhjdhaaDoorSHc
import Derived.Test.YtafkndnmhhjdhaaDoorRows
import Derived.KernelRfl
set_option linter.unusedSimpArgs false
set_option linter.unusedVariables false
set_option linter.unusedSectionVars false
namespace Go.Proofs.YtafkndnmhhjdhaaDoor
open Go Go.Abs
theorem mixed : Tryd.prog.follows .mixedOrders = true := by kernel_rfl
theorem own : ownKnob Tryd.prog.godebug = none := by kernel_rfl
theorem laidOut : laidOutB Tryd.prog = true := by kernel_rfl
theorem pt0 : isPtr Tryd.prog 0 = false := by kernel_rfl
theorem sc0 : isSlc Tryd.prog 0 = false := by kernel_rfl
theorem ag1 : aisAgg Tryd.prog 1 = false := by kernel_rfl
theorem pt1 : isPtr Tryd.prog 1 = false := by kernel_rfl
theorem sc1 : isSlc Tryd.prog 1 = false := by kernel_rfl
theorem ag2 : aisAgg Tryd.prog 2 = false := by kernel_rfl
theorem pt2 : isPtr Tryd.prog 2 = false := by kernel_rfl
theorem sc2 : isSlc Tryd.prog 2 = false := by kernel_rfl
theorem co3 : Tryd.prog.cellsOf 3 = 1 := by kernel_rfl
theorem ag3 : aisAgg Tryd.prog 3 = false := by kernel_rfl
theorem pt3 : isPtr Tryd.prog 3 = false := by kernel_rfl
theorem sc3 : isSlc Tryd.prog 3 = false := by kernel_rfl
theorem ag4 : aisAgg Tryd.prog 4 = false := by kernel_rfl
theorem pt4 : isPtr Tryd.prog 4 = false := by kernel_rfl
theorem sc4 : isSlc Tryd.prog 4 = false := by kernel_rfl
theorem bo4 : isBool Tryd.prog 4 = true := by kernel_rfl
theorem co5 : Tryd.prog.cellsOf 5 = 1 := by kernel_rfl
theorem ag5 : aisAgg Tryd.prog 5 = false := by kernel_rfl
theorem pt5 : isPtr Tryd.prog 5 = false := by kernel_rfl
theorem sc5 : isSlc Tryd.prog 5 = false := by kernel_rfl
theorem ag6 : aisAgg Tryd.prog 6 = false := by kernel_rfl
theorem pt6 : isPtr Tryd.prog 6 = false := by kernel_rfl
theorem sc6 : isSlc Tryd.prog 6 = false := by kernel_rfl
theorem co9 : Tryd.prog.cellsOf 9 = 1 := by kernel_rfl
theorem ag9 : aisAgg Tryd.prog 9 = false := by kernel_rfl
theorem pt9 : isPtr Tryd.prog 9 = false := by kernel_rfl
theorem sc9 : isSlc Tryd.prog 9 = false := by kernel_rfl
theorem ag10 : aisAgg Tryd.prog 10 = false := by kernel_rfl
theorem pt10 : isPtr Tryd.prog 10 = false := by kernel_rfl
theorem sc10 : isSlc Tryd.prog 10 = false := by kernel_rfl
theorem ag11 : aisAgg Tryd.prog 11 = false := by kernel_rfl
theorem pt11 : isPtr Tryd.prog 11 = false := by kernel_rfl
theorem sc11 : isSlc Tryd.prog 11 = false := by kernel_rfl
theorem ag12 : aisAgg Tryd.prog 12 = false := by kernel_rfl
theorem pt12 : isPtr Tryd.prog 12 = false := by kernel_rfl
theorem sc12 : isSlc Tryd.prog 12 = false := by kernel_rfl
theorem ag15 : aisAgg Tryd.prog 15 = false := by kernel_rfl
theorem pt15 : isPtr Tryd.prog 15 = true := by kernel_rfl
theorem sc15 : isSlc Tryd.prog 15 = false := by kernel_rfl
theorem co16 : Tryd.prog.cellsOf 16 = 1 := by kernel_rfl
theorem ag16 : aisAgg Tryd.prog 16 = false := by kernel_rfl
theorem pt16 : isPtr Tryd.prog 16 = true := by kernel_rfl
theorem sc16 : isSlc Tryd.prog 16 = false := by kernel_rfl
theorem ag17 : aisAgg Tryd.prog 17 = false := by kernel_rfl
theorem pt17 : isPtr Tryd.prog 17 = true := by kernel_rfl
theorem sc17 : isSlc Tryd.prog 17 = false := by kernel_rfl
theorem pt20 : isPtr Tryd.prog 20 = false := by kernel_rfl
theorem sc20 : isSlc Tryd.prog 20 = false := by kernel_rfl
theorem ag21 : aisAgg Tryd.prog 21 = false := by kernel_rfl
theorem pt21 : isPtr Tryd.prog 21 = false := by kernel_rfl
theorem sc21 : isSlc Tryd.prog 21 = false := by kernel_rfl
theorem ag22 : aisAgg Tryd.prog 22 = true := by kernel_rfl
theorem pt22 : isPtr Tryd.prog 22 = false := by kernel_rfl
theorem sc22 : isSlc Tryd.prog 22 = false := by kernel_rfl
theorem fv22_0 {x0 x1 x2 : Value} : afieldV Tryd.prog 22 0 (.agg #[x0, x1, x2]) = some x0 := by simp [afieldV, Tryd.underlying22, apart, Tryd.underlying3, ag3, co3, aisAgg]
theorem fl22_0 {h b : Nat} : afield Tryd.prog 22 0 (.pointer (some ⟨h, b, none⟩)) = some (.pointer (some ⟨h, b + 0, none⟩)) := by simp [afield, Tryd.underlying22]
theorem fv22_1 {x0 x1 x2 : Value} : afieldV Tryd.prog 22 1 (.agg #[x0, x1, x2]) = some x1 := by simp [afieldV, Tryd.underlying22, apart, Tryd.underlying3, ag3, co3, aisAgg]
theorem fl22_1 {h b : Nat} : afield Tryd.prog 22 1 (.pointer (some ⟨h, b, none⟩)) = some (.pointer (some ⟨h, b + 1, none⟩)) := by simp [afield, Tryd.underlying22]
theorem fv22_2 {x0 x1 x2 : Value} : afieldV Tryd.prog 22 2 (.agg #[x0, x1, x2]) = some x2 := by simp [afieldV, Tryd.underlying22, apart, Tryd.underlying9, ag9, co9, aisAgg]
theorem fl22_2 {h b : Nat} : afield Tryd.prog 22 2 (.pointer (some ⟨h, b, none⟩)) = some (.pointer (some ⟨h, b + 2, none⟩)) := by simp [afield, Tryd.underlying22]
theorem co23 : Tryd.prog.cellsOf 23 = 3 := by kernel_rfl
theorem ag23 : aisAgg Tryd.prog 23 = true := by kernel_rfl
theorem pt23 : isPtr Tryd.prog 23 = false := by kernel_rfl
theorem sc23 : isSlc Tryd.prog 23 = false := by kernel_rfl
theorem fv23_0 {x0 x1 x2 : Value} : afieldV Tryd.prog 23 0 (.agg #[x0, x1, x2]) = some x0 := by simp [afieldV, Tryd.underlying23, apart, Tryd.underlying3, ag3, co3, aisAgg]
theorem fl23_0 {h b : Nat} : afield Tryd.prog 23 0 (.pointer (some ⟨h, b, none⟩)) = some (.pointer (some ⟨h, b + 0, none⟩)) := by simp [afield, Tryd.underlying23]
theorem fv23_1 {x0 x1 x2 : Value} : afieldV Tryd.prog 23 1 (.agg #[x0, x1, x2]) = some x1 := by simp [afieldV, Tryd.underlying23, apart, Tryd.underlying3, ag3, co3, aisAgg]
theorem fl23_1 {h b : Nat} : afield Tryd.prog 23 1 (.pointer (some ⟨h, b, none⟩)) = some (.pointer (some ⟨h, b + 1, none⟩)) := by simp [afield, Tryd.underlying23]
theorem fv23_2 {x0 x1 x2 : Value} : afieldV Tryd.prog 23 2 (.agg #[x0, x1, x2]) = some x2 := by simp [afieldV, Tryd.underlying23, apart, Tryd.underlying9, ag9, co9, aisAgg]
theorem fl23_2 {h b : Nat} : afield Tryd.prog 23 2 (.pointer (some ⟨h, b, none⟩)) = some (.pointer (some ⟨h, b + 2, none⟩)) := by simp [afield, Tryd.underlying23]
theorem ag24 : aisAgg Tryd.prog 24 = false := by kernel_rfl
theorem pt24 : isPtr Tryd.prog 24 = false := by kernel_rfl
theorem sc24 : isSlc Tryd.prog 24 = false := by kernel_rfl
theorem ag25 : aisAgg Tryd.prog 25 = false := by kernel_rfl
theorem pt25 : isPtr Tryd.prog 25 = false := by kernel_rfl
theorem sc25 : isSlc Tryd.prog 25 = false := by kernel_rfl
theorem co26 : Tryd.prog.cellsOf 26 = 3 := by kernel_rfl
theorem ag26 : aisAgg Tryd.prog 26 = true := by kernel_rfl
theorem pt26 : isPtr Tryd.prog 26 = false := by kernel_rfl
theorem sc26 : isSlc Tryd.prog 26 = false := by kernel_rfl
theorem ze26 : azero Tryd.prog 26 = some (Value.agg #[Value.int IntKind.i64 0, Value.int IntKind.i64 0, Value.string { data := #[] }]) := by kernel_rfl
theorem fv26_0 {x0 x1 x2 : Value} : afieldV Tryd.prog 26 0 (.agg #[x0, x1, x2]) = some x0 := by simp [afieldV, Tryd.underlying26, apart, Tryd.underlying3, ag3, co3, aisAgg]
theorem fl26_0 {h b : Nat} : afield Tryd.prog 26 0 (.pointer (some ⟨h, b, none⟩)) = some (.pointer (some ⟨h, b + 0, none⟩)) := by simp [afield, Tryd.underlying26]
theorem fv26_1 {x0 x1 x2 : Value} : afieldV Tryd.prog 26 1 (.agg #[x0, x1, x2]) = some x1 := by simp [afieldV, Tryd.underlying26, apart, Tryd.underlying3, ag3, co3, aisAgg]
theorem fl26_1 {h b : Nat} : afield Tryd.prog 26 1 (.pointer (some ⟨h, b, none⟩)) = some (.pointer (some ⟨h, b + 1, none⟩)) := by simp [afield, Tryd.underlying26]
theorem fv26_2 {x0 x1 x2 : Value} : afieldV Tryd.prog 26 2 (.agg #[x0, x1, x2]) = some x2 := by simp [afieldV, Tryd.underlying26, apart, Tryd.underlying9, ag9, co9, aisAgg]
theorem fl26_2 {h b : Nat} : afield Tryd.prog 26 2 (.pointer (some ⟨h, b, none⟩)) = some (.pointer (some ⟨h, b + 2, none⟩)) := by simp [afield, Tryd.underlying26]
theorem ag27 : aisAgg Tryd.prog 27 = false := by kernel_rfl
theorem pt27 : isPtr Tryd.prog 27 = false := by kernel_rfl
theorem sc27 : isSlc Tryd.prog 27 = false := by kernel_rfl
theorem ag28 : aisAgg Tryd.prog 28 = false := by kernel_rfl
theorem pt28 : isPtr Tryd.prog 28 = false := by kernel_rfl
theorem sc28 : isSlc Tryd.prog 28 = false := by kernel_rfl
theorem pt29 : isPtr Tryd.prog 29 = false := by kernel_rfl
theorem sc29 : isSlc Tryd.prog 29 = false := by kernel_rfl
theorem ag30 : aisAgg Tryd.prog 30 = false := by kernel_rfl
theorem pt30 : isPtr Tryd.prog 30 = false := by kernel_rfl
theorem sc30 : isSlc Tryd.prog 30 = false := by kernel_rfl
theorem ag31 : aisAgg Tryd.prog 31 = false := by kernel_rfl
theorem pt31 : isPtr Tryd.prog 31 = false := by kernel_rfl
theorem sc31 : isSlc Tryd.prog 31 = false := by kernel_rfl
theorem ag32 : aisAgg Tryd.prog 32 = false := by kernel_rfl
theorem pt32 : isPtr Tryd.prog 32 = false := by kernel_rfl
theorem sc32 : isSlc Tryd.prog 32 = false := by kernel_rfl
theorem ag33 : aisAgg Tryd.prog 33 = false := by kernel_rfl
theorem pt33 : isPtr Tryd.prog 33 = false := by kernel_rfl
theorem sc33 : isSlc Tryd.prog 33 = true := by kernel_rfl
theorem esz33 : aesz Tryd.prog 33 = 3 := by kernel_rfl
theorem ag34 : aisAgg Tryd.prog 34 = false := by kernel_rfl
theorem pt34 : isPtr Tryd.prog 34 = false := by kernel_rfl
theorem sc34 : isSlc Tryd.prog 34 = false := by kernel_rfl
theorem ag35 : aisAgg Tryd.prog 35 = false := by kernel_rfl
theorem pt35 : isPtr Tryd.prog 35 = false := by kernel_rfl
theorem sc35 : isSlc Tryd.prog 35 = false := by kernel_rfl
theorem ag36 : aisAgg Tryd.prog 36 = false := by kernel_rfl
theorem pt36 : isPtr Tryd.prog 36 = false := by kernel_rfl
theorem sc36 : isSlc Tryd.prog 36 = true := by kernel_rfl
theorem esz36 : aesz Tryd.prog 36 = 3 := by kernel_rfl
theorem el36 : Elems Tryd.prog 36 3 (Value.agg #[Value.int IntKind.i64 0, Value.int IntKind.i64 0, Value.string { data := #[] }]) 32 := ⟨⟨26, Tryd.t26, Tryd.underlying36, by kernel_rfl, rfl, rfl, rfl⟩, ⟨26, Tryd.underlying36, by kernel_rfl, by kernel_rfl⟩⟩
theorem ag37 : aisAgg Tryd.prog 37 = false := by kernel_rfl
theorem pt37 : isPtr Tryd.prog 37 = false := by kernel_rfl
theorem sc37 : isSlc Tryd.prog 37 = false := by kernel_rfl
theorem ag38 : aisAgg Tryd.prog 38 = false := by kernel_rfl
theorem pt38 : isPtr Tryd.prog 38 = false := by kernel_rfl
theorem sc38 : isSlc Tryd.prog 38 = false := by kernel_rfl
theorem ag39 : aisAgg Tryd.prog 39 = false := by kernel_rfl
theorem pt39 : isPtr Tryd.prog 39 = false := by kernel_rfl
theorem sc39 : isSlc Tryd.prog 39 = false := by kernel_rfl
theorem pt40 : isPtr Tryd.prog 40 = false := by kernel_rfl
theorem sc40 : isSlc Tryd.prog 40 = true := by kernel_rfl
theorem ag41 : aisAgg Tryd.prog 41 = false := by kernel_rfl
theorem pt41 : isPtr Tryd.prog 41 = false := by kernel_rfl
theorem sc41 : isSlc Tryd.prog 41 = false := by kernel_rfl
theorem ag42 : aisAgg Tryd.prog 42 = false := by kernel_rfl
theorem pt42 : isPtr Tryd.prog 42 = false := by kernel_rfl
theorem sc42 : isSlc Tryd.prog 42 = false := by kernel_rfl
theorem ag43 : aisAgg Tryd.prog 43 = false := by kernel_rfl
theorem pt43 : isPtr Tryd.prog 43 = false := by kernel_rfl
theorem sc43 : isSlc Tryd.prog 43 = false := by kernel_rfl
theorem ag44 : aisAgg Tryd.prog 44 = false := by kernel_rfl
theorem pt44 : isPtr Tryd.prog 44 = false := by kernel_rfl
theorem sc44 : isSlc Tryd.prog 44 = true := by kernel_rfl
theorem esz44 : aesz Tryd.prog 44 = 1 := by kernel_rfl
theorem el44 : Elems Tryd.prog 44 1 (Value.string { data := #[] }) 16 := ⟨⟨9, Tryd.t9, Tryd.underlying44, by kernel_rfl, rfl, rfl, rfl⟩, ⟨9, Tryd.underlying44, by kernel_rfl, by kernel_rfl⟩⟩
theorem ag45 : aisAgg Tryd.prog 45 = false := by kernel_rfl
theorem pt45 : isPtr Tryd.prog 45 = false := by kernel_rfl
theorem sc45 : isSlc Tryd.prog 45 = false := by kernel_rfl
theorem ag46 : aisAgg Tryd.prog 46 = false := by kernel_rfl
theorem pt46 : isPtr Tryd.prog 46 = false := by kernel_rfl
theorem sc46 : isSlc Tryd.prog 46 = false := by kernel_rfl
theorem ag47 : aisAgg Tryd.prog 47 = false := by kernel_rfl
theorem pt47 : isPtr Tryd.prog 47 = false := by kernel_rfl
theorem sc47 : isSlc Tryd.prog 47 = false := by kernel_rfl
theorem pt48 : isPtr Tryd.prog 48 = false := by kernel_rfl
theorem sc48 : isSlc Tryd.prog 48 = false := by kernel_rfl
theorem ag49 : aisAgg Tryd.prog 49 = false := by kernel_rfl
theorem pt49 : isPtr Tryd.prog 49 = false := by kernel_rfl
theorem sc49 : isSlc Tryd.prog 49 = false := by kernel_rfl
theorem pt50 : isPtr Tryd.prog 50 = false := by kernel_rfl
theorem sc50 : isSlc Tryd.prog 50 = false := by kernel_rfl
theorem pt51 : isPtr Tryd.prog 51 = false := by kernel_rfl
theorem sc51 : isSlc Tryd.prog 51 = false := by kernel_rfl
theorem pt52 : isPtr Tryd.prog 52 = false := by kernel_rfl
theorem sc52 : isSlc Tryd.prog 52 = false := by kernel_rfl
theorem ag53 : aisAgg Tryd.prog 53 = false := by kernel_rfl
theorem pt53 : isPtr Tryd.prog 53 = false := by kernel_rfl
theorem sc53 : isSlc Tryd.prog 53 = false := by kernel_rfl
theorem ag54 : aisAgg Tryd.prog 54 = false := by kernel_rfl
theorem pt54 : isPtr Tryd.prog 54 = false := by kernel_rfl
theorem sc54 : isSlc Tryd.prog 54 = true := by kernel_rfl
theorem esz54 : aesz Tryd.prog 54 = 1 := by kernel_rfl
theorem ag55 : aisAgg Tryd.prog 55 = false := by kernel_rfl
theorem pt55 : isPtr Tryd.prog 55 = true := by kernel_rfl
theorem sc55 : isSlc Tryd.prog 55 = false := by kernel_rfl
theorem ag56 : aisAgg Tryd.prog 56 = false := by kernel_rfl
theorem pt56 : isPtr Tryd.prog 56 = false := by kernel_rfl
theorem sc56 : isSlc Tryd.prog 56 = true := by kernel_rfl
theorem esz56 : aesz Tryd.prog 56 = 1 := by kernel_rfl
theorem el56 : Elems Tryd.prog 56 1 (Value.int IntKind.u8 0) 1 := ⟨⟨5, Tryd.t5, Tryd.underlying56, by kernel_rfl, rfl, rfl, rfl⟩, ⟨5, Tryd.underlying56, by kernel_rfl, by kernel_rfl⟩⟩
theorem ag59 : aisAgg Tryd.prog 59 = false := by kernel_rfl
theorem pt59 : isPtr Tryd.prog 59 = false := by kernel_rfl
theorem sc59 : isSlc Tryd.prog 59 = false := by kernel_rfl
theorem ag60 : aisAgg Tryd.prog 60 = false := by kernel_rfl
theorem pt60 : isPtr Tryd.prog 60 = false := by kernel_rfl
theorem sc60 : isSlc Tryd.prog 60 = false := by kernel_rfl
theorem ag61 : aisAgg Tryd.prog 61 = false := by kernel_rfl
theorem pt61 : isPtr Tryd.prog 61 = true := by kernel_rfl
theorem sc61 : isSlc Tryd.prog 61 = false := by kernel_rfl
theorem ag62 : aisAgg Tryd.prog 62 = false := by kernel_rfl
theorem pt62 : isPtr Tryd.prog 62 = false := by kernel_rfl
theorem sc62 : isSlc Tryd.prog 62 = false := by kernel_rfl
theorem ag63 : aisAgg Tryd.prog 63 = false := by kernel_rfl
theorem pt63 : isPtr Tryd.prog 63 = false := by kernel_rfl
theorem sc63 : isSlc Tryd.prog 63 = false := by kernel_rfl
theorem ag64 : aisAgg Tryd.prog 64 = false := by kernel_rfl
theorem pt64 : isPtr Tryd.prog 64 = false := by kernel_rfl
theorem sc64 : isSlc Tryd.prog 64 = false := by kernel_rfl
theorem pt65 : isPtr Tryd.prog 65 = false := by kernel_rfl
theorem sc65 : isSlc Tryd.prog 65 = false := by kernel_rfl
theorem ag66 : aisAgg Tryd.prog 66 = false := by kernel_rfl
theorem pt66 : isPtr Tryd.prog 66 = false := by kernel_rfl
theorem sc66 : isSlc Tryd.prog 66 = false := by kernel_rfl
theorem ag67 : aisAgg Tryd.prog 67 = false := by kernel_rfl
theorem pt67 : isPtr Tryd.prog 67 = true := by kernel_rfl
theorem sc67 : isSlc Tryd.prog 67 = false := by kernel_rfl
theorem ag68 : aisAgg Tryd.prog 68 = false := by kernel_rfl
theorem pt68 : isPtr Tryd.prog 68 = false := by kernel_rfl
theorem sc68 : isSlc Tryd.prog 68 = false := by kernel_rfl
theorem ag69 : aisAgg Tryd.prog 69 = false := by kernel_rfl
theorem pt69 : isPtr Tryd.prog 69 = false := by kernel_rfl
theorem sc69 : isSlc Tryd.prog 69 = false := by kernel_rfl
theorem pt70 : isPtr Tryd.prog 70 = false := by kernel_rfl
theorem sc70 : isSlc Tryd.prog 70 = false := by kernel_rfl
theorem ag71 : aisAgg Tryd.prog 71 = false := by kernel_rfl
theorem pt71 : isPtr Tryd.prog 71 = false := by kernel_rfl
theorem sc71 : isSlc Tryd.prog 71 = false := by kernel_rfl
theorem ag72 : aisAgg Tryd.prog 72 = true := by kernel_rfl
theorem pt72 : isPtr Tryd.prog 72 = false := by kernel_rfl
theorem sc72 : isSlc Tryd.prog 72 = false := by kernel_rfl
theorem esz72 : aesz Tryd.prog 72 = 1 := by kernel_rfl
theorem co73 : Tryd.prog.cellsOf 73 = 1 := by kernel_rfl
theorem ag73 : aisAgg Tryd.prog 73 = false := by kernel_rfl
theorem pt73 : isPtr Tryd.prog 73 = false := by kernel_rfl
theorem sc73 : isSlc Tryd.prog 73 = false := by kernel_rfl
theorem ag74 : aisAgg Tryd.prog 74 = false := by kernel_rfl
theorem pt74 : isPtr Tryd.prog 74 = false := by kernel_rfl
theorem sc74 : isSlc Tryd.prog 74 = false := by kernel_rfl
theorem ag75 : aisAgg Tryd.prog 75 = false := by kernel_rfl
theorem pt75 : isPtr Tryd.prog 75 = false := by kernel_rfl
theorem sc75 : isSlc Tryd.prog 75 = false := by kernel_rfl
theorem pt76 : isPtr Tryd.prog 76 = false := by kernel_rfl
theorem sc76 : isSlc Tryd.prog 76 = true := by kernel_rfl
theorem ag77 : aisAgg Tryd.prog 77 = false := by kernel_rfl
theorem pt77 : isPtr Tryd.prog 77 = false := by kernel_rfl
theorem sc77 : isSlc Tryd.prog 77 = false := by kernel_rfl
theorem ag78 : aisAgg Tryd.prog 78 = false := by kernel_rfl
theorem pt78 : isPtr Tryd.prog 78 = false := by kernel_rfl
theorem sc78 : isSlc Tryd.prog 78 = false := by kernel_rfl
theorem ag79 : aisAgg Tryd.prog 79 = false := by kernel_rfl
theorem pt79 : isPtr Tryd.prog 79 = false := by kernel_rfl
theorem sc79 : isSlc Tryd.prog 79 = false := by kernel_rfl
theorem ag80 : aisAgg Tryd.prog 80 = false := by kernel_rfl
theorem pt80 : isPtr Tryd.prog 80 = false := by kernel_rfl
theorem sc80 : isSlc Tryd.prog 80 = false := by kernel_rfl
theorem pt81 : isPtr Tryd.prog 81 = false := by kernel_rfl
theorem sc81 : isSlc Tryd.prog 81 = false := by kernel_rfl
theorem ag82 : aisAgg Tryd.prog 82 = false := by kernel_rfl
theorem pt82 : isPtr Tryd.prog 82 = false := by kernel_rfl
theorem sc82 : isSlc Tryd.prog 82 = false := by kernel_rfl
theorem ag83 : aisAgg Tryd.prog 83 = false := by kernel_rfl
theorem pt83 : isPtr Tryd.prog 83 = false := by kernel_rfl
theorem sc83 : isSlc Tryd.prog 83 = false := by kernel_rfl
theorem ag86 : aisAgg Tryd.prog 86 = false := by kernel_rfl
theorem pt86 : isPtr Tryd.prog 86 = false := by kernel_rfl
theorem sc86 : isSlc Tryd.prog 86 = false := by kernel_rfl
theorem ag87 : aisAgg Tryd.prog 87 = false := by kernel_rfl
theorem pt87 : isPtr Tryd.prog 87 = false := by kernel_rfl
theorem sc87 : isSlc Tryd.prog 87 = false := by kernel_rfl
theorem ag88 : aisAgg Tryd.prog 88 = true := by kernel_rfl
theorem pt88 : isPtr Tryd.prog 88 = false := by kernel_rfl
theorem sc88 : isSlc Tryd.prog 88 = false := by kernel_rfl
theorem esz88 : aesz Tryd.prog 88 = 1 := by kernel_rfl
theorem ag89 : aisAgg Tryd.prog 89 = false := by kernel_rfl
theorem pt89 : isPtr Tryd.prog 89 = false := by kernel_rfl
theorem sc89 : isSlc Tryd.prog 89 = false := by kernel_rfl
theorem ag90 : aisAgg Tryd.prog 90 = true := by kernel_rfl
theorem pt90 : isPtr Tryd.prog 90 = false := by kernel_rfl
theorem sc90 : isSlc Tryd.prog 90 = false := by kernel_rfl
theorem esz90 : aesz Tryd.prog 90 = 1 := by kernel_rfl
theorem ag91 : aisAgg Tryd.prog 91 = false := by kernel_rfl
theorem pt91 : isPtr Tryd.prog 91 = false := by kernel_rfl
theorem sc91 : isSlc Tryd.prog 91 = false := by kernel_rfl
theorem ag92 : aisAgg Tryd.prog 92 = false := by kernel_rfl
theorem pt92 : isPtr Tryd.prog 92 = false := by kernel_rfl
theorem sc92 : isSlc Tryd.prog 92 = false := by kernel_rfl
theorem pt93 : isPtr Tryd.prog 93 = false := by kernel_rfl
theorem sc93 : isSlc Tryd.prog 93 = false := by kernel_rfl
theorem ag94 : aisAgg Tryd.prog 94 = false := by kernel_rfl
theorem pt94 : isPtr Tryd.prog 94 = false := by kernel_rfl
theorem sc94 : isSlc Tryd.prog 94 = false := by kernel_rfl
theorem ag95 : aisAgg Tryd.prog 95 = false := by kernel_rfl
theorem pt95 : isPtr Tryd.prog 95 = false := by kernel_rfl
theorem sc95 : isSlc Tryd.prog 95 = false := by kernel_rfl
theorem ag96 : aisAgg Tryd.prog 96 = false := by kernel_rfl
theorem pt96 : isPtr Tryd.prog 96 = true := by kernel_rfl
theorem sc96 : isSlc Tryd.prog 96 = false := by kernel_rfl
theorem ag99 : aisAgg Tryd.prog 99 = false := by kernel_rfl
theorem pt99 : isPtr Tryd.prog 99 = false := by kernel_rfl
theorem sc99 : isSlc Tryd.prog 99 = false := by kernel_rfl
theorem ag100 : aisAgg Tryd.prog 100 = true := by kernel_rfl
theorem pt100 : isPtr Tryd.prog 100 = false := by kernel_rfl
theorem sc100 : isSlc Tryd.prog 100 = false := by kernel_rfl
theorem esz100 : aesz Tryd.prog 100 = 1 := by kernel_rfl
theorem ag101 : aisAgg Tryd.prog 101 = true := by kernel_rfl
theorem pt101 : isPtr Tryd.prog 101 = false := by kernel_rfl
theorem sc101 : isSlc Tryd.prog 101 = false := by kernel_rfl
theorem esz101 : aesz Tryd.prog 101 = 1 := by kernel_rfl
theorem pt104 : isPtr Tryd.prog 104 = false := by kernel_rfl
theorem sc104 : isSlc Tryd.prog 104 = false := by kernel_rfl
theorem esz104 : aesz Tryd.prog 104 = 1 := by kernel_rfl
theorem ag107 : aisAgg Tryd.prog 107 = false := by kernel_rfl
theorem pt107 : isPtr Tryd.prog 107 = false := by kernel_rfl
theorem sc107 : isSlc Tryd.prog 107 = false := by kernel_rfl
theorem ag108 : aisAgg Tryd.prog 108 = false := by kernel_rfl
theorem pt108 : isPtr Tryd.prog 108 = false := by kernel_rfl
theorem sc108 : isSlc Tryd.prog 108 = false := by kernel_rfl
theorem ag109 : aisAgg Tryd.prog 109 = false := by kernel_rfl
theorem pt109 : isPtr Tryd.prog 109 = false := by kernel_rfl
theorem sc109 : isSlc Tryd.prog 109 = false := by kernel_rfl
theorem ag110 : aisAgg Tryd.prog 110 = false := by kernel_rfl
theorem pt110 : isPtr Tryd.prog 110 = false := by kernel_rfl
theorem sc110 : isSlc Tryd.prog 110 = false := by kernel_rfl
theorem ag111 : aisAgg Tryd.prog 111 = false := by kernel_rfl
theorem pt111 : isPtr Tryd.prog 111 = false := by kernel_rfl
theorem sc111 : isSlc Tryd.prog 111 = false := by kernel_rfl
theorem ag112 : aisAgg Tryd.prog 112 = false := by kernel_rfl
theorem pt112 : isPtr Tryd.prog 112 = false := by kernel_rfl
theorem sc112 : isSlc Tryd.prog 112 = false := by kernel_rfl
theorem nf3 : noisyF Tryd.prog 3 = false := by kernel_rfl
theorem nf4 : noisyF Tryd.prog 4 = false := by kernel_rfl
theorem nf5 : noisyF Tryd.prog 5 = false := by kernel_rfl
theorem nf6 : noisyF Tryd.prog 6 = false := by kernel_rfl
theorem nf7 : noisyF Tryd.prog 7 = false := by kernel_rfl
theorem nf8 : noisyF Tryd.prog 8 = false := by kernel_rfl
theorem nf9 : noisyF Tryd.prog 9 = false := by kernel_rfl
theorem nf10 : noisyF Tryd.prog 10 = false := by kernel_rfl
theorem nf11 : noisyF Tryd.prog 11 = false := by kernel_rfl
theorem nf12 : noisyF Tryd.prog 12 = false := by kernel_rfl
theorem nf13 : noisyF Tryd.prog 13 = false := by kernel_rfl
theorem nf14 : noisyF Tryd.prog 14 = false := by kernel_rfl
theorem nf15 : noisyF Tryd.prog 15 = false := by kernel_rfl
theorem nf16 : noisyF Tryd.prog 16 = false := by kernel_rfl
theorem nf17 : noisyF Tryd.prog 17 = false := by kernel_rfl
theorem nf18 : noisyF Tryd.prog 18 = false := by kernel_rfl
theorem nf19 : noisyF Tryd.prog 19 = false := by kernel_rfl
theorem nf20 : noisyF Tryd.prog 20 = false := by kernel_rfl
theorem nf21 : noisyF Tryd.prog 21 = false := by kernel_rfl
theorem nf22 : noisyF Tryd.prog 22 = false := by kernel_rfl
theorem nf23 : noisyF Tryd.prog 23 = false := by kernel_rfl
theorem nf24 : noisyF Tryd.prog 24 = false := by kernel_rfl
theorem nf25 : noisyF Tryd.prog 25 = false := by kernel_rfl
theorem nf26 : noisyF Tryd.prog 26 = false := by kernel_rfl
theorem nf27 : noisyF Tryd.prog 27 = false := by kernel_rfl
theorem nf28 : noisyF Tryd.prog 28 = false := by kernel_rfl
theorem nf29 : noisyF Tryd.prog 29 = false := by kernel_rfl
theorem nf30 : noisyF Tryd.prog 30 = false := by kernel_rfl
theorem nf31 : noisyF Tryd.prog 31 = false := by kernel_rfl
theorem nf32 : noisyF Tryd.prog 32 = true := by kernel_rfl
theorem nf33 : noisyF Tryd.prog 33 = true := by kernel_rfl
theorem nf34 : noisyF Tryd.prog 34 = false := by kernel_rfl
theorem nf35 : noisyF Tryd.prog 35 = false := by kernel_rfl
theorem nf36 : noisyF Tryd.prog 36 = false := by kernel_rfl
theorem nf37 : noisyF Tryd.prog 37 = false := by kernel_rfl
theorem nf38 : noisyF Tryd.prog 38 = false := by kernel_rfl
theorem nf39 : noisyF Tryd.prog 39 = false := by kernel_rfl
theorem nf40 : noisyF Tryd.prog 40 = true := by kernel_rfl
theorem nf41 : noisyF Tryd.prog 41 = false := by kernel_rfl
theorem nf42 : noisyF Tryd.prog 42 = false := by kernel_rfl
theorem nf43 : noisyF Tryd.prog 43 = false := by kernel_rfl
theorem nf44 : noisyF Tryd.prog 44 = false := by kernel_rfl
theorem nf45 : noisyF Tryd.prog 45 = false := by kernel_rfl
theorem nf46 : noisyF Tryd.prog 46 = false := by kernel_rfl
theorem nf47 : noisyF Tryd.prog 47 = false := by kernel_rfl
theorem nf49 : noisyF Tryd.prog 49 = false := by kernel_rfl
theorem nf50 : noisyF Tryd.prog 50 = false := by kernel_rfl
theorem nf51 : noisyF Tryd.prog 51 = false := by kernel_rfl
theorem nf52 : noisyF Tryd.prog 52 = false := by kernel_rfl
theorem nf53 : noisyF Tryd.prog 53 = false := by kernel_rfl
theorem nf57 : noisyF Tryd.prog 57 = false := by kernel_rfl
theorem nf58 : noisyF Tryd.prog 58 = false := by kernel_rfl
theorem nf60 : noisyF Tryd.prog 60 = false := by kernel_rfl
theorem nf61 : noisyF Tryd.prog 61 = false := by kernel_rfl
theorem nf62 : noisyF Tryd.prog 62 = false := by kernel_rfl
theorem nf63 : noisyF Tryd.prog 63 = false := by kernel_rfl
theorem nf64 : noisyF Tryd.prog 64 = false := by kernel_rfl
theorem nf67 : noisyF Tryd.prog 67 = false := by kernel_rfl
theorem nf68 : noisyF Tryd.prog 68 = false := by kernel_rfl
theorem nf69 : noisyF Tryd.prog 69 = false := by kernel_rfl
theorem nf70 : noisyF Tryd.prog 70 = false := by kernel_rfl
theorem nf86 : noisyF Tryd.prog 86 = true := by kernel_rfl
theorem nf87 : noisyF Tryd.prog 87 = false := by kernel_rfl
theorem nf88 : noisyF Tryd.prog 88 = true := by kernel_rfl
theorem nf92 : noisyF Tryd.prog 92 = false := by kernel_rfl
theorem nf93 : noisyF Tryd.prog 93 = false := by kernel_rfl
theorem nf94 : noisyF Tryd.prog 94 = false := by kernel_rfl
theorem nf95 : noisyF Tryd.prog 95 = false := by kernel_rfl
theorem nf96 : noisyF Tryd.prog 96 = false := by kernel_rfl
theorem good5 : (callable Tryd.prog 5 && tmpsOnly Tryd.f5 && decide (1 ≤ Tryd.f5.ntmps) && (match Tryd.f5.body with | some c => goodC Tryd.prog Tryd.f5.ntmps c | none => false)) = true := by kernel_rfl
theorem good7 : (callable Tryd.prog 7 && tmpsOnly Tryd.f7 && decide (2 ≤ Tryd.f7.ntmps) && (match Tryd.f7.body with | some c => goodC Tryd.prog Tryd.f7.ntmps c | none => false)) = true := by kernel_rfl
theorem good8 : (callable Tryd.prog 8 && tmpsOnly Tryd.f8 && decide (1 ≤ Tryd.f8.ntmps) && (match Tryd.f8.body with | some c => goodC Tryd.prog Tryd.f8.ntmps c | none => false)) = true := by kernel_rfl
theorem goodc9 : (callable Tryd.prog 9 && Tryd.f9.results.toList.all (rok Tryd.prog) && decide (1 ≤ Tryd.f9.ntmps) && (match Tryd.f9.body with | some c => goodC Tryd.prog Tryd.f9.ntmps c | none => false)) = true := by kernel_rfl
theorem good10 : (callable Tryd.prog 10 && tmpsOnly Tryd.f10 && decide (1 ≤ Tryd.f10.ntmps) && (match Tryd.f10.body with | some c => goodC Tryd.prog Tryd.f10.ntmps c | none => false)) = true := by kernel_rfl
theorem good13 : (callable Tryd.prog 13 && tmpsOnly Tryd.f13 && decide (2 ≤ Tryd.f13.ntmps) && (match Tryd.f13.body with | some c => goodC Tryd.prog Tryd.f13.ntmps c | none => false)) = true := by kernel_rfl
theorem good14 : (callable Tryd.prog 14 && tmpsOnly Tryd.f14 && decide (2 ≤ Tryd.f14.ntmps) && (match Tryd.f14.body with | some c => goodC Tryd.prog Tryd.f14.ntmps c | none => false)) = true := by kernel_rfl
theorem good15 : (callable Tryd.prog 15 && tmpsOnly Tryd.f15 && decide (1 ≤ Tryd.f15.ntmps) && (match Tryd.f15.body with | some c => goodC Tryd.prog Tryd.f15.ntmps c | none => false)) = true := by kernel_rfl
theorem good16 : (callable Tryd.prog 16 && tmpsOnly Tryd.f16 && decide (1 ≤ Tryd.f16.ntmps) && (match Tryd.f16.body with | some c => goodC Tryd.prog Tryd.f16.ntmps c | none => false)) = true := by kernel_rfl
theorem good18 : (callable Tryd.prog 18 && tmpsOnly Tryd.f18 && decide (2 ≤ Tryd.f18.ntmps) && (match Tryd.f18.body with | some c => goodC Tryd.prog Tryd.f18.ntmps c | none => false)) = true := by kernel_rfl
theorem good23 : (callable Tryd.prog 23 && tmpsOnly Tryd.f23 && decide (3 ≤ Tryd.f23.ntmps) && (match Tryd.f23.body with | some c => goodC Tryd.prog Tryd.f23.ntmps c | none => false)) = true := by kernel_rfl
theorem good24 : (callable Tryd.prog 24 && tmpsOnly Tryd.f24 && decide (1 ≤ Tryd.f24.ntmps) && (match Tryd.f24.body with | some c => goodC Tryd.prog Tryd.f24.ntmps c | none => false)) = true := by kernel_rfl
theorem good25 : (callable Tryd.prog 25 && tmpsOnly Tryd.f25 && decide (1 ≤ Tryd.f25.ntmps) && (match Tryd.f25.body with | some c => goodC Tryd.prog Tryd.f25.ntmps c | none => false)) = true := by kernel_rfl
theorem good27 : (callable Tryd.prog 27 && tmpsOnly Tryd.f27 && decide (1 ≤ Tryd.f27.ntmps) && (match Tryd.f27.body with | some c => goodC Tryd.prog Tryd.f27.ntmps c | none => false)) = true := by kernel_rfl
theorem good36 : (callable Tryd.prog 36 && tmpsOnly Tryd.f36 && decide (1 ≤ Tryd.f36.ntmps) && (match Tryd.f36.body with | some c => goodC Tryd.prog Tryd.f36.ntmps c | none => false)) = true := by kernel_rfl
abbrev chr (n : Nat) : Char := Char.ofNat n
set_option maxRecDepth 20000 in
theorem initS : Tryd.prog.initOrder.toList = [chr 104, chr 97, chr 114, chr 110, chr 101, chr 115, chr 115, chr 32, chr 98, chr 50, chr 52, chr 98, chr 51, chr 101, chr 100, chr 100, chr 56, chr 52, chr 101, chr 53, chr 51, chr 50, chr 101, chr 51, chr 48, chr 98, chr 101, chr 50, chr 54, chr 56, chr 101, chr 52, chr 50, chr 52, chr 101, chr 54, chr 56, chr 99, chr 97, chr 53, chr 101, chr 100, chr 100, chr 55, chr 101, chr 56, chr 100, chr 97, chr 56, chr 101, chr 49, chr 99, chr 100, chr 53, chr 54, chr 97, chr 52, chr 100, chr 97, chr 100, chr 50, chr 55, chr 100, chr 97, chr 48, chr 54, chr 48, chr 49, chr 97, chr 52, chr 99, chr 48, chr 32, chr 99, chr 117, chr 116, chr 32, chr 97, chr 116, chr 32, chr 108, chr 111, chr 111, chr 112, chr 46, chr 101, chr 120, chr 97, chr 109, chr 112, chr 108, chr 101, chr 47, chr 99, chr 105, chr 114, chr 99, chr 117, chr 105, chr 116, chr 115, chr 119, chr 105, chr 116, chr 99, chr 104, chr 105, chr 110, chr 103, chr 47, chr 108, chr 97, chr 119, chr 115, chr 46, chr 70, chr 110, chr 69, chr 120, chr 97, chr 99, chr 116, chr 68, chr 101, chr 101, chr 100, chr 84, chr 101, chr 120, chr 116, chr 32, chr 108, chr 111, chr 111, chr 112, chr 46, chr 101, chr 120, chr 97, chr 109, chr 112, chr 108, chr 101, chr 47, chr 99, chr 105, chr 114, chr 99, chr 117, chr 105, chr 116, chr 115, chr 119, chr 105, chr 116, chr 99, chr 104, chr 105, chr 110, chr 103, chr 47, chr 108, chr 97, chr 119, chr 115, chr 46, chr 70, chr 110, chr 69, chr 120, chr 97, chr 99, chr 116, chr 82, chr 101, chr 97, chr 100, chr 68, chr 101, chr 101, chr 100, chr 32, chr 108, chr 111, chr 111, chr 112, chr 46, chr 101, chr 120, chr 97, chr 109, chr 112, chr 108, chr 101, chr 47, chr 99, chr 105, chr 114, chr 99, chr 117, chr 105, chr 116, chr 115, chr 119, chr 105, chr 116, chr 99, chr 104, chr 105, chr 110, chr 103, chr 47, chr 108, chr 97, chr 119, chr 115, chr 46, chr 70, chr 110, chr 69, chr 120, chr 97, chr 99, chr 116, chr 74, chr 111, chr 117, chr 114, chr 110, chr 97, chr 108, chr 84, chr 101, chr 120, chr 116, chr 32, chr 108, chr 111, chr 111, chr 112, chr 46, chr 101, chr 120, chr 97, chr 109, chr 112, chr 108, chr 101, chr 47, chr 99, chr 105, chr 114, chr 99, chr 117, chr 105, chr 116, chr 115, chr 119, chr 105, chr 116, chr 99, chr 104, chr 105, chr 110, chr 103, chr 47, chr 108, chr 97, chr 119, chr 115, chr 46, chr 70, chr 110, chr 69, chr 120, chr 97, chr 99, chr 116, chr 82, chr 101, chr 97, chr 100, chr 74, chr 111, chr 117, chr 114, chr 110, chr 97, chr 108] := by
  rw [show Tryd.prog.initOrder = String.ofList [chr 104, chr 97, chr 114, chr 110, chr 101, chr 115, chr 115, chr 32, chr 98, chr 50, chr 52, chr 98, chr 51, chr 101, chr 100, chr 100, chr 56, chr 52, chr 101, chr 53, chr 51, chr 50, chr 101, chr 51, chr 48, chr 98, chr 101, chr 50, chr 54, chr 56, chr 101, chr 52, chr 50, chr 52, chr 101, chr 54, chr 56, chr 99, chr 97, chr 53, chr 101, chr 100, chr 100, chr 55, chr 101, chr 56, chr 100, chr 97, chr 56, chr 101, chr 49, chr 99, chr 100, chr 53, chr 54, chr 97, chr 52, chr 100, chr 97, chr 100, chr 50, chr 55, chr 100, chr 97, chr 48, chr 54, chr 48, chr 49, chr 97, chr 52, chr 99, chr 48, chr 32, chr 99, chr 117, chr 116, chr 32, chr 97, chr 116, chr 32, chr 108, chr 111, chr 111, chr 112, chr 46, chr 101, chr 120, chr 97, chr 109, chr 112, chr 108, chr 101, chr 47, chr 99, chr 105, chr 114, chr 99, chr 117, chr 105, chr 116, chr 115, chr 119, chr 105, chr 116, chr 99, chr 104, chr 105, chr 110, chr 103, chr 47, chr 108, chr 97, chr 119, chr 115, chr 46, chr 70, chr 110, chr 69, chr 120, chr 97, chr 99, chr 116, chr 68, chr 101, chr 101, chr 100, chr 84, chr 101, chr 120, chr 116, chr 32, chr 108, chr 111, chr 111, chr 112, chr 46, chr 101, chr 120, chr 97, chr 109, chr 112, chr 108, chr 101, chr 47, chr 99, chr 105, chr 114, chr 99, chr 117, chr 105, chr 116, chr 115, chr 119, chr 105, chr 116, chr 99, chr 104, chr 105, chr 110, chr 103, chr 47, chr 108, chr 97, chr 119, chr 115, chr 46, chr 70, chr 110, chr 69, chr 120, chr 97, chr 99, chr 116, chr 82, chr 101, chr 97, chr 100, chr 68, chr 101, chr 101, chr 100, chr 32, chr 108, chr 111, chr 111, chr 112, chr 46, chr 101, chr 120, chr 97, chr 109, chr 112, chr 108, chr 101, chr 47, chr 99, chr 105, chr 114, chr 99, chr 117, chr 105, chr 116, chr 115, chr 119, chr 105, chr 116, chr 99, chr 104, chr 105, chr 110, chr 103, chr 47, chr 108, chr 97, chr 119, chr 115, chr 46, chr 70, chr 110, chr 69, chr 120, chr 97, chr 99, chr 116, chr 74, chr 111, chr 117, chr 114, chr 110, chr 97, chr 108, chr 84, chr 101, chr 120, chr 116, chr 32, chr 108, chr 111, chr 111, chr 112, chr 46, chr 101, chr 120, chr 97, chr 109, chr 112, chr 108, chr 101, chr 47, chr 99, chr 105, chr 114, chr 99, chr 117, chr 105, chr 116, chr 115, chr 119, chr 105, chr 116, chr 99, chr 104, chr 105, chr 110, chr 103, chr 47, chr 108, chr 97, chr 119, chr 115, chr 46, chr 70, chr 110, chr 69, chr 120, chr 97, chr 99, chr 116, chr 82, chr 101, chr 97, chr 100, chr 74, chr 111, chr 117, chr 114, chr 110, chr 97, chr 108] from by kernel_rfl, String.toList_ofList]
set_option maxRecDepth 20000 in
theorem behind : behindMainWord (wordsSigns Tryd.prog.initOrder.toList) = cutW :: [[chr 97, chr 116], [chr 108, chr 111, chr 111, chr 112, chr 46, chr 101, chr 120, chr 97, chr 109, chr 112, chr 108, chr 101, chr 47, chr 99, chr 105, chr 114, chr 99, chr 117, chr 105, chr 116, chr 115, chr 119, chr 105, chr 116, chr 99, chr 104, chr 105, chr 110, chr 103, chr 47, chr 108, chr 97, chr 119, chr 115, chr 46, chr 70, chr 110, chr 69, chr 120, chr 97, chr 99, chr 116, chr 68, chr 101, chr 101, chr 100, chr 84, chr 101, chr 120, chr 116], [chr 108, chr 111, chr 111, chr 112, chr 46, chr 101, chr 120, chr 97, chr 109, chr 112, chr 108, chr 101, chr 47, chr 99, chr 105, chr 114, chr 99, chr 117, chr 105, chr 116, chr 115, chr 119, chr 105, chr 116, chr 99, chr 104, chr 105, chr 110, chr 103, chr 47, chr 108, chr 97, chr 119, chr 115, chr 46, chr 70, chr 110, chr 69, chr 120, chr 97, chr 99, chr 116, chr 82, chr 101, chr 97, chr 100, chr 68, chr 101, chr 101, chr 100], [chr 108, chr 111, chr 111, chr 112, chr 46, chr 101, chr 120, chr 97, chr 109, chr 112, chr 108, chr 101, chr 47, chr 99, chr 105, chr 114, chr 99, chr 117, chr 105, chr 116, chr 115, chr 119, chr 105, chr 116, chr 99, chr 104, chr 105, chr 110, chr 103, chr 47, chr 108, chr 97, chr 119, chr 115, chr 46, chr 70, chr 110, chr 69, chr 120, chr 97, chr 99, chr 116, chr 74, chr 111, chr 117, chr 114, chr 110, chr 97, chr 108, chr 84, chr 101, chr 120, chr 116], [chr 108, chr 111, chr 111, chr 112, chr 46, chr 101, chr 120, chr 97, chr 109, chr 112, chr 108, chr 101, chr 47, chr 99, chr 105, chr 114, chr 99, chr 117, chr 105, chr 116, chr 115, chr 119, chr 105, chr 116, chr 99, chr 104, chr 105, chr 110, chr 103, chr 47, chr 108, chr 97, chr 119, chr 115, chr 46, chr 70, chr 110, chr 69, chr 120, chr 97, chr 99, chr 116, chr 82, chr 101, chr 97, chr 100, chr 74, chr 111, chr 117, chr 114, chr 110, chr 97, chr 108]] := by
  rw [initS]; kernel_rfl
theorem mayE : Tryd.prog.mayEnter = true := may_of behind (by kernel_rfl) (by kernel_rfl) (by kernel_rfl)
theorem liftsE : Tryd.prog.liftsFinal = false := lifts_of behind
theorem makeE : Tryd.prog.make = some .cut := mk_of behind
theorem vcu0 : type_of% (And.intro (And.intro (And.intro (And.intro (@decide_true) (@decide_false)) (And.intro (@Bool.or_false) (@Bool.or_true))) (And.intro (And.intro (@Bool.false_or) (@Bool.true_or)) (And.intro (@noisy_nil) (@nq_move)))) (And.intro (And.intro (And.intro (@nq_assign) (@nq_pick)) (And.intro (@nq_binOp) (@nq_unOp))) (And.intro (And.intro (@nq_convert) (@nq_nilCheck)) (And.intro (@nq_indexAddr) (@nq_index))))) := (And.intro (And.intro (And.intro (And.intro (@decide_true) (@decide_false)) (And.intro (@Bool.or_false) (@Bool.or_true))) (And.intro (And.intro (@Bool.false_or) (@Bool.true_or)) (And.intro (@noisy_nil) (@nq_move)))) (And.intro (And.intro (And.intro (@nq_assign) (@nq_pick)) (And.intro (@nq_binOp) (@nq_unOp))) (And.intro (And.intro (@nq_convert) (@nq_nilCheck)) (And.intro (@nq_indexAddr) (@nq_index)))))
theorem vcu1 : type_of% (And.intro (And.intro (And.intro (And.intro (@nq_load) (@nq_field)) (And.intro (@nq_fieldAddr) (@nq_extract))) (And.intro (And.intro (@nq_build) (@nq_makeFunc)) (And.intro (@nq_slice) (@nq_len)))) (And.intro (And.intro (And.intro (@nq_min) (@nq_max)) (And.intro (@nq_call) (@nl_callv))) (And.intro (And.intro (@nl_append) (@nl_copy)) (And.intro (@nl_clear) (@nl_alloc))))) := (And.intro (And.intro (And.intro (And.intro (@nq_load) (@nq_field)) (And.intro (@nq_fieldAddr) (@nq_extract))) (And.intro (And.intro (@nq_build) (@nq_makeFunc)) (And.intro (@nq_slice) (@nq_len)))) (And.intro (And.intro (And.intro (@nq_min) (@nq_max)) (And.intro (@nq_call) (@nl_callv))) (And.intro (And.intro (@nl_append) (@nl_copy)) (And.intro (@nl_clear) (@nl_alloc)))))
theorem vcu2 : type_of% (And.intro (And.intro (And.intro (And.intro (@nl_box) (@nl_store)) (And.intro (@nl_makeSlice) (@nl_buildSlice))) (And.intro (And.intro (@nl_slice3) (@bindO_some)) (And.intro (@bindI_some) (@bindS_some)))) (And.intro (And.intro (And.intro (@pickR_yes) (@pickR_no)) (And.intro (@pickR_tt) (@pickR_ff))) (And.intro (And.intro (@gvb_some) (@vb_bool)) (And.intro (@vb_undef) (@gslot_zero))))) := (And.intro (And.intro (And.intro (And.intro (@nl_box) (@nl_store)) (And.intro (@nl_makeSlice) (@nl_buildSlice))) (And.intro (And.intro (@nl_slice3) (@bindO_some)) (And.intro (@bindI_some) (@bindS_some)))) (And.intro (And.intro (And.intro (@pickR_yes) (@pickR_no)) (And.intro (@pickR_tt) (@pickR_ff))) (And.intro (And.intro (@gvb_some) (@vb_bool)) (And.intro (@vb_undef) (@gslot_zero)))))
theorem vcu3 : type_of% (And.intro (And.intro (And.intro (And.intro (@gslot_succ) (@guardR_tt)) (And.intro (@guardR_ff) (@guardR_tf))) (And.intro (And.intro (@guardR_ft) (@guardR_nt)) (And.intro (@guardR_pt) (@guardR_pf)))) (And.intro (And.intro (And.intro (@guardR_nT) (@guardR_nF)) (And.intro (@aput_some) (@aput_none))) (And.intro (And.intro (@condR_true) (@condR_false)) (And.intro (@condR_yes) (@condR_no))))) := (And.intro (And.intro (And.intro (And.intro (@gslot_succ) (@guardR_tt)) (And.intro (@guardR_ff) (@guardR_tf))) (And.intro (And.intro (@guardR_ft) (@guardR_nt)) (And.intro (@guardR_pt) (@guardR_pf)))) (And.intro (And.intro (And.intro (@guardR_nT) (@guardR_nF)) (And.intro (@aput_some) (@aput_none))) (And.intro (And.intro (@condR_true) (@condR_false)) (And.intro (@condR_yes) (@condR_no)))))
theorem vcu4 : type_of% (And.intro (And.intro (And.intro (And.intro (@condR_not) (@Bool.not_true)) (And.intro (@Bool.not_false) (@ev_const))) (And.intro (And.intro (@ev_tmp) (@ev_func)) (And.intro (@fset_app) (@abin_add)))) (And.intro (And.intro (And.intro (@abin_sub) (@abin_mul)) (And.intro (@abin_quo) (@abin_rem))) (And.intro (And.intro (@abin_eql) (@abin_neq)) (And.intro (@abin_lss) (@abin_leq))))) := (And.intro (And.intro (And.intro (And.intro (@condR_not) (@Bool.not_true)) (And.intro (@Bool.not_false) (@ev_const))) (And.intro (And.intro (@ev_tmp) (@ev_func)) (And.intro (@fset_app) (@abin_add)))) (And.intro (And.intro (And.intro (@abin_sub) (@abin_mul)) (And.intro (@abin_quo) (@abin_rem))) (And.intro (And.intro (@abin_eql) (@abin_neq)) (And.intro (@abin_lss) (@abin_leq)))))
theorem vcu5 : type_of% (And.intro (And.intro (And.intro (And.intro (@abin_gtr) (@abin_geq)) (And.intro (@abin_seql) (@abin_sneq))) (And.intro (And.intro (@abin_sadd) (@bindX_some)) (And.intro (@tx_nil) (@tx_empty)))) (And.intro (And.intro (And.intro (@aun_not) (@aun_neg)) (And.intro (@aconvH_int) (@amin_two))) (And.intro (And.intro (@amax_two) (@anil_ptr)) (And.intro (@aextract_tuple) (@dec_true))))) := (And.intro (And.intro (And.intro (And.intro (@abin_gtr) (@abin_geq)) (And.intro (@abin_seql) (@abin_sneq))) (And.intro (And.intro (@abin_sadd) (@bindX_some)) (And.intro (@tx_nil) (@tx_empty)))) (And.intro (And.intro (And.intro (@aun_not) (@aun_neg)) (And.intro (@aconvH_int) (@amin_two))) (And.intro (And.intro (@amax_two) (@anil_ptr)) (And.intro (@aextract_tuple) (@dec_true)))))
theorem vcu6 : type_of% (And.intro (And.intro (And.intro (And.intro (@dec_false) (@Nat.mul_one)) (And.intro (@Int.toNat_natCast) (@not_not_p))) (And.intro (And.intro (@aenter_zero) (@aenter_succ)) (And.intro (abin_beql' bo4) (abin_bneq' bo4)))) (And.intro (And.intro (And.intro (alenV_tx' Tryd.underlying9) (aslice_thi' Tryd.underlying9)) (And.intro (aslice_tlo' Tryd.underlying9) (aslice_tlohi' Tryd.underlying9))) (And.intro (And.intro (alenV_tx' Tryd.underlying10) (aslice_thi' Tryd.underlying10)) (And.intro (aslice_tlo' Tryd.underlying10) (aslice_tlohi' Tryd.underlying10))))) := (And.intro (And.intro (And.intro (And.intro (@dec_false) (@Nat.mul_one)) (And.intro (@Int.toNat_natCast) (@not_not_p))) (And.intro (And.intro (@aenter_zero) (@aenter_succ)) (And.intro (abin_beql' bo4) (abin_bneq' bo4)))) (And.intro (And.intro (And.intro (alenV_tx' Tryd.underlying9) (aslice_thi' Tryd.underlying9)) (And.intro (aslice_tlo' Tryd.underlying9) (aslice_tlohi' Tryd.underlying9))) (And.intro (And.intro (alenV_tx' Tryd.underlying10) (aslice_thi' Tryd.underlying10)) (And.intro (aslice_tlo' Tryd.underlying10) (aslice_tlohi' Tryd.underlying10)))))
theorem vcu7 : type_of% (And.intro (And.intro (And.intro (And.intro (alenV_tx' Tryd.underlying11) (aslice_thi' Tryd.underlying11)) (And.intro (aslice_tlo' Tryd.underlying11) (aslice_tlohi' Tryd.underlying11))) (And.intro (And.intro (@fl22_0) (@fl22_1)) (And.intro (@fl22_2) (@fv22_0)))) (And.intro (And.intro (And.intro (@fv22_1) (@fv22_2)) (And.intro (@fl23_0) (@fl23_1))) (And.intro (And.intro (@fl23_2) (@fv23_0)) (And.intro (@fv23_1) (@fv23_2))))) := (And.intro (And.intro (And.intro (And.intro (alenV_tx' Tryd.underlying11) (aslice_thi' Tryd.underlying11)) (And.intro (aslice_tlo' Tryd.underlying11) (aslice_tlohi' Tryd.underlying11))) (And.intro (And.intro (@fl22_0) (@fl22_1)) (And.intro (@fl22_2) (@fv22_0)))) (And.intro (And.intro (And.intro (@fv22_1) (@fv22_2)) (And.intro (@fl23_0) (@fl23_1))) (And.intro (And.intro (@fl23_2) (@fv23_0)) (And.intro (@fv23_1) (@fv23_2)))))
theorem vcu8 : type_of% (And.intro (And.intro (And.intro (And.intro (@fl26_0) (@fl26_1)) (And.intro (@fl26_2) (@fv26_0))) (And.intro (And.intro (@fv26_1) (@fv26_2)) (And.intro (alenV_slice' Tryd.underlying33) (aidx_slice' Tryd.underlying33 co23)))) (And.intro (And.intro (And.intro (@esz33) (aslice_hi' Tryd.underlying33 co23)) (And.intro (aslice_lo' Tryd.underlying33 co23) (aslice_lohi' Tryd.underlying33 co23))) (And.intro (And.intro (aslice_nhi' Tryd.underlying33) (aslice_nlo' Tryd.underlying33)) (And.intro (aslice_nlohi' Tryd.underlying33) (alenV_slice' Tryd.underlying36))))) := (And.intro (And.intro (And.intro (And.intro (@fl26_0) (@fl26_1)) (And.intro (@fl26_2) (@fv26_0))) (And.intro (And.intro (@fv26_1) (@fv26_2)) (And.intro (alenV_slice' Tryd.underlying33) (aidx_slice' Tryd.underlying33 co23)))) (And.intro (And.intro (And.intro (@esz33) (aslice_hi' Tryd.underlying33 co23)) (And.intro (aslice_lo' Tryd.underlying33 co23) (aslice_lohi' Tryd.underlying33 co23))) (And.intro (And.intro (aslice_nhi' Tryd.underlying33) (aslice_nlo' Tryd.underlying33)) (And.intro (aslice_nlohi' Tryd.underlying33) (alenV_slice' Tryd.underlying36)))))
theorem vcu9 : type_of% (And.intro (And.intro (And.intro (And.intro (aidx_slice' Tryd.underlying36 co26) (@esz36)) (And.intro (aslice_hi' Tryd.underlying36 co26) (aslice_lo' Tryd.underlying36 co26))) (And.intro (And.intro (aslice_lohi' Tryd.underlying36 co26) (aslice_nhi' Tryd.underlying36)) (And.intro (aslice_nlo' Tryd.underlying36) (aslice_nlohi' Tryd.underlying36)))) (And.intro (And.intro (And.intro (alenV_slice' Tryd.underlying44) (aidx_slice' Tryd.underlying44 co9)) (And.intro (@esz44) (aslice_hi' Tryd.underlying44 co9))) (And.intro (And.intro (aslice_lo' Tryd.underlying44 co9) (aslice_lohi' Tryd.underlying44 co9)) (And.intro (aslice_nhi' Tryd.underlying44) (aslice_nlo' Tryd.underlying44))))) := (And.intro (And.intro (And.intro (And.intro (aidx_slice' Tryd.underlying36 co26) (@esz36)) (And.intro (aslice_hi' Tryd.underlying36 co26) (aslice_lo' Tryd.underlying36 co26))) (And.intro (And.intro (aslice_lohi' Tryd.underlying36 co26) (aslice_nhi' Tryd.underlying36)) (And.intro (aslice_nlo' Tryd.underlying36) (aslice_nlohi' Tryd.underlying36)))) (And.intro (And.intro (And.intro (alenV_slice' Tryd.underlying44) (aidx_slice' Tryd.underlying44 co9)) (And.intro (@esz44) (aslice_hi' Tryd.underlying44 co9))) (And.intro (And.intro (aslice_lo' Tryd.underlying44 co9) (aslice_lohi' Tryd.underlying44 co9)) (And.intro (aslice_nhi' Tryd.underlying44) (aslice_nlo' Tryd.underlying44)))))
theorem vcu10 : type_of% (And.intro (And.intro (And.intro (And.intro (aslice_nlohi' Tryd.underlying44) (alenV_slice' Tryd.underlying54)) (And.intro (aidx_slice' Tryd.underlying54 co3) (@esz54))) (And.intro (And.intro (aslice_hi' Tryd.underlying54 co3) (aslice_lo' Tryd.underlying54 co3)) (And.intro (aslice_lohi' Tryd.underlying54 co3) (aslice_nhi' Tryd.underlying54)))) (And.intro (And.intro (And.intro (aslice_nlo' Tryd.underlying54) (aslice_nlohi' Tryd.underlying54)) (And.intro (alenV_slice' Tryd.underlying56) (aidx_slice' Tryd.underlying56 co5))) (And.intro (And.intro (@esz56) (aslice_hi' Tryd.underlying56 co5)) (And.intro (aslice_lo' Tryd.underlying56 co5) (aslice_lohi' Tryd.underlying56 co5))))) := (And.intro (And.intro (And.intro (And.intro (aslice_nlohi' Tryd.underlying44) (alenV_slice' Tryd.underlying54)) (And.intro (aidx_slice' Tryd.underlying54 co3) (@esz54))) (And.intro (And.intro (aslice_hi' Tryd.underlying54 co3) (aslice_lo' Tryd.underlying54 co3)) (And.intro (aslice_lohi' Tryd.underlying54 co3) (aslice_nhi' Tryd.underlying54)))) (And.intro (And.intro (And.intro (aslice_nlo' Tryd.underlying54) (aslice_nlohi' Tryd.underlying54)) (And.intro (alenV_slice' Tryd.underlying56) (aidx_slice' Tryd.underlying56 co5))) (And.intro (And.intro (@esz56) (aslice_hi' Tryd.underlying56 co5)) (And.intro (aslice_lo' Tryd.underlying56 co5) (aslice_lohi' Tryd.underlying56 co5)))))
theorem vcu11 : type_of% (And.intro (And.intro (And.intro (And.intro (aslice_nhi' Tryd.underlying56) (aslice_nlo' Tryd.underlying56)) (And.intro (aslice_nlohi' Tryd.underlying56) (aidx_array' Tryd.underlying72 co5))) (And.intro (And.intro (@esz72) (aidx_array' Tryd.underlying88 co73)) (And.intro (@esz88) (aidx_array' Tryd.underlying90 co5)))) (And.intro (And.intro (And.intro (@esz90) (aidx_array' Tryd.underlying100 co5)) (And.intro (@esz100) (aidx_array' Tryd.underlying101 co5))) (And.intro (And.intro (@esz101) (aidx_array' Tryd.underlying104 co16)) (And.intro (@esz104) (@pt0))))) := (And.intro (And.intro (And.intro (And.intro (aslice_nhi' Tryd.underlying56) (aslice_nlo' Tryd.underlying56)) (And.intro (aslice_nlohi' Tryd.underlying56) (aidx_array' Tryd.underlying72 co5))) (And.intro (And.intro (@esz72) (aidx_array' Tryd.underlying88 co73)) (And.intro (@esz88) (aidx_array' Tryd.underlying90 co5)))) (And.intro (And.intro (And.intro (@esz90) (aidx_array' Tryd.underlying100 co5)) (And.intro (@esz100) (aidx_array' Tryd.underlying101 co5))) (And.intro (And.intro (@esz101) (aidx_array' Tryd.underlying104 co16)) (And.intro (@esz104) (@pt0)))))
theorem vcu12 : type_of% (And.intro (And.intro (And.intro (And.intro (@pt1) (@pt2)) (And.intro (@pt3) (@pt4))) (And.intro (And.intro (@pt5) (@pt6)) (And.intro (@pt9) (@pt10)))) (And.intro (And.intro (And.intro (@pt11) (@pt12)) (And.intro (@pt15) (@pt16))) (And.intro (And.intro (@pt17) (@pt20)) (And.intro (@pt21) (@pt22))))) := (And.intro (And.intro (And.intro (And.intro (@pt1) (@pt2)) (And.intro (@pt3) (@pt4))) (And.intro (And.intro (@pt5) (@pt6)) (And.intro (@pt9) (@pt10)))) (And.intro (And.intro (And.intro (@pt11) (@pt12)) (And.intro (@pt15) (@pt16))) (And.intro (And.intro (@pt17) (@pt20)) (And.intro (@pt21) (@pt22)))))
theorem vcu13 : type_of% (And.intro (And.intro (And.intro (And.intro (@pt23) (@pt24)) (And.intro (@pt25) (@pt26))) (And.intro (And.intro (@pt27) (@pt28)) (And.intro (@pt29) (@pt30)))) (And.intro (And.intro (And.intro (@pt31) (@pt32)) (And.intro (@pt33) (@pt34))) (And.intro (And.intro (@pt35) (@pt36)) (And.intro (@pt37) (@pt38))))) := (And.intro (And.intro (And.intro (And.intro (@pt23) (@pt24)) (And.intro (@pt25) (@pt26))) (And.intro (And.intro (@pt27) (@pt28)) (And.intro (@pt29) (@pt30)))) (And.intro (And.intro (And.intro (@pt31) (@pt32)) (And.intro (@pt33) (@pt34))) (And.intro (And.intro (@pt35) (@pt36)) (And.intro (@pt37) (@pt38)))))
theorem vcu14 : type_of% (And.intro (And.intro (And.intro (And.intro (@pt39) (@pt40)) (And.intro (@pt41) (@pt42))) (And.intro (And.intro (@pt43) (@pt44)) (And.intro (@pt45) (@pt46)))) (And.intro (And.intro (And.intro (@pt47) (@pt48)) (And.intro (@pt49) (@pt50))) (And.intro (And.intro (@pt51) (@pt52)) (And.intro (@pt53) (@pt54))))) := (And.intro (And.intro (And.intro (And.intro (@pt39) (@pt40)) (And.intro (@pt41) (@pt42))) (And.intro (And.intro (@pt43) (@pt44)) (And.intro (@pt45) (@pt46)))) (And.intro (And.intro (And.intro (@pt47) (@pt48)) (And.intro (@pt49) (@pt50))) (And.intro (And.intro (@pt51) (@pt52)) (And.intro (@pt53) (@pt54)))))
theorem vcu15 : type_of% (And.intro (And.intro (And.intro (And.intro (@pt55) (@pt56)) (And.intro (@pt59) (@pt60))) (And.intro (And.intro (@pt61) (@pt62)) (And.intro (@pt63) (@pt64)))) (And.intro (And.intro (And.intro (@pt65) (@pt66)) (And.intro (@pt67) (@pt68))) (And.intro (And.intro (@pt69) (@pt70)) (And.intro (@pt71) (@pt72))))) := (And.intro (And.intro (And.intro (And.intro (@pt55) (@pt56)) (And.intro (@pt59) (@pt60))) (And.intro (And.intro (@pt61) (@pt62)) (And.intro (@pt63) (@pt64)))) (And.intro (And.intro (And.intro (@pt65) (@pt66)) (And.intro (@pt67) (@pt68))) (And.intro (And.intro (@pt69) (@pt70)) (And.intro (@pt71) (@pt72)))))
theorem vcu16 : type_of% (And.intro (And.intro (And.intro (And.intro (@pt73) (@pt74)) (And.intro (@pt75) (@pt76))) (And.intro (And.intro (@pt77) (@pt78)) (And.intro (@pt79) (@pt80)))) (And.intro (And.intro (And.intro (@pt81) (@pt82)) (And.intro (@pt83) (@pt86))) (And.intro (And.intro (@pt87) (@pt88)) (And.intro (@pt89) (@pt90))))) := (And.intro (And.intro (And.intro (And.intro (@pt73) (@pt74)) (And.intro (@pt75) (@pt76))) (And.intro (And.intro (@pt77) (@pt78)) (And.intro (@pt79) (@pt80)))) (And.intro (And.intro (And.intro (@pt81) (@pt82)) (And.intro (@pt83) (@pt86))) (And.intro (And.intro (@pt87) (@pt88)) (And.intro (@pt89) (@pt90)))))
theorem vcu17 : type_of% (And.intro (And.intro (And.intro (And.intro (@pt91) (@pt92)) (And.intro (@pt93) (@pt94))) (And.intro (And.intro (@pt95) (@pt96)) (And.intro (@pt99) (@pt100)))) (And.intro (And.intro (And.intro (@pt101) (@pt104)) (And.intro (@pt107) (@pt108))) (And.intro (And.intro (@pt109) (@pt110)) (And.intro (@pt111) (@pt112))))) := (And.intro (And.intro (And.intro (And.intro (@pt91) (@pt92)) (And.intro (@pt93) (@pt94))) (And.intro (And.intro (@pt95) (@pt96)) (And.intro (@pt99) (@pt100)))) (And.intro (And.intro (And.intro (@pt101) (@pt104)) (And.intro (@pt107) (@pt108))) (And.intro (And.intro (@pt109) (@pt110)) (And.intro (@pt111) (@pt112)))))
theorem vcu18 : type_of% (And.intro (And.intro (And.intro (And.intro (@sc0) (@sc1)) (And.intro (@sc2) (@sc3))) (And.intro (And.intro (@sc4) (@sc5)) (And.intro (@sc6) (@sc9)))) (And.intro (And.intro (And.intro (@sc10) (@sc11)) (And.intro (@sc12) (@sc15))) (And.intro (And.intro (@sc16) (@sc17)) (And.intro (@sc20) (@sc21))))) := (And.intro (And.intro (And.intro (And.intro (@sc0) (@sc1)) (And.intro (@sc2) (@sc3))) (And.intro (And.intro (@sc4) (@sc5)) (And.intro (@sc6) (@sc9)))) (And.intro (And.intro (And.intro (@sc10) (@sc11)) (And.intro (@sc12) (@sc15))) (And.intro (And.intro (@sc16) (@sc17)) (And.intro (@sc20) (@sc21)))))
theorem vcu19 : type_of% (And.intro (And.intro (And.intro (And.intro (@sc22) (@sc23)) (And.intro (@sc24) (@sc25))) (And.intro (And.intro (@sc26) (@sc27)) (And.intro (@sc28) (@sc29)))) (And.intro (And.intro (And.intro (@sc30) (@sc31)) (And.intro (@sc32) (@sc33))) (And.intro (And.intro (@sc34) (@sc35)) (And.intro (@sc36) (@sc37))))) := (And.intro (And.intro (And.intro (And.intro (@sc22) (@sc23)) (And.intro (@sc24) (@sc25))) (And.intro (And.intro (@sc26) (@sc27)) (And.intro (@sc28) (@sc29)))) (And.intro (And.intro (And.intro (@sc30) (@sc31)) (And.intro (@sc32) (@sc33))) (And.intro (And.intro (@sc34) (@sc35)) (And.intro (@sc36) (@sc37)))))
theorem vcu20 : type_of% (And.intro (And.intro (And.intro (And.intro (@sc38) (@sc39)) (And.intro (@sc40) (@sc41))) (And.intro (And.intro (@sc42) (@sc43)) (And.intro (@sc44) (@sc45)))) (And.intro (And.intro (And.intro (@sc46) (@sc47)) (And.intro (@sc48) (@sc49))) (And.intro (And.intro (@sc50) (@sc51)) (And.intro (@sc52) (@sc53))))) := (And.intro (And.intro (And.intro (And.intro (@sc38) (@sc39)) (And.intro (@sc40) (@sc41))) (And.intro (And.intro (@sc42) (@sc43)) (And.intro (@sc44) (@sc45)))) (And.intro (And.intro (And.intro (@sc46) (@sc47)) (And.intro (@sc48) (@sc49))) (And.intro (And.intro (@sc50) (@sc51)) (And.intro (@sc52) (@sc53)))))
theorem vcu21 : type_of% (And.intro (And.intro (And.intro (And.intro (@sc54) (@sc55)) (And.intro (@sc56) (@sc59))) (And.intro (And.intro (@sc60) (@sc61)) (And.intro (@sc62) (@sc63)))) (And.intro (And.intro (And.intro (@sc64) (@sc65)) (And.intro (@sc66) (@sc67))) (And.intro (And.intro (@sc68) (@sc69)) (And.intro (@sc70) (@sc71))))) := (And.intro (And.intro (And.intro (And.intro (@sc54) (@sc55)) (And.intro (@sc56) (@sc59))) (And.intro (And.intro (@sc60) (@sc61)) (And.intro (@sc62) (@sc63)))) (And.intro (And.intro (And.intro (@sc64) (@sc65)) (And.intro (@sc66) (@sc67))) (And.intro (And.intro (@sc68) (@sc69)) (And.intro (@sc70) (@sc71)))))
theorem vcu22 : type_of% (And.intro (And.intro (And.intro (And.intro (@sc72) (@sc73)) (And.intro (@sc74) (@sc75))) (And.intro (And.intro (@sc76) (@sc77)) (And.intro (@sc78) (@sc79)))) (And.intro (And.intro (And.intro (@sc80) (@sc81)) (And.intro (@sc82) (@sc83))) (And.intro (And.intro (@sc86) (@sc87)) (And.intro (@sc88) (@sc89))))) := (And.intro (And.intro (And.intro (And.intro (@sc72) (@sc73)) (And.intro (@sc74) (@sc75))) (And.intro (And.intro (@sc76) (@sc77)) (And.intro (@sc78) (@sc79)))) (And.intro (And.intro (And.intro (@sc80) (@sc81)) (And.intro (@sc82) (@sc83))) (And.intro (And.intro (@sc86) (@sc87)) (And.intro (@sc88) (@sc89)))))
theorem vcu23 : type_of% (And.intro (And.intro (And.intro (And.intro (@sc90) (@sc91)) (And.intro (@sc92) (@sc93))) (And.intro (And.intro (@sc94) (@sc95)) (And.intro (@sc96) (@sc99)))) (And.intro (And.intro (And.intro (@sc100) (@sc101)) (And.intro (@sc104) (@sc107))) (And.intro (And.intro (@sc108) (@sc109)) (And.intro (@sc110) (@sc111))))) := (And.intro (And.intro (And.intro (And.intro (@sc90) (@sc91)) (And.intro (@sc92) (@sc93))) (And.intro (And.intro (@sc94) (@sc95)) (And.intro (@sc96) (@sc99)))) (And.intro (And.intro (And.intro (@sc100) (@sc101)) (And.intro (@sc104) (@sc107))) (And.intro (And.intro (@sc108) (@sc109)) (And.intro (@sc110) (@sc111)))))
theorem vcu24 : type_of% (And.intro (And.intro (And.intro (And.intro (@sc112) (@nf3)) (And.intro (@nf4) (@nf5))) (And.intro (And.intro (@nf6) (@nf7)) (And.intro (@nf8) (@nf9)))) (And.intro (And.intro (And.intro (@nf10) (@nf11)) (And.intro (@nf12) (@nf13))) (And.intro (And.intro (@nf14) (@nf15)) (And.intro (@nf16) (@nf17))))) := (And.intro (And.intro (And.intro (And.intro (@sc112) (@nf3)) (And.intro (@nf4) (@nf5))) (And.intro (And.intro (@nf6) (@nf7)) (And.intro (@nf8) (@nf9)))) (And.intro (And.intro (And.intro (@nf10) (@nf11)) (And.intro (@nf12) (@nf13))) (And.intro (And.intro (@nf14) (@nf15)) (And.intro (@nf16) (@nf17)))))
theorem vcu25 : type_of% (And.intro (And.intro (And.intro (And.intro (@nf18) (@nf19)) (And.intro (@nf20) (@nf21))) (And.intro (And.intro (@nf22) (@nf23)) (And.intro (@nf24) (@nf25)))) (And.intro (And.intro (And.intro (@nf26) (@nf27)) (And.intro (@nf28) (@nf29))) (And.intro (And.intro (@nf30) (@nf31)) (And.intro (@nf32) (@nf33))))) := (And.intro (And.intro (And.intro (And.intro (@nf18) (@nf19)) (And.intro (@nf20) (@nf21))) (And.intro (And.intro (@nf22) (@nf23)) (And.intro (@nf24) (@nf25)))) (And.intro (And.intro (And.intro (@nf26) (@nf27)) (And.intro (@nf28) (@nf29))) (And.intro (And.intro (@nf30) (@nf31)) (And.intro (@nf32) (@nf33)))))
theorem vcu26 : type_of% (And.intro (And.intro (And.intro (And.intro (@nf34) (@nf35)) (And.intro (@nf36) (@nf37))) (And.intro (And.intro (@nf38) (@nf39)) (And.intro (@nf40) (@nf41)))) (And.intro (And.intro (And.intro (@nf42) (@nf43)) (And.intro (@nf44) (@nf45))) (And.intro (And.intro (@nf46) (@nf47)) (And.intro (@nf49) (@nf50))))) := (And.intro (And.intro (And.intro (And.intro (@nf34) (@nf35)) (And.intro (@nf36) (@nf37))) (And.intro (And.intro (@nf38) (@nf39)) (And.intro (@nf40) (@nf41)))) (And.intro (And.intro (And.intro (@nf42) (@nf43)) (And.intro (@nf44) (@nf45))) (And.intro (And.intro (@nf46) (@nf47)) (And.intro (@nf49) (@nf50)))))
theorem vcu27 : type_of% (And.intro (And.intro (And.intro (And.intro (@nf51) (@nf52)) (And.intro (@nf53) (@nf57))) (And.intro (And.intro (@nf58) (@nf60)) (And.intro (@nf61) (@nf62)))) (And.intro (And.intro (And.intro (@nf63) (@nf64)) (And.intro (@nf67) (@nf68))) (And.intro (And.intro (@nf69) (@nf70)) (And.intro (@nf86) (@nf87))))) := (And.intro (And.intro (And.intro (And.intro (@nf51) (@nf52)) (And.intro (@nf53) (@nf57))) (And.intro (And.intro (@nf58) (@nf60)) (And.intro (@nf61) (@nf62)))) (And.intro (And.intro (And.intro (@nf63) (@nf64)) (And.intro (@nf67) (@nf68))) (And.intro (And.intro (@nf69) (@nf70)) (And.intro (@nf86) (@nf87)))))
theorem vcu28 : type_of% (And.intro (And.intro (And.intro (And.intro (@nf88) (@nf92)) (And.intro (@nf93) (@nf94))) (And.intro (And.intro (@nf95) (@nf96)) (And.intro (aload_agg' ag22) (aload_agg' ag23)))) (And.intro (And.intro (And.intro (aload_agg' ag26) (aload_agg' ag72)) (And.intro (aload_agg' ag88) (aload_agg' ag90))) (And.intro (And.intro (aload_agg' ag100) (aload_agg' ag101)) (And.intro (aload_cell' ag1) (aload_cell' ag2))))) := (And.intro (And.intro (And.intro (And.intro (@nf88) (@nf92)) (And.intro (@nf93) (@nf94))) (And.intro (And.intro (@nf95) (@nf96)) (And.intro (aload_agg' ag22) (aload_agg' ag23)))) (And.intro (And.intro (And.intro (aload_agg' ag26) (aload_agg' ag72)) (And.intro (aload_agg' ag88) (aload_agg' ag90))) (And.intro (And.intro (aload_agg' ag100) (aload_agg' ag101)) (And.intro (aload_cell' ag1) (aload_cell' ag2)))))
theorem vcu29 : type_of% (And.intro (And.intro (And.intro (And.intro (aload_cell' ag3) (aload_cell' ag4)) (And.intro (aload_cell' ag5) (aload_cell' ag6))) (And.intro (And.intro (aload_cell' ag9) (aload_cell' ag10)) (And.intro (aload_cell' ag11) (aload_cell' ag12)))) (And.intro (And.intro (And.intro (aload_cell' ag15) (aload_cell' ag16)) (And.intro (aload_cell' ag17) (aload_cell' ag21))) (And.intro (And.intro (aload_cell' ag24) (aload_cell' ag25)) (And.intro (aload_cell' ag27) (aload_cell' ag28))))) := (And.intro (And.intro (And.intro (And.intro (aload_cell' ag3) (aload_cell' ag4)) (And.intro (aload_cell' ag5) (aload_cell' ag6))) (And.intro (And.intro (aload_cell' ag9) (aload_cell' ag10)) (And.intro (aload_cell' ag11) (aload_cell' ag12)))) (And.intro (And.intro (And.intro (aload_cell' ag15) (aload_cell' ag16)) (And.intro (aload_cell' ag17) (aload_cell' ag21))) (And.intro (And.intro (aload_cell' ag24) (aload_cell' ag25)) (And.intro (aload_cell' ag27) (aload_cell' ag28)))))
theorem vcu30 : type_of% (And.intro (And.intro (And.intro (And.intro (aload_cell' ag30) (aload_cell' ag31)) (And.intro (aload_cell' ag32) (aload_cell' ag33))) (And.intro (And.intro (aload_cell' ag34) (aload_cell' ag35)) (And.intro (aload_cell' ag36) (aload_cell' ag37)))) (And.intro (And.intro (And.intro (aload_cell' ag38) (aload_cell' ag39)) (And.intro (aload_cell' ag41) (aload_cell' ag42))) (And.intro (And.intro (aload_cell' ag43) (aload_cell' ag44)) (And.intro (aload_cell' ag45) (aload_cell' ag46))))) := (And.intro (And.intro (And.intro (And.intro (aload_cell' ag30) (aload_cell' ag31)) (And.intro (aload_cell' ag32) (aload_cell' ag33))) (And.intro (And.intro (aload_cell' ag34) (aload_cell' ag35)) (And.intro (aload_cell' ag36) (aload_cell' ag37)))) (And.intro (And.intro (And.intro (aload_cell' ag38) (aload_cell' ag39)) (And.intro (aload_cell' ag41) (aload_cell' ag42))) (And.intro (And.intro (aload_cell' ag43) (aload_cell' ag44)) (And.intro (aload_cell' ag45) (aload_cell' ag46)))))
theorem vcu31 : type_of% (And.intro (And.intro (And.intro (And.intro (aload_cell' ag47) (aload_cell' ag49)) (And.intro (aload_cell' ag53) (aload_cell' ag54))) (And.intro (And.intro (aload_cell' ag55) (aload_cell' ag56)) (And.intro (aload_cell' ag59) (aload_cell' ag60)))) (And.intro (And.intro (And.intro (aload_cell' ag61) (aload_cell' ag62)) (And.intro (aload_cell' ag63) (aload_cell' ag64))) (And.intro (And.intro (aload_cell' ag66) (aload_cell' ag67)) (And.intro (aload_cell' ag68) (aload_cell' ag69))))) := (And.intro (And.intro (And.intro (And.intro (aload_cell' ag47) (aload_cell' ag49)) (And.intro (aload_cell' ag53) (aload_cell' ag54))) (And.intro (And.intro (aload_cell' ag55) (aload_cell' ag56)) (And.intro (aload_cell' ag59) (aload_cell' ag60)))) (And.intro (And.intro (And.intro (aload_cell' ag61) (aload_cell' ag62)) (And.intro (aload_cell' ag63) (aload_cell' ag64))) (And.intro (And.intro (aload_cell' ag66) (aload_cell' ag67)) (And.intro (aload_cell' ag68) (aload_cell' ag69)))))
theorem vcu32 : type_of% (And.intro (And.intro (And.intro (And.intro (aload_cell' ag71) (aload_cell' ag73)) (And.intro (aload_cell' ag74) (aload_cell' ag75))) (And.intro (And.intro (aload_cell' ag77) (aload_cell' ag78)) (And.intro (aload_cell' ag79) (aload_cell' ag80)))) (And.intro (And.intro (And.intro (aload_cell' ag82) (aload_cell' ag83)) (And.intro (aload_cell' ag86) (aload_cell' ag87))) (And.intro (And.intro (aload_cell' ag89) (aload_cell' ag91)) (And.intro (aload_cell' ag92) (aload_cell' ag94))))) := (And.intro (And.intro (And.intro (And.intro (aload_cell' ag71) (aload_cell' ag73)) (And.intro (aload_cell' ag74) (aload_cell' ag75))) (And.intro (And.intro (aload_cell' ag77) (aload_cell' ag78)) (And.intro (aload_cell' ag79) (aload_cell' ag80)))) (And.intro (And.intro (And.intro (aload_cell' ag82) (aload_cell' ag83)) (And.intro (aload_cell' ag86) (aload_cell' ag87))) (And.intro (And.intro (aload_cell' ag89) (aload_cell' ag91)) (And.intro (aload_cell' ag92) (aload_cell' ag94)))))
theorem vcu33 : type_of% (And.intro (And.intro (And.intro (And.intro (aload_cell' ag95) (aload_cell' ag96)) (And.intro (aload_cell' ag99) (aload_cell' ag107))) (And.intro (And.intro (aload_cell' ag108) (aload_cell' ag109)) (And.intro (aload_cell' ag110) (aload_cell' ag111)))) (And.intro (And.intro (And.intro (aload_cell' ag112) (@List.any_cons.{0})) (And.intro (@List.any_nil.{0}) (@List.map_cons.{0, 0}))) (And.intro (And.intro (@List.map_nil.{0, 0}) (@Option.map_some.{0, 0})) (And.intro (@Option.map_none.{0, 0}) (@List.nil_append.{0}))))) := (And.intro (And.intro (And.intro (And.intro (aload_cell' ag95) (aload_cell' ag96)) (And.intro (aload_cell' ag99) (aload_cell' ag107))) (And.intro (And.intro (aload_cell' ag108) (aload_cell' ag109)) (And.intro (aload_cell' ag110) (aload_cell' ag111)))) (And.intro (And.intro (And.intro (aload_cell' ag112) (@List.any_cons.{0})) (And.intro (@List.any_nil.{0}) (@List.map_cons.{0, 0}))) (And.intro (And.intro (@List.map_nil.{0, 0}) (@Option.map_some.{0, 0})) (And.intro (@Option.map_none.{0, 0}) (@List.nil_append.{0})))))
theorem vcd0 : type_of% (And.intro (And.intro (And.intro (And.intro (@cs_cons) (@cs_nil)) (And.intro (@retC_normal) (@retC_ret))) (And.intro (And.intro (@vc_seq) (@vc_block)) (And.intro (@vc_region) (@vc_regionD)))) (And.intro (And.intro (And.intro (@vcD_false) (@vcD_true)) (And.intro (@vc_loop_eq) (@vc_cond))) (And.intro (And.intro (@vc_skip) (@vc_exit)) (And.intro (@vc_ret) (@seqC_normal))))) := (And.intro (And.intro (And.intro (And.intro (@cs_cons) (@cs_nil)) (And.intro (@retC_normal) (@retC_ret))) (And.intro (And.intro (@vc_seq) (@vc_block)) (And.intro (@vc_region) (@vc_regionD)))) (And.intro (And.intro (And.intro (@vcD_false) (@vcD_true)) (And.intro (@vc_loop_eq) (@vc_cond))) (And.intro (And.intro (@vc_skip) (@vc_exit)) (And.intro (@vc_ret) (@seqC_normal)))))
theorem vcd1 : type_of% (And.intro (And.intro (And.intro (And.intro (@seqC_exit) (@seqC_ret)) (And.intro (@blockK_normal) (@blockK_exit))) (And.intro (And.intro (@blockK_ret) (@retK_normal)) (And.intro (@retK_ret) (@seqK_normal)))) (And.intro (And.intro (And.intro (@seqK_exit) (@seqK_ret)) (And.intro (@r_nil) (@r_assign))) (And.intro (And.intro (@r_move) (@r_len)) (And.intro (@r_binOpT) (@r_binOpI))))) := (And.intro (And.intro (And.intro (And.intro (@seqC_exit) (@seqC_ret)) (And.intro (@blockK_normal) (@blockK_exit))) (And.intro (And.intro (@blockK_ret) (@retK_normal)) (And.intro (@retK_ret) (@seqK_normal)))) (And.intro (And.intro (And.intro (@seqK_exit) (@seqK_ret)) (And.intro (@r_nil) (@r_assign))) (And.intro (And.intro (@r_move) (@r_len)) (And.intro (@r_binOpT) (@r_binOpI)))))
theorem vcd2 : type_of% (And.intro (And.intro (And.intro (And.intro (@r_binOpB) (@r_binOpS)) (And.intro (@r_unOp) (@r_convert))) (And.intro (And.intro (@r_indexAddr) (@r_load)) (And.intro (@r_pick) (@r_slice)))) (And.intro (And.intro (And.intro (@r_nilCheck) (@r_fieldAddr)) (And.intro (@r_field) (@r_extract))) (And.intro (And.intro (@r_min) (@r_max)) (And.intro (@r_call) (@r_makeFunc))))) := (And.intro (And.intro (And.intro (And.intro (@r_binOpB) (@r_binOpS)) (And.intro (@r_unOp) (@r_convert))) (And.intro (And.intro (@r_indexAddr) (@r_load)) (And.intro (@r_pick) (@r_slice)))) (And.intro (And.intro (And.intro (@r_nilCheck) (@r_fieldAddr)) (And.intro (@r_field) (@r_extract))) (And.intro (And.intro (@r_min) (@r_max)) (And.intro (@r_call) (@r_makeFunc)))))
theorem vcd3 : type_of% (And.intro (And.intro (@r_guard) (r_index' Tryd.underlying9)) (And.intro (r_index' Tryd.underlying10) (r_index' Tryd.underlying11))) := (And.intro (And.intro (@r_guard) (r_index' Tryd.underlying9)) (And.intro (r_index' Tryd.underlying10) (r_index' Tryd.underlying11)))
theorem vcu : type_of% (And.intro (And.intro (And.intro (And.intro (And.intro @vcu0 @vcu1) (And.intro @vcu2 @vcu3)) (And.intro (And.intro @vcu4 @vcu5) (And.intro @vcu6 @vcu7))) (And.intro (And.intro (And.intro @vcu8 @vcu9) (And.intro @vcu10 @vcu11)) (And.intro (And.intro @vcu12 @vcu13) (And.intro @vcu14 (And.intro @vcu15 @vcu16))))) (And.intro (And.intro (And.intro (And.intro @vcu17 @vcu18) (And.intro @vcu19 @vcu20)) (And.intro (And.intro @vcu21 @vcu22) (And.intro @vcu23 @vcu24))) (And.intro (And.intro (And.intro @vcu25 @vcu26) (And.intro @vcu27 @vcu28)) (And.intro (And.intro @vcu29 @vcu30) (And.intro @vcu31 (And.intro @vcu32 @vcu33)))))) := (And.intro (And.intro (And.intro (And.intro (And.intro @vcu0 @vcu1) (And.intro @vcu2 @vcu3)) (And.intro (And.intro @vcu4 @vcu5) (And.intro @vcu6 @vcu7))) (And.intro (And.intro (And.intro @vcu8 @vcu9) (And.intro @vcu10 @vcu11)) (And.intro (And.intro @vcu12 @vcu13) (And.intro @vcu14 (And.intro @vcu15 @vcu16))))) (And.intro (And.intro (And.intro (And.intro @vcu17 @vcu18) (And.intro @vcu19 @vcu20)) (And.intro (And.intro @vcu21 @vcu22) (And.intro @vcu23 @vcu24))) (And.intro (And.intro (And.intro @vcu25 @vcu26) (And.intro @vcu27 @vcu28)) (And.intro (And.intro @vcu29 @vcu30) (And.intro @vcu31 (And.intro @vcu32 @vcu33))))))
theorem vcd : type_of% (And.intro (And.intro @vcd0 @vcd1) (And.intro @vcd2 @vcd3)) := (And.intro (And.intro @vcd0 @vcd1) (And.intro @vcd2 @vcd3))
theorem z9q {p : Prop} (h : p := by simp -implicitDefEqProofs (disch := omega) only [Nat.reduceEqDiff, ↓reduceIte, vcu, ↓vcd]) : p := h
theorem z9r {p : Prop} (h : p := by simp -implicitDefEqProofs (disch := omega) only [Nat.reduceEqDiff, ↓reduceIte, vcu, ↓vcd]; rfl) : p := h
theorem z9z {p : Prop} (h : p := by simp -implicitDefEqProofs (disch := omega) only [Nat.reduceEqDiff, ↓reduceIte, vcu, ↓vcd]; exact Nat.zero_lt_succ _) : p := h
theorem z9l {p : Prop} (h : p := by simp -implicitDefEqProofs (disch := omega) only [Nat.reduceEqDiff, ↓reduceIte, vcu, ↓vcd]; exact Nat.le_refl _) : p := h
theorem z9co26 {p : Prop} (h : p := by simp -implicitDefEqProofs (disch := omega) only [Nat.reduceEqDiff, ↓reduceIte, vcu, ↓vcd, co26]; rfl) : p := h
end Go.Proofs.YtafkndnmhhjdhaaDoor
namespace Go.Proofs.YtafkndnmhhjdhaaDoor
open Go Go.Abs Go.RowKit
variable {w0 : World}
theorem in_calls (σ : AHeap) (n lo hi : Int) : ACall Tryd.prog w0 23 [.int .i64 n, .int .i64 lo, .int .i64 hi] σ fun r σ' => r = .bool (decide (lo ≤ n ∧ n ≤ hi)) ∧ σ' = σ := by
 refine acall_go mixed Tryd.func23 rfl good23 fun pr => ?_
 by_cases h : lo ≤ n
 ·simp -implicitDefEqProofs (disch := omega) only [Nat.reduceEqDiff, ↓reduceIte, vcu, ↓vcd]
  refine fin_one Tryd.results23 ⟨?_, rfl⟩
  simp -implicitDefEqProofs (disch := omega) only [Nat.reduceEqDiff, ↓reduceIte, vcu, ↓vcd]
  simp [h]
 ·simp -implicitDefEqProofs (disch := omega) only [Nat.reduceEqDiff, ↓reduceIte, vcu, ↓vcd]
  refine fin_one Tryd.results23 ⟨?_, rfl⟩
  simp -implicitDefEqProofs (disch := omega) only [Nat.reduceEqDiff, ↓reduceIte, vcu, ↓vcd]
  simp [h]
theorem set_at {α : Type} (xs : List α) (d : α) {k n : Nat} (hk : k < xs.length) (hn : n = xs.length) : (xs.take k ++ List.replicate (n - k) d).set k (xs.getD k d) = xs.take (k + 1) ++ List.replicate (n - (k + 1)) d := by
 subst hn
 obtain ⟨m, hm⟩ : ∃ m, xs.length - k = m + 1 := ⟨xs.length - k - 1, by omega⟩
 have e : xs.length - (k + 1) = m := by omega
 rw [hm, e, List.set_append_right _ _ (by simp; omega), List.take_succ_eq_append_getElem hk, List.append_assoc]
 have : k - (xs.take k).length = 0 := by simp; omega
 rw [this]
 simp [List.getD, hk, List.replicate_succ]
def seq (k : Int) (n : Nat) : List Int := (List.range n).map fun (i : Nat) => k + i
end Go.Proofs.YtafkndnmhhjdhaaDoor
namespace Go.Proofs.YtafkndnmhhjdhaaDoor
open Go Go.Abs Go.RowKit
variable {w0 : World}
/-- a text of digits -/
def DgT (xs : List UInt8) : Prop := ∀ b ∈ xs, 48 ≤ b.toNat ∧ b.toNat ≤ 51
instance (xs : List UInt8) : Decidable (DgT xs) := inferInstanceAs (Decidable (∀ b ∈ xs, 48 ≤ b.toNat ∧ b.toNat ≤ 51))
theorem DgT.at {xs : List UInt8} (h : DgT xs) {k : Nat} (hk : k < xs.length) : 48 ≤ (xs.getD k 0).toNat ∧ (xs.getD k 0).toNat ≤ 51 := h _ (by simp [List.getD, hk])
theorem dgT_of {xs : List UInt8} (h : ∀ k, k < xs.length → 48 ≤ (xs.getD k 0).toNat ∧ (xs.getD k 0).toNat ≤ 51) : DgT xs := by
 intro b hb
 obtain ⟨k, hk, rfl⟩ := List.mem_iff_getElem.1 hb
 have := h k hk
 simpa [List.getD, hk] using this
theorem conv_u8 {b : Int} (h : 0 ≤ b ∧ b ≤ 255) : aconv Tryd.prog 5 3 (.int .u8 b) = some (.int .i64 b) := by
 simp only [aconv, Tryd.underlying5, Tryd.underlying3]
 rw [wrap_i64_ok (by omega)]
set_option maxRecDepth 8000 in
theorem abin_usub {t : TypeId} {a b : Int} : abin Tryd.prog t .sub (.int .u8 a) (.int .u8 b) = some (.int .u8 ((a - b) % 256)) := by
 simp only [abin, if_true]; congr 2
set_option maxRecDepth 8000 in
theorem abin_ulss {t : TypeId} {a b : Int} : abin Tryd.prog t .lss (.int .u8 a) (.int .u8 b) = some (.bool (decide (a < b))) := by simp [abin]
theorem u8_le (b : UInt8) : b.toNat ≤ 255 := by have := b.toNat_lt; omega
set_option maxRecDepth 8000 in
theorem digits_calls (σ : AHeap) (xs : List UInt8) (hl : xs.length ≤ 1048576) : ACall Tryd.prog w0 25 [.string (tx xs)] σ fun r σ' => r = .bool (decide (DgT xs)) ∧ σ' = σ := by
 refine acall_go mixed Tryd.func25 rfl good25 fun pr => ?_
 simp -implicitDefEqProofs (disch := omega) only [Nat.reduceEqDiff, ↓reduceIte, vcu, ↓vcd]
 refine vc_loop_c mixed (by kernel_rfl) [0] (fun m a σ' => ∃ k : Nat, m + k = xs.length ∧ a 3 = .int .i64 k ∧ (∀ j, j < k → 48 ≤ (xs.getD j 0).toNat ∧ (xs.getD j 0).toNat ≤ 51) ∧ σ' = σ) xs.length ⟨0, by simp, rfl, fun j hj => absurd hj (by omega), rfl⟩ ?_
 rintro m a σ' hc ⟨k, hk, h3, hd, rfl⟩
 simp -implicitDefEqProofs (disch := omega) only [Nat.reduceEqDiff, ↓reduceIte, vcu, ↓vcd] at hc
 obtain ⟨h0, -⟩ := hc
 by_cases hlt : k < xs.length
 ·have hb := u8_le (xs.getD k 0)
  by_cases hdg : 48 ≤ (xs.getD k 0).toNat ∧ (xs.getD k 0).toNat ≤ 51
  ·have hd1 : decide (0 ≤ (((xs.getD k 0).toNat : Int) - 48) % 256 ∧ (((xs.getD k 0).toNat : Int) - 48) % 256 ≤ 3) = true := decide_eq_true (by omega)
   simp -implicitDefEqProofs (disch := omega) only [Nat.reduceEqDiff, ↓reduceIte, vcu, ↓vcd, h0, h3, abin_usub, conv_u8]
   refine (in_calls _ _ 0 3).mono ?_
   rintro r τ ⟨rfl, rfl⟩
   simp -implicitDefEqProofs (disch := omega) only [Nat.reduceEqDiff, ↓reduceIte, vcu, ↓vcd, opK_some, h0, h3, abin_ulss, hd1]
   refine ⟨⟨trivial, trivial⟩, m - 1, by omega, k + 1, by omega, by simp, fun j hj => ?_, trivial⟩
   by_cases hjk : j = k
   ·subst hjk; exact hdg
   ·exact hd j (by omega)
  ·have hn : ¬DgT xs := fun h => hdg (h.at hlt)
   have hd1 : decide (0 ≤ (((xs.getD k 0).toNat : Int) - 48) % 256 ∧ (((xs.getD k 0).toNat : Int) - 48) % 256 ≤ 3) = false := decide_eq_false (by omega)
   simp -implicitDefEqProofs (disch := omega) only [Nat.reduceEqDiff, ↓reduceIte, vcu, ↓vcd, h0, h3, abin_usub, conv_u8]
   refine (in_calls _ _ 0 3).mono ?_
   rintro r τ ⟨rfl, rfl⟩
   simp -implicitDefEqProofs (disch := omega) only [Nat.reduceEqDiff, ↓reduceIte, vcu, ↓vcd, opK_some, h0, h3, abin_ulss, hd1]
   refine fin_one Tryd.results25 ⟨?_, rfl⟩
   simp -implicitDefEqProofs (disch := omega) only [Nat.reduceEqDiff, ↓reduceIte, vcu, ↓vcd]
   simp [hn]
 ·simp -implicitDefEqProofs (disch := omega) only [Nat.reduceEqDiff, ↓reduceIte, vcu, ↓vcd, h0, h3]
  have e : k = xs.length := by omega
  refine fin_one Tryd.results25 ⟨?_, rfl⟩
  simp -implicitDefEqProofs (disch := omega) only [Nat.reduceEqDiff, ↓reduceIte, vcu, ↓vcd]
  subst e
  simp [dgT_of hd]
/-- a text begins with another one -/
def Beg (s t : List UInt8) : Prop := t.length ≤ s.length ∧ s.take t.length = t
theorem conv_to_u8 {b : Int} (h : 0 ≤ b ∧ b ≤ 255) : aconv Tryd.prog 3 5 (.int .i64 b) = some (.int .u8 b) := by
 simp only [aconv, Tryd.underlying5, Tryd.underlying3]
 congr 2
 show b % 256 = b
 omega
end Go.Proofs.YtafkndnmhhjdhaaDoor
namespace Go.Proofs.YtafkndnmhhjdhaaDoor
open Go Go.Abs Go.RowKit Go.Dial
/-- the decimals of a number -/
def decN (n : Nat) : List UInt8 := if h : n < 10 then [UInt8.ofNat (48 + n)] else decN (n / 10) ++ [UInt8.ofNat (48 + n % 10)]
/-- the word of a kind -/
def kwT (k : Int) : List UInt8 := if k = 0 then [99, 97, 108, 108] else if k = 1 then [100, 114, 111, 112] else [110, 117, 109, 98, 101, 114]
def DdOk (d : Dd) : Prop := (0 ≤ d.k ∧ d.k ≤ 2) ∧ (0 ≤ d.l ∧ d.l ≤ 99) ∧ ((d.k = 1 ∧ d.t = []) ∨ (d.k ≠ 1 ∧ DgT d.t ∧ 1 ≤ d.t.length ∧ d.t.length ≤ 3))
instance (d : Dd) : Decidable (DdOk d) := inferInstanceAs (Decidable (_ ∧ _ ∧ _))
/-- the text of a deed -/
def deedT (d : Dd) : List UInt8 := if DdOk d then kwT d.k ++ 32 :: (decN d.l.toNat ++ (if d.k = 1 then [] else 32 :: d.t)) else []
/-- the text of a journal -/
def jrn : List Dd → List UInt8
 | [] => []
 | d :: ds => deedT d ++ 10 :: jrn ds
end Go.Proofs.YtafkndnmhhjdhaaDoor
namespace Go.Proofs.YtafkndnmhhjdhaaDoor
open Go Go.Abs Go.RowKit Go.Dial
variable {w0 : World}
theorem decN_len : ∀ n, (decN n).length ≤ n + 1 := fun n => by
 induction n using Nat.strongRecOn with
 | ind n ih =>
  unfold decN
  split
  ·simp
  ·rw [List.length_append, List.length_singleton]
   have := ih (n / 10) (by omega)
   omega
set_option maxRecDepth 8000 in
theorem number_calls (n : Nat) (hn : n ≤ 10000) : ∀ σ : AHeap, ACall Tryd.prog w0 24 [.int .i64 n] σ fun r σ' => r = .string (tx (decN n)) ∧ σ' = σ := by
 induction n using Nat.strongRecOn with
 | ind n ih =>
  intro σ
  have hg : decN n = if h : n < 10 then [UInt8.ofNat (48 + n)] else decN (n / 10) ++ [UInt8.ofNat (48 + n % 10)] := by rw [decN]
  refine acall_go mixed Tryd.func24 rfl good24 fun pr => ?_
  by_cases h10 : n < 10
  ·rw [dif_pos h10] at hg
   simp -implicitDefEqProofs (disch := omega) only [Nat.reduceEqDiff, ↓reduceIte, vcu, ↓vcd, conv_to_u8]
   refine r_lit el56 (out := #[.int .u8 (48 + (n : Int))]) (by first | kernel_rfl | (simp -implicitDefEqProofs (disch := omega) only [Nat.reduceEqDiff, ↓reduceIte, vcu, ↓vcd]; kernel_rfl)) (by rfl) fun g τ n1 s1 v1 => ?_
   have l1 : lds τ g 0 1 = some ([((48 + n : Nat) : Int)].map (.int .u8)) := by
    rw [lds_of v1 (by simp)]; simp
   have hcv := aconvH_bytes (z := 1) Tryd.underlying56 Tryd.underlying5 Tryd.underlying9 l1
   simp -implicitDefEqProofs (disch := omega) only [Nat.reduceEqDiff, ↓reduceIte, vcu, ↓vcd, hcv]
   refine fin_drop Tryd.results24 σ s1 ⟨?_, rfl⟩
   simp -implicitDefEqProofs (disch := omega) only [Nat.reduceEqDiff, ↓reduceIte, vcu, ↓vcd, hg]
  ·rw [dif_neg h10] at hg
   have hl := decN_len (n / 10)
   have c1 := ih (n / 10) (by omega) (by omega)
   have ha := abin_sadd (P := Tryd.prog) (t := 9) (xs := decN (n / 10)) (ys := [UInt8.ofNat (48 + n % 10)]) (by rw [List.length_singleton]; omega)
   have e10 : ((n : Int) / 10) = ((n / 10 : Nat) : Int) := by omega
   have e1 : ((n : Int) % 10) = ((n % 10 : Nat) : Int) := by omega
   simp -implicitDefEqProofs (disch := omega) only [Nat.reduceEqDiff, ↓reduceIte, vcu, ↓vcd]
   refine region_tree mixed (quiets [0, 1, 3, 4, 5, 6] (.two 2 (.one 7 (.one 8 (.one 9 (quiets [10] .stop)))) 7 (.two 2 (.one 8 (.one 9 (quiets [10] .stop))) 8 (.one 2 (.one 9 (quiets [10] .stop)))))) [] (by kernel_rfl) (by kernel_rfl) (fun p hp => by cases hp) ?_
   refine tree_quiets _ _ _ _ sf0 (by kernel_rfl) (by kernel_rfl) ?_
   simp -implicitDefEqProofs (disch := omega) only [Nat.reduceEqDiff, ↓reduceIte, vcu, ↓vcd, pickOps_nil, pickOps_cons, pickO_some, List.getElem?_cons_succ, List.getElem?_cons_zero, e10, e1, conv_to_u8]
   refine tree_two rfl rfl ?_ ?_
   ·simp -implicitDefEqProofs (disch := omega) only [Nat.reduceEqDiff, ↓reduceIte, vcu, ↓vcd]
    refine (c1 _).mono ?_
    rintro _ _ ⟨rfl, rfl⟩
    rename_i σ
    simp -implicitDefEqProofs (disch := omega) only [Nat.reduceEqDiff, ↓reduceIte, vcu, ↓vcd, opK_some]
    refine ⟨keep_of rfl (fun p hp => by cases hp), ?_⟩
    refine tree_one rfl ?_
    refine r_lit el56 (out := #[.int .u8 (48 + (n % 10 : Nat))]) (by first | kernel_rfl | (simp -implicitDefEqProofs (disch := omega) only [Nat.reduceEqDiff, ↓reduceIte, vcu, ↓vcd]; kernel_rfl)) (by rfl) fun g τ n1 s1 v1 => ?_
    have l1 : lds τ g 0 1 = some ([((48 + (n % 10 : Nat) : Nat) : Int)].map (.int .u8)) := by
     rw [lds_of v1 (by simp)]; simp
    have hcv := aconvH_bytes (z := 1) Tryd.underlying56 Tryd.underlying5 Tryd.underlying9 l1
    simp -implicitDefEqProofs (disch := omega) only [Nat.reduceEqDiff, ↓reduceIte, vcu, ↓vcd]
    refine ⟨keep_of rfl (fun p hp => by cases hp), ?_⟩
    refine tree_one rfl ?_
    simp -implicitDefEqProofs (disch := omega) only [Nat.reduceEqDiff, ↓reduceIte, vcu, ↓vcd, hcv]
    refine ⟨keep_of rfl (fun p hp => by cases hp), ?_⟩
    refine tree_one rfl ?_
    simp -implicitDefEqProofs (disch := omega) only [Nat.reduceEqDiff, ↓reduceIte, vcu, ↓vcd, ha]
    refine ⟨keep_of rfl (fun p hp => by cases hp), ?_⟩
    refine tree_quiets _ _ _ _ sf0 (by kernel_rfl) (by kernel_rfl) ?_
    simp -implicitDefEqProofs (disch := omega) only [Nat.reduceEqDiff, ↓reduceIte, vcu, ↓vcd, pickOps_nil, pickOps_cons, pickO_some, List.getElem?_cons_succ, List.getElem?_cons_zero]
    refine tree_stop ?_
    simp -implicitDefEqProofs (disch := omega) only [Nat.reduceEqDiff, ↓reduceIte, vcu, ↓vcd]
    refine fin_drop Tryd.results24 σ s1 ⟨?_, rfl⟩
    simp -implicitDefEqProofs (disch := omega) only [Nat.reduceEqDiff, ↓reduceIte, vcu, ↓vcd, hg]
   ·refine r_lit el56 (out := #[.int .u8 (48 + (n % 10 : Nat))]) (by first | kernel_rfl | (simp -implicitDefEqProofs (disch := omega) only [Nat.reduceEqDiff, ↓reduceIte, vcu, ↓vcd]; kernel_rfl)) (by rfl) fun g τ n1 s1 v1 => ?_
    have l1 : lds τ g 0 1 = some ([((48 + (n % 10 : Nat) : Nat) : Int)].map (.int .u8)) := by
     rw [lds_of v1 (by simp)]; simp
    have hcv := aconvH_bytes (z := 1) Tryd.underlying56 Tryd.underlying5 Tryd.underlying9 l1
    simp -implicitDefEqProofs (disch := omega) only [Nat.reduceEqDiff, ↓reduceIte, vcu, ↓vcd]
    refine ⟨keep_of rfl (fun p hp => by cases hp), ?_⟩
    refine tree_two rfl rfl ?_ ?_
    ·simp -implicitDefEqProofs (disch := omega) only [Nat.reduceEqDiff, ↓reduceIte, vcu, ↓vcd]
     refine (c1 _).mono ?_
     rintro _ _ ⟨rfl, rfl⟩
     simp -implicitDefEqProofs (disch := omega) only [Nat.reduceEqDiff, ↓reduceIte, vcu, ↓vcd, opK_some]
     refine ⟨keep_of rfl (fun p hp => by cases hp), ?_⟩
     refine tree_one rfl ?_
     simp -implicitDefEqProofs (disch := omega) only [Nat.reduceEqDiff, ↓reduceIte, vcu, ↓vcd, hcv]
     refine ⟨keep_of rfl (fun p hp => by cases hp), ?_⟩
     refine tree_one rfl ?_
     simp -implicitDefEqProofs (disch := omega) only [Nat.reduceEqDiff, ↓reduceIte, vcu, ↓vcd, ha]
     refine ⟨keep_of rfl (fun p hp => by cases hp), ?_⟩
     refine tree_quiets _ _ _ _ sf0 (by kernel_rfl) (by kernel_rfl) ?_
     simp -implicitDefEqProofs (disch := omega) only [Nat.reduceEqDiff, ↓reduceIte, vcu, ↓vcd, pickOps_nil, pickOps_cons, pickO_some, List.getElem?_cons_succ, List.getElem?_cons_zero]
     refine tree_stop ?_
     simp -implicitDefEqProofs (disch := omega) only [Nat.reduceEqDiff, ↓reduceIte, vcu, ↓vcd]
     refine fin_drop Tryd.results24 σ s1 ⟨?_, rfl⟩
     simp -implicitDefEqProofs (disch := omega) only [Nat.reduceEqDiff, ↓reduceIte, vcu, ↓vcd, hg]
    ·simp -implicitDefEqProofs (disch := omega) only [Nat.reduceEqDiff, ↓reduceIte, vcu, ↓vcd, hcv]
     refine ⟨keep_of rfl (fun p hp => by cases hp), ?_⟩
     refine tree_one rfl ?_
     simp -implicitDefEqProofs (disch := omega) only [Nat.reduceEqDiff, ↓reduceIte, vcu, ↓vcd]
     refine (c1 _).mono ?_
     rintro _ _ ⟨rfl, rfl⟩
     simp -implicitDefEqProofs (disch := omega) only [Nat.reduceEqDiff, ↓reduceIte, vcu, ↓vcd, opK_some]
     refine ⟨keep_of rfl (fun p hp => by cases hp), ?_⟩
     refine tree_one rfl ?_
     simp -implicitDefEqProofs (disch := omega) only [Nat.reduceEqDiff, ↓reduceIte, vcu, ↓vcd, ha]
     refine ⟨keep_of rfl (fun p hp => by cases hp), ?_⟩
     refine tree_quiets _ _ _ _ sf0 (by kernel_rfl) (by kernel_rfl) ?_
     simp -implicitDefEqProofs (disch := omega) only [Nat.reduceEqDiff, ↓reduceIte, vcu, ↓vcd, pickOps_nil, pickOps_cons, pickO_some, List.getElem?_cons_succ, List.getElem?_cons_zero]
     refine tree_stop ?_
     simp -implicitDefEqProofs (disch := omega) only [Nat.reduceEqDiff, ↓reduceIte, vcu, ↓vcd]
     refine fin_drop Tryd.results24 σ s1 ⟨?_, rfl⟩
     simp -implicitDefEqProofs (disch := omega) only [Nat.reduceEqDiff, ↓reduceIte, vcu, ↓vcd, hg]
end Go.Proofs.YtafkndnmhhjdhaaDoor
namespace Go.Proofs.YtafkndnmhhjdhaaDoor
open Go Go.Abs Go.RowKit Go.Dial
variable {w0 : World}
theorem acodeB_monoW {P : Program} {b : Base} {n : NR} {c : Code} {a : AFrame} {σ : AHeap} {Q Q' : AQ} (h : ACodeB P b n c a σ Q') (hq : ∀ e a σ, Q' e a σ → Q e a σ) : ACodeB P b n c a σ Q := ACode.mono h hq
def kws : List (List UInt8) := [[99, 97, 108, 108], [100, 114, 111, 112], [110, 117, 109, 98, 101, 114]]
theorem kws_at {k : Nat} (h : k < 3) : kws.getD k [] = kwT k := by
 have : k = 0 ∨ k = 1 ∨ k = 2 := by omega
 rcases this with rfl | rfl | rfl <;> decide
theorem kwT_len (k : Int) : (kwT k).length ≤ 6 := by
 unfold kwT
 split
 ·decide
 ·split <;> decide
set_option maxRecDepth 8000 in
theorem deedText_calls (σ : AHeap) (d : Dd) (ht : d.t.length ≤ 1048576) : ACall Tryd.prog w0 8 [.agg #[.int .i64 d.k, .int .i64 d.l, .string (tx d.t)]] σ fun r σ' => r = .string (tx (deedT d)) ∧ σ' = σ := by
 obtain ⟨K, L, t⟩ := d
 refine acall_go mixed Tryd.func8 rfl good8 fun pr => ?_
 simp -implicitDefEqProofs (disch := omega) only [Nat.reduceEqDiff, ↓reduceIte, vcu, ↓vcd]
 refine r_boxed fun b τ nb s1 e1 => ?_
 replace e1 : τ b = some ⟨[.int .i64 K, .int .i64 L, .string (tx t)], false⟩ := e1
 have x0 : ld τ b 0 = some (.int .i64 K) := ld_of e1 rfl
 have x1 : ld τ b 1 = some (.int .i64 L) := ld_of e1 rfl
 have x2 : ld τ b 2 = some (.string (tx t)) := ld_of e1 rfl
 simp -implicitDefEqProofs (disch := omega) only [Nat.reduceEqDiff, ↓reduceIte, vcu, ↓vcd, x0]
 refine (in_calls τ K 0 2).mono ?_
 rintro _ _ ⟨rfl, rfl⟩
 rename_i τ
 by_cases hk : 0 ≤ K ∧ K ≤ 2
 case neg =>
  rw [decide_eq_false hk]
  simp -implicitDefEqProofs (disch := omega) only [Nat.reduceEqDiff, ↓reduceIte, vcu, ↓vcd, opK_some, Bool.not_false]
  refine fin_drop Tryd.results8 σ s1 ⟨?_, rfl⟩
  simp -implicitDefEqProofs (disch := omega) only [Nat.reduceEqDiff, ↓reduceIte, vcu, ↓vcd]
  rw [deedT, if_neg fun h => hk h.1]
 rw [decide_eq_true hk]
 simp -implicitDefEqProofs (disch := omega) only [Nat.reduceEqDiff, ↓reduceIte, vcu, ↓vcd, opK_some, Bool.not_true, x1]
 refine (in_calls τ L 0 99).mono ?_
 rintro _ _ ⟨rfl, rfl⟩
 rename_i τ
 by_cases hl : 0 ≤ L ∧ L ≤ 99
 case neg =>
  rw [decide_eq_false hl]
  simp -implicitDefEqProofs (disch := omega) only [Nat.reduceEqDiff, ↓reduceIte, vcu, ↓vcd, opK_some, Bool.not_false]
  refine fin_drop Tryd.results8 σ s1 ⟨?_, rfl⟩
  simp -implicitDefEqProofs (disch := omega) only [Nat.reduceEqDiff, ↓reduceIte, vcu, ↓vcd]
  rw [deedT, if_neg fun h => hl h.2.1]
 rw [decide_eq_true hl]
 simp -implicitDefEqProofs (disch := omega) only [Nat.reduceEqDiff, ↓reduceIte, vcu, ↓vcd, opK_some, Bool.not_true]
 obtain ⟨kn, hkn, rfl⟩ : ∃ kn : Nat, kn < 3 ∧ K = kn := ⟨K.toNat, by omega, by omega⟩
 obtain ⟨n, hn, rfl⟩ : ∃ n : Nat, n < 100 ∧ L = n := ⟨L.toNat, by omega, by omega⟩
 have hkw := kws_at hkn
 have hkl := kwT_len kn
 have hnl := decN_len n
 have ha1 : abin Tryd.prog 9 .add (.string (tx (kwT kn))) (.string { data := #[32] }) = some (.string (tx (kwT kn ++ [32]))) := abin_sadd (by simp; omega)
 have ha2 := abin_sadd (P := Tryd.prog) (t := 9) (xs := kwT kn ++ [32]) (ys := decN n) (by rw [List.length_append, List.length_singleton]; omega)
 refine acodeB_monoW (Q' := fun e a' τ' => e = .normal ∧ a' 1 = .pointer (some ⟨b, 0, none⟩) ∧ a' 3 = .string (tx ((kwT kn ++ [32]) ++ decN n)) ∧ Sub τ τ')
  (region_tree mixed (quiets [1, 6] (quiets [2, 7] (.two 0 (quiets [3] (.two 4 (quiets [5] (.one 8 (.one 9 (quiets [10] .stop)))) 8 (.one 4 (quiets [5] (.one 9 (quiets [10] .stop)))))) 8 (.one 0 (quiets [3] (.one 4 (quiets [5] (.one 9 (quiets [10] .stop))))))))) [([2, 7], Sub τ)] (by kernel_rfl) (by kernel_rfl) (fun p hp => by simp only [List.mem_singleton] at hp; subst hp; exact Sub.refl _) ?_) ?_
 ·refine tree_quiets _ _ _ _ sf0 (by kernel_rfl) (by kernel_rfl) ?_
  simp -implicitDefEqProofs (disch := omega) only [Nat.reduceEqDiff, ↓reduceIte, vcu, ↓vcd, pickOps_nil, pickOps_cons, pickO_some, List.getElem?_cons_succ, List.getElem?_cons_zero]
  refine tree_quiets τ _ _ _ sf1 (by kernel_rfl) (by kernel_rfl) ?_
  simp -implicitDefEqProofs (disch := omega) only [Nat.reduceEqDiff, ↓reduceIte, vcu, ↓vcd, pickOps_nil, pickOps_cons, pickO_some, List.getElem?_cons_succ, List.getElem?_cons_zero, x0, x1]
  refine tree_two rfl rfl ?_ ?_
  ·refine r_lit el44 (out := #[.string (tx [99, 97, 108, 108]), .string (tx [100, 114, 111, 112]), .string (tx [110, 117, 109, 98, 101, 114])]) (by first | kernel_rfl | (simp -implicitDefEqProofs (disch := omega) only [Nat.reduceEqDiff, ↓reduceIte, vcu, ↓vcd]; kernel_rfl)) (by rfl) fun g τ3 n3 s3 v3 => ?_
   replace v3 : τ3 g = some ⟨texts kws, false⟩ := v3
   have y3 : ld τ3 g (0 + kn) = some (.string (tx (kwT kn))) := by rw [← hkw]; exact textsAt_own v3 kn (by show kn < 3; omega)
   simp -implicitDefEqProofs (disch := omega) only [Nat.reduceEqDiff, ↓reduceIte, vcu, ↓vcd]
   refine ⟨keep_of rfl (fun p hp => by simp only [List.mem_singleton] at hp; subst hp; exact .inr (s3)), ?_⟩
   refine tree_quiets _ _ _ _ sf0 (by kernel_rfl) (by kernel_rfl) ?_
   simp -implicitDefEqProofs (disch := omega) only [Nat.reduceEqDiff, ↓reduceIte, vcu, ↓vcd, pickOps_nil, pickOps_cons, pickO_some, List.getElem?_cons_succ, List.getElem?_cons_zero, Int.toNat_natCast]
   refine tree_two rfl rfl ?_ ?_
   ·simp -implicitDefEqProofs (disch := omega) only [Nat.reduceEqDiff, ↓reduceIte, vcu, ↓vcd, y3]
    refine ⟨keep_of rfl (fun p hp => by simp only [List.mem_singleton] at hp; subst hp; exact .inr (s3)), ?_⟩
    refine tree_quiets _ _ _ _ sf0 (by kernel_rfl) (by kernel_rfl) ?_
    simp -implicitDefEqProofs (disch := omega) only [Nat.reduceEqDiff, ↓reduceIte, vcu, ↓vcd, pickOps_nil, pickOps_cons, pickO_some, List.getElem?_cons_succ, List.getElem?_cons_zero, ha1]
    refine tree_one rfl ?_
    simp -implicitDefEqProofs (disch := omega) only [Nat.reduceEqDiff, ↓reduceIte, vcu, ↓vcd]
    refine (number_calls n (by omega) _).mono ?_
    rintro _ τ9 ⟨rfl, e9⟩
    subst τ9
    simp -implicitDefEqProofs (disch := omega) only [Nat.reduceEqDiff, ↓reduceIte, vcu, ↓vcd, opK_some]
    refine ⟨keep_of rfl (fun p hp => by simp only [List.mem_singleton] at hp; subst hp; exact .inr (s3)), ?_⟩
    refine tree_one rfl ?_
    simp -implicitDefEqProofs (disch := omega) only [Nat.reduceEqDiff, ↓reduceIte, vcu, ↓vcd, ha2]
    refine ⟨keep_of rfl (fun p hp => by simp only [List.mem_singleton] at hp; subst hp; exact .inr (s3)), ?_⟩
    refine tree_quiets _ _ _ _ sf0 (by kernel_rfl) (by kernel_rfl) ?_
    simp -implicitDefEqProofs (disch := omega) only [Nat.reduceEqDiff, ↓reduceIte, vcu, ↓vcd, pickOps_nil, pickOps_cons, pickO_some, List.getElem?_cons_succ, List.getElem?_cons_zero]
    refine tree_stop ?_
    refine ⟨trivial, ?_, ?_, s3⟩
    ·simp -implicitDefEqProofs (disch := omega) only [Nat.reduceEqDiff, ↓reduceIte, vcu, ↓vcd]
    ·simp -implicitDefEqProofs (disch := omega) only [Nat.reduceEqDiff, ↓reduceIte, vcu, ↓vcd]
   ·simp -implicitDefEqProofs (disch := omega) only [Nat.reduceEqDiff, ↓reduceIte, vcu, ↓vcd]
    refine (number_calls n (by omega) _).mono ?_
    rintro _ τ9 ⟨rfl, e9⟩
    subst τ9
    simp -implicitDefEqProofs (disch := omega) only [Nat.reduceEqDiff, ↓reduceIte, vcu, ↓vcd, opK_some]
    refine ⟨keep_of rfl (fun p hp => by simp only [List.mem_singleton] at hp; subst hp; exact .inr (s3)), ?_⟩
    refine tree_one rfl ?_
    simp -implicitDefEqProofs (disch := omega) only [Nat.reduceEqDiff, ↓reduceIte, vcu, ↓vcd, y3]
    refine ⟨keep_of rfl (fun p hp => by simp only [List.mem_singleton] at hp; subst hp; exact .inr (s3)), ?_⟩
    refine tree_quiets _ _ _ _ sf0 (by kernel_rfl) (by kernel_rfl) ?_
    simp -implicitDefEqProofs (disch := omega) only [Nat.reduceEqDiff, ↓reduceIte, vcu, ↓vcd, pickOps_nil, pickOps_cons, pickO_some, List.getElem?_cons_succ, List.getElem?_cons_zero, ha1]
    refine tree_one rfl ?_
    simp -implicitDefEqProofs (disch := omega) only [Nat.reduceEqDiff, ↓reduceIte, vcu, ↓vcd, ha2]
    refine ⟨keep_of rfl (fun p hp => by simp only [List.mem_singleton] at hp; subst hp; exact .inr (s3)), ?_⟩
    refine tree_quiets _ _ _ _ sf0 (by kernel_rfl) (by kernel_rfl) ?_
    simp -implicitDefEqProofs (disch := omega) only [Nat.reduceEqDiff, ↓reduceIte, vcu, ↓vcd, pickOps_nil, pickOps_cons, pickO_some, List.getElem?_cons_succ, List.getElem?_cons_zero]
    refine tree_stop ?_
    refine ⟨trivial, ?_, ?_, s3⟩
    ·simp -implicitDefEqProofs (disch := omega) only [Nat.reduceEqDiff, ↓reduceIte, vcu, ↓vcd]
    ·simp -implicitDefEqProofs (disch := omega) only [Nat.reduceEqDiff, ↓reduceIte, vcu, ↓vcd]
  ·simp -implicitDefEqProofs (disch := omega) only [Nat.reduceEqDiff, ↓reduceIte, vcu, ↓vcd]
   refine (number_calls n (by omega) _).mono ?_
   rintro _ τ9 ⟨rfl, e9⟩
   subst τ9
   simp -implicitDefEqProofs (disch := omega) only [Nat.reduceEqDiff, ↓reduceIte, vcu, ↓vcd, opK_some]
   refine ⟨keep_of rfl (fun p hp => by simp only [List.mem_singleton] at hp; subst hp; exact .inr (Sub.refl _)), ?_⟩
   refine tree_one rfl ?_
   refine r_lit el44 (out := #[.string (tx [99, 97, 108, 108]), .string (tx [100, 114, 111, 112]), .string (tx [110, 117, 109, 98, 101, 114])]) (by first | kernel_rfl | (simp -implicitDefEqProofs (disch := omega) only [Nat.reduceEqDiff, ↓reduceIte, vcu, ↓vcd]; kernel_rfl)) (by rfl) fun g τ3 n3 s3 v3 => ?_
   replace v3 : τ3 g = some ⟨texts kws, false⟩ := v3
   have y3 : ld τ3 g (0 + kn) = some (.string (tx (kwT kn))) := by rw [← hkw]; exact textsAt_own v3 kn (by show kn < 3; omega)
   simp -implicitDefEqProofs (disch := omega) only [Nat.reduceEqDiff, ↓reduceIte, vcu, ↓vcd]
   refine ⟨keep_of rfl (fun p hp => by simp only [List.mem_singleton] at hp; subst hp; exact .inr (s3)), ?_⟩
   refine tree_quiets _ _ _ _ sf0 (by kernel_rfl) (by kernel_rfl) ?_
   simp -implicitDefEqProofs (disch := omega) only [Nat.reduceEqDiff, ↓reduceIte, vcu, ↓vcd, pickOps_nil, pickOps_cons, pickO_some, List.getElem?_cons_succ, List.getElem?_cons_zero, Int.toNat_natCast]
   refine tree_one rfl ?_
   simp -implicitDefEqProofs (disch := omega) only [Nat.reduceEqDiff, ↓reduceIte, vcu, ↓vcd, y3]
   refine ⟨keep_of rfl (fun p hp => by simp only [List.mem_singleton] at hp; subst hp; exact .inr (s3)), ?_⟩
   refine tree_quiets _ _ _ _ sf0 (by kernel_rfl) (by kernel_rfl) ?_
   simp -implicitDefEqProofs (disch := omega) only [Nat.reduceEqDiff, ↓reduceIte, vcu, ↓vcd, pickOps_nil, pickOps_cons, pickO_some, List.getElem?_cons_succ, List.getElem?_cons_zero, ha1]
   refine tree_one rfl ?_
   simp -implicitDefEqProofs (disch := omega) only [Nat.reduceEqDiff, ↓reduceIte, vcu, ↓vcd, ha2]
   refine ⟨keep_of rfl (fun p hp => by simp only [List.mem_singleton] at hp; subst hp; exact .inr (s3)), ?_⟩
   refine tree_quiets _ _ _ _ sf0 (by kernel_rfl) (by kernel_rfl) ?_
   simp -implicitDefEqProofs (disch := omega) only [Nat.reduceEqDiff, ↓reduceIte, vcu, ↓vcd, pickOps_nil, pickOps_cons, pickO_some, List.getElem?_cons_succ, List.getElem?_cons_zero]
   refine tree_stop ?_
   refine ⟨trivial, ?_, ?_, s3⟩
   ·simp -implicitDefEqProofs (disch := omega) only [Nat.reduceEqDiff, ↓reduceIte, vcu, ↓vcd]
   ·simp -implicitDefEqProofs (disch := omega) only [Nat.reduceEqDiff, ↓reduceIte, vcu, ↓vcd]
 ·rintro e a' τ' ⟨rfl, p1, p3, s2⟩
  have z0 := ld_sub s2 x0
  have z2 := ld_sub s2 x2
  have s12 := s1.trans s2
  have aq : abin Tryd.prog 9 .eql (.string (tx t)) (.string { data := #[] }) = some (.bool (decide (t = []))) := abin_seql (ys := [])
  have a3 : abin Tryd.prog 9 .add (.string (tx ((kwT kn ++ [32]) ++ decN n))) (.string { data := #[32] }) = some (.string (tx ((kwT kn ++ [32]) ++ decN n ++ [32]))) := abin_sadd (by simp; omega)
  have ht' : t.length ≤ 1048576 := ht
  have a4 := abin_sadd (P := Tryd.prog) (t := 9) (xs := (kwT kn ++ [32]) ++ decN n ++ [32]) (ys := t) (by simp; omega)
  have hN : (n : Int).toNat = n := Int.toNat_natCast n
  by_cases h1 : kn = 1
  ·have d1 : decide ((kn : Int) = 1) = true := decide_eq_true (by omega)
   by_cases he : t = []
   ·simp -implicitDefEqProofs (disch := omega) only [Nat.reduceEqDiff, ↓reduceIte, vcu, ↓vcd, p1, p3, z0, z2, d1, aq, decide_eq_true he]
    refine fin_drop Tryd.results8 σ s12 ⟨?_, rfl⟩
    simp -implicitDefEqProofs (disch := omega) only [Nat.reduceEqDiff, ↓reduceIte, vcu, ↓vcd, p3]
    rw [deedT, if_pos ⟨hk, hl, .inl ⟨by show (kn : Int) = 1; omega, he⟩⟩]
    simp [h1, hN]
   ·have no : ¬ DdOk ⟨kn, n, t⟩ := fun h => h.2.2.elim (fun h => he h.2) fun h => h.1 (by show (kn : Int) = 1; omega)
    simp -implicitDefEqProofs (disch := omega) only [Nat.reduceEqDiff, ↓reduceIte, vcu, ↓vcd, p1, p3, z0, z2, d1, aq, decide_eq_false he]
    refine fin_drop Tryd.results8 σ s12 ⟨?_, rfl⟩
    simp -implicitDefEqProofs (disch := omega) only [Nat.reduceEqDiff, ↓reduceIte, vcu, ↓vcd, p3]
    rw [deedT, if_neg no]
  ·have d1 : decide ((kn : Int) = 1) = false := decide_eq_false (by omega)
   simp -implicitDefEqProofs (disch := omega) only [Nat.reduceEqDiff, ↓reduceIte, vcu, ↓vcd, p1, p3, z0, z2, d1]
   refine (digits_calls τ' t ht').mono ?_
   rintro _ _ ⟨rfl, rfl⟩
   rename_i τ'
   by_cases hdg : DgT t
   case neg =>
    have no : ¬ DdOk ⟨kn, n, t⟩ := fun h => h.2.2.elim (fun h => h1 (by have : (kn : Int) = 1 := h.1; omega)) fun h => hdg h.2.1
    rw [decide_eq_false hdg]
    simp -implicitDefEqProofs (disch := omega) only [Nat.reduceEqDiff, ↓reduceIte, vcu, ↓vcd, opK_some, p1, p3, z0, z2, Bool.not_false]
    refine fin_drop Tryd.results8 σ s12 ⟨?_, rfl⟩
    simp -implicitDefEqProofs (disch := omega) only [Nat.reduceEqDiff, ↓reduceIte, vcu, ↓vcd, p3]
    rw [deedT, if_neg no]
   rw [decide_eq_true hdg]
   simp -implicitDefEqProofs (disch := omega) only [Nat.reduceEqDiff, ↓reduceIte, vcu, ↓vcd, opK_some, p1, p3, z0, z2, Bool.not_true]
   refine (in_calls τ' t.length 1 3).mono ?_
   rintro _ _ ⟨rfl, rfl⟩
   by_cases h13 : (1 : Int) ≤ t.length ∧ (t.length : Int) ≤ 3
   case neg =>
    have no : ¬ DdOk ⟨kn, n, t⟩ := fun h => h.2.2.elim (fun h => h1 (by have : (kn : Int) = 1 := h.1; omega)) fun h => h13 (by have h2 : 1 ≤ t.length := h.2.2.1; have h3 : t.length ≤ 3 := h.2.2.2; omega)
    rw [decide_eq_false h13]
    simp -implicitDefEqProofs (disch := omega) only [Nat.reduceEqDiff, ↓reduceIte, vcu, ↓vcd, opK_some, p1, p3, z0, z2, Bool.not_false]
    refine fin_drop Tryd.results8 σ s12 ⟨?_, rfl⟩
    simp -implicitDefEqProofs (disch := omega) only [Nat.reduceEqDiff, ↓reduceIte, vcu, ↓vcd, p3]
    rw [deedT, if_neg no]
   rw [decide_eq_true h13]
   simp -implicitDefEqProofs (disch := omega) only [Nat.reduceEqDiff, ↓reduceIte, vcu, ↓vcd, opK_some, p1, p3, z0, z2, Bool.not_true, a3, a4]
   refine fin_drop Tryd.results8 σ s12 ⟨?_, rfl⟩
   simp -implicitDefEqProofs (disch := omega) only [Nat.reduceEqDiff, ↓reduceIte, vcu, ↓vcd, p3]
   rw [deedT, if_pos ⟨hk, hl, .inr ⟨by show (kn : Int) ≠ 1; omega, hdg, by show 1 ≤ t.length; omega, by show t.length ≤ 3; omega⟩⟩]
   have : ¬ (kn : Int) = 1 := by omega
   simp [this, hN]
end Go.Proofs.YtafkndnmhhjdhaaDoor
namespace Go.Proofs.YtafkndnmhhjdhaaDoor
open Go Go.Abs Go.RowKit Go.Dial
variable {w0 : World}
/-- a deed as a value -/
def ddA (d : Dd) : Value := .agg #[.int .i64 d.k, .int .i64 d.l, .string (tx d.t)]
end Go.Proofs.YtafkndnmhhjdhaaDoor
namespace Go.Proofs.YtafkndnmhhjdhaaDoor
open Go Go.Abs Go.RowKit Go.Dial
variable {w0 : World}
/-- the text of a journal; empty if one deed has none -/
def jrnV (ds : List Dd) : List UInt8 := if ∀ d ∈ ds, deedT d ≠ [] then jrn ds else []
theorem jrn_take (ds : List Dd) {k : Nat} (h : k < ds.length) : jrn (ds.take (k + 1)) = jrn (ds.take k) ++ deedT (ds.getD k dd0) ++ [10] := by
 have app : ∀ a b : List Dd, jrn (a ++ b) = jrn a ++ jrn b := fun a b => by
  induction a with
  | nil => rfl
  | cons x a ih => simp [jrn, ih]
 rw [List.take_succ_eq_append_getElem h, app]
 simp [jrn, List.getD, h]
theorem deedT_len (d : Dd) : (deedT d).length ≤ 120 := by
 unfold deedT
 split
 ·rename_i h
  have h1 := kwT_len d.k
  have h2 := decN_len d.l.toNat
  have h3 := h.2.1
  have h4 : d.t.length ≤ 3 := by
   rcases h.2.2 with ⟨_, e⟩ | ⟨_, _, _, e⟩
   ·rw [e]; simp
   ·exact e
  rw [List.length_append, List.length_cons, List.length_append]
  split
  ·simp; omega
  ·simp; omega
 ·simp
theorem jrn_len : ∀ ds : List Dd, (jrn ds).length ≤ 121 * ds.length
 | [] => by simp [jrn]
 | d :: ds => by
  have := jrn_len ds
  have := deedT_len d
  simp only [jrn, List.length_append, List.length_cons]
  omega
set_option maxRecDepth 8000 in
theorem jrnText_at (σ : AHeap) (h o : Nat) (ds : List Dd) (hv : DdsAt σ h o ds) (hl : ds.length ≤ 1048576) (hp : ∀ d ∈ ds, d.t.length ≤ 1048576) :
  ACall Tryd.prog w0 15 [.slice (some ⟨h, o, none⟩) ds.length 3] σ fun r σ' => r = .string (tx (jrnV ds)) ∧ σ' = σ := by
 refine acall_go mixed Tryd.func15 rfl good15 fun pr => ?_
 simp -implicitDefEqProofs (disch := omega) only [Nat.reduceEqDiff, ↓reduceIte, vcu, ↓vcd]
 refine vc_loop_c mixed (by kernel_rfl) [0] (fun m a σ' => ∃ k : Nat, m + k = ds.length ∧ a 4 = .int .i64 k ∧ a 3 = .string (tx (jrn (ds.take k))) ∧ (∀ j, j < k → deedT (ds.getD j dd0) ≠ []) ∧ σ' = σ) ds.length ⟨0, by simp, rfl, rfl, fun j hj => absurd hj (by omega), rfl⟩ ?_
 rintro m a σ' hc ⟨k, hk, h4, h3, he, rfl⟩
 simp -implicitDefEqProofs (disch := omega) only [Nat.reduceEqDiff, ↓reduceIte, vcu, ↓vcd] at hc
 obtain ⟨h0, -⟩ := hc
 by_cases hlt : k < ds.length
 ·have hx := hv.all hlt
  have hmem : ds.getD k dd0 ∈ ds := by simp [List.getD, hlt]
  have ht := hp _ hmem
  have hst := jrn_take ds hlt
  have hjl := jrn_len (ds.take k)
  rw [List.length_take] at hjl
  have hdl := deedT_len (ds.getD k dd0)
  unfold ddc at hx
  have aq : ∀ xs : List UInt8, abin Tryd.prog 9 .eql (.string (tx xs)) (.string { data := #[] }) = some (.bool (decide (xs = []))) := fun xs => abin_seql (ys := [])
  have ha1 := abin_sadd (P := Tryd.prog) (t := 9) (xs := jrn (ds.take k)) (ys := deedT (ds.getD k dd0)) (by omega)
  have ha2 : abin Tryd.prog 9 .add (.string (tx (jrn (ds.take k) ++ deedT (ds.getD k dd0)))) (.string { data := #[10] }) = some (.string (tx (jrn (ds.take k) ++ deedT (ds.getD k dd0) ++ [10]))) := abin_sadd (by rw [List.length_append]; show _ + 1 ≤ _; omega)
  simp -implicitDefEqProofs (disch := omega) only [Nat.reduceEqDiff, ↓reduceIte, vcu, ↓vcd, h0, h3, h4, hx, co26]
  refine (deedText_calls σ' (ds.getD k dd0) ht).mono ?_
  rintro _ _ ⟨rfl, rfl⟩
  rename_i σ'
  by_cases hne : deedT (ds.getD k dd0) = []
  ·simp -implicitDefEqProofs (disch := omega) only [Nat.reduceEqDiff, ↓reduceIte, vcu, ↓vcd, opK_some, h0, h3, h4, aq, decide_eq_true hne]
   refine fin_one Tryd.results15 ⟨?_, rfl⟩
   simp -implicitDefEqProofs (disch := omega) only [Nat.reduceEqDiff, ↓reduceIte, vcu, ↓vcd]
   rw [jrnV, if_neg fun hh => hh _ hmem hne]
  ·simp -implicitDefEqProofs (disch := omega) only [Nat.reduceEqDiff, ↓reduceIte, vcu, ↓vcd, opK_some, h0, h3, h4, aq, decide_eq_false hne, hx, co26]
   refine (deedText_calls σ' (ds.getD k dd0) ht).mono ?_
   rintro _ _ ⟨rfl, rfl⟩
   rename_i σ'
   simp -implicitDefEqProofs (disch := omega) only [Nat.reduceEqDiff, ↓reduceIte, vcu, ↓vcd, opK_some, h0, h3, h4, ha1, ha2]
   refine ⟨by simp [h0], m - 1, by omega, k + 1, by omega, by simp, by rw [hst], fun j hj => ?_, trivial⟩
   by_cases e : j = k
   ·subst e; exact hne
   ·exact he j (by omega)
 ·obtain rfl : k = ds.length := by omega
  simp -implicitDefEqProofs (disch := omega) only [Nat.reduceEqDiff, ↓reduceIte, vcu, ↓vcd, h0, h3, h4]
  refine fin_one Tryd.results15 ⟨?_, rfl⟩
  simp -implicitDefEqProofs (disch := omega) only [Nat.reduceEqDiff, ↓reduceIte, vcu, ↓vcd, h3]
  rw [List.take_length, jrnV, if_pos fun d hd => ?_]
  obtain ⟨j, hj, rfl⟩ := List.mem_iff_getElem.1 hd
  have := he j hj
  simpa [List.getD, hj] using this
theorem jrnText_calls (σ : AHeap) (v : Value) (ds : List Dd) (hv : Dds σ v ds) (hl : ds.length ≤ 1048576) (hp : ∀ d ∈ ds, d.t.length ≤ 1048576) :
  ACall Tryd.prog w0 15 [v] σ fun r σ' => r = .string (tx (jrnV ds)) ∧ σ' = σ :=
 ACall.dds_quiet (pre := []) (post := []) (by kernel_rfl) hv fun σ1 h o _ hg => jrnText_at σ1 h o ds hg hl hp
end Go.Proofs.YtafkndnmhhjdhaaDoor
namespace Go.Proofs.YtafkndnmhhjdhaaDoor
open Go Go.Abs Go.RowKit Go.Dial
variable {w0 : World}
set_option maxRecDepth 8000 in
theorem eqDd_at (σ : AHeap) (c d : Dd) : ACall Tryd.prog w0 13 [ddA c, ddA d] σ fun r σ' => r = .bool (decide (c = d)) ∧ σ' = σ := by
 obtain ⟨A, B, C⟩ := c
 obtain ⟨D, E, F⟩ := d
 unfold ddA
 refine acall_go mixed Tryd.func13 rfl good13 fun pr => ?_
 simp -implicitDefEqProofs (disch := omega) only [Nat.reduceEqDiff, ↓reduceIte, vcu, ↓vcd]
 refine r_boxed fun b1 τ1 n1 s1 e1 => ?_
 replace e1 : τ1 b1 = some ⟨[.int .i64 A, .int .i64 B, .string (tx C)], false⟩ := e1
 refine r_boxed fun b2 τ2 n2 s2 e2 => ?_
 replace e2 : τ2 b2 = some ⟨[.int .i64 D, .int .i64 E, .string (tx F)], false⟩ := e2
 replace e1 := s2 _ _ e1
 have s12 := s1.trans s2
 have x0 : ld τ2 b1 0 = some (.int .i64 A) := ld_of e1 rfl
 have x1 : ld τ2 b1 1 = some (.int .i64 B) := ld_of e1 rfl
 have x2 : ld τ2 b1 2 = some (.string (tx C)) := ld_of e1 rfl
 have y0 : ld τ2 b2 0 = some (.int .i64 D) := ld_of e2 rfl
 have y1 : ld τ2 b2 1 = some (.int .i64 E) := ld_of e2 rfl
 have y2 : ld τ2 b2 2 = some (.string (tx F)) := ld_of e2 rfl
 by_cases h1 : A = D
 case neg =>
  have d1 : decide (A ≠ D) = true := decide_eq_true h1
  simp -implicitDefEqProofs (disch := omega) only [Nat.reduceEqDiff, ↓reduceIte, vcu, ↓vcd, x0, y0, d1]
  refine fin_drop Tryd.results13 σ s12 ⟨?_, rfl⟩
  simp -implicitDefEqProofs (disch := omega) only [Nat.reduceEqDiff, ↓reduceIte, vcu, ↓vcd]
  rw [decide_eq_false (by rintro e; cases e; exact h1 rfl)]
 have d1 : decide (A ≠ D) = false := decide_eq_false fun h => h h1
 by_cases h2 : B = E
 case neg =>
  have d2 : decide (B ≠ E) = true := decide_eq_true h2
  simp -implicitDefEqProofs (disch := omega) only [Nat.reduceEqDiff, ↓reduceIte, vcu, ↓vcd, x0, y0, d1, x1, y1, d2]
  refine fin_drop Tryd.results13 σ s12 ⟨?_, rfl⟩
  simp -implicitDefEqProofs (disch := omega) only [Nat.reduceEqDiff, ↓reduceIte, vcu, ↓vcd]
  rw [decide_eq_false (by rintro e; cases e; exact h2 rfl)]
 have d2 : decide (B ≠ E) = false := decide_eq_false fun h => h h2
 by_cases h3 : C = F
 ·simp -implicitDefEqProofs (disch := omega) only [Nat.reduceEqDiff, ↓reduceIte, vcu, ↓vcd, x0, y0, d1, x1, y1, d2, x2, y2, abin_sneq, decide_eq_true h3, Bool.not_true]
  refine fin_drop Tryd.results13 σ s12 ⟨?_, rfl⟩
  simp -implicitDefEqProofs (disch := omega) only [Nat.reduceEqDiff, ↓reduceIte, vcu, ↓vcd]
  rw [decide_eq_true (by rw [h1, h2, h3])]
 ·simp -implicitDefEqProofs (disch := omega) only [Nat.reduceEqDiff, ↓reduceIte, vcu, ↓vcd, x0, y0, d1, x1, y1, d2, x2, y2, abin_sneq, decide_eq_false h3, Bool.not_false]
  refine fin_drop Tryd.results13 σ s12 ⟨?_, rfl⟩
  simp -implicitDefEqProofs (disch := omega) only [Nat.reduceEqDiff, ↓reduceIte, vcu, ↓vcd]
  rw [decide_eq_false (by rintro e; cases e; exact h3 rfl)]
end Go.Proofs.YtafkndnmhhjdhaaDoor
namespace Go.Proofs.YtafkndnmhhjdhaaDoor
open Go Go.Abs Go.RowKit Go.Dial
variable {w0 : World}
theorem listD_eq {xs ys : List Dd} (hlen : xs.length = ys.length) (h : ∀ j, j < xs.length → xs.getD j dd0 = ys.getD j dd0) : xs = ys := by
 apply List.ext_getElem hlen
 intro i h1 h2
 have := h i h1
 simpa [List.getD, h1, h2] using this
set_option maxRecDepth 8000 in
theorem eqDds_at (σ : AHeap) (h o g p : Nat) (xs ys : List Dd) (hv : DdsAt σ h o xs) (hu : DdsAt σ g p ys) (hl : xs.length ≤ 1048576) (hl2 : ys.length ≤ 1048576) :
  ACall Tryd.prog w0 18 [.slice (some ⟨h, o, none⟩) xs.length 3, .slice (some ⟨g, p, none⟩) ys.length 3] σ fun r σ' => r = .bool (decide (xs = ys)) ∧ σ' = σ := by
 refine acall_go mixed Tryd.func18 rfl good18 fun pr => ?_
 by_cases hlen : xs.length = ys.length
 ·simp -implicitDefEqProofs (disch := omega) only [Nat.reduceEqDiff, ↓reduceIte, vcu, ↓vcd]
  refine vc_loop_c mixed (by kernel_rfl) [0, 1] (fun m a σ' => ∃ k : Nat, m + k = xs.length ∧ a 5 = .int .i64 k ∧ σ' = σ ∧ ∀ j, j < k → xs.getD j dd0 = ys.getD j dd0) xs.length ⟨0, by simp, rfl, rfl, by simp⟩ ?_
  rintro m a σ' hc ⟨k, hk, h5, rfl, he⟩
  simp -implicitDefEqProofs (disch := omega) only [Nat.reduceEqDiff, ↓reduceIte, vcu, ↓vcd] at hc
  obtain ⟨h0, h1, -⟩ := hc
  by_cases hlt : k < xs.length
  ·have hx := hv.all hlt
   have hy := hu.all (show k < ys.length by omega)
   generalize hcx : xs.getD k dd0 = c at hx
   generalize hcy : ys.getD k dd0 = d at hy
   obtain ⟨A, B, C⟩ := c
   obtain ⟨D, E, F⟩ := d
   unfold ddc at hx hy
   simp -implicitDefEqProofs (disch := omega) only [Nat.reduceEqDiff, ↓reduceIte, vcu, ↓vcd, h0, h1, h5, hx, hy, co26]
   rw [r_callq]
   refine ⟨_, eqDd_at _ ⟨A, B, C⟩ ⟨D, E, F⟩, ?_⟩
   by_cases hxy : (⟨A, B, C⟩ : Dd) = ⟨D, E, F⟩
   ·rw [decide_eq_true hxy]
    simp -implicitDefEqProofs (disch := omega) only [Nat.reduceEqDiff, ↓reduceIte, vcu, ↓vcd, h0, h1, h5]
    refine ⟨⟨trivial, trivial, trivial⟩, m - 1, by omega, k + 1, by omega, by simp, trivial, fun j hj => ?_⟩
    by_cases e : j = k
    ·subst e; rw [hcx, hcy]; exact hxy
    ·exact he j (by omega)
   ·rw [decide_eq_false hxy]
    simp -implicitDefEqProofs (disch := omega) only [Nat.reduceEqDiff, ↓reduceIte, vcu, ↓vcd, h0, h1, h5]
    refine fin_one Tryd.results18 ⟨?_, rfl⟩
    simp -implicitDefEqProofs (disch := omega) only [Nat.reduceEqDiff, ↓reduceIte, vcu, ↓vcd]
    have : xs ≠ ys := fun e => hxy (by rw [← hcx, ← hcy, e])
    simp [this]
  ·simp -implicitDefEqProofs (disch := omega) only [Nat.reduceEqDiff, ↓reduceIte, vcu, ↓vcd, h0, h1, h5]
   refine fin_one Tryd.results18 ⟨?_, rfl⟩
   simp -implicitDefEqProofs (disch := omega) only [Nat.reduceEqDiff, ↓reduceIte, vcu, ↓vcd]
   have : xs = ys := listD_eq hlen fun j hj => he j (by omega)
   simp [this]
 ·simp -implicitDefEqProofs (disch := omega) only [Nat.reduceEqDiff, ↓reduceIte, vcu, ↓vcd]
  refine fin_one Tryd.results18 ⟨?_, rfl⟩
  simp -implicitDefEqProofs (disch := omega) only [Nat.reduceEqDiff, ↓reduceIte, vcu, ↓vcd]
  have : xs ≠ ys := fun e => hlen (by rw [e])
  simp [this]
theorem eqDds_calls (σ : AHeap) (v u : Value) (xs ys : List Dd) (hv : Dds σ v xs) (hu : Dds σ u ys) (hl : xs.length ≤ 1048576) (hl2 : ys.length ≤ 1048576) :
  ACall Tryd.prog w0 18 [v, u] σ fun r σ' => r = .bool (decide (xs = ys)) ∧ σ' = σ :=
 ACall.dds_quiet (pre := []) (post := [u]) (by kernel_rfl) hv fun σ1 h o hs hg =>
  ACall.dds_quiet (pre := [_]) (post := []) (by kernel_rfl) (hu.sub hs) fun σ2 g p hs2 hg2 => eqDds_at σ2 h o g p xs ys (hg.sub hs2) hg2 hl hl2
end Go.Proofs.YtafkndnmhhjdhaaDoor
namespace Go.Proofs.YtafkndnmhhjdhaaDoor
open Go Go.Abs Go.RowKit Go.Dial
variable {w0 : World}
theorem dds_write (cs : List Dd) (i : Nat) (h : i < cs.length) (c : Dd) : lwrite (dds cs) (i * 3) [.int .i64 c.k, .int .i64 c.l, .string (tx c.t)] = dds (cs.set i c) := by
 have hl := dds_length cs
 apply List.ext_getElem?
 intro j
 rw [lwrite_get _ _ _ (by simp; omega)]
 by_cases hj : j < cs.length * 3
 ·obtain ⟨q, r, rfl, hr⟩ : ∃ q r, j = q * 3 + r ∧ r < 3 := ⟨j / 3, j % 3, by omega, by omega⟩
  have hq : q < cs.length := by omega
  have g := dds_get (cs.set i c) q (by simpa using hq)
  have g0 := dds_get cs q hq
  have hget : (cs.set i c).getD q dd0 = if i = q then c else cs.getD q dd0 := by
   simp only [List.getD, List.getElem?_set]
   by_cases e : i = q
   ·subst e; simp [h]
   ·simp [e]
  rw [hget] at g
  have hr' : r = 0 ∨ r = 1 ∨ r = 2 := by omega
  rcases hr' with rfl | rfl | rfl
  ·rw [Nat.add_zero, g.1]
   by_cases e : i = q
   ·subst e; rw [if_pos ⟨Nat.le_refl _, by simp⟩, if_pos rfl]; simp
   ·rw [if_neg (by simp; omega), if_neg e]; exact g0.1
  ·rw [g.2.1]
   by_cases e : i = q
   ·subst e; rw [if_pos ⟨by omega, by simp⟩, if_pos rfl]; simp
   ·rw [if_neg (by simp; omega), if_neg e]; exact g0.2.1
  ·rw [g.2.2]
   by_cases e : i = q
   ·subst e; rw [if_pos ⟨by omega, by simp⟩, if_pos rfl]; simp
   ·rw [if_neg (by simp; omega), if_neg e]; exact g0.2.2
 ·rw [if_neg (by simp; omega), List.getElem?_eq_none (by omega), List.getElem?_eq_none (by rw [dds_length]; simp; omega)]
theorem azeros_dds (l : Nat) : azeros (.agg #[.int .i64 0, .int .i64 0, .string (tx [])]) (l * 3) = dds (List.replicate l dd0) := by
 apply List.ext_getElem?
 intro j
 by_cases hj : j < l * 3
 ·obtain ⟨q, r, rfl, hr⟩ : ∃ q r, j = q * 3 + r ∧ r < 3 := ⟨j / 3, j % 3, by omega, by omega⟩
  have hq : q < l := by omega
  have g := dds_get (List.replicate l dd0) q (by simpa using hq)
  have e : (List.replicate l dd0).getD q dd0 = dd0 := by simp [List.getD, hq]
  rw [e] at g
  have hr' : r = 0 ∨ r = 1 ∨ r = 2 := by omega
  rcases hr' with rfl | rfl | rfl
  ·rw [Nat.add_zero, g.1]
   have : q * 3 % 3 = 0 := by omega
   simp [azeros, madeCells, Value.cells, this, hq, dd0]
  ·rw [g.2.1]
   have h1 : q * 3 + 1 < l * 3 := by omega
   have : (q * 3 + 1) % 3 = 1 := by omega
   simp [azeros, madeCells, Value.cells, this, h1, dd0]
  ·rw [g.2.2]
   have h1 : q * 3 + 2 < l * 3 := by omega
   have : (q * 3 + 2) % 3 = 2 := by omega
   simp [azeros, madeCells, Value.cells, this, h1, dd0]
 ·rw [List.getElem?_eq_none (by rw [azeros_length]; omega), List.getElem?_eq_none (by rw [dds_length]; simp; omega)]
set_option maxRecDepth 8000 in
theorem toDd_at (σ : AHeap) (c : Dd) : ACall Tryd.prog w0 9 [ddA c] σ fun r σ' => r = ddA c ∧ σ' = σ := by
 obtain ⟨A, B, C⟩ := c
 unfold ddA
 refine acall_goc mixed Tryd.func9 rfl goodc9 fun pr => ?_
 simp -implicitDefEqProofs (disch := omega) only [Nat.reduceEqDiff, ↓reduceIte, vcu, ↓vcd]
 refine r_boxed fun h1 τ1 n1 s1 e1 => ?_
 replace e1 : τ1 h1 = some ⟨[.int .i64 A, .int .i64 B, .string (tx C)], false⟩ := e1
 refine r_new ze26 fun h2 τ2 n2 s2 e2 => ?_
 replace e2 : τ2 h2 = some ⟨[.int .i64 0, .int .i64 0, .string (tx [])], false⟩ := e2
 simp -implicitDefEqProofs (disch := omega) only [Nat.reduceEqDiff, ↓reduceIte, vcu, ↓vcd]
 refine r_new ze26 fun h3 τ3 n3 s3 e3 => ?_
 replace e3 : τ3 h3 = some ⟨[.int .i64 0, .int .i64 0, .string (tx [])], false⟩ := e3
 have f1 := (s3 _ _ (s2 _ _ e1))
 have l0 : ld τ3 h1 0 = some (.int .i64 A) := ld_of f1 rfl
 have d2 := ne_of n3 e2
 have d1 := ne_of n3 (s2 _ _ e1)
 simp -implicitDefEqProofs (disch := omega) only [Nat.reduceEqDiff, ↓reduceIte, vcu, ↓vcd, l0]
 refine r_set (g := h3) (i := 0) z9q z9r co3 z9r e3 (by simp) fun τ4 k4 e4 => ?_
 replace e4 : τ4 h3 = some ⟨[.int .i64 A, .int .i64 0, .string (tx [])], false⟩ := e4
 have l1 : ld τ4 h1 1 = some (.int .i64 B) := ld_of (k4.at f1 d1.symm) rfl
 simp -implicitDefEqProofs (disch := omega) only [Nat.reduceEqDiff, ↓reduceIte, vcu, ↓vcd, l1]
 refine r_set (g := h3) (i := 1) z9q z9r co3 z9r e4 (by simp) fun τ5 k5 e5 => ?_
 replace e5 : τ5 h3 = some ⟨[.int .i64 A, .int .i64 B, .string (tx [])], false⟩ := e5
 have l2 : ld τ5 h1 2 = some (.string (tx C)) := ld_of (k5.at (k4.at f1 d1.symm) d1.symm) rfl
 simp -implicitDefEqProofs (disch := omega) only [Nat.reduceEqDiff, ↓reduceIte, vcu, ↓vcd, l2]
 refine r_set (g := h3) (i := 2) z9q z9r co9 z9r e5 (by simp) fun τ6 k6 e6 => ?_
 replace e6 : τ6 h3 = some ⟨[.int .i64 A, .int .i64 B, .string (tx C)], false⟩ := e6
 have l4 : lds τ6 h3 0 3 = some [.int .i64 A, .int .i64 B, .string (tx C)] := lds_three (ld_of e6 rfl) (ld_of e6 rfl) (ld_of e6 rfl)
 have f2 := k6.at (k5.at (k4.at (s3 _ _ e2) d2.symm) d2.symm) d2.symm
 simp -implicitDefEqProofs (disch := omega) only [Nat.reduceEqDiff, ↓reduceIte, vcu, ↓vcd, l4, co26]
 refine r_sets (g := h2) (i := 0) (C := [.int .i64 0, .int .i64 0, .string (tx [])]) z9q z9co26 z9r z9z f2 z9l fun τ7 k7 e7 => ?_
 replace e7 : τ7 h2 = some ⟨[.int .i64 A, .int .i64 B, .string (tx C)], false⟩ := e7
 have l5 : lds τ7 h2 0 3 = some [.int .i64 A, .int .i64 B, .string (tx C)] := lds_three (ld_of e7 rfl) (ld_of e7 rfl) (ld_of e7 rfl)
 simp -implicitDefEqProofs (disch := omega) only [Nat.reduceEqDiff, ↓reduceIte, vcu, ↓vcd]
 refine fin_cell Tryd.results9 σ ?_ (v := .agg #[.int .i64 A, .int .i64 B, .string (tx C)]) (by simp -implicitDefEqProofs (disch := omega) only [Nat.reduceEqDiff, ↓reduceIte, vcu, ↓vcd, l5, co26]) ⟨rfl, rfl⟩
 have q3 : Sub σ τ3 := s1.trans (s2.trans s3)
 have z3 : σ h3 = none := free_sub (s1.trans s2) n3
 have z2 : σ h2 = none := free_sub s1 n2
 exact k7.sub (k6.sub (k5.sub (k4.sub q3 z3) z3) z3) z2
end Go.Proofs.YtafkndnmhhjdhaaDoor
namespace Go.Proofs.YtafkndnmhhjdhaaDoor
open Go Go.Abs Go.RowKit Go.Dial
variable {w0 : World}
set_option maxRecDepth 8000 in
theorem szDd_at (σ : AHeap) (c : Dd) (z : Int) (hz : 0 ≤ z ∧ z ≤ 1048576) (hx : c.t.length ≤ 2 ^ 63 - 1) : ACall Tryd.prog w0 7 [ddA c, .int .i64 z] σ fun r σ' => r = .int .i64 (if z < c.t.length then -1 else z - c.t.length) ∧ σ' = σ := by
 obtain ⟨A, B, C⟩ := c
 unfold ddA
 dsimp only at hx ⊢
 refine acall_go mixed Tryd.func7 rfl good7 fun pr => ?_
 simp -implicitDefEqProofs (disch := omega) only [Nat.reduceEqDiff, ↓reduceIte, vcu, ↓vcd]
 refine r_boxed fun h1 τ1 n1 s1 e1 => ?_
 replace e1 : τ1 h1 = some ⟨[.int .i64 A, .int .i64 B, .string (tx C)], false⟩ := e1
 have a1 : ld τ1 h1 2 = some (.string (tx C)) := ld_of e1 rfl
 by_cases h : z < C.length
 ·simp -implicitDefEqProofs (disch := omega) only [Nat.reduceEqDiff, ↓reduceIte, vcu, ↓vcd, a1]
  refine fin_drop Tryd.results7 σ s1 ⟨?_, rfl⟩
  simp -implicitDefEqProofs (disch := omega) only [Nat.reduceEqDiff, ↓reduceIte, vcu, ↓vcd]
  rw [if_pos h]
 ·simp -implicitDefEqProofs (disch := omega) only [Nat.reduceEqDiff, ↓reduceIte, vcu, ↓vcd, a1]
  refine fin_drop Tryd.results7 σ s1 ⟨?_, rfl⟩
  simp -implicitDefEqProofs (disch := omega) only [Nat.reduceEqDiff, ↓reduceIte, vcu, ↓vcd]
  rw [if_neg h]
set_option maxRecDepth 8000 in
theorem szDds_at (σ : AHeap) (h o : Nat) (cs : List Dd) (n : Int) (hn : 0 ≤ n ∧ n ≤ 1048576) (hv : DdsAt σ h o cs) (hl : cs.length ≤ 2 ^ 63 - 1) (hp : ∀ c ∈ cs, c.t.length ≤ 2 ^ 63 - 1) :
  ACall Tryd.prog w0 14 [.slice (some ⟨h, o, none⟩) cs.length 3, .int .i64 n] σ fun r σ' => (∃ z : Int, r = .int .i64 z ∧ z ≤ 1048576 ∧ (z < 0 ∨ (cs.length ≤ 1048576 ∧ ∀ c ∈ cs, c.t.length ≤ 1048576))) ∧ σ' = σ := by
 refine acall_go mixed Tryd.func14 rfl good14 fun pr => ?_
 by_cases hbig : n < cs.length
 ·simp -implicitDefEqProofs (disch := omega) only [Nat.reduceEqDiff, ↓reduceIte, vcu, ↓vcd]
  refine fin_one Tryd.results14 ⟨⟨-1, ?_, by omega, .inl (by omega)⟩, rfl⟩
  simp -implicitDefEqProofs (disch := omega) only [Nat.reduceEqDiff, ↓reduceIte, vcu, ↓vcd]
 ·simp -implicitDefEqProofs (disch := omega) only [Nat.reduceEqDiff, ↓reduceIte, vcu, ↓vcd]
  refine vc_loop_c mixed (by kernel_rfl) [0] (fun m a σ' => ∃ (k : Nat) (z : Int), m + k = cs.length ∧ a 5 = .int .i64 k ∧ a 1 = .int .i64 z ∧ 0 ≤ z ∧ z ≤ 1048576 ∧ (∀ j, j < k → (cs.getD j dd0).t.length ≤ 1048576) ∧ σ' = σ) cs.length ⟨0, _, by simp, rfl, rfl, by omega, by omega, fun j hj => absurd hj (by omega), rfl⟩ ?_
  rintro m a σ' hc ⟨k, z, hk, h5, h1, hz, hz2, hall, rfl⟩
  simp -implicitDefEqProofs (disch := omega) only [Nat.reduceEqDiff, ↓reduceIte, vcu, ↓vcd] at hc
  obtain ⟨h0, -⟩ := hc
  by_cases hlt : k < cs.length
  ·have hx := hv.all hlt
   have hmem : cs.getD k dd0 ∈ cs := by simp [List.getD, hlt]
   have hb := hp _ hmem
   unfold ddc at hx
   simp -implicitDefEqProofs (disch := omega) only [Nat.reduceEqDiff, ↓reduceIte, vcu, ↓vcd, h0, h1, h5, hx, co23]
   refine (szDd_at _ (cs.getD k dd0) z ⟨hz, hz2⟩ hb).mono ?_
   rintro r τ ⟨rfl, rfl⟩
   by_cases hneg : z < ((cs.getD k dd0).t.length : Int)
   ·rw [if_pos hneg]
    simp -implicitDefEqProofs (disch := omega) only [Nat.reduceEqDiff, ↓reduceIte, vcu, ↓vcd, opK_some, h0, h5]
    refine fin_one Tryd.results14 ⟨⟨-1, ?_, by omega, .inl (by omega)⟩, rfl⟩
    simp -implicitDefEqProofs (disch := omega) only [Nat.reduceEqDiff, ↓reduceIte, vcu, ↓vcd]
   ·rw [if_neg hneg]
    simp -implicitDefEqProofs (disch := omega) only [Nat.reduceEqDiff, ↓reduceIte, vcu, ↓vcd, opK_some, h0, h5]
    refine ⟨⟨trivial, trivial⟩, m - 1, by omega, k + 1, _, by omega, by simp, rfl, by omega, by omega, fun j hj => ?_, trivial⟩
    by_cases e : j = k
    ·subst e; omega
    ·exact hall j (by omega)
  ·simp -implicitDefEqProofs (disch := omega) only [Nat.reduceEqDiff, ↓reduceIte, vcu, ↓vcd, h0, h1, h5]
   refine fin_one Tryd.results14 ⟨⟨z, ?_, by omega, .inr ⟨by omega, fun x hx => ?_⟩⟩, rfl⟩
   ·simp -implicitDefEqProofs (disch := omega) only [Nat.reduceEqDiff, ↓reduceIte, vcu, ↓vcd, h1]
   ·obtain ⟨j, hj, rfl⟩ := List.mem_iff_getElem.1 hx
    have := hall j (by omega)
    simpa [List.getD, hj] using this
theorem szDds_calls (σ : AHeap) (v : Value) (cs : List Dd) (n : Int) (hn : 0 ≤ n ∧ n ≤ 1048576) (hv : Dds σ v cs) (hl : cs.length ≤ 2 ^ 63 - 1) (hp : ∀ c ∈ cs, c.t.length ≤ 2 ^ 63 - 1) :
  ACall Tryd.prog w0 14 [v, .int .i64 n] σ fun r σ' => (∃ z : Int, r = .int .i64 z ∧ z ≤ 1048576 ∧ (z < 0 ∨ (cs.length ≤ 1048576 ∧ ∀ c ∈ cs, c.t.length ≤ 1048576))) ∧ σ' = σ :=
 ACall.dds_arg (pre := []) (post := [_]) (by kernel_rfl) hv fun σ1 h o hs hg => (szDds_at σ1 h o cs n hn hg hl hp).drop fun _ _ ⟨h1, h2⟩ => ⟨σ, h2 ▸ hs, h1, rfl⟩
set_option maxRecDepth 8000 in
theorem toDds_at (σ : AHeap) (h o : Nat) (cs : List Dd) (hv : DdsAt σ h o cs) (hl : cs.length ≤ 1048576) :
  ACall Tryd.prog w0 16 [.slice (some ⟨h, o, none⟩) cs.length 3] σ fun r σ' => ∃ g, σ g = none ∧ r = .slice (some ⟨g, 0, none⟩) cs.length 3 ∧ Sub σ σ' ∧ σ' g = some ⟨dds cs, false⟩ := by
 refine acall_go mixed Tryd.func16 rfl good16 fun pr => ?_
 simp -implicitDefEqProofs (disch := omega) only [Nat.reduceEqDiff, ↓reduceIte, vcu, ↓vcd]
 refine r_make (kx := .i64) (ky := .i64) (l := cs.length) (c := cs.length) el36 z9q z9q (by omega) fun g τ hg hs he => ?_
 replace he := he.trans (congrArg (fun l => some (AObj.mk l false)) (azeros_dds cs.length))
 simp -implicitDefEqProofs (disch := omega) only [Nat.reduceEqDiff, ↓reduceIte, vcu, ↓vcd]
 refine vc_loop_c mixed (by kernel_rfl) [0, 3] (fun m a σ' => ∃ k : Nat, m + k = cs.length ∧ a 4 = .int .i64 k ∧ Kept g τ σ' ∧ σ' g = some ⟨dds (cs.take k ++ List.replicate (cs.length - k) dd0), false⟩) cs.length ⟨0, by simp, rfl, Kept.refl _ _, by simpa using he⟩ ?_
 rintro m a σ' hc ⟨k, hk, h4, hkp, hgk⟩
 simp -implicitDefEqProofs (disch := omega) only [Nat.reduceEqDiff, ↓reduceIte, vcu, ↓vcd] at hc
 obtain ⟨h0, h3, -⟩ := hc
 have hsub := hkp.sub hs hg
 by_cases hlt : k < cs.length
 ·have hx := (hv.sub hsub).all hlt
  have hst := set_at cs dd0 hlt rfl
  generalize cs.getD k dd0 = c at hx hst
  obtain ⟨A, B, C⟩ := c
  unfold ddc at hx
  simp -implicitDefEqProofs (disch := omega) only [Nat.reduceEqDiff, ↓reduceIte, vcu, ↓vcd, h0, h3, h4, hx, co26, co23]
  refine (toDd_at _ ⟨A, B, C⟩).mono ?_
  rintro r _ ⟨rfl, rfl⟩
  unfold ddA
  simp -implicitDefEqProofs (disch := omega) only [Nat.reduceEqDiff, ↓reduceIte, vcu, ↓vcd, opK_some, h0, h3, h4]
  refine r_sets (g := g) (i := 0 + k * 3) (by simp -implicitDefEqProofs (disch := omega) only [Nat.reduceEqDiff, ↓reduceIte, vcu, ↓vcd, h3, h4]) z9co26 z9r z9z hgk (by simp -implicitDefEqProofs (disch := omega) only [Nat.reduceEqDiff, ↓reduceIte, vcu, ↓vcd]; rw [dds_length]; simp [Value.cells]; omega) fun τ2 k2 e2 => ?_
  replace e2 : τ2 g = some ⟨lwrite (dds (cs.take k ++ List.replicate (cs.length - k) dd0)) (0 + k * 3) [.int .i64 A, .int .i64 B, .string (tx C)], false⟩ := e2
  have hw := dds_write (cs.take k ++ List.replicate (cs.length - k) dd0) k (by simp; omega) ⟨A, B, C⟩
  rw [Nat.zero_add, hw, hst] at e2
  simp -implicitDefEqProofs (disch := omega) only [Nat.reduceEqDiff, ↓reduceIte, vcu, ↓vcd, h0, h3, h4]
  exact ⟨⟨trivial, trivial, trivial⟩, m - 1, by omega, k + 1, by omega, by simp, hkp.trans k2, e2⟩
 ·simp -implicitDefEqProofs (disch := omega) only [Nat.reduceEqDiff, ↓reduceIte, vcu, ↓vcd, h0, h3, h4]
  have e2 : k = cs.length := by omega
  subst e2
  refine fin_one Tryd.results16 ⟨g, hg, ?_, hsub, by simpa using hgk⟩
  simp -implicitDefEqProofs (disch := omega) only [Nat.reduceEqDiff, ↓reduceIte, vcu, ↓vcd, h3]
theorem toDds_calls (σ : AHeap) (v : Value) (cs : List Dd) (hv : Dds σ v cs) (hl : cs.length ≤ 1048576) :
  ACall Tryd.prog w0 16 [v] σ fun r σ' => Sub σ σ' ∧ OwnD σ σ' r cs := by
 refine ACall.dds_arg (pre := []) (post := []) (by kernel_rfl) hv fun σ1 g1 o1 hs1 hg1 => ?_
 refine (toDds_at σ1 g1 o1 cs hg1 hl).mono ?_
 rintro r τ1 ⟨q, a1, a2, a3, a4⟩
 exact ⟨hs1.trans a3, .inr ⟨q, a2, a4, free_sub hs1 a1⟩⟩
end Go.Proofs.YtafkndnmhhjdhaaDoor
namespace Go.Proofs.YtafkndnmhhjdhaaDoor
open Go Go.Abs Go.RowKit
variable {w0 : World}
/-- a number of a plan -/
def PRow (ps : List (List UInt8)) (k : Nat) : Prop := DgT (ps.getD k []) ∧ (1 ≤ (ps.getD k []).length ∧ (ps.getD k []).length ≤ 3) ∧ ∀ j, j < ps.length → j ≠ k → ¬Beg (ps.getD k []) (ps.getD j [])
def PlanOk (ps : List (List UInt8)) : Prop := (∀ k, k < ps.length → PRow ps k) ∧ ps.length ≤ 10
end Go.Proofs.YtafkndnmhhjdhaaDoor
namespace Go.Proofs.YtafkndnmhhjdhaaDoor
open Go Go.Abs Go.RowKit
variable {w0 : World}
/-- the first from k on of which it holds -/
def fstN (p : Nat → Bool) : Nat → Nat → Option Nat
 | _, 0 => none
 | k, m + 1 => if p k = true then some k else fstN p (k + 1) m
end Go.Proofs.YtafkndnmhhjdhaaDoor
namespace Go.Proofs.YtafkndnmhhjdhaaDoor
open Go Go.Abs Go.RowKit
def shr : List Int → Int
 | [] => 0
 | l :: ls => 4 ^ (3 - l).toNat + shr ls
end Go.Proofs.YtafkndnmhhjdhaaDoor
namespace Go.Clos
structure Sp where
 O : Int
 E : Int
 M : Int
deriving DecidableEq
def SV (s : Sp) : Prop := (1 ≤ s.O ∧ s.O ≤ 4) ∧ (1 ≤ s.E ∧ s.E ≤ 3) ∧ (1 ≤ s.M ∧ s.M ≤ 5)
def Rg (s : Sp) (c : Cl) : Prop := (0 ≤ c.i ∧ c.i ≤ s.O * s.E - 1) ∧ (0 ≤ c.o ∧ c.o ≤ s.O * s.E - 1) ∧ (0 ≤ c.v ∧ c.v ≤ s.M - 1)
/-- two calls that are not possible at the same time -/
def Hit (s : Sp) (c d : Cl) : Prop := c.i = d.i ∨ c.o = d.o ∨ c.v = d.v ∧ (c.i / s.E = d.i / s.E ∨ c.o / s.E = d.o / s.E)
def CV (s : Sp) (cs : List Cl) : Prop := SV s ∧ (∀ c ∈ cs, Rg s c) ∧ cs.Pairwise fun d c => ¬ Hit s c d
section
variable {s : Sp} {cs : List Cl} (h : CV s cs)
include h
end
/-- the middle switches that the calls of an outer switch use -/
def usedI (s : Sp) (cs : List Cl) (x : Int) : List Int := (cs.filter fun c => c.i / s.E = x).map (·.v)
def usedO (s : Sp) (cs : List Cl) (x : Int) : List Int := (cs.filter fun c => c.o / s.E = x).map (·.v)
/-- the first middle switch that is not used -/
def firstN (used : List Int) : Nat → Nat → Int
 | 0, _ => -1
 | n + 1, k => if (k : Int) ∈ used then firstN used n (k + 1) else k
/-- a line has a call -/
def Busy (cs : List Cl) (i o : Int) : Prop := ∃ c ∈ cs, c.i = i ∨ c.o = o
def Lines (s : Sp) (i o : Int) : Prop := (0 ≤ i ∧ i ≤ s.O * s.E - 1) ∧ (0 ≤ o ∧ o ≤ s.O * s.E - 1)
def Enough (s : Sp) : Prop := SV s ∧ s.E ≤ s.M
end Go.Clos
namespace Go.Clos
def gc (cs : List Cl) (k : Nat) : Cl := cs.getD k Go.Abs.cl0
/-- the outer switch of a call on a side (true: of its output) -/
def sw (s : Sp) (sd : Bool) (c : Cl) : Int := bif sd then c.o / s.E else c.i / s.E
def AtC (s : Sp) (sd : Bool) (x w : Int) (c : Cl) : Prop := sw s sd c = x ∧ c.v = w
instance (s : Sp) (sd : Bool) (x w : Int) (c : Cl) : Decidable (AtC s sd x w c) := by unfold AtC; infer_instance
/-- the last of the first n calls at an outer switch through a middle switch that is not in the chain -/
def nxt (s : Sp) (cs : List Cl) (ch : List Nat) (sd : Bool) (x w : Int) : Nat → Option Nat
 | 0 => none
 | n + 1 => if AtC s sd x w (gc cs n) ∧ n ∉ ch then some n else nxt s cs ch sd x w n
def wantOf (a b : Int) (sd : Bool) : Int := bif sd then a else b
/-- the chain -/
def go (s : Sp) (cs : List Cl) (a b : Int) : Nat → List Nat → Bool → Int → List Nat
 | 0, ch, _, _ => ch
 | f + 1, ch, sd, x => match nxt s cs ch sd x (wantOf a b sd) cs.length with
  | none => ch
  | some k => go s cs a b f (ch ++ [k]) (!sd) (sw s (!sd) (gc cs k))
section
variable {s : Sp} {cs : List Cl} {a b B : Int} (h : CV s cs) (hab : a ≠ b) (hB : ∀ l, l < cs.length → sw s true (gc cs l) = B → (gc cs l).v ≠ b)
include h hab hB
end
end Go.Clos
namespace Go.Clos
def wayB (s : Sp) (cs : List Cl) (o : Int) : Int := firstN (usedO s cs (o / s.E)) s.M.toNat 0
section
variable {s : Sp} {cs : List Cl} {i o : Int} (hs : Enough s) (h : CV s cs) (hl : Lines s i o) (hb : ¬ Busy cs i o)
include hs h hl hb
end
end Go.Clos
namespace Go.Proofs.YtafkndnmhhjdhaaDoor
open Go Go.Abs Go.RowKit Go.Dial Go.Clos
/-- an exchange -/
structure Ex where
 s : Sp
 ps : List (List UInt8)
 cs : List Cl
deriving DecidableEq
/-- nobody's input is an output -/
def SepC (cs : List Cl) : Prop := ∀ c ∈ cs, ∀ d ∈ cs, c.i ≠ d.o
def ExOk (e : Ex) : Prop := Enough e.s ∧ PlanOk e.ps ∧ (e.ps.length : Int) = e.s.O * e.s.E ∧ CV e.s e.cs ∧ SepC e.cs
/-- connected -/
def Pr (cs : List Cl) (x y : Int) : Prop := ∃ c ∈ cs, (c.i = x ∧ c.o = y) ∨ (c.o = x ∧ c.i = y)
/-- the peer of a line: the first call that has it -/
def peerS : List Cl → Int → Int
 | [], _ => -1
 | c :: cs, x => if c.i = x then c.o else if c.o = x then c.i else peerS cs x
section
variable {s : Sp} {cs : List Cl} (h : CV s cs) (hs : SepC cs)
include h hs
end
end Go.Proofs.YtafkndnmhhjdhaaDoor
namespace Go.Proofs.YtafkndnmhhjdhaaDoor
open Go Go.Abs Go.RowKit Go.Dial Go.Clos
def lineS (ps : List (List UInt8)) (t : List UInt8) : Int := match fstN (fun k => decide (ps.getD k [] = t)) 0 ps.length with | some k => k | none => -1
/-- what a deed that was done has done -/
structure Did (e : Ex) (d : Dd) (x : Ex) : Prop where
 ok : ExOk x
 s : x.s = e.s
 len : x.ps.length = e.ps.length
 ne : x ≠ e
 line : 0 ≤ d.l ∧ d.l < e.ps.length
 call : d.k = 0 → x.ps = e.ps ∧ (0 ≤ lineS e.ps d.t ∧ lineS e.ps d.t ≠ d.l) ∧ (∀ a b, Pr x.cs a b ↔ Pr e.cs a b ∨ (a = d.l ∧ b = lineS e.ps d.t) ∨ (a = lineS e.ps d.t ∧ b = d.l)) ∧ (∀ y, ¬ Pr e.cs d.l y) ∧ ∀ y, ¬ Pr e.cs (lineS e.ps d.t) y
 drop : d.k = 1 → x.ps = e.ps ∧ Pr e.cs d.l (peerS e.cs d.l) ∧ ∀ a b, Pr x.cs a b ↔ Pr e.cs a b ∧ a ≠ d.l ∧ a ≠ peerS e.cs d.l
 num : d.k = 2 → x.cs = e.cs
 kind : d.k = 0 ∨ d.k = 1 ∨ d.k = 2
section
variable {e x : Ex} {d : Dd} (h : ExOk e) (D : Did e d x)
include h D
end
end Go.Proofs.YtafkndnmhhjdhaaDoor
namespace Go.Proofs.YtafkndnmhhjdhaaDoor
open Go Go.Abs Go.RowKit Go.Dial Go.Clos
def w_no : List UInt8 := [110, 111]
def w_wrong : List UInt8 := [119, 114, 111, 110, 103]
def w_busy : List UInt8 := [98, 117, 115, 121]
def refuse (e : Ex) (d : Dd) : List UInt8 := if d.k ≠ 0 ∨ (e.ps.length : Int) ≤ d.l then w_no else if lineS e.ps d.t < 0 then w_wrong else w_busy
end Go.Proofs.YtafkndnmhhjdhaaDoor
namespace Go.Proofs.YtafkndnmhhjdhaaDoor
open Go Go.Abs Go.RowKit Go.Dial
variable {w0 : World}
theorem abin_uge {t : TypeId} {a b : Int} : abin Tryd.prog t .geq (.int .u8 a) (.int .u8 b) = some (.bool (decide (a ≥ b))) := by simp [abin]
theorem implDg_calls (σ : AHeap) (xs : List UInt8) (hl : xs.length ≤ 1048576) : ACall Tryd.prog w0 36 [.string (tx xs)] σ fun r σ' => r = .bool (decide (DgT xs)) ∧ σ' = σ := by
 refine acall_go mixed Tryd.func36 rfl good36 fun pr => ?_
 simp -implicitDefEqProofs (disch := omega) only [Nat.reduceEqDiff, ↓reduceIte, vcu, ↓vcd]
 refine vc_loop_c mixed (by kernel_rfl) [0, 5] (fun m a σ' => ∃ k : Nat, m + k = xs.length ∧ a 6 = .int .i64 k ∧ (∀ j, j < k → 48 ≤ (xs.getD j 0).toNat ∧ (xs.getD j 0).toNat ≤ 51) ∧ σ' = σ) xs.length ⟨0, by simp, rfl, fun j hj => absurd hj (by omega), rfl⟩ ?_
 rintro m a σ' hc ⟨k, hk, h6, hd, rfl⟩
 simp -implicitDefEqProofs (disch := omega) only [Nat.reduceEqDiff, ↓reduceIte, vcu, ↓vcd] at hc
 obtain ⟨h0, h5, -⟩ := hc
 by_cases hlt : k < xs.length
 ·have hb := u8_le (xs.getD k 0)
  by_cases hlo : ((xs.getD k 0).toNat : Int) < 48
  ·have hn : ¬DgT xs := fun h => by have := h.at hlt; omega
   simp -implicitDefEqProofs (disch := omega) only [Nat.reduceEqDiff, ↓reduceIte, vcu, ↓vcd, h0, h5, h6, abin_ulss, abin_uge]
   refine fin_one Tryd.results36 ⟨?_, rfl⟩
   simp -implicitDefEqProofs (disch := omega) only [Nat.reduceEqDiff, ↓reduceIte, vcu, ↓vcd]
   simp [hn]
  ·by_cases hhi : ((xs.getD k 0).toNat : Int) ≥ 52
   ·have hn : ¬DgT xs := fun h => by have := h.at hlt; omega
    simp -implicitDefEqProofs (disch := omega) only [Nat.reduceEqDiff, ↓reduceIte, vcu, ↓vcd, h0, h5, h6, abin_ulss, abin_uge]
    refine fin_one Tryd.results36 ⟨?_, rfl⟩
    simp -implicitDefEqProofs (disch := omega) only [Nat.reduceEqDiff, ↓reduceIte, vcu, ↓vcd]
    simp [hn]
   ·simp -implicitDefEqProofs (disch := omega) only [Nat.reduceEqDiff, ↓reduceIte, vcu, ↓vcd, h0, h5, h6, abin_ulss, abin_uge]
    refine ⟨⟨trivial, trivial, trivial⟩, m - 1, by omega, k + 1, by omega, by simp, fun j hj => ?_, trivial⟩
    by_cases hjk : j = k
    ·subst hjk; exact ⟨by omega, by omega⟩
    ·exact hd j (by omega)
 ·simp -implicitDefEqProofs (disch := omega) only [Nat.reduceEqDiff, ↓reduceIte, vcu, ↓vcd, h0, h5, h6]
  have e : k = xs.length := by omega
  refine fin_one Tryd.results36 ⟨?_, rfl⟩
  simp -implicitDefEqProofs (disch := omega) only [Nat.reduceEqDiff, ↓reduceIte, vcu, ↓vcd]
  subst e
  simp [dgT_of hd]
end Go.Proofs.YtafkndnmhhjdhaaDoor
