/- Parts. -/
import Derived.Test.YtafkndnmhhjdhaaDoorSCc
import Derived.Test.YtafkndnmhhjdhaaDoorRows
import Derived.KernelRfl
set_option linter.unusedSimpArgs false
set_option linter.unusedVariables false
set_option linter.unusedSectionVars false
namespace Go.Proofs.YtafkndnmhhjdhaaDoor
open Go Go.Abs
theorem mixed : Tryd.prog.follows .mixedOrders = true := by kernel_rfl
theorem own : ownKnob Tryd.prog.godebug = none := by kernel_rfl
theorem laidOut : laidOutB Tryd.prog = true := by kernel_rfl
theorem pt0 : isPtr Tryd.prog 0 = false := by kernel_rfl
theorem sc0 : isSlc Tryd.prog 0 = false := by kernel_rfl
theorem ag1 : aisAgg Tryd.prog 1 = false := by kernel_rfl
theorem pt1 : isPtr Tryd.prog 1 = false := by kernel_rfl
theorem sc1 : isSlc Tryd.prog 1 = false := by kernel_rfl
theorem ag2 : aisAgg Tryd.prog 2 = false := by kernel_rfl
theorem pt2 : isPtr Tryd.prog 2 = false := by kernel_rfl
theorem sc2 : isSlc Tryd.prog 2 = false := by kernel_rfl
theorem co3 : Tryd.prog.cellsOf 3 = 1 := by kernel_rfl
theorem ag3 : aisAgg Tryd.prog 3 = false := by kernel_rfl
theorem pt3 : isPtr Tryd.prog 3 = false := by kernel_rfl
theorem sc3 : isSlc Tryd.prog 3 = false := by kernel_rfl
theorem ag4 : aisAgg Tryd.prog 4 = false := by kernel_rfl
theorem pt4 : isPtr Tryd.prog 4 = false := by kernel_rfl
theorem sc4 : isSlc Tryd.prog 4 = false := by kernel_rfl
theorem bo4 : isBool Tryd.prog 4 = true := by kernel_rfl
theorem co5 : Tryd.prog.cellsOf 5 = 1 := by kernel_rfl
theorem ag5 : aisAgg Tryd.prog 5 = false := by kernel_rfl
theorem pt5 : isPtr Tryd.prog 5 = false := by kernel_rfl
theorem sc5 : isSlc Tryd.prog 5 = false := by kernel_rfl
theorem ag6 : aisAgg Tryd.prog 6 = false := by kernel_rfl
theorem pt6 : isPtr Tryd.prog 6 = false := by kernel_rfl
theorem sc6 : isSlc Tryd.prog 6 = false := by kernel_rfl
theorem co9 : Tryd.prog.cellsOf 9 = 1 := by kernel_rfl
theorem ag9 : aisAgg Tryd.prog 9 = false := by kernel_rfl
theorem pt9 : isPtr Tryd.prog 9 = false := by kernel_rfl
theorem sc9 : isSlc Tryd.prog 9 = false := by kernel_rfl
theorem ag10 : aisAgg Tryd.prog 10 = false := by kernel_rfl
theorem pt10 : isPtr Tryd.prog 10 = false := by kernel_rfl
theorem sc10 : isSlc Tryd.prog 10 = false := by kernel_rfl
theorem ag11 : aisAgg Tryd.prog 11 = false := by kernel_rfl
theorem pt11 : isPtr Tryd.prog 11 = false := by kernel_rfl
theorem sc11 : isSlc Tryd.prog 11 = false := by kernel_rfl
theorem ag12 : aisAgg Tryd.prog 12 = false := by kernel_rfl
theorem pt12 : isPtr Tryd.prog 12 = false := by kernel_rfl
theorem sc12 : isSlc Tryd.prog 12 = false := by kernel_rfl
theorem ag15 : aisAgg Tryd.prog 15 = false := by kernel_rfl
theorem pt15 : isPtr Tryd.prog 15 = true := by kernel_rfl
theorem sc15 : isSlc Tryd.prog 15 = false := by kernel_rfl
theorem co16 : Tryd.prog.cellsOf 16 = 1 := by kernel_rfl
theorem ag16 : aisAgg Tryd.prog 16 = false := by kernel_rfl
theorem pt16 : isPtr Tryd.prog 16 = true := by kernel_rfl
theorem sc16 : isSlc Tryd.prog 16 = false := by kernel_rfl
theorem ag17 : aisAgg Tryd.prog 17 = false := by kernel_rfl
theorem pt17 : isPtr Tryd.prog 17 = true := by kernel_rfl
theorem sc17 : isSlc Tryd.prog 17 = false := by kernel_rfl
theorem pt20 : isPtr Tryd.prog 20 = false := by kernel_rfl
theorem sc20 : isSlc Tryd.prog 20 = false := by kernel_rfl
theorem ag21 : aisAgg Tryd.prog 21 = false := by kernel_rfl
theorem pt21 : isPtr Tryd.prog 21 = false := by kernel_rfl
theorem sc21 : isSlc Tryd.prog 21 = false := by kernel_rfl
theorem ag22 : aisAgg Tryd.prog 22 = true := by kernel_rfl
theorem pt22 : isPtr Tryd.prog 22 = false := by kernel_rfl
theorem sc22 : isSlc Tryd.prog 22 = false := by kernel_rfl
theorem fv22_0 {x0 x1 x2 : Value} : afieldV Tryd.prog 22 0 (.agg #[x0, x1, x2]) = some x0 := by simp [afieldV, Tryd.underlying22, apart, Tryd.underlying3, ag3, co3, aisAgg]
theorem fl22_0 {h b : Nat} : afield Tryd.prog 22 0 (.pointer (some ⟨h, b, none⟩)) = some (.pointer (some ⟨h, b + 0, none⟩)) := by simp [afield, Tryd.underlying22]
theorem fv22_1 {x0 x1 x2 : Value} : afieldV Tryd.prog 22 1 (.agg #[x0, x1, x2]) = some x1 := by simp [afieldV, Tryd.underlying22, apart, Tryd.underlying3, ag3, co3, aisAgg]
theorem fl22_1 {h b : Nat} : afield Tryd.prog 22 1 (.pointer (some ⟨h, b, none⟩)) = some (.pointer (some ⟨h, b + 1, none⟩)) := by simp [afield, Tryd.underlying22]
theorem fv22_2 {x0 x1 x2 : Value} : afieldV Tryd.prog 22 2 (.agg #[x0, x1, x2]) = some x2 := by simp [afieldV, Tryd.underlying22, apart, Tryd.underlying9, ag9, co9, aisAgg]
theorem fl22_2 {h b : Nat} : afield Tryd.prog 22 2 (.pointer (some ⟨h, b, none⟩)) = some (.pointer (some ⟨h, b + 2, none⟩)) := by simp [afield, Tryd.underlying22]
theorem co23 : Tryd.prog.cellsOf 23 = 3 := by kernel_rfl
theorem ag23 : aisAgg Tryd.prog 23 = true := by kernel_rfl
theorem pt23 : isPtr Tryd.prog 23 = false := by kernel_rfl
theorem sc23 : isSlc Tryd.prog 23 = false := by kernel_rfl
theorem fv23_0 {x0 x1 x2 : Value} : afieldV Tryd.prog 23 0 (.agg #[x0, x1, x2]) = some x0 := by simp [afieldV, Tryd.underlying23, apart, Tryd.underlying3, ag3, co3, aisAgg]
theorem fl23_0 {h b : Nat} : afield Tryd.prog 23 0 (.pointer (some ⟨h, b, none⟩)) = some (.pointer (some ⟨h, b + 0, none⟩)) := by simp [afield, Tryd.underlying23]
theorem fv23_1 {x0 x1 x2 : Value} : afieldV Tryd.prog 23 1 (.agg #[x0, x1, x2]) = some x1 := by simp [afieldV, Tryd.underlying23, apart, Tryd.underlying3, ag3, co3, aisAgg]
theorem fl23_1 {h b : Nat} : afield Tryd.prog 23 1 (.pointer (some ⟨h, b, none⟩)) = some (.pointer (some ⟨h, b + 1, none⟩)) := by simp [afield, Tryd.underlying23]
theorem fv23_2 {x0 x1 x2 : Value} : afieldV Tryd.prog 23 2 (.agg #[x0, x1, x2]) = some x2 := by simp [afieldV, Tryd.underlying23, apart, Tryd.underlying9, ag9, co9, aisAgg]
theorem fl23_2 {h b : Nat} : afield Tryd.prog 23 2 (.pointer (some ⟨h, b, none⟩)) = some (.pointer (some ⟨h, b + 2, none⟩)) := by simp [afield, Tryd.underlying23]
theorem ag24 : aisAgg Tryd.prog 24 = false := by kernel_rfl
theorem pt24 : isPtr Tryd.prog 24 = false := by kernel_rfl
theorem sc24 : isSlc Tryd.prog 24 = false := by kernel_rfl
theorem ag25 : aisAgg Tryd.prog 25 = false := by kernel_rfl
theorem pt25 : isPtr Tryd.prog 25 = false := by kernel_rfl
theorem sc25 : isSlc Tryd.prog 25 = false := by kernel_rfl
theorem co26 : Tryd.prog.cellsOf 26 = 3 := by kernel_rfl
theorem ag26 : aisAgg Tryd.prog 26 = true := by kernel_rfl
theorem pt26 : isPtr Tryd.prog 26 = false := by kernel_rfl
theorem sc26 : isSlc Tryd.prog 26 = false := by kernel_rfl
theorem ze26 : azero Tryd.prog 26 = some (Value.agg #[Value.int IntKind.i64 0, Value.int IntKind.i64 0, Value.string { data := #[] }]) := by kernel_rfl
theorem fv26_0 {x0 x1 x2 : Value} : afieldV Tryd.prog 26 0 (.agg #[x0, x1, x2]) = some x0 := by simp [afieldV, Tryd.underlying26, apart, Tryd.underlying3, ag3, co3, aisAgg]
theorem fl26_0 {h b : Nat} : afield Tryd.prog 26 0 (.pointer (some ⟨h, b, none⟩)) = some (.pointer (some ⟨h, b + 0, none⟩)) := by simp [afield, Tryd.underlying26]
theorem fv26_1 {x0 x1 x2 : Value} : afieldV Tryd.prog 26 1 (.agg #[x0, x1, x2]) = some x1 := by simp [afieldV, Tryd.underlying26, apart, Tryd.underlying3, ag3, co3, aisAgg]
theorem fl26_1 {h b : Nat} : afield Tryd.prog 26 1 (.pointer (some ⟨h, b, none⟩)) = some (.pointer (some ⟨h, b + 1, none⟩)) := by simp [afield, Tryd.underlying26]
theorem fv26_2 {x0 x1 x2 : Value} : afieldV Tryd.prog 26 2 (.agg #[x0, x1, x2]) = some x2 := by simp [afieldV, Tryd.underlying26, apart, Tryd.underlying9, ag9, co9, aisAgg]
theorem fl26_2 {h b : Nat} : afield Tryd.prog 26 2 (.pointer (some ⟨h, b, none⟩)) = some (.pointer (some ⟨h, b + 2, none⟩)) := by simp [afield, Tryd.underlying26]
theorem ag27 : aisAgg Tryd.prog 27 = false := by kernel_rfl
theorem pt27 : isPtr Tryd.prog 27 = false := by kernel_rfl
theorem sc27 : isSlc Tryd.prog 27 = false := by kernel_rfl
theorem ag28 : aisAgg Tryd.prog 28 = false := by kernel_rfl
theorem pt28 : isPtr Tryd.prog 28 = false := by kernel_rfl
theorem sc28 : isSlc Tryd.prog 28 = false := by kernel_rfl
theorem pt29 : isPtr Tryd.prog 29 = false := by kernel_rfl
theorem sc29 : isSlc Tryd.prog 29 = false := by kernel_rfl
theorem ag30 : aisAgg Tryd.prog 30 = false := by kernel_rfl
theorem pt30 : isPtr Tryd.prog 30 = false := by kernel_rfl
theorem sc30 : isSlc Tryd.prog 30 = false := by kernel_rfl
theorem ag31 : aisAgg Tryd.prog 31 = false := by kernel_rfl
theorem pt31 : isPtr Tryd.prog 31 = false := by kernel_rfl
theorem sc31 : isSlc Tryd.prog 31 = false := by kernel_rfl
theorem ag32 : aisAgg Tryd.prog 32 = false := by kernel_rfl
theorem pt32 : isPtr Tryd.prog 32 = false := by kernel_rfl
theorem sc32 : isSlc Tryd.prog 32 = false := by kernel_rfl
theorem ag33 : aisAgg Tryd.prog 33 = false := by kernel_rfl
theorem pt33 : isPtr Tryd.prog 33 = false := by kernel_rfl
theorem sc33 : isSlc Tryd.prog 33 = true := by kernel_rfl
theorem esz33 : aesz Tryd.prog 33 = 3 := by kernel_rfl
theorem ag34 : aisAgg Tryd.prog 34 = false := by kernel_rfl
theorem pt34 : isPtr Tryd.prog 34 = false := by kernel_rfl
theorem sc34 : isSlc Tryd.prog 34 = false := by kernel_rfl
theorem ag35 : aisAgg Tryd.prog 35 = false := by kernel_rfl
theorem pt35 : isPtr Tryd.prog 35 = false := by kernel_rfl
theorem sc35 : isSlc Tryd.prog 35 = false := by kernel_rfl
theorem ag36 : aisAgg Tryd.prog 36 = false := by kernel_rfl
theorem pt36 : isPtr Tryd.prog 36 = false := by kernel_rfl
theorem sc36 : isSlc Tryd.prog 36 = true := by kernel_rfl
theorem esz36 : aesz Tryd.prog 36 = 3 := by kernel_rfl
theorem el36 : Elems Tryd.prog 36 3 (Value.agg #[Value.int IntKind.i64 0, Value.int IntKind.i64 0, Value.string { data := #[] }]) 32 := ⟨⟨26, Tryd.t26, Tryd.underlying36, by kernel_rfl, rfl, rfl, rfl⟩, ⟨26, Tryd.underlying36, by kernel_rfl, by kernel_rfl⟩⟩
theorem sl36 : ∃ e, Tryd.prog.underlying 36 = some (.slice e) := ⟨26, Tryd.underlying36⟩
theorem ag37 : aisAgg Tryd.prog 37 = false := by kernel_rfl
theorem pt37 : isPtr Tryd.prog 37 = false := by kernel_rfl
theorem sc37 : isSlc Tryd.prog 37 = false := by kernel_rfl
theorem ag38 : aisAgg Tryd.prog 38 = false := by kernel_rfl
theorem pt38 : isPtr Tryd.prog 38 = false := by kernel_rfl
theorem sc38 : isSlc Tryd.prog 38 = false := by kernel_rfl
theorem ag39 : aisAgg Tryd.prog 39 = false := by kernel_rfl
theorem pt39 : isPtr Tryd.prog 39 = false := by kernel_rfl
theorem sc39 : isSlc Tryd.prog 39 = false := by kernel_rfl
theorem pt40 : isPtr Tryd.prog 40 = false := by kernel_rfl
theorem sc40 : isSlc Tryd.prog 40 = true := by kernel_rfl
theorem ag41 : aisAgg Tryd.prog 41 = false := by kernel_rfl
theorem pt41 : isPtr Tryd.prog 41 = false := by kernel_rfl
theorem sc41 : isSlc Tryd.prog 41 = false := by kernel_rfl
theorem ag42 : aisAgg Tryd.prog 42 = false := by kernel_rfl
theorem pt42 : isPtr Tryd.prog 42 = false := by kernel_rfl
theorem sc42 : isSlc Tryd.prog 42 = false := by kernel_rfl
theorem ag43 : aisAgg Tryd.prog 43 = false := by kernel_rfl
theorem pt43 : isPtr Tryd.prog 43 = false := by kernel_rfl
theorem sc43 : isSlc Tryd.prog 43 = false := by kernel_rfl
theorem ag44 : aisAgg Tryd.prog 44 = false := by kernel_rfl
theorem pt44 : isPtr Tryd.prog 44 = false := by kernel_rfl
theorem sc44 : isSlc Tryd.prog 44 = true := by kernel_rfl
theorem esz44 : aesz Tryd.prog 44 = 1 := by kernel_rfl
theorem el44 : Elems Tryd.prog 44 1 (Value.string { data := #[] }) 16 := ⟨⟨9, Tryd.t9, Tryd.underlying44, by kernel_rfl, rfl, rfl, rfl⟩, ⟨9, Tryd.underlying44, by kernel_rfl, by kernel_rfl⟩⟩
theorem sl44 : ∃ e, Tryd.prog.underlying 44 = some (.slice e) := ⟨9, Tryd.underlying44⟩
theorem ag45 : aisAgg Tryd.prog 45 = false := by kernel_rfl
theorem pt45 : isPtr Tryd.prog 45 = false := by kernel_rfl
theorem sc45 : isSlc Tryd.prog 45 = false := by kernel_rfl
theorem ag46 : aisAgg Tryd.prog 46 = false := by kernel_rfl
theorem pt46 : isPtr Tryd.prog 46 = false := by kernel_rfl
theorem sc46 : isSlc Tryd.prog 46 = false := by kernel_rfl
theorem ag47 : aisAgg Tryd.prog 47 = false := by kernel_rfl
theorem pt47 : isPtr Tryd.prog 47 = false := by kernel_rfl
theorem sc47 : isSlc Tryd.prog 47 = false := by kernel_rfl
theorem pt48 : isPtr Tryd.prog 48 = false := by kernel_rfl
theorem sc48 : isSlc Tryd.prog 48 = false := by kernel_rfl
theorem ag49 : aisAgg Tryd.prog 49 = false := by kernel_rfl
theorem pt49 : isPtr Tryd.prog 49 = false := by kernel_rfl
theorem sc49 : isSlc Tryd.prog 49 = false := by kernel_rfl
theorem pt50 : isPtr Tryd.prog 50 = false := by kernel_rfl
theorem sc50 : isSlc Tryd.prog 50 = false := by kernel_rfl
theorem pt51 : isPtr Tryd.prog 51 = false := by kernel_rfl
theorem sc51 : isSlc Tryd.prog 51 = false := by kernel_rfl
theorem pt52 : isPtr Tryd.prog 52 = false := by kernel_rfl
theorem sc52 : isSlc Tryd.prog 52 = false := by kernel_rfl
theorem ag53 : aisAgg Tryd.prog 53 = false := by kernel_rfl
theorem pt53 : isPtr Tryd.prog 53 = false := by kernel_rfl
theorem sc53 : isSlc Tryd.prog 53 = false := by kernel_rfl
theorem ag54 : aisAgg Tryd.prog 54 = false := by kernel_rfl
theorem pt54 : isPtr Tryd.prog 54 = false := by kernel_rfl
theorem sc54 : isSlc Tryd.prog 54 = true := by kernel_rfl
theorem esz54 : aesz Tryd.prog 54 = 1 := by kernel_rfl
theorem el54 : Elems Tryd.prog 54 1 (Value.int IntKind.i64 0) 8 := ⟨⟨3, Tryd.t3, Tryd.underlying54, by kernel_rfl, rfl, rfl, rfl⟩, ⟨3, Tryd.underlying54, by kernel_rfl, by kernel_rfl⟩⟩
theorem ag55 : aisAgg Tryd.prog 55 = false := by kernel_rfl
theorem pt55 : isPtr Tryd.prog 55 = true := by kernel_rfl
theorem sc55 : isSlc Tryd.prog 55 = false := by kernel_rfl
theorem ag56 : aisAgg Tryd.prog 56 = false := by kernel_rfl
theorem pt56 : isPtr Tryd.prog 56 = false := by kernel_rfl
theorem sc56 : isSlc Tryd.prog 56 = true := by kernel_rfl
theorem esz56 : aesz Tryd.prog 56 = 1 := by kernel_rfl
theorem el56 : Elems Tryd.prog 56 1 (Value.int IntKind.u8 0) 1 := ⟨⟨5, Tryd.t5, Tryd.underlying56, by kernel_rfl, rfl, rfl, rfl⟩, ⟨5, Tryd.underlying56, by kernel_rfl, by kernel_rfl⟩⟩
theorem ag59 : aisAgg Tryd.prog 59 = false := by kernel_rfl
theorem pt59 : isPtr Tryd.prog 59 = false := by kernel_rfl
theorem sc59 : isSlc Tryd.prog 59 = false := by kernel_rfl
theorem ag60 : aisAgg Tryd.prog 60 = false := by kernel_rfl
theorem pt60 : isPtr Tryd.prog 60 = false := by kernel_rfl
theorem sc60 : isSlc Tryd.prog 60 = false := by kernel_rfl
theorem ag61 : aisAgg Tryd.prog 61 = false := by kernel_rfl
theorem pt61 : isPtr Tryd.prog 61 = true := by kernel_rfl
theorem sc61 : isSlc Tryd.prog 61 = false := by kernel_rfl
theorem ag62 : aisAgg Tryd.prog 62 = false := by kernel_rfl
theorem pt62 : isPtr Tryd.prog 62 = false := by kernel_rfl
theorem sc62 : isSlc Tryd.prog 62 = false := by kernel_rfl
theorem ag63 : aisAgg Tryd.prog 63 = false := by kernel_rfl
theorem pt63 : isPtr Tryd.prog 63 = false := by kernel_rfl
theorem sc63 : isSlc Tryd.prog 63 = false := by kernel_rfl
theorem ag64 : aisAgg Tryd.prog 64 = false := by kernel_rfl
theorem pt64 : isPtr Tryd.prog 64 = false := by kernel_rfl
theorem sc64 : isSlc Tryd.prog 64 = false := by kernel_rfl
theorem pt65 : isPtr Tryd.prog 65 = false := by kernel_rfl
theorem sc65 : isSlc Tryd.prog 65 = false := by kernel_rfl
theorem ag66 : aisAgg Tryd.prog 66 = false := by kernel_rfl
theorem pt66 : isPtr Tryd.prog 66 = false := by kernel_rfl
theorem sc66 : isSlc Tryd.prog 66 = false := by kernel_rfl
theorem ag67 : aisAgg Tryd.prog 67 = false := by kernel_rfl
theorem pt67 : isPtr Tryd.prog 67 = true := by kernel_rfl
theorem sc67 : isSlc Tryd.prog 67 = false := by kernel_rfl
theorem ag68 : aisAgg Tryd.prog 68 = false := by kernel_rfl
theorem pt68 : isPtr Tryd.prog 68 = false := by kernel_rfl
theorem sc68 : isSlc Tryd.prog 68 = false := by kernel_rfl
theorem ag69 : aisAgg Tryd.prog 69 = false := by kernel_rfl
theorem pt69 : isPtr Tryd.prog 69 = false := by kernel_rfl
theorem sc69 : isSlc Tryd.prog 69 = false := by kernel_rfl
theorem pt70 : isPtr Tryd.prog 70 = false := by kernel_rfl
theorem sc70 : isSlc Tryd.prog 70 = false := by kernel_rfl
theorem ag71 : aisAgg Tryd.prog 71 = false := by kernel_rfl
theorem pt71 : isPtr Tryd.prog 71 = false := by kernel_rfl
theorem sc71 : isSlc Tryd.prog 71 = false := by kernel_rfl
theorem ag72 : aisAgg Tryd.prog 72 = true := by kernel_rfl
theorem pt72 : isPtr Tryd.prog 72 = false := by kernel_rfl
theorem sc72 : isSlc Tryd.prog 72 = false := by kernel_rfl
theorem esz72 : aesz Tryd.prog 72 = 1 := by kernel_rfl
theorem co73 : Tryd.prog.cellsOf 73 = 1 := by kernel_rfl
theorem ag73 : aisAgg Tryd.prog 73 = false := by kernel_rfl
theorem pt73 : isPtr Tryd.prog 73 = false := by kernel_rfl
theorem sc73 : isSlc Tryd.prog 73 = false := by kernel_rfl
theorem ag74 : aisAgg Tryd.prog 74 = false := by kernel_rfl
theorem pt74 : isPtr Tryd.prog 74 = false := by kernel_rfl
theorem sc74 : isSlc Tryd.prog 74 = false := by kernel_rfl
theorem ag75 : aisAgg Tryd.prog 75 = false := by kernel_rfl
theorem pt75 : isPtr Tryd.prog 75 = false := by kernel_rfl
theorem sc75 : isSlc Tryd.prog 75 = false := by kernel_rfl
theorem pt76 : isPtr Tryd.prog 76 = false := by kernel_rfl
theorem sc76 : isSlc Tryd.prog 76 = true := by kernel_rfl
theorem ag77 : aisAgg Tryd.prog 77 = false := by kernel_rfl
theorem pt77 : isPtr Tryd.prog 77 = false := by kernel_rfl
theorem sc77 : isSlc Tryd.prog 77 = false := by kernel_rfl
theorem ag78 : aisAgg Tryd.prog 78 = false := by kernel_rfl
theorem pt78 : isPtr Tryd.prog 78 = false := by kernel_rfl
theorem sc78 : isSlc Tryd.prog 78 = false := by kernel_rfl
theorem ag79 : aisAgg Tryd.prog 79 = false := by kernel_rfl
theorem pt79 : isPtr Tryd.prog 79 = false := by kernel_rfl
theorem sc79 : isSlc Tryd.prog 79 = false := by kernel_rfl
theorem ag80 : aisAgg Tryd.prog 80 = false := by kernel_rfl
theorem pt80 : isPtr Tryd.prog 80 = false := by kernel_rfl
theorem sc80 : isSlc Tryd.prog 80 = false := by kernel_rfl
theorem pt81 : isPtr Tryd.prog 81 = false := by kernel_rfl
theorem sc81 : isSlc Tryd.prog 81 = false := by kernel_rfl
theorem ag82 : aisAgg Tryd.prog 82 = false := by kernel_rfl
theorem pt82 : isPtr Tryd.prog 82 = false := by kernel_rfl
theorem sc82 : isSlc Tryd.prog 82 = false := by kernel_rfl
theorem ag83 : aisAgg Tryd.prog 83 = false := by kernel_rfl
theorem pt83 : isPtr Tryd.prog 83 = false := by kernel_rfl
theorem sc83 : isSlc Tryd.prog 83 = false := by kernel_rfl
theorem ag86 : aisAgg Tryd.prog 86 = false := by kernel_rfl
theorem pt86 : isPtr Tryd.prog 86 = false := by kernel_rfl
theorem sc86 : isSlc Tryd.prog 86 = false := by kernel_rfl
theorem ag87 : aisAgg Tryd.prog 87 = false := by kernel_rfl
theorem pt87 : isPtr Tryd.prog 87 = false := by kernel_rfl
theorem sc87 : isSlc Tryd.prog 87 = false := by kernel_rfl
theorem ag88 : aisAgg Tryd.prog 88 = true := by kernel_rfl
theorem pt88 : isPtr Tryd.prog 88 = false := by kernel_rfl
theorem sc88 : isSlc Tryd.prog 88 = false := by kernel_rfl
theorem esz88 : aesz Tryd.prog 88 = 1 := by kernel_rfl
theorem ag89 : aisAgg Tryd.prog 89 = false := by kernel_rfl
theorem pt89 : isPtr Tryd.prog 89 = false := by kernel_rfl
theorem sc89 : isSlc Tryd.prog 89 = false := by kernel_rfl
theorem ag90 : aisAgg Tryd.prog 90 = true := by kernel_rfl
theorem pt90 : isPtr Tryd.prog 90 = false := by kernel_rfl
theorem sc90 : isSlc Tryd.prog 90 = false := by kernel_rfl
theorem esz90 : aesz Tryd.prog 90 = 1 := by kernel_rfl
theorem ag91 : aisAgg Tryd.prog 91 = false := by kernel_rfl
theorem pt91 : isPtr Tryd.prog 91 = false := by kernel_rfl
theorem sc91 : isSlc Tryd.prog 91 = false := by kernel_rfl
theorem ag92 : aisAgg Tryd.prog 92 = false := by kernel_rfl
theorem pt92 : isPtr Tryd.prog 92 = false := by kernel_rfl
theorem sc92 : isSlc Tryd.prog 92 = false := by kernel_rfl
theorem pt93 : isPtr Tryd.prog 93 = false := by kernel_rfl
theorem sc93 : isSlc Tryd.prog 93 = false := by kernel_rfl
theorem ag94 : aisAgg Tryd.prog 94 = false := by kernel_rfl
theorem pt94 : isPtr Tryd.prog 94 = false := by kernel_rfl
theorem sc94 : isSlc Tryd.prog 94 = false := by kernel_rfl
theorem ag95 : aisAgg Tryd.prog 95 = false := by kernel_rfl
theorem pt95 : isPtr Tryd.prog 95 = false := by kernel_rfl
theorem sc95 : isSlc Tryd.prog 95 = false := by kernel_rfl
theorem ag96 : aisAgg Tryd.prog 96 = false := by kernel_rfl
theorem pt96 : isPtr Tryd.prog 96 = true := by kernel_rfl
theorem sc96 : isSlc Tryd.prog 96 = false := by kernel_rfl
theorem ag99 : aisAgg Tryd.prog 99 = false := by kernel_rfl
theorem pt99 : isPtr Tryd.prog 99 = false := by kernel_rfl
theorem sc99 : isSlc Tryd.prog 99 = false := by kernel_rfl
theorem ag100 : aisAgg Tryd.prog 100 = true := by kernel_rfl
theorem pt100 : isPtr Tryd.prog 100 = false := by kernel_rfl
theorem sc100 : isSlc Tryd.prog 100 = false := by kernel_rfl
theorem esz100 : aesz Tryd.prog 100 = 1 := by kernel_rfl
theorem ag101 : aisAgg Tryd.prog 101 = true := by kernel_rfl
theorem pt101 : isPtr Tryd.prog 101 = false := by kernel_rfl
theorem sc101 : isSlc Tryd.prog 101 = false := by kernel_rfl
theorem esz101 : aesz Tryd.prog 101 = 1 := by kernel_rfl
theorem pt104 : isPtr Tryd.prog 104 = false := by kernel_rfl
theorem sc104 : isSlc Tryd.prog 104 = false := by kernel_rfl
theorem esz104 : aesz Tryd.prog 104 = 1 := by kernel_rfl
theorem ag107 : aisAgg Tryd.prog 107 = false := by kernel_rfl
theorem pt107 : isPtr Tryd.prog 107 = false := by kernel_rfl
theorem sc107 : isSlc Tryd.prog 107 = false := by kernel_rfl
theorem ag108 : aisAgg Tryd.prog 108 = false := by kernel_rfl
theorem pt108 : isPtr Tryd.prog 108 = false := by kernel_rfl
theorem sc108 : isSlc Tryd.prog 108 = false := by kernel_rfl
theorem ag109 : aisAgg Tryd.prog 109 = false := by kernel_rfl
theorem pt109 : isPtr Tryd.prog 109 = false := by kernel_rfl
theorem sc109 : isSlc Tryd.prog 109 = false := by kernel_rfl
theorem ag110 : aisAgg Tryd.prog 110 = false := by kernel_rfl
theorem pt110 : isPtr Tryd.prog 110 = false := by kernel_rfl
theorem sc110 : isSlc Tryd.prog 110 = false := by kernel_rfl
theorem ag111 : aisAgg Tryd.prog 111 = false := by kernel_rfl
theorem pt111 : isPtr Tryd.prog 111 = false := by kernel_rfl
theorem sc111 : isSlc Tryd.prog 111 = false := by kernel_rfl
theorem ag112 : aisAgg Tryd.prog 112 = false := by kernel_rfl
theorem pt112 : isPtr Tryd.prog 112 = false := by kernel_rfl
theorem sc112 : isSlc Tryd.prog 112 = false := by kernel_rfl
theorem nf3 : noisyF Tryd.prog 3 = false := by kernel_rfl
theorem nf4 : noisyF Tryd.prog 4 = false := by kernel_rfl
theorem nf5 : noisyF Tryd.prog 5 = false := by kernel_rfl
theorem nf6 : noisyF Tryd.prog 6 = false := by kernel_rfl
theorem nf7 : noisyF Tryd.prog 7 = false := by kernel_rfl
theorem nf8 : noisyF Tryd.prog 8 = false := by kernel_rfl
theorem nf9 : noisyF Tryd.prog 9 = false := by kernel_rfl
theorem nf10 : noisyF Tryd.prog 10 = false := by kernel_rfl
theorem nf11 : noisyF Tryd.prog 11 = false := by kernel_rfl
theorem nf12 : noisyF Tryd.prog 12 = false := by kernel_rfl
theorem nf13 : noisyF Tryd.prog 13 = false := by kernel_rfl
theorem nf14 : noisyF Tryd.prog 14 = false := by kernel_rfl
theorem nf15 : noisyF Tryd.prog 15 = false := by kernel_rfl
theorem nf16 : noisyF Tryd.prog 16 = false := by kernel_rfl
theorem nf17 : noisyF Tryd.prog 17 = false := by kernel_rfl
theorem nf18 : noisyF Tryd.prog 18 = false := by kernel_rfl
theorem nf19 : noisyF Tryd.prog 19 = false := by kernel_rfl
theorem nf20 : noisyF Tryd.prog 20 = false := by kernel_rfl
theorem nf21 : noisyF Tryd.prog 21 = false := by kernel_rfl
theorem nf22 : noisyF Tryd.prog 22 = false := by kernel_rfl
theorem nf23 : noisyF Tryd.prog 23 = false := by kernel_rfl
theorem nf24 : noisyF Tryd.prog 24 = false := by kernel_rfl
theorem nf25 : noisyF Tryd.prog 25 = false := by kernel_rfl
theorem nf26 : noisyF Tryd.prog 26 = false := by kernel_rfl
theorem nf27 : noisyF Tryd.prog 27 = false := by kernel_rfl
theorem nf28 : noisyF Tryd.prog 28 = false := by kernel_rfl
theorem nf29 : noisyF Tryd.prog 29 = false := by kernel_rfl
theorem nf30 : noisyF Tryd.prog 30 = false := by kernel_rfl
theorem nf31 : noisyF Tryd.prog 31 = false := by kernel_rfl
theorem nf32 : noisyF Tryd.prog 32 = true := by kernel_rfl
theorem nf33 : noisyF Tryd.prog 33 = true := by kernel_rfl
theorem nf34 : noisyF Tryd.prog 34 = false := by kernel_rfl
theorem nf35 : noisyF Tryd.prog 35 = false := by kernel_rfl
theorem nf36 : noisyF Tryd.prog 36 = false := by kernel_rfl
theorem nf37 : noisyF Tryd.prog 37 = false := by kernel_rfl
theorem nf38 : noisyF Tryd.prog 38 = false := by kernel_rfl
theorem nf39 : noisyF Tryd.prog 39 = false := by kernel_rfl
theorem nf40 : noisyF Tryd.prog 40 = true := by kernel_rfl
theorem nf41 : noisyF Tryd.prog 41 = false := by kernel_rfl
theorem nf42 : noisyF Tryd.prog 42 = false := by kernel_rfl
theorem nf43 : noisyF Tryd.prog 43 = false := by kernel_rfl
theorem nf44 : noisyF Tryd.prog 44 = false := by kernel_rfl
theorem nf45 : noisyF Tryd.prog 45 = false := by kernel_rfl
theorem nf46 : noisyF Tryd.prog 46 = false := by kernel_rfl
theorem nf47 : noisyF Tryd.prog 47 = false := by kernel_rfl
theorem nf49 : noisyF Tryd.prog 49 = false := by kernel_rfl
theorem nf50 : noisyF Tryd.prog 50 = false := by kernel_rfl
theorem nf51 : noisyF Tryd.prog 51 = false := by kernel_rfl
theorem nf52 : noisyF Tryd.prog 52 = false := by kernel_rfl
theorem nf53 : noisyF Tryd.prog 53 = false := by kernel_rfl
theorem nf57 : noisyF Tryd.prog 57 = false := by kernel_rfl
theorem nf58 : noisyF Tryd.prog 58 = false := by kernel_rfl
theorem nf60 : noisyF Tryd.prog 60 = false := by kernel_rfl
theorem nf61 : noisyF Tryd.prog 61 = false := by kernel_rfl
theorem nf62 : noisyF Tryd.prog 62 = false := by kernel_rfl
theorem nf63 : noisyF Tryd.prog 63 = false := by kernel_rfl
theorem nf64 : noisyF Tryd.prog 64 = false := by kernel_rfl
theorem nf67 : noisyF Tryd.prog 67 = false := by kernel_rfl
theorem nf68 : noisyF Tryd.prog 68 = false := by kernel_rfl
theorem nf69 : noisyF Tryd.prog 69 = false := by kernel_rfl
theorem nf70 : noisyF Tryd.prog 70 = false := by kernel_rfl
theorem nf86 : noisyF Tryd.prog 86 = true := by kernel_rfl
theorem nf87 : noisyF Tryd.prog 87 = false := by kernel_rfl
theorem nf88 : noisyF Tryd.prog 88 = true := by kernel_rfl
theorem nf92 : noisyF Tryd.prog 92 = false := by kernel_rfl
theorem nf93 : noisyF Tryd.prog 93 = false := by kernel_rfl
theorem nf94 : noisyF Tryd.prog 94 = false := by kernel_rfl
theorem nf95 : noisyF Tryd.prog 95 = false := by kernel_rfl
theorem nf96 : noisyF Tryd.prog 96 = false := by kernel_rfl
theorem good3 : (callable Tryd.prog 3 && tmpsOnly Tryd.f3 && decide (1 ≤ Tryd.f3.ntmps) && (match Tryd.f3.body with | some c => goodC Tryd.prog Tryd.f3.ntmps c | none => false)) = true := by kernel_rfl
theorem good4 : (callable Tryd.prog 4 && tmpsOnly Tryd.f4 && decide (1 ≤ Tryd.f4.ntmps) && (match Tryd.f4.body with | some c => goodC Tryd.prog Tryd.f4.ntmps c | none => false)) = true := by kernel_rfl
theorem good6 : (callable Tryd.prog 6 && tmpsOnly Tryd.f6 && decide (1 ≤ Tryd.f6.ntmps) && (match Tryd.f6.body with | some c => goodC Tryd.prog Tryd.f6.ntmps c | none => false)) = true := by kernel_rfl
theorem good7 : (callable Tryd.prog 7 && tmpsOnly Tryd.f7 && decide (2 ≤ Tryd.f7.ntmps) && (match Tryd.f7.body with | some c => goodC Tryd.prog Tryd.f7.ntmps c | none => false)) = true := by kernel_rfl
theorem good8 : (callable Tryd.prog 8 && tmpsOnly Tryd.f8 && decide (1 ≤ Tryd.f8.ntmps) && (match Tryd.f8.body with | some c => goodC Tryd.prog Tryd.f8.ntmps c | none => false)) = true := by kernel_rfl
theorem goodc9 : (callable Tryd.prog 9 && Tryd.f9.results.toList.all (rok Tryd.prog) && decide (1 ≤ Tryd.f9.ntmps) && (match Tryd.f9.body with | some c => goodC Tryd.prog Tryd.f9.ntmps c | none => false)) = true := by kernel_rfl
theorem good10 : (callable Tryd.prog 10 && tmpsOnly Tryd.f10 && decide (1 ≤ Tryd.f10.ntmps) && (match Tryd.f10.body with | some c => goodC Tryd.prog Tryd.f10.ntmps c | none => false)) = true := by kernel_rfl
theorem goodc11 : (callable Tryd.prog 11 && Tryd.f11.results.toList.all (rok Tryd.prog) && decide (1 ≤ Tryd.f11.ntmps) && (match Tryd.f11.body with | some c => goodC Tryd.prog Tryd.f11.ntmps c | none => false)) = true := by kernel_rfl
theorem goodc12 : (callable Tryd.prog 12 && Tryd.f12.results.toList.all (rok Tryd.prog) && decide (1 ≤ Tryd.f12.ntmps) && (match Tryd.f12.body with | some c => goodC Tryd.prog Tryd.f12.ntmps c | none => false)) = true := by kernel_rfl
theorem good13 : (callable Tryd.prog 13 && tmpsOnly Tryd.f13 && decide (2 ≤ Tryd.f13.ntmps) && (match Tryd.f13.body with | some c => goodC Tryd.prog Tryd.f13.ntmps c | none => false)) = true := by kernel_rfl
theorem good18 : (callable Tryd.prog 18 && tmpsOnly Tryd.f18 && decide (2 ≤ Tryd.f18.ntmps) && (match Tryd.f18.body with | some c => goodC Tryd.prog Tryd.f18.ntmps c | none => false)) = true := by kernel_rfl
theorem good19 : (callable Tryd.prog 19 && tmpsOnly Tryd.f19 && decide (1 ≤ Tryd.f19.ntmps) && (match Tryd.f19.body with | some c => goodC Tryd.prog Tryd.f19.ntmps c | none => false)) = true := by kernel_rfl
theorem good20 : (callable Tryd.prog 20 && tmpsOnly Tryd.f20 && decide (1 ≤ Tryd.f20.ntmps) && (match Tryd.f20.body with | some c => goodC Tryd.prog Tryd.f20.ntmps c | none => false)) = true := by kernel_rfl
theorem good21 : (callable Tryd.prog 21 && tmpsOnly Tryd.f21 && decide (2 ≤ Tryd.f21.ntmps) && (match Tryd.f21.body with | some c => goodC Tryd.prog Tryd.f21.ntmps c | none => false)) = true := by kernel_rfl
theorem good22 : (callable Tryd.prog 22 && tmpsOnly Tryd.f22 && decide (2 ≤ Tryd.f22.ntmps) && (match Tryd.f22.body with | some c => goodC Tryd.prog Tryd.f22.ntmps c | none => false)) = true := by kernel_rfl
theorem good23 : (callable Tryd.prog 23 && tmpsOnly Tryd.f23 && decide (3 ≤ Tryd.f23.ntmps) && (match Tryd.f23.body with | some c => goodC Tryd.prog Tryd.f23.ntmps c | none => false)) = true := by kernel_rfl
theorem good24 : (callable Tryd.prog 24 && tmpsOnly Tryd.f24 && decide (1 ≤ Tryd.f24.ntmps) && (match Tryd.f24.body with | some c => goodC Tryd.prog Tryd.f24.ntmps c | none => false)) = true := by kernel_rfl
theorem good25 : (callable Tryd.prog 25 && tmpsOnly Tryd.f25 && decide (1 ≤ Tryd.f25.ntmps) && (match Tryd.f25.body with | some c => goodC Tryd.prog Tryd.f25.ntmps c | none => false)) = true := by kernel_rfl
theorem good27 : (callable Tryd.prog 27 && tmpsOnly Tryd.f27 && decide (1 ≤ Tryd.f27.ntmps) && (match Tryd.f27.body with | some c => goodC Tryd.prog Tryd.f27.ntmps c | none => false)) = true := by kernel_rfl
theorem good28 : (callable Tryd.prog 28 && tmpsOnly Tryd.f28 && decide (2 ≤ Tryd.f28.ntmps) && (match Tryd.f28.body with | some c => goodC Tryd.prog Tryd.f28.ntmps c | none => false)) = true := by kernel_rfl
theorem good29 : (callable Tryd.prog 29 && tmpsOnly Tryd.f29 && decide (1 ≤ Tryd.f29.ntmps) && (match Tryd.f29.body with | some c => goodC Tryd.prog Tryd.f29.ntmps c | none => false)) = true := by kernel_rfl
theorem good34 : (callable Tryd.prog 34 && tmpsOnly Tryd.f34 && decide (1 ≤ Tryd.f34.ntmps) && (match Tryd.f34.body with | some c => goodC Tryd.prog Tryd.f34.ntmps c | none => false)) = true := by kernel_rfl
theorem good36 : (callable Tryd.prog 36 && tmpsOnly Tryd.f36 && decide (1 ≤ Tryd.f36.ntmps) && (match Tryd.f36.body with | some c => goodC Tryd.prog Tryd.f36.ntmps c | none => false)) = true := by kernel_rfl
abbrev chr (n : Nat) : Char := Char.ofNat n
set_option maxRecDepth 20000 in
theorem initS : Tryd.prog.initOrder.toList = [chr 104, chr 97, chr 114, chr 110, chr 101, chr 115, chr 115, chr 32, chr 98, chr 50, chr 52, chr 98, chr 51, chr 101, chr 100, chr 100, chr 56, chr 52, chr 101, chr 53, chr 51, chr 50, chr 101, chr 51, chr 48, chr 98, chr 101, chr 50, chr 54, chr 56, chr 101, chr 52, chr 50, chr 52, chr 101, chr 54, chr 56, chr 99, chr 97, chr 53, chr 101, chr 100, chr 100, chr 55, chr 101, chr 56, chr 100, chr 97, chr 56, chr 101, chr 49, chr 99, chr 100, chr 53, chr 54, chr 97, chr 52, chr 100, chr 97, chr 100, chr 50, chr 55, chr 100, chr 97, chr 48, chr 54, chr 48, chr 49, chr 97, chr 52, chr 99, chr 48, chr 32, chr 99, chr 117, chr 116, chr 32, chr 97, chr 116, chr 32, chr 108, chr 111, chr 111, chr 112, chr 46, chr 101, chr 120, chr 97, chr 109, chr 112, chr 108, chr 101, chr 47, chr 99, chr 105, chr 114, chr 99, chr 117, chr 105, chr 116, chr 115, chr 119, chr 105, chr 116, chr 99, chr 104, chr 105, chr 110, chr 103, chr 47, chr 108, chr 97, chr 119, chr 115, chr 46, chr 70, chr 110, chr 69, chr 120, chr 97, chr 99, chr 116, chr 68, chr 101, chr 101, chr 100, chr 84, chr 101, chr 120, chr 116, chr 32, chr 108, chr 111, chr 111, chr 112, chr 46, chr 101, chr 120, chr 97, chr 109, chr 112, chr 108, chr 101, chr 47, chr 99, chr 105, chr 114, chr 99, chr 117, chr 105, chr 116, chr 115, chr 119, chr 105, chr 116, chr 99, chr 104, chr 105, chr 110, chr 103, chr 47, chr 108, chr 97, chr 119, chr 115, chr 46, chr 70, chr 110, chr 69, chr 120, chr 97, chr 99, chr 116, chr 82, chr 101, chr 97, chr 100, chr 68, chr 101, chr 101, chr 100, chr 32, chr 108, chr 111, chr 111, chr 112, chr 46, chr 101, chr 120, chr 97, chr 109, chr 112, chr 108, chr 101, chr 47, chr 99, chr 105, chr 114, chr 99, chr 117, chr 105, chr 116, chr 115, chr 119, chr 105, chr 116, chr 99, chr 104, chr 105, chr 110, chr 103, chr 47, chr 108, chr 97, chr 119, chr 115, chr 46, chr 70, chr 110, chr 69, chr 120, chr 97, chr 99, chr 116, chr 74, chr 111, chr 117, chr 114, chr 110, chr 97, chr 108, chr 84, chr 101, chr 120, chr 116, chr 32, chr 108, chr 111, chr 111, chr 112, chr 46, chr 101, chr 120, chr 97, chr 109, chr 112, chr 108, chr 101, chr 47, chr 99, chr 105, chr 114, chr 99, chr 117, chr 105, chr 116, chr 115, chr 119, chr 105, chr 116, chr 99, chr 104, chr 105, chr 110, chr 103, chr 47, chr 108, chr 97, chr 119, chr 115, chr 46, chr 70, chr 110, chr 69, chr 120, chr 97, chr 99, chr 116, chr 82, chr 101, chr 97, chr 100, chr 74, chr 111, chr 117, chr 114, chr 110, chr 97, chr 108] := by
  rw [show Tryd.prog.initOrder = String.ofList [chr 104, chr 97, chr 114, chr 110, chr 101, chr 115, chr 115, chr 32, chr 98, chr 50, chr 52, chr 98, chr 51, chr 101, chr 100, chr 100, chr 56, chr 52, chr 101, chr 53, chr 51, chr 50, chr 101, chr 51, chr 48, chr 98, chr 101, chr 50, chr 54, chr 56, chr 101, chr 52, chr 50, chr 52, chr 101, chr 54, chr 56, chr 99, chr 97, chr 53, chr 101, chr 100, chr 100, chr 55, chr 101, chr 56, chr 100, chr 97, chr 56, chr 101, chr 49, chr 99, chr 100, chr 53, chr 54, chr 97, chr 52, chr 100, chr 97, chr 100, chr 50, chr 55, chr 100, chr 97, chr 48, chr 54, chr 48, chr 49, chr 97, chr 52, chr 99, chr 48, chr 32, chr 99, chr 117, chr 116, chr 32, chr 97, chr 116, chr 32, chr 108, chr 111, chr 111, chr 112, chr 46, chr 101, chr 120, chr 97, chr 109, chr 112, chr 108, chr 101, chr 47, chr 99, chr 105, chr 114, chr 99, chr 117, chr 105, chr 116, chr 115, chr 119, chr 105, chr 116, chr 99, chr 104, chr 105, chr 110, chr 103, chr 47, chr 108, chr 97, chr 119, chr 115, chr 46, chr 70, chr 110, chr 69, chr 120, chr 97, chr 99, chr 116, chr 68, chr 101, chr 101, chr 100, chr 84, chr 101, chr 120, chr 116, chr 32, chr 108, chr 111, chr 111, chr 112, chr 46, chr 101, chr 120, chr 97, chr 109, chr 112, chr 108, chr 101, chr 47, chr 99, chr 105, chr 114, chr 99, chr 117, chr 105, chr 116, chr 115, chr 119, chr 105, chr 116, chr 99, chr 104, chr 105, chr 110, chr 103, chr 47, chr 108, chr 97, chr 119, chr 115, chr 46, chr 70, chr 110, chr 69, chr 120, chr 97, chr 99, chr 116, chr 82, chr 101, chr 97, chr 100, chr 68, chr 101, chr 101, chr 100, chr 32, chr 108, chr 111, chr 111, chr 112, chr 46, chr 101, chr 120, chr 97, chr 109, chr 112, chr 108, chr 101, chr 47, chr 99, chr 105, chr 114, chr 99, chr 117, chr 105, chr 116, chr 115, chr 119, chr 105, chr 116, chr 99, chr 104, chr 105, chr 110, chr 103, chr 47, chr 108, chr 97, chr 119, chr 115, chr 46, chr 70, chr 110, chr 69, chr 120, chr 97, chr 99, chr 116, chr 74, chr 111, chr 117, chr 114, chr 110, chr 97, chr 108, chr 84, chr 101, chr 120, chr 116, chr 32, chr 108, chr 111, chr 111, chr 112, chr 46, chr 101, chr 120, chr 97, chr 109, chr 112, chr 108, chr 101, chr 47, chr 99, chr 105, chr 114, chr 99, chr 117, chr 105, chr 116, chr 115, chr 119, chr 105, chr 116, chr 99, chr 104, chr 105, chr 110, chr 103, chr 47, chr 108, chr 97, chr 119, chr 115, chr 46, chr 70, chr 110, chr 69, chr 120, chr 97, chr 99, chr 116, chr 82, chr 101, chr 97, chr 100, chr 74, chr 111, chr 117, chr 114, chr 110, chr 97, chr 108] from by kernel_rfl, String.toList_ofList]
set_option maxRecDepth 20000 in
theorem behind : behindMainWord (wordsSigns Tryd.prog.initOrder.toList) = cutW :: [[chr 97, chr 116], [chr 108, chr 111, chr 111, chr 112, chr 46, chr 101, chr 120, chr 97, chr 109, chr 112, chr 108, chr 101, chr 47, chr 99, chr 105, chr 114, chr 99, chr 117, chr 105, chr 116, chr 115, chr 119, chr 105, chr 116, chr 99, chr 104, chr 105, chr 110, chr 103, chr 47, chr 108, chr 97, chr 119, chr 115, chr 46, chr 70, chr 110, chr 69, chr 120, chr 97, chr 99, chr 116, chr 68, chr 101, chr 101, chr 100, chr 84, chr 101, chr 120, chr 116], [chr 108, chr 111, chr 111, chr 112, chr 46, chr 101, chr 120, chr 97, chr 109, chr 112, chr 108, chr 101, chr 47, chr 99, chr 105, chr 114, chr 99, chr 117, chr 105, chr 116, chr 115, chr 119, chr 105, chr 116, chr 99, chr 104, chr 105, chr 110, chr 103, chr 47, chr 108, chr 97, chr 119, chr 115, chr 46, chr 70, chr 110, chr 69, chr 120, chr 97, chr 99, chr 116, chr 82, chr 101, chr 97, chr 100, chr 68, chr 101, chr 101, chr 100], [chr 108, chr 111, chr 111, chr 112, chr 46, chr 101, chr 120, chr 97, chr 109, chr 112, chr 108, chr 101, chr 47, chr 99, chr 105, chr 114, chr 99, chr 117, chr 105, chr 116, chr 115, chr 119, chr 105, chr 116, chr 99, chr 104, chr 105, chr 110, chr 103, chr 47, chr 108, chr 97, chr 119, chr 115, chr 46, chr 70, chr 110, chr 69, chr 120, chr 97, chr 99, chr 116, chr 74, chr 111, chr 117, chr 114, chr 110, chr 97, chr 108, chr 84, chr 101, chr 120, chr 116], [chr 108, chr 111, chr 111, chr 112, chr 46, chr 101, chr 120, chr 97, chr 109, chr 112, chr 108, chr 101, chr 47, chr 99, chr 105, chr 114, chr 99, chr 117, chr 105, chr 116, chr 115, chr 119, chr 105, chr 116, chr 99, chr 104, chr 105, chr 110, chr 103, chr 47, chr 108, chr 97, chr 119, chr 115, chr 46, chr 70, chr 110, chr 69, chr 120, chr 97, chr 99, chr 116, chr 82, chr 101, chr 97, chr 100, chr 74, chr 111, chr 117, chr 114, chr 110, chr 97, chr 108]] := by
  rw [initS]; kernel_rfl
theorem mayE : Tryd.prog.mayEnter = true := may_of behind (by kernel_rfl) (by kernel_rfl) (by kernel_rfl)
theorem liftsE : Tryd.prog.liftsFinal = false := lifts_of behind
theorem makeE : Tryd.prog.make = some .cut := mk_of behind
theorem vcu0 : type_of% (And.intro (And.intro (And.intro (And.intro (@decide_true) (@decide_false)) (And.intro (@Bool.or_false) (@Bool.or_true))) (And.intro (And.intro (@Bool.false_or) (@Bool.true_or)) (And.intro (@noisy_nil) (@nq_move)))) (And.intro (And.intro (And.intro (@nq_assign) (@nq_pick)) (And.intro (@nq_binOp) (@nq_unOp))) (And.intro (And.intro (@nq_convert) (@nq_nilCheck)) (And.intro (@nq_indexAddr) (@nq_index))))) := (And.intro (And.intro (And.intro (And.intro (@decide_true) (@decide_false)) (And.intro (@Bool.or_false) (@Bool.or_true))) (And.intro (And.intro (@Bool.false_or) (@Bool.true_or)) (And.intro (@noisy_nil) (@nq_move)))) (And.intro (And.intro (And.intro (@nq_assign) (@nq_pick)) (And.intro (@nq_binOp) (@nq_unOp))) (And.intro (And.intro (@nq_convert) (@nq_nilCheck)) (And.intro (@nq_indexAddr) (@nq_index)))))
theorem vcu1 : type_of% (And.intro (And.intro (And.intro (And.intro (@nq_load) (@nq_field)) (And.intro (@nq_fieldAddr) (@nq_extract))) (And.intro (And.intro (@nq_build) (@nq_makeFunc)) (And.intro (@nq_slice) (@nq_len)))) (And.intro (And.intro (And.intro (@nq_min) (@nq_max)) (And.intro (@nq_call) (@nl_callv))) (And.intro (And.intro (@nl_append) (@nl_copy)) (And.intro (@nl_clear) (@nl_alloc))))) := (And.intro (And.intro (And.intro (And.intro (@nq_load) (@nq_field)) (And.intro (@nq_fieldAddr) (@nq_extract))) (And.intro (And.intro (@nq_build) (@nq_makeFunc)) (And.intro (@nq_slice) (@nq_len)))) (And.intro (And.intro (And.intro (@nq_min) (@nq_max)) (And.intro (@nq_call) (@nl_callv))) (And.intro (And.intro (@nl_append) (@nl_copy)) (And.intro (@nl_clear) (@nl_alloc)))))
theorem vcu2 : type_of% (And.intro (And.intro (And.intro (And.intro (@nl_box) (@nl_store)) (And.intro (@nl_makeSlice) (@nl_buildSlice))) (And.intro (And.intro (@nl_slice3) (@bindO_some)) (And.intro (@bindI_some) (@bindS_some)))) (And.intro (And.intro (And.intro (@pickR_yes) (@pickR_no)) (And.intro (@pickR_tt) (@pickR_ff))) (And.intro (And.intro (@gvb_some) (@vb_bool)) (And.intro (@vb_undef) (@gslot_zero))))) := (And.intro (And.intro (And.intro (And.intro (@nl_box) (@nl_store)) (And.intro (@nl_makeSlice) (@nl_buildSlice))) (And.intro (And.intro (@nl_slice3) (@bindO_some)) (And.intro (@bindI_some) (@bindS_some)))) (And.intro (And.intro (And.intro (@pickR_yes) (@pickR_no)) (And.intro (@pickR_tt) (@pickR_ff))) (And.intro (And.intro (@gvb_some) (@vb_bool)) (And.intro (@vb_undef) (@gslot_zero)))))
theorem vcu3 : type_of% (And.intro (And.intro (And.intro (And.intro (@gslot_succ) (@guardR_tt)) (And.intro (@guardR_ff) (@guardR_tf))) (And.intro (And.intro (@guardR_ft) (@guardR_nt)) (And.intro (@guardR_pt) (@guardR_pf)))) (And.intro (And.intro (And.intro (@guardR_nT) (@guardR_nF)) (And.intro (@aput_some) (@aput_none))) (And.intro (And.intro (@condR_true) (@condR_false)) (And.intro (@condR_yes) (@condR_no))))) := (And.intro (And.intro (And.intro (And.intro (@gslot_succ) (@guardR_tt)) (And.intro (@guardR_ff) (@guardR_tf))) (And.intro (And.intro (@guardR_ft) (@guardR_nt)) (And.intro (@guardR_pt) (@guardR_pf)))) (And.intro (And.intro (And.intro (@guardR_nT) (@guardR_nF)) (And.intro (@aput_some) (@aput_none))) (And.intro (And.intro (@condR_true) (@condR_false)) (And.intro (@condR_yes) (@condR_no)))))
theorem vcu4 : type_of% (And.intro (And.intro (And.intro (And.intro (@condR_not) (@Bool.not_true)) (And.intro (@Bool.not_false) (@ev_const))) (And.intro (And.intro (@ev_tmp) (@ev_func)) (And.intro (@fset_app) (@abin_add)))) (And.intro (And.intro (And.intro (@abin_sub) (@abin_mul)) (And.intro (@abin_quo) (@abin_rem))) (And.intro (And.intro (@abin_eql) (@abin_neq)) (And.intro (@abin_lss) (@abin_leq))))) := (And.intro (And.intro (And.intro (And.intro (@condR_not) (@Bool.not_true)) (And.intro (@Bool.not_false) (@ev_const))) (And.intro (And.intro (@ev_tmp) (@ev_func)) (And.intro (@fset_app) (@abin_add)))) (And.intro (And.intro (And.intro (@abin_sub) (@abin_mul)) (And.intro (@abin_quo) (@abin_rem))) (And.intro (And.intro (@abin_eql) (@abin_neq)) (And.intro (@abin_lss) (@abin_leq)))))
theorem vcu5 : type_of% (And.intro (And.intro (And.intro (And.intro (@abin_gtr) (@abin_geq)) (And.intro (@abin_seql) (@abin_sneq))) (And.intro (And.intro (@abin_sadd) (@bindX_some)) (And.intro (@tx_nil) (@tx_empty)))) (And.intro (And.intro (And.intro (@aun_not) (@aun_neg)) (And.intro (@aconvH_int) (@amin_two))) (And.intro (And.intro (@amax_two) (@anil_ptr)) (And.intro (@aextract_tuple) (@dec_true))))) := (And.intro (And.intro (And.intro (And.intro (@abin_gtr) (@abin_geq)) (And.intro (@abin_seql) (@abin_sneq))) (And.intro (And.intro (@abin_sadd) (@bindX_some)) (And.intro (@tx_nil) (@tx_empty)))) (And.intro (And.intro (And.intro (@aun_not) (@aun_neg)) (And.intro (@aconvH_int) (@amin_two))) (And.intro (And.intro (@amax_two) (@anil_ptr)) (And.intro (@aextract_tuple) (@dec_true)))))
theorem vcu6 : type_of% (And.intro (And.intro (And.intro (And.intro (@dec_false) (@Nat.mul_one)) (And.intro (@Int.toNat_natCast) (@not_not_p))) (And.intro (And.intro (@aenter_zero) (@aenter_succ)) (And.intro (abin_beql' bo4) (abin_bneq' bo4)))) (And.intro (And.intro (And.intro (alenV_tx' Tryd.underlying9) (aslice_thi' Tryd.underlying9)) (And.intro (aslice_tlo' Tryd.underlying9) (aslice_tlohi' Tryd.underlying9))) (And.intro (And.intro (alenV_tx' Tryd.underlying10) (aslice_thi' Tryd.underlying10)) (And.intro (aslice_tlo' Tryd.underlying10) (aslice_tlohi' Tryd.underlying10))))) := (And.intro (And.intro (And.intro (And.intro (@dec_false) (@Nat.mul_one)) (And.intro (@Int.toNat_natCast) (@not_not_p))) (And.intro (And.intro (@aenter_zero) (@aenter_succ)) (And.intro (abin_beql' bo4) (abin_bneq' bo4)))) (And.intro (And.intro (And.intro (alenV_tx' Tryd.underlying9) (aslice_thi' Tryd.underlying9)) (And.intro (aslice_tlo' Tryd.underlying9) (aslice_tlohi' Tryd.underlying9))) (And.intro (And.intro (alenV_tx' Tryd.underlying10) (aslice_thi' Tryd.underlying10)) (And.intro (aslice_tlo' Tryd.underlying10) (aslice_tlohi' Tryd.underlying10)))))
theorem vcu7 : type_of% (And.intro (And.intro (And.intro (And.intro (alenV_tx' Tryd.underlying11) (aslice_thi' Tryd.underlying11)) (And.intro (aslice_tlo' Tryd.underlying11) (aslice_tlohi' Tryd.underlying11))) (And.intro (And.intro (@fl22_0) (@fl22_1)) (And.intro (@fl22_2) (@fv22_0)))) (And.intro (And.intro (And.intro (@fv22_1) (@fv22_2)) (And.intro (@fl23_0) (@fl23_1))) (And.intro (And.intro (@fl23_2) (@fv23_0)) (And.intro (@fv23_1) (@fv23_2))))) := (And.intro (And.intro (And.intro (And.intro (alenV_tx' Tryd.underlying11) (aslice_thi' Tryd.underlying11)) (And.intro (aslice_tlo' Tryd.underlying11) (aslice_tlohi' Tryd.underlying11))) (And.intro (And.intro (@fl22_0) (@fl22_1)) (And.intro (@fl22_2) (@fv22_0)))) (And.intro (And.intro (And.intro (@fv22_1) (@fv22_2)) (And.intro (@fl23_0) (@fl23_1))) (And.intro (And.intro (@fl23_2) (@fv23_0)) (And.intro (@fv23_1) (@fv23_2)))))
theorem vcu8 : type_of% (And.intro (And.intro (And.intro (And.intro (@fl26_0) (@fl26_1)) (And.intro (@fl26_2) (@fv26_0))) (And.intro (And.intro (@fv26_1) (@fv26_2)) (And.intro (alenV_slice' Tryd.underlying33) (aidx_slice' Tryd.underlying33 co23)))) (And.intro (And.intro (And.intro (@esz33) (aslice_hi' Tryd.underlying33 co23)) (And.intro (aslice_lo' Tryd.underlying33 co23) (aslice_lohi' Tryd.underlying33 co23))) (And.intro (And.intro (aslice_nhi' Tryd.underlying33) (aslice_nlo' Tryd.underlying33)) (And.intro (aslice_nlohi' Tryd.underlying33) (alenV_slice' Tryd.underlying36))))) := (And.intro (And.intro (And.intro (And.intro (@fl26_0) (@fl26_1)) (And.intro (@fl26_2) (@fv26_0))) (And.intro (And.intro (@fv26_1) (@fv26_2)) (And.intro (alenV_slice' Tryd.underlying33) (aidx_slice' Tryd.underlying33 co23)))) (And.intro (And.intro (And.intro (@esz33) (aslice_hi' Tryd.underlying33 co23)) (And.intro (aslice_lo' Tryd.underlying33 co23) (aslice_lohi' Tryd.underlying33 co23))) (And.intro (And.intro (aslice_nhi' Tryd.underlying33) (aslice_nlo' Tryd.underlying33)) (And.intro (aslice_nlohi' Tryd.underlying33) (alenV_slice' Tryd.underlying36)))))
theorem vcu9 : type_of% (And.intro (And.intro (And.intro (And.intro (aidx_slice' Tryd.underlying36 co26) (@esz36)) (And.intro (aslice_hi' Tryd.underlying36 co26) (aslice_lo' Tryd.underlying36 co26))) (And.intro (And.intro (aslice_lohi' Tryd.underlying36 co26) (aslice_nhi' Tryd.underlying36)) (And.intro (aslice_nlo' Tryd.underlying36) (aslice_nlohi' Tryd.underlying36)))) (And.intro (And.intro (And.intro (alenV_slice' Tryd.underlying44) (aidx_slice' Tryd.underlying44 co9)) (And.intro (@esz44) (aslice_hi' Tryd.underlying44 co9))) (And.intro (And.intro (aslice_lo' Tryd.underlying44 co9) (aslice_lohi' Tryd.underlying44 co9)) (And.intro (aslice_nhi' Tryd.underlying44) (aslice_nlo' Tryd.underlying44))))) := (And.intro (And.intro (And.intro (And.intro (aidx_slice' Tryd.underlying36 co26) (@esz36)) (And.intro (aslice_hi' Tryd.underlying36 co26) (aslice_lo' Tryd.underlying36 co26))) (And.intro (And.intro (aslice_lohi' Tryd.underlying36 co26) (aslice_nhi' Tryd.underlying36)) (And.intro (aslice_nlo' Tryd.underlying36) (aslice_nlohi' Tryd.underlying36)))) (And.intro (And.intro (And.intro (alenV_slice' Tryd.underlying44) (aidx_slice' Tryd.underlying44 co9)) (And.intro (@esz44) (aslice_hi' Tryd.underlying44 co9))) (And.intro (And.intro (aslice_lo' Tryd.underlying44 co9) (aslice_lohi' Tryd.underlying44 co9)) (And.intro (aslice_nhi' Tryd.underlying44) (aslice_nlo' Tryd.underlying44)))))
theorem vcu10 : type_of% (And.intro (And.intro (And.intro (And.intro (aslice_nlohi' Tryd.underlying44) (alenV_slice' Tryd.underlying54)) (And.intro (aidx_slice' Tryd.underlying54 co3) (@esz54))) (And.intro (And.intro (aslice_hi' Tryd.underlying54 co3) (aslice_lo' Tryd.underlying54 co3)) (And.intro (aslice_lohi' Tryd.underlying54 co3) (aslice_nhi' Tryd.underlying54)))) (And.intro (And.intro (And.intro (aslice_nlo' Tryd.underlying54) (aslice_nlohi' Tryd.underlying54)) (And.intro (alenV_slice' Tryd.underlying56) (aidx_slice' Tryd.underlying56 co5))) (And.intro (And.intro (@esz56) (aslice_hi' Tryd.underlying56 co5)) (And.intro (aslice_lo' Tryd.underlying56 co5) (aslice_lohi' Tryd.underlying56 co5))))) := (And.intro (And.intro (And.intro (And.intro (aslice_nlohi' Tryd.underlying44) (alenV_slice' Tryd.underlying54)) (And.intro (aidx_slice' Tryd.underlying54 co3) (@esz54))) (And.intro (And.intro (aslice_hi' Tryd.underlying54 co3) (aslice_lo' Tryd.underlying54 co3)) (And.intro (aslice_lohi' Tryd.underlying54 co3) (aslice_nhi' Tryd.underlying54)))) (And.intro (And.intro (And.intro (aslice_nlo' Tryd.underlying54) (aslice_nlohi' Tryd.underlying54)) (And.intro (alenV_slice' Tryd.underlying56) (aidx_slice' Tryd.underlying56 co5))) (And.intro (And.intro (@esz56) (aslice_hi' Tryd.underlying56 co5)) (And.intro (aslice_lo' Tryd.underlying56 co5) (aslice_lohi' Tryd.underlying56 co5)))))
theorem vcu11 : type_of% (And.intro (And.intro (And.intro (And.intro (aslice_nhi' Tryd.underlying56) (aslice_nlo' Tryd.underlying56)) (And.intro (aslice_nlohi' Tryd.underlying56) (aidx_array' Tryd.underlying72 co5))) (And.intro (And.intro (@esz72) (aidx_array' Tryd.underlying88 co73)) (And.intro (@esz88) (aidx_array' Tryd.underlying90 co5)))) (And.intro (And.intro (And.intro (@esz90) (aidx_array' Tryd.underlying100 co5)) (And.intro (@esz100) (aidx_array' Tryd.underlying101 co5))) (And.intro (And.intro (@esz101) (aidx_array' Tryd.underlying104 co16)) (And.intro (@esz104) (@pt0))))) := (And.intro (And.intro (And.intro (And.intro (aslice_nhi' Tryd.underlying56) (aslice_nlo' Tryd.underlying56)) (And.intro (aslice_nlohi' Tryd.underlying56) (aidx_array' Tryd.underlying72 co5))) (And.intro (And.intro (@esz72) (aidx_array' Tryd.underlying88 co73)) (And.intro (@esz88) (aidx_array' Tryd.underlying90 co5)))) (And.intro (And.intro (And.intro (@esz90) (aidx_array' Tryd.underlying100 co5)) (And.intro (@esz100) (aidx_array' Tryd.underlying101 co5))) (And.intro (And.intro (@esz101) (aidx_array' Tryd.underlying104 co16)) (And.intro (@esz104) (@pt0)))))
theorem vcu12 : type_of% (And.intro (And.intro (And.intro (And.intro (@pt1) (@pt2)) (And.intro (@pt3) (@pt4))) (And.intro (And.intro (@pt5) (@pt6)) (And.intro (@pt9) (@pt10)))) (And.intro (And.intro (And.intro (@pt11) (@pt12)) (And.intro (@pt15) (@pt16))) (And.intro (And.intro (@pt17) (@pt20)) (And.intro (@pt21) (@pt22))))) := (And.intro (And.intro (And.intro (And.intro (@pt1) (@pt2)) (And.intro (@pt3) (@pt4))) (And.intro (And.intro (@pt5) (@pt6)) (And.intro (@pt9) (@pt10)))) (And.intro (And.intro (And.intro (@pt11) (@pt12)) (And.intro (@pt15) (@pt16))) (And.intro (And.intro (@pt17) (@pt20)) (And.intro (@pt21) (@pt22)))))
theorem vcu13 : type_of% (And.intro (And.intro (And.intro (And.intro (@pt23) (@pt24)) (And.intro (@pt25) (@pt26))) (And.intro (And.intro (@pt27) (@pt28)) (And.intro (@pt29) (@pt30)))) (And.intro (And.intro (And.intro (@pt31) (@pt32)) (And.intro (@pt33) (@pt34))) (And.intro (And.intro (@pt35) (@pt36)) (And.intro (@pt37) (@pt38))))) := (And.intro (And.intro (And.intro (And.intro (@pt23) (@pt24)) (And.intro (@pt25) (@pt26))) (And.intro (And.intro (@pt27) (@pt28)) (And.intro (@pt29) (@pt30)))) (And.intro (And.intro (And.intro (@pt31) (@pt32)) (And.intro (@pt33) (@pt34))) (And.intro (And.intro (@pt35) (@pt36)) (And.intro (@pt37) (@pt38)))))
theorem vcu14 : type_of% (And.intro (And.intro (And.intro (And.intro (@pt39) (@pt40)) (And.intro (@pt41) (@pt42))) (And.intro (And.intro (@pt43) (@pt44)) (And.intro (@pt45) (@pt46)))) (And.intro (And.intro (And.intro (@pt47) (@pt48)) (And.intro (@pt49) (@pt50))) (And.intro (And.intro (@pt51) (@pt52)) (And.intro (@pt53) (@pt54))))) := (And.intro (And.intro (And.intro (And.intro (@pt39) (@pt40)) (And.intro (@pt41) (@pt42))) (And.intro (And.intro (@pt43) (@pt44)) (And.intro (@pt45) (@pt46)))) (And.intro (And.intro (And.intro (@pt47) (@pt48)) (And.intro (@pt49) (@pt50))) (And.intro (And.intro (@pt51) (@pt52)) (And.intro (@pt53) (@pt54)))))
theorem vcu15 : type_of% (And.intro (And.intro (And.intro (And.intro (@pt55) (@pt56)) (And.intro (@pt59) (@pt60))) (And.intro (And.intro (@pt61) (@pt62)) (And.intro (@pt63) (@pt64)))) (And.intro (And.intro (And.intro (@pt65) (@pt66)) (And.intro (@pt67) (@pt68))) (And.intro (And.intro (@pt69) (@pt70)) (And.intro (@pt71) (@pt72))))) := (And.intro (And.intro (And.intro (And.intro (@pt55) (@pt56)) (And.intro (@pt59) (@pt60))) (And.intro (And.intro (@pt61) (@pt62)) (And.intro (@pt63) (@pt64)))) (And.intro (And.intro (And.intro (@pt65) (@pt66)) (And.intro (@pt67) (@pt68))) (And.intro (And.intro (@pt69) (@pt70)) (And.intro (@pt71) (@pt72)))))
theorem vcu16 : type_of% (And.intro (And.intro (And.intro (And.intro (@pt73) (@pt74)) (And.intro (@pt75) (@pt76))) (And.intro (And.intro (@pt77) (@pt78)) (And.intro (@pt79) (@pt80)))) (And.intro (And.intro (And.intro (@pt81) (@pt82)) (And.intro (@pt83) (@pt86))) (And.intro (And.intro (@pt87) (@pt88)) (And.intro (@pt89) (@pt90))))) := (And.intro (And.intro (And.intro (And.intro (@pt73) (@pt74)) (And.intro (@pt75) (@pt76))) (And.intro (And.intro (@pt77) (@pt78)) (And.intro (@pt79) (@pt80)))) (And.intro (And.intro (And.intro (@pt81) (@pt82)) (And.intro (@pt83) (@pt86))) (And.intro (And.intro (@pt87) (@pt88)) (And.intro (@pt89) (@pt90)))))
theorem vcu17 : type_of% (And.intro (And.intro (And.intro (And.intro (@pt91) (@pt92)) (And.intro (@pt93) (@pt94))) (And.intro (And.intro (@pt95) (@pt96)) (And.intro (@pt99) (@pt100)))) (And.intro (And.intro (And.intro (@pt101) (@pt104)) (And.intro (@pt107) (@pt108))) (And.intro (And.intro (@pt109) (@pt110)) (And.intro (@pt111) (@pt112))))) := (And.intro (And.intro (And.intro (And.intro (@pt91) (@pt92)) (And.intro (@pt93) (@pt94))) (And.intro (And.intro (@pt95) (@pt96)) (And.intro (@pt99) (@pt100)))) (And.intro (And.intro (And.intro (@pt101) (@pt104)) (And.intro (@pt107) (@pt108))) (And.intro (And.intro (@pt109) (@pt110)) (And.intro (@pt111) (@pt112)))))
theorem vcu18 : type_of% (And.intro (And.intro (And.intro (And.intro (@sc0) (@sc1)) (And.intro (@sc2) (@sc3))) (And.intro (And.intro (@sc4) (@sc5)) (And.intro (@sc6) (@sc9)))) (And.intro (And.intro (And.intro (@sc10) (@sc11)) (And.intro (@sc12) (@sc15))) (And.intro (And.intro (@sc16) (@sc17)) (And.intro (@sc20) (@sc21))))) := (And.intro (And.intro (And.intro (And.intro (@sc0) (@sc1)) (And.intro (@sc2) (@sc3))) (And.intro (And.intro (@sc4) (@sc5)) (And.intro (@sc6) (@sc9)))) (And.intro (And.intro (And.intro (@sc10) (@sc11)) (And.intro (@sc12) (@sc15))) (And.intro (And.intro (@sc16) (@sc17)) (And.intro (@sc20) (@sc21)))))
theorem vcu19 : type_of% (And.intro (And.intro (And.intro (And.intro (@sc22) (@sc23)) (And.intro (@sc24) (@sc25))) (And.intro (And.intro (@sc26) (@sc27)) (And.intro (@sc28) (@sc29)))) (And.intro (And.intro (And.intro (@sc30) (@sc31)) (And.intro (@sc32) (@sc33))) (And.intro (And.intro (@sc34) (@sc35)) (And.intro (@sc36) (@sc37))))) := (And.intro (And.intro (And.intro (And.intro (@sc22) (@sc23)) (And.intro (@sc24) (@sc25))) (And.intro (And.intro (@sc26) (@sc27)) (And.intro (@sc28) (@sc29)))) (And.intro (And.intro (And.intro (@sc30) (@sc31)) (And.intro (@sc32) (@sc33))) (And.intro (And.intro (@sc34) (@sc35)) (And.intro (@sc36) (@sc37)))))
theorem vcu20 : type_of% (And.intro (And.intro (And.intro (And.intro (@sc38) (@sc39)) (And.intro (@sc40) (@sc41))) (And.intro (And.intro (@sc42) (@sc43)) (And.intro (@sc44) (@sc45)))) (And.intro (And.intro (And.intro (@sc46) (@sc47)) (And.intro (@sc48) (@sc49))) (And.intro (And.intro (@sc50) (@sc51)) (And.intro (@sc52) (@sc53))))) := (And.intro (And.intro (And.intro (And.intro (@sc38) (@sc39)) (And.intro (@sc40) (@sc41))) (And.intro (And.intro (@sc42) (@sc43)) (And.intro (@sc44) (@sc45)))) (And.intro (And.intro (And.intro (@sc46) (@sc47)) (And.intro (@sc48) (@sc49))) (And.intro (And.intro (@sc50) (@sc51)) (And.intro (@sc52) (@sc53)))))
theorem vcu21 : type_of% (And.intro (And.intro (And.intro (And.intro (@sc54) (@sc55)) (And.intro (@sc56) (@sc59))) (And.intro (And.intro (@sc60) (@sc61)) (And.intro (@sc62) (@sc63)))) (And.intro (And.intro (And.intro (@sc64) (@sc65)) (And.intro (@sc66) (@sc67))) (And.intro (And.intro (@sc68) (@sc69)) (And.intro (@sc70) (@sc71))))) := (And.intro (And.intro (And.intro (And.intro (@sc54) (@sc55)) (And.intro (@sc56) (@sc59))) (And.intro (And.intro (@sc60) (@sc61)) (And.intro (@sc62) (@sc63)))) (And.intro (And.intro (And.intro (@sc64) (@sc65)) (And.intro (@sc66) (@sc67))) (And.intro (And.intro (@sc68) (@sc69)) (And.intro (@sc70) (@sc71)))))
theorem vcu22 : type_of% (And.intro (And.intro (And.intro (And.intro (@sc72) (@sc73)) (And.intro (@sc74) (@sc75))) (And.intro (And.intro (@sc76) (@sc77)) (And.intro (@sc78) (@sc79)))) (And.intro (And.intro (And.intro (@sc80) (@sc81)) (And.intro (@sc82) (@sc83))) (And.intro (And.intro (@sc86) (@sc87)) (And.intro (@sc88) (@sc89))))) := (And.intro (And.intro (And.intro (And.intro (@sc72) (@sc73)) (And.intro (@sc74) (@sc75))) (And.intro (And.intro (@sc76) (@sc77)) (And.intro (@sc78) (@sc79)))) (And.intro (And.intro (And.intro (@sc80) (@sc81)) (And.intro (@sc82) (@sc83))) (And.intro (And.intro (@sc86) (@sc87)) (And.intro (@sc88) (@sc89)))))
theorem vcu23 : type_of% (And.intro (And.intro (And.intro (And.intro (@sc90) (@sc91)) (And.intro (@sc92) (@sc93))) (And.intro (And.intro (@sc94) (@sc95)) (And.intro (@sc96) (@sc99)))) (And.intro (And.intro (And.intro (@sc100) (@sc101)) (And.intro (@sc104) (@sc107))) (And.intro (And.intro (@sc108) (@sc109)) (And.intro (@sc110) (@sc111))))) := (And.intro (And.intro (And.intro (And.intro (@sc90) (@sc91)) (And.intro (@sc92) (@sc93))) (And.intro (And.intro (@sc94) (@sc95)) (And.intro (@sc96) (@sc99)))) (And.intro (And.intro (And.intro (@sc100) (@sc101)) (And.intro (@sc104) (@sc107))) (And.intro (And.intro (@sc108) (@sc109)) (And.intro (@sc110) (@sc111)))))
theorem vcu24 : type_of% (And.intro (And.intro (And.intro (And.intro (@sc112) (@nf3)) (And.intro (@nf4) (@nf5))) (And.intro (And.intro (@nf6) (@nf7)) (And.intro (@nf8) (@nf9)))) (And.intro (And.intro (And.intro (@nf10) (@nf11)) (And.intro (@nf12) (@nf13))) (And.intro (And.intro (@nf14) (@nf15)) (And.intro (@nf16) (@nf17))))) := (And.intro (And.intro (And.intro (And.intro (@sc112) (@nf3)) (And.intro (@nf4) (@nf5))) (And.intro (And.intro (@nf6) (@nf7)) (And.intro (@nf8) (@nf9)))) (And.intro (And.intro (And.intro (@nf10) (@nf11)) (And.intro (@nf12) (@nf13))) (And.intro (And.intro (@nf14) (@nf15)) (And.intro (@nf16) (@nf17)))))
theorem vcu25 : type_of% (And.intro (And.intro (And.intro (And.intro (@nf18) (@nf19)) (And.intro (@nf20) (@nf21))) (And.intro (And.intro (@nf22) (@nf23)) (And.intro (@nf24) (@nf25)))) (And.intro (And.intro (And.intro (@nf26) (@nf27)) (And.intro (@nf28) (@nf29))) (And.intro (And.intro (@nf30) (@nf31)) (And.intro (@nf32) (@nf33))))) := (And.intro (And.intro (And.intro (And.intro (@nf18) (@nf19)) (And.intro (@nf20) (@nf21))) (And.intro (And.intro (@nf22) (@nf23)) (And.intro (@nf24) (@nf25)))) (And.intro (And.intro (And.intro (@nf26) (@nf27)) (And.intro (@nf28) (@nf29))) (And.intro (And.intro (@nf30) (@nf31)) (And.intro (@nf32) (@nf33)))))
theorem vcu26 : type_of% (And.intro (And.intro (And.intro (And.intro (@nf34) (@nf35)) (And.intro (@nf36) (@nf37))) (And.intro (And.intro (@nf38) (@nf39)) (And.intro (@nf40) (@nf41)))) (And.intro (And.intro (And.intro (@nf42) (@nf43)) (And.intro (@nf44) (@nf45))) (And.intro (And.intro (@nf46) (@nf47)) (And.intro (@nf49) (@nf50))))) := (And.intro (And.intro (And.intro (And.intro (@nf34) (@nf35)) (And.intro (@nf36) (@nf37))) (And.intro (And.intro (@nf38) (@nf39)) (And.intro (@nf40) (@nf41)))) (And.intro (And.intro (And.intro (@nf42) (@nf43)) (And.intro (@nf44) (@nf45))) (And.intro (And.intro (@nf46) (@nf47)) (And.intro (@nf49) (@nf50)))))
theorem vcu27 : type_of% (And.intro (And.intro (And.intro (And.intro (@nf51) (@nf52)) (And.intro (@nf53) (@nf57))) (And.intro (And.intro (@nf58) (@nf60)) (And.intro (@nf61) (@nf62)))) (And.intro (And.intro (And.intro (@nf63) (@nf64)) (And.intro (@nf67) (@nf68))) (And.intro (And.intro (@nf69) (@nf70)) (And.intro (@nf86) (@nf87))))) := (And.intro (And.intro (And.intro (And.intro (@nf51) (@nf52)) (And.intro (@nf53) (@nf57))) (And.intro (And.intro (@nf58) (@nf60)) (And.intro (@nf61) (@nf62)))) (And.intro (And.intro (And.intro (@nf63) (@nf64)) (And.intro (@nf67) (@nf68))) (And.intro (And.intro (@nf69) (@nf70)) (And.intro (@nf86) (@nf87)))))
theorem vcu28 : type_of% (And.intro (And.intro (And.intro (And.intro (@nf88) (@nf92)) (And.intro (@nf93) (@nf94))) (And.intro (And.intro (@nf95) (@nf96)) (And.intro (aload_agg' ag22) (aload_agg' ag23)))) (And.intro (And.intro (And.intro (aload_agg' ag26) (aload_agg' ag72)) (And.intro (aload_agg' ag88) (aload_agg' ag90))) (And.intro (And.intro (aload_agg' ag100) (aload_agg' ag101)) (And.intro (aload_cell' ag1) (aload_cell' ag2))))) := (And.intro (And.intro (And.intro (And.intro (@nf88) (@nf92)) (And.intro (@nf93) (@nf94))) (And.intro (And.intro (@nf95) (@nf96)) (And.intro (aload_agg' ag22) (aload_agg' ag23)))) (And.intro (And.intro (And.intro (aload_agg' ag26) (aload_agg' ag72)) (And.intro (aload_agg' ag88) (aload_agg' ag90))) (And.intro (And.intro (aload_agg' ag100) (aload_agg' ag101)) (And.intro (aload_cell' ag1) (aload_cell' ag2)))))
theorem vcu29 : type_of% (And.intro (And.intro (And.intro (And.intro (aload_cell' ag3) (aload_cell' ag4)) (And.intro (aload_cell' ag5) (aload_cell' ag6))) (And.intro (And.intro (aload_cell' ag9) (aload_cell' ag10)) (And.intro (aload_cell' ag11) (aload_cell' ag12)))) (And.intro (And.intro (And.intro (aload_cell' ag15) (aload_cell' ag16)) (And.intro (aload_cell' ag17) (aload_cell' ag21))) (And.intro (And.intro (aload_cell' ag24) (aload_cell' ag25)) (And.intro (aload_cell' ag27) (aload_cell' ag28))))) := (And.intro (And.intro (And.intro (And.intro (aload_cell' ag3) (aload_cell' ag4)) (And.intro (aload_cell' ag5) (aload_cell' ag6))) (And.intro (And.intro (aload_cell' ag9) (aload_cell' ag10)) (And.intro (aload_cell' ag11) (aload_cell' ag12)))) (And.intro (And.intro (And.intro (aload_cell' ag15) (aload_cell' ag16)) (And.intro (aload_cell' ag17) (aload_cell' ag21))) (And.intro (And.intro (aload_cell' ag24) (aload_cell' ag25)) (And.intro (aload_cell' ag27) (aload_cell' ag28)))))
theorem vcu30 : type_of% (And.intro (And.intro (And.intro (And.intro (aload_cell' ag30) (aload_cell' ag31)) (And.intro (aload_cell' ag32) (aload_cell' ag33))) (And.intro (And.intro (aload_cell' ag34) (aload_cell' ag35)) (And.intro (aload_cell' ag36) (aload_cell' ag37)))) (And.intro (And.intro (And.intro (aload_cell' ag38) (aload_cell' ag39)) (And.intro (aload_cell' ag41) (aload_cell' ag42))) (And.intro (And.intro (aload_cell' ag43) (aload_cell' ag44)) (And.intro (aload_cell' ag45) (aload_cell' ag46))))) := (And.intro (And.intro (And.intro (And.intro (aload_cell' ag30) (aload_cell' ag31)) (And.intro (aload_cell' ag32) (aload_cell' ag33))) (And.intro (And.intro (aload_cell' ag34) (aload_cell' ag35)) (And.intro (aload_cell' ag36) (aload_cell' ag37)))) (And.intro (And.intro (And.intro (aload_cell' ag38) (aload_cell' ag39)) (And.intro (aload_cell' ag41) (aload_cell' ag42))) (And.intro (And.intro (aload_cell' ag43) (aload_cell' ag44)) (And.intro (aload_cell' ag45) (aload_cell' ag46)))))
theorem vcu31 : type_of% (And.intro (And.intro (And.intro (And.intro (aload_cell' ag47) (aload_cell' ag49)) (And.intro (aload_cell' ag53) (aload_cell' ag54))) (And.intro (And.intro (aload_cell' ag55) (aload_cell' ag56)) (And.intro (aload_cell' ag59) (aload_cell' ag60)))) (And.intro (And.intro (And.intro (aload_cell' ag61) (aload_cell' ag62)) (And.intro (aload_cell' ag63) (aload_cell' ag64))) (And.intro (And.intro (aload_cell' ag66) (aload_cell' ag67)) (And.intro (aload_cell' ag68) (aload_cell' ag69))))) := (And.intro (And.intro (And.intro (And.intro (aload_cell' ag47) (aload_cell' ag49)) (And.intro (aload_cell' ag53) (aload_cell' ag54))) (And.intro (And.intro (aload_cell' ag55) (aload_cell' ag56)) (And.intro (aload_cell' ag59) (aload_cell' ag60)))) (And.intro (And.intro (And.intro (aload_cell' ag61) (aload_cell' ag62)) (And.intro (aload_cell' ag63) (aload_cell' ag64))) (And.intro (And.intro (aload_cell' ag66) (aload_cell' ag67)) (And.intro (aload_cell' ag68) (aload_cell' ag69)))))
theorem vcu32 : type_of% (And.intro (And.intro (And.intro (And.intro (aload_cell' ag71) (aload_cell' ag73)) (And.intro (aload_cell' ag74) (aload_cell' ag75))) (And.intro (And.intro (aload_cell' ag77) (aload_cell' ag78)) (And.intro (aload_cell' ag79) (aload_cell' ag80)))) (And.intro (And.intro (And.intro (aload_cell' ag82) (aload_cell' ag83)) (And.intro (aload_cell' ag86) (aload_cell' ag87))) (And.intro (And.intro (aload_cell' ag89) (aload_cell' ag91)) (And.intro (aload_cell' ag92) (aload_cell' ag94))))) := (And.intro (And.intro (And.intro (And.intro (aload_cell' ag71) (aload_cell' ag73)) (And.intro (aload_cell' ag74) (aload_cell' ag75))) (And.intro (And.intro (aload_cell' ag77) (aload_cell' ag78)) (And.intro (aload_cell' ag79) (aload_cell' ag80)))) (And.intro (And.intro (And.intro (aload_cell' ag82) (aload_cell' ag83)) (And.intro (aload_cell' ag86) (aload_cell' ag87))) (And.intro (And.intro (aload_cell' ag89) (aload_cell' ag91)) (And.intro (aload_cell' ag92) (aload_cell' ag94)))))
theorem vcu33 : type_of% (And.intro (And.intro (And.intro (And.intro (aload_cell' ag95) (aload_cell' ag96)) (And.intro (aload_cell' ag99) (aload_cell' ag107))) (And.intro (And.intro (aload_cell' ag108) (aload_cell' ag109)) (And.intro (aload_cell' ag110) (aload_cell' ag111)))) (And.intro (And.intro (And.intro (aload_cell' ag112) (@List.any_cons.{0})) (And.intro (@List.any_nil.{0}) (@List.map_cons.{0, 0}))) (And.intro (And.intro (@List.map_nil.{0, 0}) (@Option.map_some.{0, 0})) (And.intro (@Option.map_none.{0, 0}) (@List.nil_append.{0}))))) := (And.intro (And.intro (And.intro (And.intro (aload_cell' ag95) (aload_cell' ag96)) (And.intro (aload_cell' ag99) (aload_cell' ag107))) (And.intro (And.intro (aload_cell' ag108) (aload_cell' ag109)) (And.intro (aload_cell' ag110) (aload_cell' ag111)))) (And.intro (And.intro (And.intro (aload_cell' ag112) (@List.any_cons.{0})) (And.intro (@List.any_nil.{0}) (@List.map_cons.{0, 0}))) (And.intro (And.intro (@List.map_nil.{0, 0}) (@Option.map_some.{0, 0})) (And.intro (@Option.map_none.{0, 0}) (@List.nil_append.{0})))))
theorem vcd0 : type_of% (And.intro (And.intro (And.intro (And.intro (@cs_cons) (@cs_nil)) (And.intro (@retC_normal) (@retC_ret))) (And.intro (And.intro (@vc_seq) (@vc_block)) (And.intro (@vc_region) (@vc_regionD)))) (And.intro (And.intro (And.intro (@vcD_false) (@vcD_true)) (And.intro (@vc_loop_eq) (@vc_cond))) (And.intro (And.intro (@vc_skip) (@vc_exit)) (And.intro (@vc_ret) (@seqC_normal))))) := (And.intro (And.intro (And.intro (And.intro (@cs_cons) (@cs_nil)) (And.intro (@retC_normal) (@retC_ret))) (And.intro (And.intro (@vc_seq) (@vc_block)) (And.intro (@vc_region) (@vc_regionD)))) (And.intro (And.intro (And.intro (@vcD_false) (@vcD_true)) (And.intro (@vc_loop_eq) (@vc_cond))) (And.intro (And.intro (@vc_skip) (@vc_exit)) (And.intro (@vc_ret) (@seqC_normal)))))
theorem vcd1 : type_of% (And.intro (And.intro (And.intro (And.intro (@seqC_exit) (@seqC_ret)) (And.intro (@blockK_normal) (@blockK_exit))) (And.intro (And.intro (@blockK_ret) (@retK_normal)) (And.intro (@retK_ret) (@seqK_normal)))) (And.intro (And.intro (And.intro (@seqK_exit) (@seqK_ret)) (And.intro (@r_nil) (@r_assign))) (And.intro (And.intro (@r_move) (@r_len)) (And.intro (@r_binOpT) (@r_binOpI))))) := (And.intro (And.intro (And.intro (And.intro (@seqC_exit) (@seqC_ret)) (And.intro (@blockK_normal) (@blockK_exit))) (And.intro (And.intro (@blockK_ret) (@retK_normal)) (And.intro (@retK_ret) (@seqK_normal)))) (And.intro (And.intro (And.intro (@seqK_exit) (@seqK_ret)) (And.intro (@r_nil) (@r_assign))) (And.intro (And.intro (@r_move) (@r_len)) (And.intro (@r_binOpT) (@r_binOpI)))))
theorem vcd2 : type_of% (And.intro (And.intro (And.intro (And.intro (@r_binOpB) (@r_binOpS)) (And.intro (@r_unOp) (@r_convert))) (And.intro (And.intro (@r_indexAddr) (@r_load)) (And.intro (@r_pick) (@r_slice)))) (And.intro (And.intro (And.intro (@r_nilCheck) (@r_fieldAddr)) (And.intro (@r_field) (@r_extract))) (And.intro (And.intro (@r_min) (@r_max)) (And.intro (@r_call) (@r_makeFunc))))) := (And.intro (And.intro (And.intro (And.intro (@r_binOpB) (@r_binOpS)) (And.intro (@r_unOp) (@r_convert))) (And.intro (And.intro (@r_indexAddr) (@r_load)) (And.intro (@r_pick) (@r_slice)))) (And.intro (And.intro (And.intro (@r_nilCheck) (@r_fieldAddr)) (And.intro (@r_field) (@r_extract))) (And.intro (And.intro (@r_min) (@r_max)) (And.intro (@r_call) (@r_makeFunc)))))
theorem vcd3 : type_of% (And.intro (And.intro (@r_guard) (r_index' Tryd.underlying9)) (And.intro (r_index' Tryd.underlying10) (r_index' Tryd.underlying11))) := (And.intro (And.intro (@r_guard) (r_index' Tryd.underlying9)) (And.intro (r_index' Tryd.underlying10) (r_index' Tryd.underlying11)))
theorem vcu : type_of% (And.intro (And.intro (And.intro (And.intro (And.intro @vcu0 @vcu1) (And.intro @vcu2 @vcu3)) (And.intro (And.intro @vcu4 @vcu5) (And.intro @vcu6 @vcu7))) (And.intro (And.intro (And.intro @vcu8 @vcu9) (And.intro @vcu10 @vcu11)) (And.intro (And.intro @vcu12 @vcu13) (And.intro @vcu14 (And.intro @vcu15 @vcu16))))) (And.intro (And.intro (And.intro (And.intro @vcu17 @vcu18) (And.intro @vcu19 @vcu20)) (And.intro (And.intro @vcu21 @vcu22) (And.intro @vcu23 @vcu24))) (And.intro (And.intro (And.intro @vcu25 @vcu26) (And.intro @vcu27 @vcu28)) (And.intro (And.intro @vcu29 @vcu30) (And.intro @vcu31 (And.intro @vcu32 @vcu33)))))) := (And.intro (And.intro (And.intro (And.intro (And.intro @vcu0 @vcu1) (And.intro @vcu2 @vcu3)) (And.intro (And.intro @vcu4 @vcu5) (And.intro @vcu6 @vcu7))) (And.intro (And.intro (And.intro @vcu8 @vcu9) (And.intro @vcu10 @vcu11)) (And.intro (And.intro @vcu12 @vcu13) (And.intro @vcu14 (And.intro @vcu15 @vcu16))))) (And.intro (And.intro (And.intro (And.intro @vcu17 @vcu18) (And.intro @vcu19 @vcu20)) (And.intro (And.intro @vcu21 @vcu22) (And.intro @vcu23 @vcu24))) (And.intro (And.intro (And.intro @vcu25 @vcu26) (And.intro @vcu27 @vcu28)) (And.intro (And.intro @vcu29 @vcu30) (And.intro @vcu31 (And.intro @vcu32 @vcu33))))))
theorem vcd : type_of% (And.intro (And.intro @vcd0 @vcd1) (And.intro @vcd2 @vcd3)) := (And.intro (And.intro @vcd0 @vcd1) (And.intro @vcd2 @vcd3))
theorem z9q {p : Prop} (h : p := by simp -implicitDefEqProofs (disch := omega) only [Nat.reduceEqDiff, ↓reduceIte, vcu, ↓vcd]) : p := h
theorem z9r {p : Prop} (h : p := by simp -implicitDefEqProofs (disch := omega) only [Nat.reduceEqDiff, ↓reduceIte, vcu, ↓vcd]; rfl) : p := h
theorem z9z {p : Prop} (h : p := by simp -implicitDefEqProofs (disch := omega) only [Nat.reduceEqDiff, ↓reduceIte, vcu, ↓vcd]; exact Nat.zero_lt_succ _) : p := h
theorem z9l {p : Prop} (h : p := by simp -implicitDefEqProofs (disch := omega) only [Nat.reduceEqDiff, ↓reduceIte, vcu, ↓vcd]; exact Nat.le_refl _) : p := h
theorem z9co26 {p : Prop} (h : p := by simp -implicitDefEqProofs (disch := omega) only [Nat.reduceEqDiff, ↓reduceIte, vcu, ↓vcd, co26]; rfl) : p := h
end Go.Proofs.YtafkndnmhhjdhaaDoor
namespace Go.Proofs.YtafkndnmhhjdhaaDoor
open Go Go.Abs Go.RowKit
variable {w0 : World}
theorem in_calls (σ : AHeap) (n lo hi : Int) : ACall Tryd.prog w0 23 [.int .i64 n, .int .i64 lo, .int .i64 hi] σ fun r σ' => r = .bool (decide (lo ≤ n ∧ n ≤ hi)) ∧ σ' = σ := by
 refine acall_go mixed Tryd.func23 rfl good23 fun pr => ?_
 by_cases h : lo ≤ n
 ·simp -implicitDefEqProofs (disch := omega) only [Nat.reduceEqDiff, ↓reduceIte, vcu, ↓vcd]
  refine fin_one Tryd.results23 ⟨?_, rfl⟩
  simp -implicitDefEqProofs (disch := omega) only [Nat.reduceEqDiff, ↓reduceIte, vcu, ↓vcd]
  simp [h]
 ·simp -implicitDefEqProofs (disch := omega) only [Nat.reduceEqDiff, ↓reduceIte, vcu, ↓vcd]
  refine fin_one Tryd.results23 ⟨?_, rfl⟩
  simp -implicitDefEqProofs (disch := omega) only [Nat.reduceEqDiff, ↓reduceIte, vcu, ↓vcd]
  simp [h]
def seq (k : Int) (n : Nat) : List Int := (List.range n).map fun (i : Nat) => k + i
end Go.Proofs.YtafkndnmhhjdhaaDoor
namespace Go.Proofs.YtafkndnmhhjdhaaDoor
open Go Go.Abs Go.RowKit
variable {w0 : World}
/-- a text of digits -/
def DgT (xs : List UInt8) : Prop := ∀ b ∈ xs, 48 ≤ b.toNat ∧ b.toNat ≤ 51
instance (xs : List UInt8) : Decidable (DgT xs) := inferInstanceAs (Decidable (∀ b ∈ xs, 48 ≤ b.toNat ∧ b.toNat ≤ 51))
theorem DgT.at {xs : List UInt8} (h : DgT xs) {k : Nat} (hk : k < xs.length) : 48 ≤ (xs.getD k 0).toNat ∧ (xs.getD k 0).toNat ≤ 51 := h _ (by simp [List.getD, hk])
theorem dgT_of {xs : List UInt8} (h : ∀ k, k < xs.length → 48 ≤ (xs.getD k 0).toNat ∧ (xs.getD k 0).toNat ≤ 51) : DgT xs := by
 intro b hb
 obtain ⟨k, hk, rfl⟩ := List.mem_iff_getElem.1 hb
 have := h k hk
 simpa [List.getD, hk] using this
theorem conv_u8 {b : Int} (h : 0 ≤ b ∧ b ≤ 255) : aconv Tryd.prog 5 3 (.int .u8 b) = some (.int .i64 b) := by
 simp only [aconv, Tryd.underlying5, Tryd.underlying3]
 rw [wrap_i64_ok (by omega)]
set_option maxRecDepth 8000 in
theorem abin_usub {t : TypeId} {a b : Int} : abin Tryd.prog t .sub (.int .u8 a) (.int .u8 b) = some (.int .u8 ((a - b) % 256)) := by
 simp only [abin, if_true]; congr 2
set_option maxRecDepth 8000 in
theorem abin_ulss {t : TypeId} {a b : Int} : abin Tryd.prog t .lss (.int .u8 a) (.int .u8 b) = some (.bool (decide (a < b))) := by simp [abin]
theorem u8_le (b : UInt8) : b.toNat ≤ 255 := by have := b.toNat_lt; omega
set_option maxRecDepth 8000 in
theorem digits_calls (σ : AHeap) (xs : List UInt8) (hl : xs.length ≤ 1048576) : ACall Tryd.prog w0 25 [.string (tx xs)] σ fun r σ' => r = .bool (decide (DgT xs)) ∧ σ' = σ := by
 refine acall_go mixed Tryd.func25 rfl good25 fun pr => ?_
 simp -implicitDefEqProofs (disch := omega) only [Nat.reduceEqDiff, ↓reduceIte, vcu, ↓vcd]
 refine vc_loop_c mixed (by kernel_rfl) [0] (fun m a σ' => ∃ k : Nat, m + k = xs.length ∧ a 3 = .int .i64 k ∧ (∀ j, j < k → 48 ≤ (xs.getD j 0).toNat ∧ (xs.getD j 0).toNat ≤ 51) ∧ σ' = σ) xs.length ⟨0, by simp, rfl, fun j hj => absurd hj (by omega), rfl⟩ ?_
 rintro m a σ' hc ⟨k, hk, h3, hd, rfl⟩
 simp -implicitDefEqProofs (disch := omega) only [Nat.reduceEqDiff, ↓reduceIte, vcu, ↓vcd] at hc
 obtain ⟨h0, -⟩ := hc
 by_cases hlt : k < xs.length
 ·have hb := u8_le (xs.getD k 0)
  by_cases hdg : 48 ≤ (xs.getD k 0).toNat ∧ (xs.getD k 0).toNat ≤ 51
  ·have hd1 : decide (0 ≤ (((xs.getD k 0).toNat : Int) - 48) % 256 ∧ (((xs.getD k 0).toNat : Int) - 48) % 256 ≤ 3) = true := decide_eq_true (by omega)
   simp -implicitDefEqProofs (disch := omega) only [Nat.reduceEqDiff, ↓reduceIte, vcu, ↓vcd, h0, h3, abin_usub, conv_u8]
   refine (in_calls _ _ 0 3).mono ?_
   rintro r τ ⟨rfl, rfl⟩
   simp -implicitDefEqProofs (disch := omega) only [Nat.reduceEqDiff, ↓reduceIte, vcu, ↓vcd, opK_some, h0, h3, abin_ulss, hd1]
   refine ⟨⟨trivial, trivial⟩, m - 1, by omega, k + 1, by omega, by simp, fun j hj => ?_, trivial⟩
   by_cases hjk : j = k
   ·subst hjk; exact hdg
   ·exact hd j (by omega)
  ·have hn : ¬DgT xs := fun h => hdg (h.at hlt)
   have hd1 : decide (0 ≤ (((xs.getD k 0).toNat : Int) - 48) % 256 ∧ (((xs.getD k 0).toNat : Int) - 48) % 256 ≤ 3) = false := decide_eq_false (by omega)
   simp -implicitDefEqProofs (disch := omega) only [Nat.reduceEqDiff, ↓reduceIte, vcu, ↓vcd, h0, h3, abin_usub, conv_u8]
   refine (in_calls _ _ 0 3).mono ?_
   rintro r τ ⟨rfl, rfl⟩
   simp -implicitDefEqProofs (disch := omega) only [Nat.reduceEqDiff, ↓reduceIte, vcu, ↓vcd, opK_some, h0, h3, abin_ulss, hd1]
   refine fin_one Tryd.results25 ⟨?_, rfl⟩
   simp -implicitDefEqProofs (disch := omega) only [Nat.reduceEqDiff, ↓reduceIte, vcu, ↓vcd]
   simp [hn]
 ·simp -implicitDefEqProofs (disch := omega) only [Nat.reduceEqDiff, ↓reduceIte, vcu, ↓vcd, h0, h3]
  have e : k = xs.length := by omega
  refine fin_one Tryd.results25 ⟨?_, rfl⟩
  simp -implicitDefEqProofs (disch := omega) only [Nat.reduceEqDiff, ↓reduceIte, vcu, ↓vcd]
  subst e
  simp [dgT_of hd]
/-- a text begins with another one -/
def Beg (s t : List UInt8) : Prop := t.length ≤ s.length ∧ s.take t.length = t
/-- a power of four -/
def pw (n : Nat) : Int := 4 ^ n
theorem conv_to_u8 {b : Int} (h : 0 ≤ b ∧ b ≤ 255) : aconv Tryd.prog 3 5 (.int .i64 b) = some (.int .u8 b) := by
 simp only [aconv, Tryd.underlying5, Tryd.underlying3]
 congr 2
 show b % 256 = b
 omega
end Go.Proofs.YtafkndnmhhjdhaaDoor
namespace Go.Proofs.YtafkndnmhhjdhaaDoor
open Go Go.Abs Go.RowKit Go.Dial
/-- the decimals of a number -/
def decN (n : Nat) : List UInt8 := if h : n < 10 then [UInt8.ofNat (48 + n)] else decN (n / 10) ++ [UInt8.ofNat (48 + n % 10)]
/-- the number of decimals -/
def rdS (s : List UInt8) : Nat → Option Int
 | 0 => some 0
 | k + 1 => (rdS s k).bind fun n => if 48 ≤ (s.getD k 0).toNat ∧ (s.getD k 0).toNat ≤ 57 then some (10 * n + ((s.getD k 0).toNat - 48 : Nat)) else none
def rdN (s : List UInt8) : Int := if (1 ≤ s.length ∧ s.length ≤ 4) ∧ ¬ (1 < s.length ∧ s.getD 0 0 = 48) then (rdS s s.length).getD (-1) else -1
/-- what stands between the bytes c: of the word begun and what follows -/
def cutF (c : UInt8) : List UInt8 → List UInt8 → List (List UInt8)
 | w, [] => [w]
 | w, b :: s => if b = c then w :: cutF c [] s else cutF c (w ++ [b]) s
def cutT (c : UInt8) (s : List UInt8) : List (List UInt8) := cutF c [] s
theorem cutF_plain {c : UInt8} : ∀ {s w : List UInt8}, (∀ b ∈ s, b ≠ c) → cutF c w s = [w ++ s]
 | [], w, _ => by simp [cutF]
 | b :: s, w, h => by
  rw [cutF, if_neg (h b (by simp)), cutF_plain fun x hx => h x (by simp [hx])]; simp
theorem cutF_app {c : UInt8} : ∀ {s w t : List UInt8}, (∀ b ∈ s, b ≠ c) → cutF c w (s ++ c :: t) = (w ++ s) :: cutF c [] t
 | [], w, t, _ => by simp [cutF]
 | b :: s, w, t, h => by
  rw [List.cons_append, cutF, if_neg (h b (by simp)), cutF_app fun x hx => h x (by simp [hx])]; simp
theorem cutF_ne (c : UInt8) : ∀ (s w : List UInt8), cutF c w s ≠ []
 | [], w => by simp [cutF]
 | b :: s, w => by
  rw [cutF]
  split
  ·simp
  ·exact cutF_ne c s _
/-- the word of a kind -/
def kwT (k : Int) : List UInt8 := if k = 0 then [99, 97, 108, 108] else if k = 1 then [100, 114, 111, 112] else [110, 117, 109, 98, 101, 114]
def DdOk (d : Dd) : Prop := (0 ≤ d.k ∧ d.k ≤ 2) ∧ (0 ≤ d.l ∧ d.l ≤ 99) ∧ ((d.k = 1 ∧ d.t = []) ∨ (d.k ≠ 1 ∧ DgT d.t ∧ 1 ≤ d.t.length ∧ d.t.length ≤ 3))
instance (d : Dd) : Decidable (DdOk d) := inferInstanceAs (Decidable (_ ∧ _ ∧ _))
/-- the text of a deed -/
def deedT (d : Dd) : List UInt8 := if DdOk d then kwT d.k ++ 32 :: (decN d.l.toNat ++ (if d.k = 1 then [] else 32 :: d.t)) else []
theorem deedT_ok {d : Dd} (h : deedT d ≠ []) : DdOk d := Classical.byContradiction fun hn => h (by rw [deedT, if_neg hn])
/-- which kind a word tells -/
def kdV (w : List UInt8) : Int := if w = kwT 2 then 2 else if w = kwT 1 then 1 else if w = kwT 0 then 0 else -1
def ddW (ws : List (List UInt8)) : Dd := ⟨kdV (ws.getD 0 []), if 1 < ws.length then rdN (ws.getD 1 []) else 0, if 2 < ws.length then ws.getD 2 [] else []⟩
def readO (s : List UInt8) : Option Dd := if s = [] ∨ deedT (ddW (cutT 32 s)) ≠ s then none else some (ddW (cutT 32 s))
theorem readO_some {s : List UInt8} {d : Dd} (h : readO s = some d) : deedT d = s ∧ s ≠ [] := by
 unfold readO at h
 split at h
 ·cases h
 ·rename_i hn
  cases h
  exact ⟨Classical.byContradiction fun e => hn (.inr e), fun e => hn (.inl e)⟩
theorem decN_ok : ∀ n, n < 100 → rdN (decN n) = n ∧ (decN n ≠ []) ∧ ∀ b ∈ decN n, 48 ≤ b.toNat ∧ b.toNat ≤ 57 := by decide +kernel
theorem kdV_kw : ∀ k : Int, 0 ≤ k → k ≤ 2 → kdV (kwT k) = k := by
 intro k h0 h2
 have : k = 0 ∨ k = 1 ∨ k = 2 := by omega
 rcases this with rfl | rfl | rfl <;> decide
theorem kw_b (k : Int) : ∀ b ∈ kwT k, 97 ≤ b.toNat := by
 unfold kwT
 split
 ·decide
 ·split <;> decide
theorem ne_of_nat {b c : UInt8} (h : b.toNat ≠ c.toNat) : b ≠ c := fun e => h (by rw [e])
theorem readO_deed {d : Dd} (h : deedT d ≠ []) : readO (deedT d) = some d := by
 have hk := deedT_ok h
 have e : ddW (cutT 32 (deedT d)) = d := by
  obtain ⟨h1, h2, h3⟩ := id hk
  obtain ⟨n, hn, hl⟩ : ∃ n : Nat, n < 100 ∧ d.l = n := ⟨d.l.toNat, by omega, by omega⟩
  obtain ⟨q1, q2, q3⟩ := decN_ok n hn
  have p1 : ∀ b ∈ kwT d.k, b ≠ 32 := fun b hb => ne_of_nat (by have := kw_b d.k b hb; show _ ≠ 32; omega)
  have p2 : ∀ b ∈ decN n, b ≠ 32 := fun b hb => ne_of_nat (by have := q3 b hb; show _ ≠ 32; omega)
  have hln : d.l.toNat = n := by omega
  rw [deedT, if_pos hk, hln, cutT, cutF_app p1]
  rcases h3 with ⟨e1, e2⟩ | ⟨e1, e2, e3, e4⟩
  ·rw [if_pos e1, List.append_nil, cutF_plain p2]
   obtain ⟨k, l, t⟩ := d
   simp only at *
   subst hl e2
   simp [ddW, kdV_kw k h1.1 h1.2, q1]
  ·have p3 : ∀ b ∈ d.t, b ≠ 32 := fun b hb => ne_of_nat (by have := e2 b hb; show _ ≠ 32; omega)
   rw [if_neg e1, cutF_app p2, cutF_plain p3]
   obtain ⟨k, l, t⟩ := d
   simp only at *
   subst hl
   simp [ddW, kdV_kw k h1.1 h1.2, q1]
 unfold readO
 rw [e, if_neg fun hh => hh.elim h fun hh => hh rfl]
theorem readO_iff {s : List UInt8} {d : Dd} : readO s = some d ↔ deedT d = s ∧ s ≠ [] :=
 ⟨readO_some, fun ⟨e, hne⟩ => by rw [← e] at hne ⊢; exact readO_deed hne⟩
/-- the text of a journal -/
def jrn : List Dd → List UInt8
 | [] => []
 | d :: ds => deedT d ++ 10 :: jrn ds
/-- deeds read: of the line begun and what follows -/
def rj : List UInt8 → List UInt8 → List Dd × Nat
 | _, [] => ([], 0)
 | w, b :: s => if b = 10 then match readO w with
   | none => ([], 0)
   | some d => (d :: (rj [] s).1, w.length + 1 + (rj [] s).2)
  else rj (w ++ [b]) s
theorem rj_text : ∀ (s w : List UInt8), jrn (rj w s).1 = (w ++ s).take (rj w s).2 ∧ (rj w s).2 ≤ w.length + s.length
 | [], w => by simp [rj, jrn]
 | b :: s, w => by
  rw [rj]
  split
  ·rename_i hb
   cases h : readO w with
   | none => simp [jrn]
   | some d =>
    obtain ⟨i1, i2⟩ := rj_text s []
    obtain ⟨e1, e2⟩ := readO_some h
    simp only [jrn, e1, i1, hb]
    refine ⟨?_, by simp at i2 ⊢; omega⟩
    rw [List.nil_append, List.take_append]
    have : w.length + 1 + (rj [] s).2 - w.length = (rj [] s).2 + 1 := by omega
    rw [this, List.take_of_length_le (l := w) (by omega), List.take_succ_cons]
  ·obtain ⟨i1, i2⟩ := rj_text s (w ++ [b])
   refine ⟨by rw [i1]; simp, by simp at i2 ⊢; omega⟩
end Go.Proofs.YtafkndnmhhjdhaaDoor
namespace Go.Proofs.YtafkndnmhhjdhaaDoor
open Go Go.Abs Go.RowKit Go.Dial
variable {w0 : World}
theorem decN_len : ∀ n, (decN n).length ≤ n + 1 := fun n => by
 induction n using Nat.strongRecOn with
 | ind n ih =>
  unfold decN
  split
  ·simp
  ·rw [List.length_append, List.length_singleton]
   have := ih (n / 10) (by omega)
   omega
set_option maxRecDepth 8000 in
theorem number_calls (n : Nat) (hn : n ≤ 10000) : ∀ σ : AHeap, ACall Tryd.prog w0 24 [.int .i64 n] σ fun r σ' => r = .string (tx (decN n)) ∧ σ' = σ := by
 induction n using Nat.strongRecOn with
 | ind n ih =>
  intro σ
  have hg : decN n = if h : n < 10 then [UInt8.ofNat (48 + n)] else decN (n / 10) ++ [UInt8.ofNat (48 + n % 10)] := by rw [decN]
  refine acall_go mixed Tryd.func24 rfl good24 fun pr => ?_
  by_cases h10 : n < 10
  ·rw [dif_pos h10] at hg
   simp -implicitDefEqProofs (disch := omega) only [Nat.reduceEqDiff, ↓reduceIte, vcu, ↓vcd, conv_to_u8]
   refine r_lit el56 (out := #[.int .u8 (48 + (n : Int))]) (by first | kernel_rfl | (simp -implicitDefEqProofs (disch := omega) only [Nat.reduceEqDiff, ↓reduceIte, vcu, ↓vcd]; kernel_rfl)) (by rfl) fun g τ n1 s1 v1 => ?_
   have l1 : lds τ g 0 1 = some ([((48 + n : Nat) : Int)].map (.int .u8)) := by
    rw [lds_of v1 (by simp)]; simp
   have hcv := aconvH_bytes (z := 1) Tryd.underlying56 Tryd.underlying5 Tryd.underlying9 l1
   simp -implicitDefEqProofs (disch := omega) only [Nat.reduceEqDiff, ↓reduceIte, vcu, ↓vcd, hcv]
   refine fin_drop Tryd.results24 σ s1 ⟨?_, rfl⟩
   simp -implicitDefEqProofs (disch := omega) only [Nat.reduceEqDiff, ↓reduceIte, vcu, ↓vcd, hg]
  ·rw [dif_neg h10] at hg
   have hl := decN_len (n / 10)
   have c1 := ih (n / 10) (by omega) (by omega)
   have ha := abin_sadd (P := Tryd.prog) (t := 9) (xs := decN (n / 10)) (ys := [UInt8.ofNat (48 + n % 10)]) (by rw [List.length_singleton]; omega)
   have e10 : ((n : Int) / 10) = ((n / 10 : Nat) : Int) := by omega
   have e1 : ((n : Int) % 10) = ((n % 10 : Nat) : Int) := by omega
   simp -implicitDefEqProofs (disch := omega) only [Nat.reduceEqDiff, ↓reduceIte, vcu, ↓vcd]
   refine region_tree mixed (quiets [0, 1, 3, 4, 5, 6] (.two 2 (.one 7 (.one 8 (.one 9 (quiets [10] .stop)))) 7 (.two 2 (.one 8 (.one 9 (quiets [10] .stop))) 8 (.one 2 (.one 9 (quiets [10] .stop)))))) [] (by kernel_rfl) (by kernel_rfl) (fun p hp => by cases hp) ?_
   refine tree_quiets _ _ _ _ sf0 (by kernel_rfl) (by kernel_rfl) ?_
   simp -implicitDefEqProofs (disch := omega) only [Nat.reduceEqDiff, ↓reduceIte, vcu, ↓vcd, pickOps_nil, pickOps_cons, pickO_some, List.getElem?_cons_succ, List.getElem?_cons_zero, e10, e1, conv_to_u8]
   refine tree_two rfl rfl ?_ ?_
   ·simp -implicitDefEqProofs (disch := omega) only [Nat.reduceEqDiff, ↓reduceIte, vcu, ↓vcd]
    refine (c1 _).mono ?_
    rintro _ _ ⟨rfl, rfl⟩
    rename_i σ
    simp -implicitDefEqProofs (disch := omega) only [Nat.reduceEqDiff, ↓reduceIte, vcu, ↓vcd, opK_some]
    refine ⟨keep_of rfl (fun p hp => by cases hp), ?_⟩
    refine tree_one rfl ?_
    refine r_lit el56 (out := #[.int .u8 (48 + (n % 10 : Nat))]) (by first | kernel_rfl | (simp -implicitDefEqProofs (disch := omega) only [Nat.reduceEqDiff, ↓reduceIte, vcu, ↓vcd]; kernel_rfl)) (by rfl) fun g τ n1 s1 v1 => ?_
    have l1 : lds τ g 0 1 = some ([((48 + (n % 10 : Nat) : Nat) : Int)].map (.int .u8)) := by
     rw [lds_of v1 (by simp)]; simp
    have hcv := aconvH_bytes (z := 1) Tryd.underlying56 Tryd.underlying5 Tryd.underlying9 l1
    simp -implicitDefEqProofs (disch := omega) only [Nat.reduceEqDiff, ↓reduceIte, vcu, ↓vcd]
    refine ⟨keep_of rfl (fun p hp => by cases hp), ?_⟩
    refine tree_one rfl ?_
    simp -implicitDefEqProofs (disch := omega) only [Nat.reduceEqDiff, ↓reduceIte, vcu, ↓vcd, hcv]
    refine ⟨keep_of rfl (fun p hp => by cases hp), ?_⟩
    refine tree_one rfl ?_
    simp -implicitDefEqProofs (disch := omega) only [Nat.reduceEqDiff, ↓reduceIte, vcu, ↓vcd, ha]
    refine ⟨keep_of rfl (fun p hp => by cases hp), ?_⟩
    refine tree_quiets _ _ _ _ sf0 (by kernel_rfl) (by kernel_rfl) ?_
    simp -implicitDefEqProofs (disch := omega) only [Nat.reduceEqDiff, ↓reduceIte, vcu, ↓vcd, pickOps_nil, pickOps_cons, pickO_some, List.getElem?_cons_succ, List.getElem?_cons_zero]
    refine tree_stop ?_
    simp -implicitDefEqProofs (disch := omega) only [Nat.reduceEqDiff, ↓reduceIte, vcu, ↓vcd]
    refine fin_drop Tryd.results24 σ s1 ⟨?_, rfl⟩
    simp -implicitDefEqProofs (disch := omega) only [Nat.reduceEqDiff, ↓reduceIte, vcu, ↓vcd, hg]
   ·refine r_lit el56 (out := #[.int .u8 (48 + (n % 10 : Nat))]) (by first | kernel_rfl | (simp -implicitDefEqProofs (disch := omega) only [Nat.reduceEqDiff, ↓reduceIte, vcu, ↓vcd]; kernel_rfl)) (by rfl) fun g τ n1 s1 v1 => ?_
    have l1 : lds τ g 0 1 = some ([((48 + (n % 10 : Nat) : Nat) : Int)].map (.int .u8)) := by
     rw [lds_of v1 (by simp)]; simp
    have hcv := aconvH_bytes (z := 1) Tryd.underlying56 Tryd.underlying5 Tryd.underlying9 l1
    simp -implicitDefEqProofs (disch := omega) only [Nat.reduceEqDiff, ↓reduceIte, vcu, ↓vcd]
    refine ⟨keep_of rfl (fun p hp => by cases hp), ?_⟩
    refine tree_two rfl rfl ?_ ?_
    ·simp -implicitDefEqProofs (disch := omega) only [Nat.reduceEqDiff, ↓reduceIte, vcu, ↓vcd]
     refine (c1 _).mono ?_
     rintro _ _ ⟨rfl, rfl⟩
     simp -implicitDefEqProofs (disch := omega) only [Nat.reduceEqDiff, ↓reduceIte, vcu, ↓vcd, opK_some]
     refine ⟨keep_of rfl (fun p hp => by cases hp), ?_⟩
     refine tree_one rfl ?_
     simp -implicitDefEqProofs (disch := omega) only [Nat.reduceEqDiff, ↓reduceIte, vcu, ↓vcd, hcv]
     refine ⟨keep_of rfl (fun p hp => by cases hp), ?_⟩
     refine tree_one rfl ?_
     simp -implicitDefEqProofs (disch := omega) only [Nat.reduceEqDiff, ↓reduceIte, vcu, ↓vcd, ha]
     refine ⟨keep_of rfl (fun p hp => by cases hp), ?_⟩
     refine tree_quiets _ _ _ _ sf0 (by kernel_rfl) (by kernel_rfl) ?_
     simp -implicitDefEqProofs (disch := omega) only [Nat.reduceEqDiff, ↓reduceIte, vcu, ↓vcd, pickOps_nil, pickOps_cons, pickO_some, List.getElem?_cons_succ, List.getElem?_cons_zero]
     refine tree_stop ?_
     simp -implicitDefEqProofs (disch := omega) only [Nat.reduceEqDiff, ↓reduceIte, vcu, ↓vcd]
     refine fin_drop Tryd.results24 σ s1 ⟨?_, rfl⟩
     simp -implicitDefEqProofs (disch := omega) only [Nat.reduceEqDiff, ↓reduceIte, vcu, ↓vcd, hg]
    ·simp -implicitDefEqProofs (disch := omega) only [Nat.reduceEqDiff, ↓reduceIte, vcu, ↓vcd, hcv]
     refine ⟨keep_of rfl (fun p hp => by cases hp), ?_⟩
     refine tree_one rfl ?_
     simp -implicitDefEqProofs (disch := omega) only [Nat.reduceEqDiff, ↓reduceIte, vcu, ↓vcd]
     refine (c1 _).mono ?_
     rintro _ _ ⟨rfl, rfl⟩
     simp -implicitDefEqProofs (disch := omega) only [Nat.reduceEqDiff, ↓reduceIte, vcu, ↓vcd, opK_some]
     refine ⟨keep_of rfl (fun p hp => by cases hp), ?_⟩
     refine tree_one rfl ?_
     simp -implicitDefEqProofs (disch := omega) only [Nat.reduceEqDiff, ↓reduceIte, vcu, ↓vcd, ha]
     refine ⟨keep_of rfl (fun p hp => by cases hp), ?_⟩
     refine tree_quiets _ _ _ _ sf0 (by kernel_rfl) (by kernel_rfl) ?_
     simp -implicitDefEqProofs (disch := omega) only [Nat.reduceEqDiff, ↓reduceIte, vcu, ↓vcd, pickOps_nil, pickOps_cons, pickO_some, List.getElem?_cons_succ, List.getElem?_cons_zero]
     refine tree_stop ?_
     simp -implicitDefEqProofs (disch := omega) only [Nat.reduceEqDiff, ↓reduceIte, vcu, ↓vcd]
     refine fin_drop Tryd.results24 σ s1 ⟨?_, rfl⟩
     simp -implicitDefEqProofs (disch := omega) only [Nat.reduceEqDiff, ↓reduceIte, vcu, ↓vcd, hg]
end Go.Proofs.YtafkndnmhhjdhaaDoor
namespace Go.Proofs.YtafkndnmhhjdhaaDoor
open Go Go.Abs Go.RowKit Go.Dial
variable {w0 : World}
theorem rdS_le {s : List UInt8} : ∀ {k : Nat} {n : Int}, rdS s k = some n → 0 ≤ n ∧ n < 10 ^ k
 | 0, n, h => by cases h; decide
 | k + 1, n, h => by
  unfold rdS at h
  cases h1 : rdS s k with
  | none => rw [h1] at h; cases h
  | some m =>
   rw [h1] at h
   simp only [Option.bind_some] at h
   split at h
   ·cases h
    have := rdS_le h1
    rw [Int.pow_succ]
    omega
   ·cases h
theorem pow4 {k : Nat} (h : k ≤ 4) : (10 : Int) ^ k ≤ 10000 := by
 have : k = 0 ∨ k = 1 ∨ k = 2 ∨ k = 3 ∨ k = 4 := by omega
 rcases this with rfl | rfl | rfl | rfl | rfl <;> decide
theorem rdS_none {s : List UInt8} {k : Nat} (h : rdS s k = none) : ∀ j, rdS s (k + j) = none
 | 0 => h
 | j + 1 => by rw [← Nat.add_assoc, rdS, rdS_none h j]; rfl
set_option maxRecDepth 8000 in
theorem abin_ugtr {t : TypeId} {a b : Int} : abin Tryd.prog t .gtr (.int .u8 a) (.int .u8 b) = some (.bool (decide (b < a))) := by simp [abin]
set_option maxRecDepth 8000 in
theorem read_calls (σ : AHeap) (s : List UInt8) (hl : s.length ≤ 1048576) : ACall Tryd.prog w0 29 [.string (tx s)] σ fun r σ' => r = .int .i64 (rdN s) ∧ σ' = σ := by
 refine acall_go mixed Tryd.func29 rfl good29 fun pr => ?_
 by_cases hlen : 1 ≤ s.length ∧ s.length ≤ 4
 case neg =>
  have e : rdN s = -1 := if_neg fun h => hlen h.1
  have d1 : decide ((1 : Int) ≤ (s.length : Int) ∧ (s.length : Int) ≤ 4) = false := decide_eq_false (by omega)
  simp -implicitDefEqProofs (disch := omega) only [Nat.reduceEqDiff, ↓reduceIte, vcu, ↓vcd]
  refine (in_calls σ s.length 1 4).mono ?_
  rintro _ _ ⟨rfl, rfl⟩
  rw [d1]
  simp -implicitDefEqProofs (disch := omega) only [Nat.reduceEqDiff, ↓reduceIte, vcu, ↓vcd, opK_some, Bool.not_false]
  refine fin_one Tryd.results29 ⟨?_, rfl⟩
  simp -implicitDefEqProofs (disch := omega) only [Nat.reduceEqDiff, ↓reduceIte, vcu, ↓vcd, e]
 have d1 : decide ((1 : Int) ≤ (s.length : Int) ∧ (s.length : Int) ≤ 4) = true := decide_eq_true (by omega)
 have hb0 := u8_le (s.getD 0 0)
 by_cases hz : 1 < s.length ∧ s.getD 0 0 = 48
 case pos =>
  have e : rdN s = -1 := if_neg fun h => h.2 hz
  have d2 : decide (((s.getD 0 0).toNat : Int) = 48) = true := decide_eq_true (by rw [hz.2]; rfl)
  have h1 := hz.1
  simp -implicitDefEqProofs (disch := omega) only [Nat.reduceEqDiff, ↓reduceIte, vcu, ↓vcd]
  refine (in_calls σ s.length 1 4).mono ?_
  rintro _ _ ⟨rfl, rfl⟩
  rw [d1]
  simp -implicitDefEqProofs (disch := omega) only [Nat.reduceEqDiff, ↓reduceIte, vcu, ↓vcd, opK_some, Bool.not_true, Int.toNat_zero, d2]
  refine fin_one Tryd.results29 ⟨?_, rfl⟩
  simp -implicitDefEqProofs (disch := omega) only [Nat.reduceEqDiff, ↓reduceIte, vcu, ↓vcd, e]
 have eR : rdN s = (rdS s s.length).getD (-1) := if_pos ⟨hlen, hz⟩
 have start : ∀ b : Bool, (decide (1 < (s.length : Int)) = b) → (b = true → decide (((s.getD 0 0).toNat : Int) = 48) = false) := fun b hb hb2 => by
  have h1 : 1 < s.length := by
   rw [hb2] at hb
   have := of_decide_eq_true hb
   omega
  exact decide_eq_false fun h => hz ⟨h1, UInt8.toNat_inj.1 (by show _ = 48; omega)⟩
 simp -implicitDefEqProofs (disch := omega) only [Nat.reduceEqDiff, ↓reduceIte, vcu, ↓vcd]
 refine (in_calls σ s.length 1 4).mono ?_
 rintro _ _ ⟨rfl, rfl⟩
 rename_i σ
 rw [d1]
 by_cases h1 : 1 < s.length
 case pos =>
  have d2 := start true (decide_eq_true (by omega)) rfl
  simp -implicitDefEqProofs (disch := omega) only [Nat.reduceEqDiff, ↓reduceIte, vcu, ↓vcd, opK_some, Bool.not_true, Int.toNat_zero, d2]
  refine vc_loop_c mixed (by kernel_rfl) [0] (fun m a σ' => ∃ (k : Nat) (n : Int), m + k = s.length ∧ a 4 = .int .i64 k ∧ a 3 = .int .i64 n ∧ rdS s k = some n ∧ σ' = σ) s.length ⟨0, 0, by simp, rfl, rfl, rfl, rfl⟩ ?_
  rintro m a σ' hc ⟨k, n, hk, h4, h3, hr, rfl⟩
  simp -implicitDefEqProofs (disch := omega) only [Nat.reduceEqDiff, ↓reduceIte, vcu, ↓vcd] at hc
  obtain ⟨h0, -⟩ := hc
  by_cases hlt : k < s.length
  ·have hb := u8_le (s.getD k 0)
   have hbd := rdS_le hr
   have hp := pow4 (k := k) (by omega)
   have hst : rdS s (k + 1) = if 48 ≤ (s.getD k 0).toNat ∧ (s.getD k 0).toNat ≤ 57 then some (10 * n + ((s.getD k 0).toNat - 48 : Nat)) else none := by rw [rdS, hr]; rfl
   by_cases hdg : 48 ≤ (s.getD k 0).toNat ∧ (s.getD k 0).toNat ≤ 57
   ·rw [if_pos hdg] at hst
    have q1 : decide (((s.getD k 0).toNat : Int) < 48) = false := decide_eq_false (by omega)
    have q2 : decide ((57 : Int) < ((s.getD k 0).toNat : Int)) = false := decide_eq_false (by omega)
    have q3 : (((s.getD k 0).toNat : Int) - 48) % 256 = (((s.getD k 0).toNat - 48 : Nat) : Int) := by omega
    simp -implicitDefEqProofs (disch := omega) only [Nat.reduceEqDiff, ↓reduceIte, vcu, ↓vcd, h0, h3, h4, abin_usub, abin_ulss, abin_ugtr, conv_u8, q1, q2, q3]
    exact ⟨by simp [h0], m - 1, by omega, k + 1, _, by omega, by simp, rfl, hst, trivial⟩
   ·rw [if_neg hdg] at hst
    have e : rdN s = -1 := by
     have hn := rdS_none hst (s.length - (k + 1))
     rw [show k + 1 + (s.length - (k + 1)) = s.length by omega] at hn
     rw [eR, hn]; rfl
    by_cases hlo : (s.getD k 0).toNat < 48
    ·have q1 : decide (((s.getD k 0).toNat : Int) < 48) = true := decide_eq_true (by omega)
     simp -implicitDefEqProofs (disch := omega) only [Nat.reduceEqDiff, ↓reduceIte, vcu, ↓vcd, h0, h3, h4, abin_ulss, abin_ugtr, q1]
     refine fin_one Tryd.results29 ⟨?_, rfl⟩
     simp -implicitDefEqProofs (disch := omega) only [Nat.reduceEqDiff, ↓reduceIte, vcu, ↓vcd, e]
    ·have q1 : decide (((s.getD k 0).toNat : Int) < 48) = false := decide_eq_false (by omega)
     have q2 : decide ((57 : Int) < ((s.getD k 0).toNat : Int)) = true := decide_eq_true (by omega)
     simp -implicitDefEqProofs (disch := omega) only [Nat.reduceEqDiff, ↓reduceIte, vcu, ↓vcd, h0, h3, h4, abin_ulss, abin_ugtr, q1, q2]
     refine fin_one Tryd.results29 ⟨?_, rfl⟩
     simp -implicitDefEqProofs (disch := omega) only [Nat.reduceEqDiff, ↓reduceIte, vcu, ↓vcd, e]
  ·obtain rfl : k = s.length := by omega
   simp -implicitDefEqProofs (disch := omega) only [Nat.reduceEqDiff, ↓reduceIte, vcu, ↓vcd, h0, h3, h4]
   refine fin_one Tryd.results29 ⟨?_, rfl⟩
   simp -implicitDefEqProofs (disch := omega) only [Nat.reduceEqDiff, ↓reduceIte, vcu, ↓vcd, h3]
   rw [eR, hr]; rfl
 case neg =>
  simp -implicitDefEqProofs (disch := omega) only [Nat.reduceEqDiff, ↓reduceIte, vcu, ↓vcd, opK_some, Bool.not_true]
  refine vc_loop_c mixed (by kernel_rfl) [0] (fun m a σ' => ∃ (k : Nat) (n : Int), m + k = s.length ∧ a 4 = .int .i64 k ∧ a 3 = .int .i64 n ∧ rdS s k = some n ∧ σ' = σ) s.length ⟨0, 0, by simp, rfl, rfl, rfl, rfl⟩ ?_
  rintro m a σ' hc ⟨k, n, hk, h4, h3, hr, rfl⟩
  simp -implicitDefEqProofs (disch := omega) only [Nat.reduceEqDiff, ↓reduceIte, vcu, ↓vcd] at hc
  obtain ⟨h0, -⟩ := hc
  by_cases hlt : k < s.length
  ·have hb := u8_le (s.getD k 0)
   have hbd := rdS_le hr
   have hp := pow4 (k := k) (by omega)
   have hst : rdS s (k + 1) = if 48 ≤ (s.getD k 0).toNat ∧ (s.getD k 0).toNat ≤ 57 then some (10 * n + ((s.getD k 0).toNat - 48 : Nat)) else none := by rw [rdS, hr]; rfl
   by_cases hdg : 48 ≤ (s.getD k 0).toNat ∧ (s.getD k 0).toNat ≤ 57
   ·rw [if_pos hdg] at hst
    have q1 : decide (((s.getD k 0).toNat : Int) < 48) = false := decide_eq_false (by omega)
    have q2 : decide ((57 : Int) < ((s.getD k 0).toNat : Int)) = false := decide_eq_false (by omega)
    have q3 : (((s.getD k 0).toNat : Int) - 48) % 256 = (((s.getD k 0).toNat - 48 : Nat) : Int) := by omega
    simp -implicitDefEqProofs (disch := omega) only [Nat.reduceEqDiff, ↓reduceIte, vcu, ↓vcd, h0, h3, h4, abin_usub, abin_ulss, abin_ugtr, conv_u8, q1, q2, q3]
    exact ⟨by simp [h0], m - 1, by omega, k + 1, _, by omega, by simp, rfl, hst, trivial⟩
   ·rw [if_neg hdg] at hst
    have e : rdN s = -1 := by
     have hn := rdS_none hst (s.length - (k + 1))
     rw [show k + 1 + (s.length - (k + 1)) = s.length by omega] at hn
     rw [eR, hn]; rfl
    by_cases hlo : (s.getD k 0).toNat < 48
    ·have q1 : decide (((s.getD k 0).toNat : Int) < 48) = true := decide_eq_true (by omega)
     simp -implicitDefEqProofs (disch := omega) only [Nat.reduceEqDiff, ↓reduceIte, vcu, ↓vcd, h0, h3, h4, abin_ulss, abin_ugtr, q1]
     refine fin_one Tryd.results29 ⟨?_, rfl⟩
     simp -implicitDefEqProofs (disch := omega) only [Nat.reduceEqDiff, ↓reduceIte, vcu, ↓vcd, e]
    ·have q1 : decide (((s.getD k 0).toNat : Int) < 48) = false := decide_eq_false (by omega)
     have q2 : decide ((57 : Int) < ((s.getD k 0).toNat : Int)) = true := decide_eq_true (by omega)
     simp -implicitDefEqProofs (disch := omega) only [Nat.reduceEqDiff, ↓reduceIte, vcu, ↓vcd, h0, h3, h4, abin_ulss, abin_ugtr, q1, q2]
     refine fin_one Tryd.results29 ⟨?_, rfl⟩
     simp -implicitDefEqProofs (disch := omega) only [Nat.reduceEqDiff, ↓reduceIte, vcu, ↓vcd, e]
  ·obtain rfl : k = s.length := by omega
   simp -implicitDefEqProofs (disch := omega) only [Nat.reduceEqDiff, ↓reduceIte, vcu, ↓vcd, h0, h3, h4]
   refine fin_one Tryd.results29 ⟨?_, rfl⟩
   simp -implicitDefEqProofs (disch := omega) only [Nat.reduceEqDiff, ↓reduceIte, vcu, ↓vcd, h3]
   rw [eR, hr]; rfl
end Go.Proofs.YtafkndnmhhjdhaaDoor
namespace Go.Proofs.YtafkndnmhhjdhaaDoor
open Go Go.Abs Go.RowKit Go.Dial
variable {w0 : World}
theorem cutF_step {c : UInt8} {s w : List UInt8} {k : Nat} (h : k < s.length) : cutF c w (s.drop k) = if s.getD k 0 = c then w :: cutF c [] (s.drop (k + 1)) else cutF c (w ++ [s.getD k 0]) (s.drop (k + 1)) := by
 rw [List.drop_eq_getElem_cons h, cutF]
 have e : s.getD k 0 = s[k] := by simp [List.getD, h]
 rw [e]
set_option maxRecDepth 8000 in
theorem cut_calls (σ : AHeap) (s : List UInt8) (c : UInt8) (hl : s.length ≤ 1048576) : ACall Tryd.prog w0 28 [.string (tx s), .int .u8 c.toNat] σ fun r σ' => ∃ g, r = .slice (some ⟨g, 0, none⟩) (cutT c s).length 1 ∧ Sub σ σ' ∧ σ' g = some ⟨texts (cutT c s), false⟩ ∧ σ g = none := by
 refine acall_go mixed Tryd.func28 rfl good28 fun pr => ?_
 simp -implicitDefEqProofs (disch := omega) only [Nat.reduceEqDiff, ↓reduceIte, vcu, ↓vcd]
 refine r_lit el44 (out := #[]) (by kernel_rfl) (by kernel_rfl) fun g0 τ0 n0 s0 v0 => ?_
 replace v0 : τ0 g0 = some ⟨texts [], false⟩ := v0
 simp -implicitDefEqProofs (disch := omega) only [Nat.reduceEqDiff, ↓reduceIte, vcu, ↓vcd]
 refine vc_loop_c mixed (by kernel_rfl) [0, 1] (fun m a σ' => ∃ (k f g : Nat) (xs : List (List UInt8)), m + k = s.length ∧ f ≤ k ∧ a 7 = .int .i64 k ∧ a 6 = .int .i64 f ∧ a 5 = .slice (some ⟨g, 0, none⟩) xs.length 1 ∧ xs.length ≤ k ∧ Sub σ σ' ∧ σ' g = some ⟨texts xs, false⟩ ∧ σ g = none ∧ cutT c s = xs ++ cutF c ((s.drop f).take (k - f)) (s.drop k)) s.length ⟨0, 0, g0, [], by simp, by omega, rfl, rfl, rfl, by simp, s0, v0, n0, by simp [cutT]⟩ ?_
 rintro m a σ' hc ⟨k, f, g, xs, hk, hf, h7, h6, h5, hxl, hs, hg, hn, he⟩
 simp -implicitDefEqProofs (disch := omega) only [Nat.reduceEqDiff, ↓reduceIte, vcu, ↓vcd] at hc
 obtain ⟨h0, h1, -⟩ := hc
 by_cases hlt : k < s.length
 ·have hb := u8_le (s.getD k 0)
  rw [cutF_step hlt] at he
  by_cases hq : s.getD k 0 = c
  ·rw [if_pos hq] at he
   have q1 : decide (((s.getD k 0).toNat : Int) = (c.toNat : Int)) = true := decide_eq_true (by rw [hq])
   simp -implicitDefEqProofs (disch := omega) only [Nat.reduceEqDiff, ↓reduceIte, vcu, ↓vcd, h0, h1, h5, h6, h7, q1, Int.toNat_natCast]
   refine r_lit el44 (out := #[.string (tx ((s.drop f).take (k - f)))]) (by simp -implicitDefEqProofs (disch := omega) only [Nat.reduceEqDiff, ↓reduceIte, vcu, ↓vcd]; kernel_rfl) (by kernel_rfl) fun g3 τ3 n3 s3 v3 => ?_
   replace v3 : τ3 g3 = some ⟨texts [(s.drop f).take (k - f)], false⟩ := v3
   refine r_pushX (g := g) (e := g3) (o := 0) (xs := xs) (ys := [(s.drop f).take (k - f)]) (m := 1) (len := xs.length) el44 (by omega) sl44 (by simp -implicitDefEqProofs (disch := omega) only [Nat.reduceEqDiff, ↓reduceIte, vcu, ↓vcd, h5]) (s3 _ _ hg) rfl z9q (textsAt_own v3) rfl (by omega) fun g4 τ4 n4 k4 v4 => ?_
   have hs4 : Sub σ τ4 := k4.sub (hs.trans s3) hn
   have hn4 := free_sub (hs.trans s3) n4
   simp -implicitDefEqProofs (disch := omega) only [Nat.reduceEqDiff, ↓reduceIte, vcu, ↓vcd, h7]
   refine ⟨by simp [h0, h1], m - 1, by omega, k + 1, k + 1, g4, xs ++ [(s.drop f).take (k - f)], by omega, by omega, by simp, by simp, by simp, by simp; omega, hs4, v4, hn4, ?_⟩
   rw [he]; simp
  ·rw [if_neg hq] at he
   have q1 : decide (((s.getD k 0).toNat : Int) = (c.toNat : Int)) = false := decide_eq_false fun h => hq (UInt8.toNat_inj.1 (by omega))
   simp -implicitDefEqProofs (disch := omega) only [Nat.reduceEqDiff, ↓reduceIte, vcu, ↓vcd, h0, h1, h5, h6, h7, q1]
   refine ⟨by simp [h0, h1], m - 1, by omega, k + 1, f, g, xs, by omega, by omega, by simp, rfl, rfl, by omega, hs, hg, hn, ?_⟩
   have e2 : (s.drop f).take (k + 1 - f) = (s.drop f).take (k - f) ++ [s.getD k 0] := by
    rw [show k + 1 - f = (k - f) + 1 by omega, List.take_succ_eq_append_getElem (by rw [List.length_drop]; omega)]
    congr 2
    have : s.getD k 0 = s[k] := by simp [List.getD, hlt]
    rw [this, List.getElem_drop]
    congr 1; omega
   rw [he, e2]
 ·obtain rfl : k = s.length := by omega
  have e3 : cutT c s = xs ++ [s.drop f] := by
   rw [he, List.drop_length, cutF, List.take_of_length_le (by rw [List.length_drop]; omega)]
  simp -implicitDefEqProofs (disch := omega) only [Nat.reduceEqDiff, ↓reduceIte, vcu, ↓vcd, h0, h1, h5, h6, h7, Int.toNat_natCast]
  refine r_lit el44 (out := #[.string (tx (s.drop f))]) (by simp -implicitDefEqProofs (disch := omega) only [Nat.reduceEqDiff, ↓reduceIte, vcu, ↓vcd]; kernel_rfl) (by kernel_rfl) fun g3 τ3 n3 s3 v3 => ?_
  replace v3 : τ3 g3 = some ⟨texts [s.drop f], false⟩ := v3
  refine r_pushX (g := g) (e := g3) (o := 0) (xs := xs) (ys := [s.drop f]) (m := 1) (len := xs.length) el44 (by omega) sl44 (by simp -implicitDefEqProofs (disch := omega) only [Nat.reduceEqDiff, ↓reduceIte, vcu, ↓vcd, h5]) (s3 _ _ hg) rfl z9q (textsAt_own v3) rfl (by omega) fun g4 τ4 n4 k4 v4 => ?_
  have hs4 : Sub σ τ4 := k4.sub (hs.trans s3) hn
  have hn4 := free_sub (hs.trans s3) n4
  simp -implicitDefEqProofs (disch := omega) only [Nat.reduceEqDiff, ↓reduceIte, vcu, ↓vcd]
  refine fin_one Tryd.results28 ⟨g4, ?_, hs4, by rw [e3]; exact v4, hn4⟩
  simp -implicitDefEqProofs (disch := omega) only [Nat.reduceEqDiff, ↓reduceIte, vcu, ↓vcd]
  rw [e3]; simp
end Go.Proofs.YtafkndnmhhjdhaaDoor
namespace Go.Proofs.YtafkndnmhhjdhaaDoor
open Go Go.Abs Go.RowKit Go.Dial
variable {w0 : World}
theorem acodeB_monoW {P : Program} {b : Base} {n : NR} {c : Code} {a : AFrame} {σ : AHeap} {Q Q' : AQ} (h : ACodeB P b n c a σ Q') (hq : ∀ e a σ, Q' e a σ → Q e a σ) : ACodeB P b n c a σ Q := ACode.mono h hq
def kws : List (List UInt8) := [[99, 97, 108, 108], [100, 114, 111, 112], [110, 117, 109, 98, 101, 114]]
theorem kws_at {k : Nat} (h : k < 3) : kws.getD k [] = kwT k := by
 have : k = 0 ∨ k = 1 ∨ k = 2 := by omega
 rcases this with rfl | rfl | rfl <;> decide
theorem kwT_len (k : Int) : (kwT k).length ≤ 6 := by
 unfold kwT
 split
 ·decide
 ·split <;> decide
set_option maxRecDepth 8000 in
theorem deedText_calls (σ : AHeap) (d : Dd) (ht : d.t.length ≤ 1048576) : ACall Tryd.prog w0 8 [.agg #[.int .i64 d.k, .int .i64 d.l, .string (tx d.t)]] σ fun r σ' => r = .string (tx (deedT d)) ∧ σ' = σ := by
 obtain ⟨K, L, t⟩ := d
 refine acall_go mixed Tryd.func8 rfl good8 fun pr => ?_
 simp -implicitDefEqProofs (disch := omega) only [Nat.reduceEqDiff, ↓reduceIte, vcu, ↓vcd]
 refine r_boxed fun b τ nb s1 e1 => ?_
 replace e1 : τ b = some ⟨[.int .i64 K, .int .i64 L, .string (tx t)], false⟩ := e1
 have x0 : ld τ b 0 = some (.int .i64 K) := ld_of e1 rfl
 have x1 : ld τ b 1 = some (.int .i64 L) := ld_of e1 rfl
 have x2 : ld τ b 2 = some (.string (tx t)) := ld_of e1 rfl
 simp -implicitDefEqProofs (disch := omega) only [Nat.reduceEqDiff, ↓reduceIte, vcu, ↓vcd, x0]
 refine (in_calls τ K 0 2).mono ?_
 rintro _ _ ⟨rfl, rfl⟩
 rename_i τ
 by_cases hk : 0 ≤ K ∧ K ≤ 2
 case neg =>
  rw [decide_eq_false hk]
  simp -implicitDefEqProofs (disch := omega) only [Nat.reduceEqDiff, ↓reduceIte, vcu, ↓vcd, opK_some, Bool.not_false]
  refine fin_drop Tryd.results8 σ s1 ⟨?_, rfl⟩
  simp -implicitDefEqProofs (disch := omega) only [Nat.reduceEqDiff, ↓reduceIte, vcu, ↓vcd]
  rw [deedT, if_neg fun h => hk h.1]
 rw [decide_eq_true hk]
 simp -implicitDefEqProofs (disch := omega) only [Nat.reduceEqDiff, ↓reduceIte, vcu, ↓vcd, opK_some, Bool.not_true, x1]
 refine (in_calls τ L 0 99).mono ?_
 rintro _ _ ⟨rfl, rfl⟩
 rename_i τ
 by_cases hl : 0 ≤ L ∧ L ≤ 99
 case neg =>
  rw [decide_eq_false hl]
  simp -implicitDefEqProofs (disch := omega) only [Nat.reduceEqDiff, ↓reduceIte, vcu, ↓vcd, opK_some, Bool.not_false]
  refine fin_drop Tryd.results8 σ s1 ⟨?_, rfl⟩
  simp -implicitDefEqProofs (disch := omega) only [Nat.reduceEqDiff, ↓reduceIte, vcu, ↓vcd]
  rw [deedT, if_neg fun h => hl h.2.1]
 rw [decide_eq_true hl]
 simp -implicitDefEqProofs (disch := omega) only [Nat.reduceEqDiff, ↓reduceIte, vcu, ↓vcd, opK_some, Bool.not_true]
 obtain ⟨kn, hkn, rfl⟩ : ∃ kn : Nat, kn < 3 ∧ K = kn := ⟨K.toNat, by omega, by omega⟩
 obtain ⟨n, hn, rfl⟩ : ∃ n : Nat, n < 100 ∧ L = n := ⟨L.toNat, by omega, by omega⟩
 have hkw := kws_at hkn
 have hkl := kwT_len kn
 have hnl := decN_len n
 have ha1 : abin Tryd.prog 9 .add (.string (tx (kwT kn))) (.string { data := #[32] }) = some (.string (tx (kwT kn ++ [32]))) := abin_sadd (by simp; omega)
 have ha2 := abin_sadd (P := Tryd.prog) (t := 9) (xs := kwT kn ++ [32]) (ys := decN n) (by rw [List.length_append, List.length_singleton]; omega)
 refine acodeB_monoW (Q' := fun e a' τ' => e = .normal ∧ a' 1 = .pointer (some ⟨b, 0, none⟩) ∧ a' 3 = .string (tx ((kwT kn ++ [32]) ++ decN n)) ∧ Sub τ τ')
  (region_tree mixed (quiets [1, 6] (quiets [2, 7] (.two 0 (quiets [3] (.two 4 (quiets [5] (.one 8 (.one 9 (quiets [10] .stop)))) 8 (.one 4 (quiets [5] (.one 9 (quiets [10] .stop)))))) 8 (.one 0 (quiets [3] (.one 4 (quiets [5] (.one 9 (quiets [10] .stop))))))))) [([2, 7], Sub τ)] (by kernel_rfl) (by kernel_rfl) (fun p hp => by simp only [List.mem_singleton] at hp; subst hp; exact Sub.refl _) ?_) ?_
 ·refine tree_quiets _ _ _ _ sf0 (by kernel_rfl) (by kernel_rfl) ?_
  simp -implicitDefEqProofs (disch := omega) only [Nat.reduceEqDiff, ↓reduceIte, vcu, ↓vcd, pickOps_nil, pickOps_cons, pickO_some, List.getElem?_cons_succ, List.getElem?_cons_zero]
  refine tree_quiets τ _ _ _ sf1 (by kernel_rfl) (by kernel_rfl) ?_
  simp -implicitDefEqProofs (disch := omega) only [Nat.reduceEqDiff, ↓reduceIte, vcu, ↓vcd, pickOps_nil, pickOps_cons, pickO_some, List.getElem?_cons_succ, List.getElem?_cons_zero, x0, x1]
  refine tree_two rfl rfl ?_ ?_
  ·refine r_lit el44 (out := #[.string (tx [99, 97, 108, 108]), .string (tx [100, 114, 111, 112]), .string (tx [110, 117, 109, 98, 101, 114])]) (by first | kernel_rfl | (simp -implicitDefEqProofs (disch := omega) only [Nat.reduceEqDiff, ↓reduceIte, vcu, ↓vcd]; kernel_rfl)) (by rfl) fun g τ3 n3 s3 v3 => ?_
   replace v3 : τ3 g = some ⟨texts kws, false⟩ := v3
   have y3 : ld τ3 g (0 + kn) = some (.string (tx (kwT kn))) := by rw [← hkw]; exact textsAt_own v3 kn (by show kn < 3; omega)
   simp -implicitDefEqProofs (disch := omega) only [Nat.reduceEqDiff, ↓reduceIte, vcu, ↓vcd]
   refine ⟨keep_of rfl (fun p hp => by simp only [List.mem_singleton] at hp; subst hp; exact .inr (s3)), ?_⟩
   refine tree_quiets _ _ _ _ sf0 (by kernel_rfl) (by kernel_rfl) ?_
   simp -implicitDefEqProofs (disch := omega) only [Nat.reduceEqDiff, ↓reduceIte, vcu, ↓vcd, pickOps_nil, pickOps_cons, pickO_some, List.getElem?_cons_succ, List.getElem?_cons_zero, Int.toNat_natCast]
   refine tree_two rfl rfl ?_ ?_
   ·simp -implicitDefEqProofs (disch := omega) only [Nat.reduceEqDiff, ↓reduceIte, vcu, ↓vcd, y3]
    refine ⟨keep_of rfl (fun p hp => by simp only [List.mem_singleton] at hp; subst hp; exact .inr (s3)), ?_⟩
    refine tree_quiets _ _ _ _ sf0 (by kernel_rfl) (by kernel_rfl) ?_
    simp -implicitDefEqProofs (disch := omega) only [Nat.reduceEqDiff, ↓reduceIte, vcu, ↓vcd, pickOps_nil, pickOps_cons, pickO_some, List.getElem?_cons_succ, List.getElem?_cons_zero, ha1]
    refine tree_one rfl ?_
    simp -implicitDefEqProofs (disch := omega) only [Nat.reduceEqDiff, ↓reduceIte, vcu, ↓vcd]
    refine (number_calls n (by omega) _).mono ?_
    rintro _ τ9 ⟨rfl, e9⟩
    subst τ9
    simp -implicitDefEqProofs (disch := omega) only [Nat.reduceEqDiff, ↓reduceIte, vcu, ↓vcd, opK_some]
    refine ⟨keep_of rfl (fun p hp => by simp only [List.mem_singleton] at hp; subst hp; exact .inr (s3)), ?_⟩
    refine tree_one rfl ?_
    simp -implicitDefEqProofs (disch := omega) only [Nat.reduceEqDiff, ↓reduceIte, vcu, ↓vcd, ha2]
    refine ⟨keep_of rfl (fun p hp => by simp only [List.mem_singleton] at hp; subst hp; exact .inr (s3)), ?_⟩
    refine tree_quiets _ _ _ _ sf0 (by kernel_rfl) (by kernel_rfl) ?_
    simp -implicitDefEqProofs (disch := omega) only [Nat.reduceEqDiff, ↓reduceIte, vcu, ↓vcd, pickOps_nil, pickOps_cons, pickO_some, List.getElem?_cons_succ, List.getElem?_cons_zero]
    refine tree_stop ?_
    refine ⟨trivial, ?_, ?_, s3⟩
    ·simp -implicitDefEqProofs (disch := omega) only [Nat.reduceEqDiff, ↓reduceIte, vcu, ↓vcd]
    ·simp -implicitDefEqProofs (disch := omega) only [Nat.reduceEqDiff, ↓reduceIte, vcu, ↓vcd]
   ·simp -implicitDefEqProofs (disch := omega) only [Nat.reduceEqDiff, ↓reduceIte, vcu, ↓vcd]
    refine (number_calls n (by omega) _).mono ?_
    rintro _ τ9 ⟨rfl, e9⟩
    subst τ9
    simp -implicitDefEqProofs (disch := omega) only [Nat.reduceEqDiff, ↓reduceIte, vcu, ↓vcd, opK_some]
    refine ⟨keep_of rfl (fun p hp => by simp only [List.mem_singleton] at hp; subst hp; exact .inr (s3)), ?_⟩
    refine tree_one rfl ?_
    simp -implicitDefEqProofs (disch := omega) only [Nat.reduceEqDiff, ↓reduceIte, vcu, ↓vcd, y3]
    refine ⟨keep_of rfl (fun p hp => by simp only [List.mem_singleton] at hp; subst hp; exact .inr (s3)), ?_⟩
    refine tree_quiets _ _ _ _ sf0 (by kernel_rfl) (by kernel_rfl) ?_
    simp -implicitDefEqProofs (disch := omega) only [Nat.reduceEqDiff, ↓reduceIte, vcu, ↓vcd, pickOps_nil, pickOps_cons, pickO_some, List.getElem?_cons_succ, List.getElem?_cons_zero, ha1]
    refine tree_one rfl ?_
    simp -implicitDefEqProofs (disch := omega) only [Nat.reduceEqDiff, ↓reduceIte, vcu, ↓vcd, ha2]
    refine ⟨keep_of rfl (fun p hp => by simp only [List.mem_singleton] at hp; subst hp; exact .inr (s3)), ?_⟩
    refine tree_quiets _ _ _ _ sf0 (by kernel_rfl) (by kernel_rfl) ?_
    simp -implicitDefEqProofs (disch := omega) only [Nat.reduceEqDiff, ↓reduceIte, vcu, ↓vcd, pickOps_nil, pickOps_cons, pickO_some, List.getElem?_cons_succ, List.getElem?_cons_zero]
    refine tree_stop ?_
    refine ⟨trivial, ?_, ?_, s3⟩
    ·simp -implicitDefEqProofs (disch := omega) only [Nat.reduceEqDiff, ↓reduceIte, vcu, ↓vcd]
    ·simp -implicitDefEqProofs (disch := omega) only [Nat.reduceEqDiff, ↓reduceIte, vcu, ↓vcd]
  ·simp -implicitDefEqProofs (disch := omega) only [Nat.reduceEqDiff, ↓reduceIte, vcu, ↓vcd]
   refine (number_calls n (by omega) _).mono ?_
   rintro _ τ9 ⟨rfl, e9⟩
   subst τ9
   simp -implicitDefEqProofs (disch := omega) only [Nat.reduceEqDiff, ↓reduceIte, vcu, ↓vcd, opK_some]
   refine ⟨keep_of rfl (fun p hp => by simp only [List.mem_singleton] at hp; subst hp; exact .inr (Sub.refl _)), ?_⟩
   refine tree_one rfl ?_
   refine r_lit el44 (out := #[.string (tx [99, 97, 108, 108]), .string (tx [100, 114, 111, 112]), .string (tx [110, 117, 109, 98, 101, 114])]) (by first | kernel_rfl | (simp -implicitDefEqProofs (disch := omega) only [Nat.reduceEqDiff, ↓reduceIte, vcu, ↓vcd]; kernel_rfl)) (by rfl) fun g τ3 n3 s3 v3 => ?_
   replace v3 : τ3 g = some ⟨texts kws, false⟩ := v3
   have y3 : ld τ3 g (0 + kn) = some (.string (tx (kwT kn))) := by rw [← hkw]; exact textsAt_own v3 kn (by show kn < 3; omega)
   simp -implicitDefEqProofs (disch := omega) only [Nat.reduceEqDiff, ↓reduceIte, vcu, ↓vcd]
   refine ⟨keep_of rfl (fun p hp => by simp only [List.mem_singleton] at hp; subst hp; exact .inr (s3)), ?_⟩
   refine tree_quiets _ _ _ _ sf0 (by kernel_rfl) (by kernel_rfl) ?_
   simp -implicitDefEqProofs (disch := omega) only [Nat.reduceEqDiff, ↓reduceIte, vcu, ↓vcd, pickOps_nil, pickOps_cons, pickO_some, List.getElem?_cons_succ, List.getElem?_cons_zero, Int.toNat_natCast]
   refine tree_one rfl ?_
   simp -implicitDefEqProofs (disch := omega) only [Nat.reduceEqDiff, ↓reduceIte, vcu, ↓vcd, y3]
   refine ⟨keep_of rfl (fun p hp => by simp only [List.mem_singleton] at hp; subst hp; exact .inr (s3)), ?_⟩
   refine tree_quiets _ _ _ _ sf0 (by kernel_rfl) (by kernel_rfl) ?_
   simp -implicitDefEqProofs (disch := omega) only [Nat.reduceEqDiff, ↓reduceIte, vcu, ↓vcd, pickOps_nil, pickOps_cons, pickO_some, List.getElem?_cons_succ, List.getElem?_cons_zero, ha1]
   refine tree_one rfl ?_
   simp -implicitDefEqProofs (disch := omega) only [Nat.reduceEqDiff, ↓reduceIte, vcu, ↓vcd, ha2]
   refine ⟨keep_of rfl (fun p hp => by simp only [List.mem_singleton] at hp; subst hp; exact .inr (s3)), ?_⟩
   refine tree_quiets _ _ _ _ sf0 (by kernel_rfl) (by kernel_rfl) ?_
   simp -implicitDefEqProofs (disch := omega) only [Nat.reduceEqDiff, ↓reduceIte, vcu, ↓vcd, pickOps_nil, pickOps_cons, pickO_some, List.getElem?_cons_succ, List.getElem?_cons_zero]
   refine tree_stop ?_
   refine ⟨trivial, ?_, ?_, s3⟩
   ·simp -implicitDefEqProofs (disch := omega) only [Nat.reduceEqDiff, ↓reduceIte, vcu, ↓vcd]
   ·simp -implicitDefEqProofs (disch := omega) only [Nat.reduceEqDiff, ↓reduceIte, vcu, ↓vcd]
 ·rintro e a' τ' ⟨rfl, p1, p3, s2⟩
  have z0 := ld_sub s2 x0
  have z2 := ld_sub s2 x2
  have s12 := s1.trans s2
  have aq : abin Tryd.prog 9 .eql (.string (tx t)) (.string { data := #[] }) = some (.bool (decide (t = []))) := abin_seql (ys := [])
  have a3 : abin Tryd.prog 9 .add (.string (tx ((kwT kn ++ [32]) ++ decN n))) (.string { data := #[32] }) = some (.string (tx ((kwT kn ++ [32]) ++ decN n ++ [32]))) := abin_sadd (by simp; omega)
  have ht' : t.length ≤ 1048576 := ht
  have a4 := abin_sadd (P := Tryd.prog) (t := 9) (xs := (kwT kn ++ [32]) ++ decN n ++ [32]) (ys := t) (by simp; omega)
  have hN : (n : Int).toNat = n := Int.toNat_natCast n
  by_cases h1 : kn = 1
  ·have d1 : decide ((kn : Int) = 1) = true := decide_eq_true (by omega)
   by_cases he : t = []
   ·simp -implicitDefEqProofs (disch := omega) only [Nat.reduceEqDiff, ↓reduceIte, vcu, ↓vcd, p1, p3, z0, z2, d1, aq, decide_eq_true he]
    refine fin_drop Tryd.results8 σ s12 ⟨?_, rfl⟩
    simp -implicitDefEqProofs (disch := omega) only [Nat.reduceEqDiff, ↓reduceIte, vcu, ↓vcd, p3]
    rw [deedT, if_pos ⟨hk, hl, .inl ⟨by show (kn : Int) = 1; omega, he⟩⟩]
    simp [h1, hN]
   ·have no : ¬ DdOk ⟨kn, n, t⟩ := fun h => h.2.2.elim (fun h => he h.2) fun h => h.1 (by show (kn : Int) = 1; omega)
    simp -implicitDefEqProofs (disch := omega) only [Nat.reduceEqDiff, ↓reduceIte, vcu, ↓vcd, p1, p3, z0, z2, d1, aq, decide_eq_false he]
    refine fin_drop Tryd.results8 σ s12 ⟨?_, rfl⟩
    simp -implicitDefEqProofs (disch := omega) only [Nat.reduceEqDiff, ↓reduceIte, vcu, ↓vcd, p3]
    rw [deedT, if_neg no]
  ·have d1 : decide ((kn : Int) = 1) = false := decide_eq_false (by omega)
   simp -implicitDefEqProofs (disch := omega) only [Nat.reduceEqDiff, ↓reduceIte, vcu, ↓vcd, p1, p3, z0, z2, d1]
   refine (digits_calls τ' t ht').mono ?_
   rintro _ _ ⟨rfl, rfl⟩
   rename_i τ'
   by_cases hdg : DgT t
   case neg =>
    have no : ¬ DdOk ⟨kn, n, t⟩ := fun h => h.2.2.elim (fun h => h1 (by have : (kn : Int) = 1 := h.1; omega)) fun h => hdg h.2.1
    rw [decide_eq_false hdg]
    simp -implicitDefEqProofs (disch := omega) only [Nat.reduceEqDiff, ↓reduceIte, vcu, ↓vcd, opK_some, p1, p3, z0, z2, Bool.not_false]
    refine fin_drop Tryd.results8 σ s12 ⟨?_, rfl⟩
    simp -implicitDefEqProofs (disch := omega) only [Nat.reduceEqDiff, ↓reduceIte, vcu, ↓vcd, p3]
    rw [deedT, if_neg no]
   rw [decide_eq_true hdg]
   simp -implicitDefEqProofs (disch := omega) only [Nat.reduceEqDiff, ↓reduceIte, vcu, ↓vcd, opK_some, p1, p3, z0, z2, Bool.not_true]
   refine (in_calls τ' t.length 1 3).mono ?_
   rintro _ _ ⟨rfl, rfl⟩
   by_cases h13 : (1 : Int) ≤ t.length ∧ (t.length : Int) ≤ 3
   case neg =>
    have no : ¬ DdOk ⟨kn, n, t⟩ := fun h => h.2.2.elim (fun h => h1 (by have : (kn : Int) = 1 := h.1; omega)) fun h => h13 (by have h2 : 1 ≤ t.length := h.2.2.1; have h3 : t.length ≤ 3 := h.2.2.2; omega)
    rw [decide_eq_false h13]
    simp -implicitDefEqProofs (disch := omega) only [Nat.reduceEqDiff, ↓reduceIte, vcu, ↓vcd, opK_some, p1, p3, z0, z2, Bool.not_false]
    refine fin_drop Tryd.results8 σ s12 ⟨?_, rfl⟩
    simp -implicitDefEqProofs (disch := omega) only [Nat.reduceEqDiff, ↓reduceIte, vcu, ↓vcd, p3]
    rw [deedT, if_neg no]
   rw [decide_eq_true h13]
   simp -implicitDefEqProofs (disch := omega) only [Nat.reduceEqDiff, ↓reduceIte, vcu, ↓vcd, opK_some, p1, p3, z0, z2, Bool.not_true, a3, a4]
   refine fin_drop Tryd.results8 σ s12 ⟨?_, rfl⟩
   simp -implicitDefEqProofs (disch := omega) only [Nat.reduceEqDiff, ↓reduceIte, vcu, ↓vcd, p3]
   rw [deedT, if_pos ⟨hk, hl, .inr ⟨by show (kn : Int) ≠ 1; omega, hdg, by show 1 ≤ t.length; omega, by show t.length ≤ 3; omega⟩⟩]
   have : ¬ (kn : Int) = 1 := by omega
   simp [this, hN]
end Go.Proofs.YtafkndnmhhjdhaaDoor
namespace Go.Proofs.YtafkndnmhhjdhaaDoor
open Go Go.Abs Go.RowKit Go.Dial
variable {w0 : World}
/-- a deed as a value -/
def ddA (d : Dd) : Value := .agg #[.int .i64 d.k, .int .i64 d.l, .string (tx d.t)]
def rdP (s : List UInt8) : Dd × Bool := match readO s with | some d => (d, true) | none => (⟨0, 0, []⟩, false)
def kdN (w : List UInt8) : Nat → Int
 | 0 => -1
 | k + 1 => if w = kwT k then k else kdN w k
theorem kdN_3 (w : List UInt8) : kdN w 3 = kdV w := rfl
theorem cutF_len {c : UInt8} : ∀ (s w x : List UInt8), x ∈ cutF c w s → x.length ≤ w.length + s.length
 | [], w, x, h => by
  simp only [cutF, List.mem_singleton] at h
  subst h; simp
 | b :: s, w, x, h => by
  unfold cutF at h
  split at h
  ·rcases List.mem_cons.1 h with rfl | h
   ·simp
   ·have := cutF_len s [] x h; simp at this ⊢; omega
  ·have := cutF_len s _ x h; simp at this ⊢; omega
theorem fin_ct8 {P : Program} {fn : Func} {R : Value → AHeap → Prop} {a : AFrame} {σ : AHeap} {t u : Nat} {ty : TypeId} {v : Value} (h : fn.results = #[.cell t ty, .tmp u]) (σ'' : AHeap) (hs : Sub σ'' σ) (hv : aload P σ ty (a t) = some v) (hr : R (.tuple #[v, a u]) σ'') : finC P fn R a σ :=
 ⟨[v, a u], σ'', by simp [h, rvals, hv], hs, hr⟩
set_option maxRecDepth 8000 in
theorem readDeed_calls (σ : AHeap) (s : List UInt8) (hl : s.length ≤ 1048576) : ACall Tryd.prog w0 11 [.string (tx s)] σ fun r σ' => r = .tuple #[ddA (rdP s).1, .bool (rdP s).2] ∧ σ' = σ := by
 refine acall_goc mixed Tryd.func11 rfl goodc11 fun pr => ?_
 simp -implicitDefEqProofs (disch := omega) only [Nat.reduceEqDiff, ↓reduceIte, vcu, ↓vcd]
 refine r_new ze26 fun c2 τ1 n2 s1 e2 => ?_
 replace e2 : τ1 c2 = some ⟨[.int .i64 0, .int .i64 0, .string (tx [])], false⟩ := e2
 simp -implicitDefEqProofs (disch := omega) only [Nat.reduceEqDiff, ↓reduceIte, vcu, ↓vcd]
 refine (cut_calls τ1 s 32 hl).mono ?_
 rintro _ τ2 ⟨gw, rfl, s2, vw, nw⟩
 simp -implicitDefEqProofs (disch := omega) only [Nat.reduceEqDiff, ↓reduceIte, vcu, ↓vcd, opK_some]
 rw [r_build]
 refine ⟨(_, #[.int .i64 (-1), .int .i64 0, .string (tx [])]), ⟨ze26, by first | kernel_rfl | (simp -implicitDefEqProofs (disch := omega) only [Nat.reduceEqDiff, ↓reduceIte, vcu, ↓vcd]; kernel_rfl)⟩, ?_⟩
 simp -implicitDefEqProofs (disch := omega) only [Nat.reduceEqDiff, ↓reduceIte, vcu, ↓vcd]
 refine r_local (cs := #[.int .i64 (-1), .int .i64 0, .string (tx [])]) ze26 (by decide) z9q (by rw [co26]; rfl) rfl rfl (Nat.zero_lt_succ _) fun c5 τ3 n5 s3 e5 => ?_
 replace e5 : τ3 c5 = some ⟨[.int .i64 (-1), .int .i64 0, .string (tx [])], false⟩ := e5
 have w0p : 0 < (cutT 32 s).length := List.length_pos_iff.2 (cutF_ne 32 s [])
 have d52 : c2 ≠ c5 := ne_of' n5 (s2 _ _ e2)
 have d5w : gw ≠ c5 := ne_of' n5 vw
 have e2' := s3 _ _ (s2 _ _ e2)
 have vw' := s3 _ _ vw
 have s13 := s1.trans (s2.trans s3)
 have nc5 : σ c5 = none := free_sub (s1.trans s2) n5
 simp -implicitDefEqProofs (disch := omega) only [Nat.reduceEqDiff, ↓reduceIte, vcu, ↓vcd]
 refine vc_loop_c mixed (by kernel_rfl) [0, 2, 4, 5] (fun m a σ' => ∃ k : Nat, m + k = 3 ∧ a 6 = .int .i64 k ∧ Sub σ σ' ∧ σ' c2 = some ⟨[.int .i64 0, .int .i64 0, .string (tx [])], false⟩ ∧ σ' gw = some ⟨texts (cutT 32 s), false⟩ ∧ σ' c5 = some ⟨[.int .i64 (kdN ((cutT 32 s).getD 0 []) k), .int .i64 0, .string (tx [])], false⟩) 3 ⟨0, by simp, rfl, s13, e2', vw', e5⟩ ?_
 rintro m a σ' hc ⟨k, hk, h6, hs, q2, qw, q5⟩
 simp -implicitDefEqProofs (disch := omega) only [Nat.reduceEqDiff, ↓reduceIte, vcu, ↓vcd] at hc
 obtain ⟨h0, h2, h4, h5, -⟩ := hc
 have lw0 : ld σ' gw 0 = some (.string (tx ((cutT 32 s).getD 0 []))) := by have := textsAt_own qw 0 w0p; simpa using this
 generalize hW : (cutT 32 s).getD 0 [] = w at *
 by_cases hlt : k < 3
 ·have hkw := kws_at hlt
  have hst : kdN w (k + 1) = if w = kwT k then (k : Int) else kdN w k := rfl
  simp -implicitDefEqProofs (disch := omega) only [Nat.reduceEqDiff, ↓reduceIte, vcu, ↓vcd, h0, h2, h4, h5, h6]
  refine region_tree mixed (quiets [0, 1, 4] (quiets [2] (.one 3 (quiets [5] (.one 6 (quiets [7] .stop)))))) [([2], Sub σ')] (by kernel_rfl) (by kernel_rfl) (fun p hp => by simp only [List.mem_singleton] at hp; subst hp; exact Sub.refl _) ?_
  refine tree_quiets _ _ _ _ sf0 (by kernel_rfl) (by kernel_rfl) ?_
  simp -implicitDefEqProofs (disch := omega) only [Nat.reduceEqDiff, ↓reduceIte, vcu, ↓vcd, pickOps_nil, pickOps_cons, pickO_some, List.getElem?_cons_succ, List.getElem?_cons_zero, h4, h6, Int.toNat_zero]
  refine tree_quiets σ' _ _ _ sf1 (by kernel_rfl) (by kernel_rfl) ?_
  simp -implicitDefEqProofs (disch := omega) only [Nat.reduceEqDiff, ↓reduceIte, vcu, ↓vcd, pickOps_nil, pickOps_cons, pickO_some, List.getElem?_cons_succ, List.getElem?_cons_zero, lw0]
  refine tree_one rfl ?_
  refine r_lit el44 (out := #[.string (tx [99, 97, 108, 108]), .string (tx [100, 114, 111, 112]), .string (tx [110, 117, 109, 98, 101, 114])]) (by first | kernel_rfl | (simp -implicitDefEqProofs (disch := omega) only [Nat.reduceEqDiff, ↓reduceIte, vcu, ↓vcd]; kernel_rfl)) (by rfl) fun g τ5 n6 s5 v5 => ?_
  replace v5 : τ5 g = some ⟨texts kws, false⟩ := v5
  have y5 : ld τ5 g (0 + k) = some (.string (tx (kwT k))) := by rw [← hkw]; exact textsAt_own v5 k (by show k < 3; omega)
  simp -implicitDefEqProofs (disch := omega) only [Nat.reduceEqDiff, ↓reduceIte, vcu, ↓vcd]
  refine ⟨keep_of rfl (fun p hp => by simp only [List.mem_singleton] at hp; subst hp; exact .inr s5), ?_⟩
  refine tree_quiets _ _ _ _ sf0 (by kernel_rfl) (by kernel_rfl) ?_
  simp -implicitDefEqProofs (disch := omega) only [Nat.reduceEqDiff, ↓reduceIte, vcu, ↓vcd, pickOps_nil, pickOps_cons, pickO_some, List.getElem?_cons_succ, List.getElem?_cons_zero, Int.toNat_natCast]
  refine tree_one rfl ?_
  simp -implicitDefEqProofs (disch := omega) only [Nat.reduceEqDiff, ↓reduceIte, vcu, ↓vcd, y5]
  refine ⟨keep_of rfl (fun p hp => by simp only [List.mem_singleton] at hp; subst hp; exact .inr s5), ?_⟩
  refine tree_quiets _ _ _ _ sf0 (by kernel_rfl) (by kernel_rfl) ?_
  simp -implicitDefEqProofs (disch := omega) only [Nat.reduceEqDiff, ↓reduceIte, vcu, ↓vcd, pickOps_nil, pickOps_cons, pickO_some, List.getElem?_cons_succ, List.getElem?_cons_zero]
  refine tree_stop ?_
  by_cases hq : w = kwT k
  ·rw [if_pos hq] at hst
   have dq : decide (w = kwT k) = true := decide_eq_true hq
   simp -implicitDefEqProofs (disch := omega) only [Nat.reduceEqDiff, ↓reduceIte, vcu, ↓vcd, h0, h2, h4, h5, h6, dq]
   refine r_set (g := c5) (i := 0) z9q z9r co3 z9r (s5 _ _ q5) (by show 0 < 3; omega) fun τ6 k6 e6 => ?_
   replace e6 : τ6 c5 = some ⟨[.int .i64 k, .int .i64 0, .string (tx [])], false⟩ := by rw [e6]; simp -implicitDefEqProofs (disch := omega) only [Nat.reduceEqDiff, ↓reduceIte, vcu, ↓vcd]; rfl
   simp -implicitDefEqProofs (disch := omega) only [Nat.reduceEqDiff, ↓reduceIte, vcu, ↓vcd, h0, h2, h4, h5, h6]
   exact ⟨by simp [h0, h2, h4, h5], m - 1, by omega, k + 1, by omega, by simp [h6], k6.sub (hs.trans s5) nc5, k6.at (s5 _ _ q2) d52, k6.at (s5 _ _ qw) d5w, by rw [hst]; exact e6⟩
  ·rw [if_neg hq] at hst
   have dq : decide (w = kwT k) = false := decide_eq_false hq
   simp -implicitDefEqProofs (disch := omega) only [Nat.reduceEqDiff, ↓reduceIte, vcu, ↓vcd, h0, h2, h4, h5, h6, dq]
   exact ⟨by simp [h0, h2, h4, h5], m - 1, by omega, k + 1, by omega, by simp, hs.trans s5, s5 _ _ q2, s5 _ _ qw, by rw [hst]; exact s5 _ _ q5⟩
 ·have e3 : k = 3 := by omega
  subst e3
  rw [kdN_3] at q5
  generalize hD : ddW (cutT 32 s) = D
  have hDt : D.t.length ≤ 1048576 := by
   rw [← hD]
   unfold ddW
   simp only
   split
   ·rename_i h
    have := cutF_len (c := 32) s [] ((cutT 32 s).getD 2 []) (by simp only [List.getD, h, List.getElem?_eq_getElem, Option.getD_some]; exact List.getElem_mem h)
    simp only [List.length_nil] at this
    omega
   ·simp
  by_cases l1 : 1 < (cutT 32 s).length
  case neg =>
   have eD : D = ⟨kdV w, 0, []⟩ := by rw [← hD, ddW, hW, if_neg l1, if_neg (by omega)]
   replace q5 : σ' c5 = some ⟨[.int .i64 D.k, .int .i64 D.l, .string (tx D.t)], false⟩ := by rw [q5, eD]
   clear eD
   simp -implicitDefEqProofs (disch := omega) only [Nat.reduceEqDiff, ↓reduceIte, vcu, ↓vcd, h0, h2, h4, h5, h6]
   have l5 : lds _ c5 0 3 = some [.int .i64 D.k, .int .i64 D.l, .string (tx D.t)] := lds_three (ld_of q5 rfl) (ld_of q5 rfl) (ld_of q5 rfl)
   have aq : abin Tryd.prog 9 .eql (.string (tx s)) (.string { data := #[] }) = some (.bool (decide (s = []))) := abin_seql (ys := [])
   by_cases hs0 : s = []
   ·have hr : rdP s = (⟨0, 0, []⟩, false) := by unfold rdP readO; rw [if_pos (.inl hs0)]
    simp -implicitDefEqProofs (disch := omega) only [Nat.reduceEqDiff, ↓reduceIte, vcu, ↓vcd, h0, h2, h4, h5, aq, decide_eq_true hs0]
    rw [r_build]
    refine ⟨(_, #[.int .i64 0, .int .i64 0, .string (tx [])]), ⟨ze26, by first | kernel_rfl | (simp -implicitDefEqProofs (disch := omega) only [Nat.reduceEqDiff, ↓reduceIte, vcu, ↓vcd]; kernel_rfl)⟩, ?_⟩
    simp -implicitDefEqProofs (disch := omega) only [Nat.reduceEqDiff, ↓reduceIte, vcu, ↓vcd, h2]
    refine r_sets (g := c2) (i := 0) (C := [.int .i64 0, .int .i64 0, .string (tx [])]) (by simp -implicitDefEqProofs (disch := omega) only [Nat.reduceEqDiff, ↓reduceIte, vcu, ↓vcd, h2]) z9co26 z9r z9z q2 z9l fun τ8 k8 e8 => ?_
    replace e8 : τ8 c2 = some ⟨[.int .i64 0, .int .i64 0, .string (tx [])], false⟩ := e8
    have l8 : lds τ8 c2 0 3 = some [.int .i64 0, .int .i64 0, .string (tx [])] := lds_three (ld_of e8 rfl) (ld_of e8 rfl) (ld_of e8 rfl)
    simp -implicitDefEqProofs (disch := omega) only [Nat.reduceEqDiff, ↓reduceIte, vcu, ↓vcd, h2]
    refine fin_ct8 Tryd.results11 σ (k8.sub hs n2) (v := .agg #[.int .i64 0, .int .i64 0, .string (tx [])]) (by simp -implicitDefEqProofs (disch := omega) only [Nat.reduceEqDiff, ↓reduceIte, vcu, ↓vcd, h2, l8, co26]) ⟨?_, rfl⟩
    simp -implicitDefEqProofs (disch := omega) only [Nat.reduceEqDiff, ↓reduceIte, vcu, ↓vcd]
    rw [hr]; rfl
   ·simp -implicitDefEqProofs (disch := omega) only [Nat.reduceEqDiff, ↓reduceIte, vcu, ↓vcd, h0, h2, h4, h5, aq, decide_eq_false hs0, l5, co26]
    refine (deedText_calls _ D hDt).mono ?_
    rintro _ _ ⟨rfl, rfl⟩
    by_cases hne : deedT D = s
    ·have hr : rdP s = (D, true) := by unfold rdP readO; rw [if_neg (by rw [hD]; exact fun h => h.elim hs0 fun h => h hne), hD]
     have dn : decide (deedT D = s) = true := decide_eq_true hne
     simp -implicitDefEqProofs (disch := omega) only [Nat.reduceEqDiff, ↓reduceIte, vcu, ↓vcd, opK_some, h0, h2, h4, h5, abin_sneq, dn, Bool.not_true, l5, co26]
     refine r_sets (g := c2) (i := 0) (C := [.int .i64 0, .int .i64 0, .string (tx [])]) (by simp -implicitDefEqProofs (disch := omega) only [Nat.reduceEqDiff, ↓reduceIte, vcu, ↓vcd, h0, h2, h4, h5]) z9co26 z9r z9z q2 z9l fun τ8 k8 e8 => ?_
     replace e8 : τ8 c2 = some ⟨[.int .i64 D.k, .int .i64 D.l, .string (tx D.t)], false⟩ := e8
     have l8 : lds τ8 c2 0 3 = some [.int .i64 D.k, .int .i64 D.l, .string (tx D.t)] := lds_three (ld_of e8 rfl) (ld_of e8 rfl) (ld_of e8 rfl)
     simp -implicitDefEqProofs (disch := omega) only [Nat.reduceEqDiff, ↓reduceIte, vcu, ↓vcd, h0, h2, h4, h5]
     refine fin_ct8 Tryd.results11 σ (k8.sub hs n2) (v := .agg #[.int .i64 D.k, .int .i64 D.l, .string (tx D.t)]) (by simp -implicitDefEqProofs (disch := omega) only [Nat.reduceEqDiff, ↓reduceIte, vcu, ↓vcd, h0, h2, h4, h5, l8, co26]) ⟨?_, rfl⟩
     simp -implicitDefEqProofs (disch := omega) only [Nat.reduceEqDiff, ↓reduceIte, vcu, ↓vcd]
     rw [hr]; rfl
    ·have hr : rdP s = (⟨0, 0, []⟩, false) := by unfold rdP readO; rw [if_pos (.inr (by rw [hD]; exact hne))]
     have dn : decide (deedT D = s) = false := decide_eq_false hne
     simp -implicitDefEqProofs (disch := omega) only [Nat.reduceEqDiff, ↓reduceIte, vcu, ↓vcd, opK_some, h0, h2, h4, h5, abin_sneq, dn, Bool.not_false]
     rw [r_build]
     refine ⟨(_, #[.int .i64 0, .int .i64 0, .string (tx [])]), ⟨ze26, by first | kernel_rfl | (simp -implicitDefEqProofs (disch := omega) only [Nat.reduceEqDiff, ↓reduceIte, vcu, ↓vcd]; kernel_rfl)⟩, ?_⟩
     simp -implicitDefEqProofs (disch := omega) only [Nat.reduceEqDiff, ↓reduceIte, vcu, ↓vcd, h2]
     refine r_sets (g := c2) (i := 0) (C := [.int .i64 0, .int .i64 0, .string (tx [])]) (by simp -implicitDefEqProofs (disch := omega) only [Nat.reduceEqDiff, ↓reduceIte, vcu, ↓vcd, h2]) z9co26 z9r z9z q2 z9l fun τ8 k8 e8 => ?_
     replace e8 : τ8 c2 = some ⟨[.int .i64 0, .int .i64 0, .string (tx [])], false⟩ := e8
     have l8 : lds τ8 c2 0 3 = some [.int .i64 0, .int .i64 0, .string (tx [])] := lds_three (ld_of e8 rfl) (ld_of e8 rfl) (ld_of e8 rfl)
     simp -implicitDefEqProofs (disch := omega) only [Nat.reduceEqDiff, ↓reduceIte, vcu, ↓vcd, h2]
     refine fin_ct8 Tryd.results11 σ (k8.sub hs n2) (v := .agg #[.int .i64 0, .int .i64 0, .string (tx [])]) (by simp -implicitDefEqProofs (disch := omega) only [Nat.reduceEqDiff, ↓reduceIte, vcu, ↓vcd, h2, l8, co26]) ⟨?_, rfl⟩
     simp -implicitDefEqProofs (disch := omega) only [Nat.reduceEqDiff, ↓reduceIte, vcu, ↓vcd]
     rw [hr]; rfl
  have lw1 : ld σ' gw 1 = some (.string (tx ((cutT 32 s).getD 1 []))) := by have := textsAt_own qw 1 l1; simpa using this
  have hw1 := cutF_len (c := 32) s [] ((cutT 32 s).getD 1 []) (by simp only [List.getD, l1, List.getElem?_eq_getElem, Option.getD_some]; exact List.getElem_mem l1)
  simp only [List.length_nil] at hw1
  simp -implicitDefEqProofs (disch := omega) only [Nat.reduceEqDiff, ↓reduceIte, vcu, ↓vcd, h0, h2, h4, h5, h6, Int.toNat_one, lw1]
  refine (read_calls σ' ((cutT 32 s).getD 1 []) (by omega)).mono ?_
  rintro _ _ ⟨rfl, rfl⟩
  rename_i σ'
  simp -implicitDefEqProofs (disch := omega) only [Nat.reduceEqDiff, ↓reduceIte, vcu, ↓vcd, opK_some, h0, h2, h4, h5, h6]
  refine r_set (g := c5) (i := 1) (by simp -implicitDefEqProofs (disch := omega) only [Nat.reduceEqDiff, ↓reduceIte, vcu, ↓vcd, h5]) z9r co3 z9r q5 (by show 1 < 3; omega) fun τ6 k6 e6 => ?_
  replace e6 : τ6 c5 = some ⟨[.int .i64 (kdV w), .int .i64 (rdN ((cutT 32 s).getD 1 [])), .string (tx [])], false⟩ := by rw [e6]; simp -implicitDefEqProofs (disch := omega) only [Nat.reduceEqDiff, ↓reduceIte, vcu, ↓vcd]; rfl
  replace hs := k6.sub hs nc5
  replace q2 := k6.at q2 d52
  replace qw := k6.at qw d5w
  clear q5
  by_cases l2 : 2 < (cutT 32 s).length
  case neg =>
   have eD : D = ⟨kdV w, rdN ((cutT 32 s).getD 1 []), []⟩ := by rw [← hD, ddW, hW, if_pos l1, if_neg l2]
   have q5 : τ6 c5 = some ⟨[.int .i64 D.k, .int .i64 D.l, .string (tx D.t)], false⟩ := by rw [e6, eD]
   clear eD
   simp -implicitDefEqProofs (disch := omega) only [Nat.reduceEqDiff, ↓reduceIte, vcu, ↓vcd, h0, h2, h4, h5, h6]
   have l5 : lds _ c5 0 3 = some [.int .i64 D.k, .int .i64 D.l, .string (tx D.t)] := lds_three (ld_of q5 rfl) (ld_of q5 rfl) (ld_of q5 rfl)
   have aq : abin Tryd.prog 9 .eql (.string (tx s)) (.string { data := #[] }) = some (.bool (decide (s = []))) := abin_seql (ys := [])
   by_cases hs0 : s = []
   ·have hr : rdP s = (⟨0, 0, []⟩, false) := by unfold rdP readO; rw [if_pos (.inl hs0)]
    simp -implicitDefEqProofs (disch := omega) only [Nat.reduceEqDiff, ↓reduceIte, vcu, ↓vcd, h0, h2, h4, h5, aq, decide_eq_true hs0]
    rw [r_build]
    refine ⟨(_, #[.int .i64 0, .int .i64 0, .string (tx [])]), ⟨ze26, by first | kernel_rfl | (simp -implicitDefEqProofs (disch := omega) only [Nat.reduceEqDiff, ↓reduceIte, vcu, ↓vcd]; kernel_rfl)⟩, ?_⟩
    simp -implicitDefEqProofs (disch := omega) only [Nat.reduceEqDiff, ↓reduceIte, vcu, ↓vcd, h2]
    refine r_sets (g := c2) (i := 0) (C := [.int .i64 0, .int .i64 0, .string (tx [])]) (by simp -implicitDefEqProofs (disch := omega) only [Nat.reduceEqDiff, ↓reduceIte, vcu, ↓vcd, h2]) z9co26 z9r z9z q2 z9l fun τ8 k8 e8 => ?_
    replace e8 : τ8 c2 = some ⟨[.int .i64 0, .int .i64 0, .string (tx [])], false⟩ := e8
    have l8 : lds τ8 c2 0 3 = some [.int .i64 0, .int .i64 0, .string (tx [])] := lds_three (ld_of e8 rfl) (ld_of e8 rfl) (ld_of e8 rfl)
    simp -implicitDefEqProofs (disch := omega) only [Nat.reduceEqDiff, ↓reduceIte, vcu, ↓vcd, h2]
    refine fin_ct8 Tryd.results11 σ (k8.sub hs n2) (v := .agg #[.int .i64 0, .int .i64 0, .string (tx [])]) (by simp -implicitDefEqProofs (disch := omega) only [Nat.reduceEqDiff, ↓reduceIte, vcu, ↓vcd, h2, l8, co26]) ⟨?_, rfl⟩
    simp -implicitDefEqProofs (disch := omega) only [Nat.reduceEqDiff, ↓reduceIte, vcu, ↓vcd]
    rw [hr]; rfl
   ·simp -implicitDefEqProofs (disch := omega) only [Nat.reduceEqDiff, ↓reduceIte, vcu, ↓vcd, h0, h2, h4, h5, aq, decide_eq_false hs0, l5, co26]
    refine (deedText_calls _ D hDt).mono ?_
    rintro _ _ ⟨rfl, rfl⟩
    by_cases hne : deedT D = s
    ·have hr : rdP s = (D, true) := by unfold rdP readO; rw [if_neg (by rw [hD]; exact fun h => h.elim hs0 fun h => h hne), hD]
     have dn : decide (deedT D = s) = true := decide_eq_true hne
     simp -implicitDefEqProofs (disch := omega) only [Nat.reduceEqDiff, ↓reduceIte, vcu, ↓vcd, opK_some, h0, h2, h4, h5, abin_sneq, dn, Bool.not_true, l5, co26]
     refine r_sets (g := c2) (i := 0) (C := [.int .i64 0, .int .i64 0, .string (tx [])]) (by simp -implicitDefEqProofs (disch := omega) only [Nat.reduceEqDiff, ↓reduceIte, vcu, ↓vcd, h0, h2, h4, h5]) z9co26 z9r z9z q2 z9l fun τ8 k8 e8 => ?_
     replace e8 : τ8 c2 = some ⟨[.int .i64 D.k, .int .i64 D.l, .string (tx D.t)], false⟩ := e8
     have l8 : lds τ8 c2 0 3 = some [.int .i64 D.k, .int .i64 D.l, .string (tx D.t)] := lds_three (ld_of e8 rfl) (ld_of e8 rfl) (ld_of e8 rfl)
     simp -implicitDefEqProofs (disch := omega) only [Nat.reduceEqDiff, ↓reduceIte, vcu, ↓vcd, h0, h2, h4, h5]
     refine fin_ct8 Tryd.results11 σ (k8.sub hs n2) (v := .agg #[.int .i64 D.k, .int .i64 D.l, .string (tx D.t)]) (by simp -implicitDefEqProofs (disch := omega) only [Nat.reduceEqDiff, ↓reduceIte, vcu, ↓vcd, h0, h2, h4, h5, l8, co26]) ⟨?_, rfl⟩
     simp -implicitDefEqProofs (disch := omega) only [Nat.reduceEqDiff, ↓reduceIte, vcu, ↓vcd]
     rw [hr]; rfl
    ·have hr : rdP s = (⟨0, 0, []⟩, false) := by unfold rdP readO; rw [if_pos (.inr (by rw [hD]; exact hne))]
     have dn : decide (deedT D = s) = false := decide_eq_false hne
     simp -implicitDefEqProofs (disch := omega) only [Nat.reduceEqDiff, ↓reduceIte, vcu, ↓vcd, opK_some, h0, h2, h4, h5, abin_sneq, dn, Bool.not_false]
     rw [r_build]
     refine ⟨(_, #[.int .i64 0, .int .i64 0, .string (tx [])]), ⟨ze26, by first | kernel_rfl | (simp -implicitDefEqProofs (disch := omega) only [Nat.reduceEqDiff, ↓reduceIte, vcu, ↓vcd]; kernel_rfl)⟩, ?_⟩
     simp -implicitDefEqProofs (disch := omega) only [Nat.reduceEqDiff, ↓reduceIte, vcu, ↓vcd, h2]
     refine r_sets (g := c2) (i := 0) (C := [.int .i64 0, .int .i64 0, .string (tx [])]) (by simp -implicitDefEqProofs (disch := omega) only [Nat.reduceEqDiff, ↓reduceIte, vcu, ↓vcd, h2]) z9co26 z9r z9z q2 z9l fun τ8 k8 e8 => ?_
     replace e8 : τ8 c2 = some ⟨[.int .i64 0, .int .i64 0, .string (tx [])], false⟩ := e8
     have l8 : lds τ8 c2 0 3 = some [.int .i64 0, .int .i64 0, .string (tx [])] := lds_three (ld_of e8 rfl) (ld_of e8 rfl) (ld_of e8 rfl)
     simp -implicitDefEqProofs (disch := omega) only [Nat.reduceEqDiff, ↓reduceIte, vcu, ↓vcd, h2]
     refine fin_ct8 Tryd.results11 σ (k8.sub hs n2) (v := .agg #[.int .i64 0, .int .i64 0, .string (tx [])]) (by simp -implicitDefEqProofs (disch := omega) only [Nat.reduceEqDiff, ↓reduceIte, vcu, ↓vcd, h2, l8, co26]) ⟨?_, rfl⟩
     simp -implicitDefEqProofs (disch := omega) only [Nat.reduceEqDiff, ↓reduceIte, vcu, ↓vcd]
     rw [hr]; rfl
  have lw2 : ld τ6 gw 2 = some (.string (tx ((cutT 32 s).getD 2 []))) := by have := textsAt_own qw 2 l2; simpa using this
  have i2 : Int.toNat 2 = 2 := rfl
  simp -implicitDefEqProofs (disch := omega) only [Nat.reduceEqDiff, ↓reduceIte, vcu, ↓vcd, h0, h2, h4, h5, h6, i2, lw2]
  refine r_set (g := c5) (i := 2) (by simp -implicitDefEqProofs (disch := omega) only [Nat.reduceEqDiff, ↓reduceIte, vcu, ↓vcd, h5]) z9r co9 z9r e6 (by show 2 < 3; omega) fun τ7 k7 e7 => ?_
  have eD : D = ⟨kdV w, rdN ((cutT 32 s).getD 1 []), (cutT 32 s).getD 2 []⟩ := by rw [← hD, ddW, hW, if_pos l1, if_pos l2]
  have q5 : τ7 c5 = some ⟨[.int .i64 D.k, .int .i64 D.l, .string (tx D.t)], false⟩ := by rw [e7, eD]; simp -implicitDefEqProofs (disch := omega) only [Nat.reduceEqDiff, ↓reduceIte, vcu, ↓vcd]; rfl
  replace hs := k7.sub hs nc5
  replace q2 := k7.at q2 d52
  clear eD
  simp -implicitDefEqProofs (disch := omega) only [Nat.reduceEqDiff, ↓reduceIte, vcu, ↓vcd, h0, h2, h4, h5, h6]
  have l5 : lds _ c5 0 3 = some [.int .i64 D.k, .int .i64 D.l, .string (tx D.t)] := lds_three (ld_of q5 rfl) (ld_of q5 rfl) (ld_of q5 rfl)
  have aq : abin Tryd.prog 9 .eql (.string (tx s)) (.string { data := #[] }) = some (.bool (decide (s = []))) := abin_seql (ys := [])
  by_cases hs0 : s = []
  ·have hr : rdP s = (⟨0, 0, []⟩, false) := by unfold rdP readO; rw [if_pos (.inl hs0)]
   simp -implicitDefEqProofs (disch := omega) only [Nat.reduceEqDiff, ↓reduceIte, vcu, ↓vcd, h0, h2, h4, h5, aq, decide_eq_true hs0]
   rw [r_build]
   refine ⟨(_, #[.int .i64 0, .int .i64 0, .string (tx [])]), ⟨ze26, by first | kernel_rfl | (simp -implicitDefEqProofs (disch := omega) only [Nat.reduceEqDiff, ↓reduceIte, vcu, ↓vcd]; kernel_rfl)⟩, ?_⟩
   simp -implicitDefEqProofs (disch := omega) only [Nat.reduceEqDiff, ↓reduceIte, vcu, ↓vcd, h2]
   refine r_sets (g := c2) (i := 0) (C := [.int .i64 0, .int .i64 0, .string (tx [])]) (by simp -implicitDefEqProofs (disch := omega) only [Nat.reduceEqDiff, ↓reduceIte, vcu, ↓vcd, h2]) z9co26 z9r z9z q2 z9l fun τ8 k8 e8 => ?_
   replace e8 : τ8 c2 = some ⟨[.int .i64 0, .int .i64 0, .string (tx [])], false⟩ := e8
   have l8 : lds τ8 c2 0 3 = some [.int .i64 0, .int .i64 0, .string (tx [])] := lds_three (ld_of e8 rfl) (ld_of e8 rfl) (ld_of e8 rfl)
   simp -implicitDefEqProofs (disch := omega) only [Nat.reduceEqDiff, ↓reduceIte, vcu, ↓vcd, h2]
   refine fin_ct8 Tryd.results11 σ (k8.sub hs n2) (v := .agg #[.int .i64 0, .int .i64 0, .string (tx [])]) (by simp -implicitDefEqProofs (disch := omega) only [Nat.reduceEqDiff, ↓reduceIte, vcu, ↓vcd, h2, l8, co26]) ⟨?_, rfl⟩
   simp -implicitDefEqProofs (disch := omega) only [Nat.reduceEqDiff, ↓reduceIte, vcu, ↓vcd]
   rw [hr]; rfl
  ·simp -implicitDefEqProofs (disch := omega) only [Nat.reduceEqDiff, ↓reduceIte, vcu, ↓vcd, h0, h2, h4, h5, aq, decide_eq_false hs0, l5, co26]
   refine (deedText_calls _ D hDt).mono ?_
   rintro _ _ ⟨rfl, rfl⟩
   by_cases hne : deedT D = s
   ·have hr : rdP s = (D, true) := by unfold rdP readO; rw [if_neg (by rw [hD]; exact fun h => h.elim hs0 fun h => h hne), hD]
    have dn : decide (deedT D = s) = true := decide_eq_true hne
    simp -implicitDefEqProofs (disch := omega) only [Nat.reduceEqDiff, ↓reduceIte, vcu, ↓vcd, opK_some, h0, h2, h4, h5, abin_sneq, dn, Bool.not_true, l5, co26]
    refine r_sets (g := c2) (i := 0) (C := [.int .i64 0, .int .i64 0, .string (tx [])]) (by simp -implicitDefEqProofs (disch := omega) only [Nat.reduceEqDiff, ↓reduceIte, vcu, ↓vcd, h0, h2, h4, h5]) z9co26 z9r z9z q2 z9l fun τ8 k8 e8 => ?_
    replace e8 : τ8 c2 = some ⟨[.int .i64 D.k, .int .i64 D.l, .string (tx D.t)], false⟩ := e8
    have l8 : lds τ8 c2 0 3 = some [.int .i64 D.k, .int .i64 D.l, .string (tx D.t)] := lds_three (ld_of e8 rfl) (ld_of e8 rfl) (ld_of e8 rfl)
    simp -implicitDefEqProofs (disch := omega) only [Nat.reduceEqDiff, ↓reduceIte, vcu, ↓vcd, h0, h2, h4, h5]
    refine fin_ct8 Tryd.results11 σ (k8.sub hs n2) (v := .agg #[.int .i64 D.k, .int .i64 D.l, .string (tx D.t)]) (by simp -implicitDefEqProofs (disch := omega) only [Nat.reduceEqDiff, ↓reduceIte, vcu, ↓vcd, h0, h2, h4, h5, l8, co26]) ⟨?_, rfl⟩
    simp -implicitDefEqProofs (disch := omega) only [Nat.reduceEqDiff, ↓reduceIte, vcu, ↓vcd]
    rw [hr]; rfl
   ·have hr : rdP s = (⟨0, 0, []⟩, false) := by unfold rdP readO; rw [if_pos (.inr (by rw [hD]; exact hne))]
    have dn : decide (deedT D = s) = false := decide_eq_false hne
    simp -implicitDefEqProofs (disch := omega) only [Nat.reduceEqDiff, ↓reduceIte, vcu, ↓vcd, opK_some, h0, h2, h4, h5, abin_sneq, dn, Bool.not_false]
    rw [r_build]
    refine ⟨(_, #[.int .i64 0, .int .i64 0, .string (tx [])]), ⟨ze26, by first | kernel_rfl | (simp -implicitDefEqProofs (disch := omega) only [Nat.reduceEqDiff, ↓reduceIte, vcu, ↓vcd]; kernel_rfl)⟩, ?_⟩
    simp -implicitDefEqProofs (disch := omega) only [Nat.reduceEqDiff, ↓reduceIte, vcu, ↓vcd, h2]
    refine r_sets (g := c2) (i := 0) (C := [.int .i64 0, .int .i64 0, .string (tx [])]) (by simp -implicitDefEqProofs (disch := omega) only [Nat.reduceEqDiff, ↓reduceIte, vcu, ↓vcd, h2]) z9co26 z9r z9z q2 z9l fun τ8 k8 e8 => ?_
    replace e8 : τ8 c2 = some ⟨[.int .i64 0, .int .i64 0, .string (tx [])], false⟩ := e8
    have l8 : lds τ8 c2 0 3 = some [.int .i64 0, .int .i64 0, .string (tx [])] := lds_three (ld_of e8 rfl) (ld_of e8 rfl) (ld_of e8 rfl)
    simp -implicitDefEqProofs (disch := omega) only [Nat.reduceEqDiff, ↓reduceIte, vcu, ↓vcd, h2]
    refine fin_ct8 Tryd.results11 σ (k8.sub hs n2) (v := .agg #[.int .i64 0, .int .i64 0, .string (tx [])]) (by simp -implicitDefEqProofs (disch := omega) only [Nat.reduceEqDiff, ↓reduceIte, vcu, ↓vcd, h2, l8, co26]) ⟨?_, rfl⟩
    simp -implicitDefEqProofs (disch := omega) only [Nat.reduceEqDiff, ↓reduceIte, vcu, ↓vcd]
    rw [hr]; rfl
end Go.Proofs.YtafkndnmhhjdhaaDoor
namespace Go.Proofs.YtafkndnmhhjdhaaDoor
open Go Go.Abs Go.RowKit Go.Dial
variable {w0 : World}
theorem rj_step {s w : List UInt8} {k : Nat} (h : k < s.length) : rj w (s.drop k) = if s.getD k 0 = 10 then (match readO w with | none => ([], 0) | some d => (d :: (rj [] (s.drop (k + 1))).1, w.length + 1 + (rj [] (s.drop (k + 1))).2)) else rj (w ++ [s.getD k 0]) (s.drop (k + 1)) := by
 rw [List.drop_eq_getElem_cons h, rj]
 have e : s.getD k 0 = s[k] := by simp [List.getD, h]
 rw [e]
 all_goals rfl
set_option maxRecDepth 8000 in
theorem readJrn_calls (σ : AHeap) (s : List UInt8) (hl : s.length ≤ 1048576) : ACall Tryd.prog w0 19 [.string (tx s)] σ fun r σ' => ∃ g, r = .tuple #[.slice (some ⟨g, 0, none⟩) (rj [] s).1.length 3, .int .i64 ((rj [] s).2 : Int)] ∧ Sub σ σ' ∧ σ' g = some ⟨dds (rj [] s).1, false⟩ ∧ σ g = none := by
 refine acall_go mixed Tryd.func19 rfl good19 fun pr => ?_
 simp -implicitDefEqProofs (disch := omega) only [Nat.reduceEqDiff, ↓reduceIte, vcu, ↓vcd]
 refine r_lit el36 (out := #[]) (by kernel_rfl) (by kernel_rfl) fun g0 τ0 n0 s0 v0 => ?_
 replace v0 : τ0 g0 = some ⟨dds [], false⟩ := v0
 simp -implicitDefEqProofs (disch := omega) only [Nat.reduceEqDiff, ↓reduceIte, vcu, ↓vcd]
 refine vc_loop_c mixed (by kernel_rfl) [0] (fun m a σ' => ∃ (k f g : Nat) (ds : List Dd), m + k = s.length ∧ f ≤ k ∧ a 6 = .int .i64 k ∧ a 5 = .int .i64 f ∧ a 4 = .slice (some ⟨g, 0, none⟩) ds.length 3 ∧ ds.length ≤ k ∧ Sub σ σ' ∧ σ' g = some ⟨dds ds, false⟩ ∧ σ g = none ∧ rj [] s = (ds ++ (rj ((s.drop f).take (k - f)) (s.drop k)).1, f + (rj ((s.drop f).take (k - f)) (s.drop k)).2)) s.length ⟨0, 0, g0, [], by simp, by omega, rfl, rfl, rfl, by simp, s0, v0, n0, by simp⟩ ?_
 rintro m a σ' hc ⟨k, f, g, ds, hk, hf, h6, h5, h4, hdl, hs, hg, hn, he⟩
 simp -implicitDefEqProofs (disch := omega) only [Nat.reduceEqDiff, ↓reduceIte, vcu, ↓vcd] at hc
 obtain ⟨h0, -⟩ := hc
 by_cases hlt : k < s.length
 ·have hb := u8_le (s.getD k 0)
  rw [rj_step hlt] at he
  by_cases hq : s.getD k 0 = 10
  ·rw [if_pos hq] at he
   have q1 : decide (((s.getD k 0).toNat : Int) = 10) = true := decide_eq_true (by rw [hq]; rfl)
   have hwl : ((s.drop f).take (k - f)).length = k - f := by rw [List.length_take, List.length_drop]; omega
   generalize hW : (s.drop f).take (k - f) = w at *
   simp -implicitDefEqProofs (disch := omega) only [Nat.reduceEqDiff, ↓reduceIte, vcu, ↓vcd, h0, h4, h5, h6, q1, Int.toNat_natCast, hW]
   refine (readDeed_calls σ' w (by omega)).mono ?_
   rintro _ _ ⟨rfl, rfl⟩
   rename_i σ'
   cases hr : readO w with
   | none =>
    have hP : rdP w = (⟨0, 0, []⟩, false) := by unfold rdP; rw [hr]
    rw [hr] at he
    simp only [List.append_nil, Nat.add_zero] at he
    rw [hP]
    unfold ddA
    simp -implicitDefEqProofs (disch := omega) only [Nat.reduceEqDiff, ↓reduceIte, vcu, ↓vcd, opK_some, List.getElem?_toArray, List.getElem?_cons_zero, List.getElem?_cons_succ]
    refine r_local (cs := #[.int .i64 0, .int .i64 0, .string (tx [])]) ze26 (by decide) z9q (by rw [co26]; rfl) rfl rfl (Nat.zero_lt_succ _) fun c7 τ3 n7 s3 e7 => ?_
    simp -implicitDefEqProofs (disch := omega) only [Nat.reduceEqDiff, ↓reduceIte, vcu, ↓vcd, h0, h4, h5, h6, Bool.not_false]
    refine fin_two Tryd.results19 ⟨g, ?_, hs.trans s3, by rw [he]; exact s3 _ _ hg, hn⟩
    simp -implicitDefEqProofs (disch := omega) only [Nat.reduceEqDiff, ↓reduceIte, vcu, ↓vcd, h4, h5]
    rw [he]
   | some d =>
    have hP : rdP w = (d, true) := by unfold rdP; rw [hr]
    rw [hr] at he
    simp only at he
    rw [hP]
    unfold ddA
    simp -implicitDefEqProofs (disch := omega) only [Nat.reduceEqDiff, ↓reduceIte, vcu, ↓vcd, opK_some, List.getElem?_toArray, List.getElem?_cons_zero, List.getElem?_cons_succ]
    refine r_local (cs := #[.int .i64 d.k, .int .i64 d.l, .string (tx d.t)]) ze26 (by decide) z9q (by rw [co26]; rfl) rfl rfl (Nat.zero_lt_succ _) fun c7 τ3 n7 s3 e7 => ?_
    replace e7 : τ3 c7 = some ⟨[.int .i64 d.k, .int .i64 d.l, .string (tx d.t)], false⟩ := e7
    have l7 : lds τ3 c7 0 3 = some [.int .i64 d.k, .int .i64 d.l, .string (tx d.t)] := lds_three (ld_of e7 rfl) (ld_of e7 rfl) (ld_of e7 rfl)
    simp -implicitDefEqProofs (disch := omega) only [Nat.reduceEqDiff, ↓reduceIte, vcu, ↓vcd, h0, h4, h5, h6, Bool.not_true, l7, co26]
    refine r_lit el36 (out := #[.int .i64 d.k, .int .i64 d.l, .string (tx d.t)]) (by simp -implicitDefEqProofs (disch := omega) only [Nat.reduceEqDiff, ↓reduceIte, vcu, ↓vcd]; kernel_rfl) (by kernel_rfl) fun g8 τ8 n8 s8 v8 => ?_
    replace v8 : τ8 g8 = some ⟨dds [d], false⟩ := v8
    refine r_pushD (g := g) (e := g8) (o := 0) (cs := ds) (ds := [d]) (m := 1) (len := ds.length) el36 (by omega) sl36 (by simp -implicitDefEqProofs (disch := omega) only [Nat.reduceEqDiff, ↓reduceIte, vcu, ↓vcd, h4]) (s8 _ _ (s3 _ _ hg)) rfl z9q (ddsAt_own v8) rfl (by omega) fun g9 τ9 n9 k9 v9 => ?_
    have hs9 : Sub σ τ9 := k9.sub ((hs.trans s3).trans s8) hn
    have hn9 := free_sub ((hs.trans s3).trans s8) n9
    simp -implicitDefEqProofs (disch := omega) only [Nat.reduceEqDiff, ↓reduceIte, vcu, ↓vcd, h6]
    refine ⟨by simp [h0], m - 1, by omega, k + 1, k + 1, g9, ds ++ [d], by omega, by omega, by simp, by simp, by simp, by simp; omega, hs9, v9, hn9, ?_⟩
    rw [he, hwl]
    refine Prod.ext (by simp) ?_
    simp only [Nat.sub_self, List.take_zero]
    omega
  ·rw [if_neg hq] at he
   have q1 : decide (((s.getD k 0).toNat : Int) = 10) = false := decide_eq_false fun h => hq (UInt8.toNat_inj.1 (by show _ = 10; omega))
   simp -implicitDefEqProofs (disch := omega) only [Nat.reduceEqDiff, ↓reduceIte, vcu, ↓vcd, h0, h4, h5, h6, q1]
   refine ⟨by simp [h0], m - 1, by omega, k + 1, f, g, ds, by omega, by omega, by simp, rfl, rfl, by omega, hs, hg, hn, ?_⟩
   have e2 : (s.drop f).take (k + 1 - f) = (s.drop f).take (k - f) ++ [s.getD k 0] := by
    rw [show k + 1 - f = (k - f) + 1 by omega, List.take_succ_eq_append_getElem (by rw [List.length_drop]; omega)]
    congr 2
    have : s.getD k 0 = s[k] := by simp [List.getD, hlt]
    rw [this, List.getElem_drop]
    congr 1; omega
   rw [he, e2]
 ·obtain rfl : k = s.length := by omega
  rw [List.drop_length] at he
  simp only [rj, List.append_nil, Nat.add_zero] at he
  simp -implicitDefEqProofs (disch := omega) only [Nat.reduceEqDiff, ↓reduceIte, vcu, ↓vcd, h0, h4, h5, h6]
  refine fin_two Tryd.results19 ⟨g, ?_, hs, by rw [he]; exact hg, hn⟩
  simp -implicitDefEqProofs (disch := omega) only [Nat.reduceEqDiff, ↓reduceIte, vcu, ↓vcd, h4, h5]
  rw [he]
end Go.Proofs.YtafkndnmhhjdhaaDoor
namespace Go.Proofs.YtafkndnmhhjdhaaDoor
open Go Go.Abs Go.RowKit Go.Dial
variable {w0 : World}
set_option maxRecDepth 8000 in
theorem eqDd_at (σ : AHeap) (c d : Dd) : ACall Tryd.prog w0 13 [ddA c, ddA d] σ fun r σ' => r = .bool (decide (c = d)) ∧ σ' = σ := by
 obtain ⟨A, B, C⟩ := c
 obtain ⟨D, E, F⟩ := d
 unfold ddA
 refine acall_go mixed Tryd.func13 rfl good13 fun pr => ?_
 simp -implicitDefEqProofs (disch := omega) only [Nat.reduceEqDiff, ↓reduceIte, vcu, ↓vcd]
 refine r_boxed fun b1 τ1 n1 s1 e1 => ?_
 replace e1 : τ1 b1 = some ⟨[.int .i64 A, .int .i64 B, .string (tx C)], false⟩ := e1
 refine r_boxed fun b2 τ2 n2 s2 e2 => ?_
 replace e2 : τ2 b2 = some ⟨[.int .i64 D, .int .i64 E, .string (tx F)], false⟩ := e2
 replace e1 := s2 _ _ e1
 have s12 := s1.trans s2
 have x0 : ld τ2 b1 0 = some (.int .i64 A) := ld_of e1 rfl
 have x1 : ld τ2 b1 1 = some (.int .i64 B) := ld_of e1 rfl
 have x2 : ld τ2 b1 2 = some (.string (tx C)) := ld_of e1 rfl
 have y0 : ld τ2 b2 0 = some (.int .i64 D) := ld_of e2 rfl
 have y1 : ld τ2 b2 1 = some (.int .i64 E) := ld_of e2 rfl
 have y2 : ld τ2 b2 2 = some (.string (tx F)) := ld_of e2 rfl
 by_cases h1 : A = D
 case neg =>
  have d1 : decide (A ≠ D) = true := decide_eq_true h1
  simp -implicitDefEqProofs (disch := omega) only [Nat.reduceEqDiff, ↓reduceIte, vcu, ↓vcd, x0, y0, d1]
  refine fin_drop Tryd.results13 σ s12 ⟨?_, rfl⟩
  simp -implicitDefEqProofs (disch := omega) only [Nat.reduceEqDiff, ↓reduceIte, vcu, ↓vcd]
  rw [decide_eq_false (by rintro e; cases e; exact h1 rfl)]
 have d1 : decide (A ≠ D) = false := decide_eq_false fun h => h h1
 by_cases h2 : B = E
 case neg =>
  have d2 : decide (B ≠ E) = true := decide_eq_true h2
  simp -implicitDefEqProofs (disch := omega) only [Nat.reduceEqDiff, ↓reduceIte, vcu, ↓vcd, x0, y0, d1, x1, y1, d2]
  refine fin_drop Tryd.results13 σ s12 ⟨?_, rfl⟩
  simp -implicitDefEqProofs (disch := omega) only [Nat.reduceEqDiff, ↓reduceIte, vcu, ↓vcd]
  rw [decide_eq_false (by rintro e; cases e; exact h2 rfl)]
 have d2 : decide (B ≠ E) = false := decide_eq_false fun h => h h2
 by_cases h3 : C = F
 ·simp -implicitDefEqProofs (disch := omega) only [Nat.reduceEqDiff, ↓reduceIte, vcu, ↓vcd, x0, y0, d1, x1, y1, d2, x2, y2, abin_sneq, decide_eq_true h3, Bool.not_true]
  refine fin_drop Tryd.results13 σ s12 ⟨?_, rfl⟩
  simp -implicitDefEqProofs (disch := omega) only [Nat.reduceEqDiff, ↓reduceIte, vcu, ↓vcd]
  rw [decide_eq_true (by rw [h1, h2, h3])]
 ·simp -implicitDefEqProofs (disch := omega) only [Nat.reduceEqDiff, ↓reduceIte, vcu, ↓vcd, x0, y0, d1, x1, y1, d2, x2, y2, abin_sneq, decide_eq_false h3, Bool.not_false]
  refine fin_drop Tryd.results13 σ s12 ⟨?_, rfl⟩
  simp -implicitDefEqProofs (disch := omega) only [Nat.reduceEqDiff, ↓reduceIte, vcu, ↓vcd]
  rw [decide_eq_false (by rintro e; cases e; exact h3 rfl)]
end Go.Proofs.YtafkndnmhhjdhaaDoor
namespace Go.Proofs.YtafkndnmhhjdhaaDoor
open Go Go.Abs Go.RowKit Go.Dial
variable {w0 : World}
theorem listD_eq {xs ys : List Dd} (hlen : xs.length = ys.length) (h : ∀ j, j < xs.length → xs.getD j dd0 = ys.getD j dd0) : xs = ys := by
 apply List.ext_getElem hlen
 intro i h1 h2
 have := h i h1
 simpa [List.getD, h1, h2] using this
set_option maxRecDepth 8000 in
theorem eqDds_at (σ : AHeap) (h o g p : Nat) (xs ys : List Dd) (hv : DdsAt σ h o xs) (hu : DdsAt σ g p ys) (hl : xs.length ≤ 1048576) (hl2 : ys.length ≤ 1048576) :
  ACall Tryd.prog w0 18 [.slice (some ⟨h, o, none⟩) xs.length 3, .slice (some ⟨g, p, none⟩) ys.length 3] σ fun r σ' => r = .bool (decide (xs = ys)) ∧ σ' = σ := by
 refine acall_go mixed Tryd.func18 rfl good18 fun pr => ?_
 by_cases hlen : xs.length = ys.length
 ·simp -implicitDefEqProofs (disch := omega) only [Nat.reduceEqDiff, ↓reduceIte, vcu, ↓vcd]
  refine vc_loop_c mixed (by kernel_rfl) [0, 1] (fun m a σ' => ∃ k : Nat, m + k = xs.length ∧ a 5 = .int .i64 k ∧ σ' = σ ∧ ∀ j, j < k → xs.getD j dd0 = ys.getD j dd0) xs.length ⟨0, by simp, rfl, rfl, by simp⟩ ?_
  rintro m a σ' hc ⟨k, hk, h5, rfl, he⟩
  simp -implicitDefEqProofs (disch := omega) only [Nat.reduceEqDiff, ↓reduceIte, vcu, ↓vcd] at hc
  obtain ⟨h0, h1, -⟩ := hc
  by_cases hlt : k < xs.length
  ·have hx := hv.all hlt
   have hy := hu.all (show k < ys.length by omega)
   generalize hcx : xs.getD k dd0 = c at hx
   generalize hcy : ys.getD k dd0 = d at hy
   obtain ⟨A, B, C⟩ := c
   obtain ⟨D, E, F⟩ := d
   unfold ddc at hx hy
   simp -implicitDefEqProofs (disch := omega) only [Nat.reduceEqDiff, ↓reduceIte, vcu, ↓vcd, h0, h1, h5, hx, hy, co26]
   rw [r_callq]
   refine ⟨_, eqDd_at _ ⟨A, B, C⟩ ⟨D, E, F⟩, ?_⟩
   by_cases hxy : (⟨A, B, C⟩ : Dd) = ⟨D, E, F⟩
   ·rw [decide_eq_true hxy]
    simp -implicitDefEqProofs (disch := omega) only [Nat.reduceEqDiff, ↓reduceIte, vcu, ↓vcd, h0, h1, h5]
    refine ⟨⟨trivial, trivial, trivial⟩, m - 1, by omega, k + 1, by omega, by simp, trivial, fun j hj => ?_⟩
    by_cases e : j = k
    ·subst e; rw [hcx, hcy]; exact hxy
    ·exact he j (by omega)
   ·rw [decide_eq_false hxy]
    simp -implicitDefEqProofs (disch := omega) only [Nat.reduceEqDiff, ↓reduceIte, vcu, ↓vcd, h0, h1, h5]
    refine fin_one Tryd.results18 ⟨?_, rfl⟩
    simp -implicitDefEqProofs (disch := omega) only [Nat.reduceEqDiff, ↓reduceIte, vcu, ↓vcd]
    have : xs ≠ ys := fun e => hxy (by rw [← hcx, ← hcy, e])
    simp [this]
  ·simp -implicitDefEqProofs (disch := omega) only [Nat.reduceEqDiff, ↓reduceIte, vcu, ↓vcd, h0, h1, h5]
   refine fin_one Tryd.results18 ⟨?_, rfl⟩
   simp -implicitDefEqProofs (disch := omega) only [Nat.reduceEqDiff, ↓reduceIte, vcu, ↓vcd]
   have : xs = ys := listD_eq hlen fun j hj => he j (by omega)
   simp [this]
 ·simp -implicitDefEqProofs (disch := omega) only [Nat.reduceEqDiff, ↓reduceIte, vcu, ↓vcd]
  refine fin_one Tryd.results18 ⟨?_, rfl⟩
  simp -implicitDefEqProofs (disch := omega) only [Nat.reduceEqDiff, ↓reduceIte, vcu, ↓vcd]
  have : xs ≠ ys := fun e => hlen (by rw [e])
  simp [this]
theorem eqDds_calls (σ : AHeap) (v u : Value) (xs ys : List Dd) (hv : Dds σ v xs) (hu : Dds σ u ys) (hl : xs.length ≤ 1048576) (hl2 : ys.length ≤ 1048576) :
  ACall Tryd.prog w0 18 [v, u] σ fun r σ' => r = .bool (decide (xs = ys)) ∧ σ' = σ :=
 ACall.dds_quiet (pre := []) (post := [u]) (by kernel_rfl) hv fun σ1 h o hs hg =>
  ACall.dds_quiet (pre := [_]) (post := []) (by kernel_rfl) (hu.sub hs) fun σ2 g p hs2 hg2 => eqDds_at σ2 h o g p xs ys (hg.sub hs2) hg2 hl hl2
end Go.Proofs.YtafkndnmhhjdhaaDoor
namespace Go.Proofs.YtafkndnmhhjdhaaDoor
open Go Go.Abs Go.RowKit Go.Dial
variable {w0 : World}
theorem dds_setk : ∀ (cs : List Dd) (i : Nat), i < cs.length → ∀ x : Int, (dds cs).set (i * 3) (.int .i64 x) = dds (cs.set i ⟨x, (cs.getD i dd0).l, (cs.getD i dd0).t⟩)
 | [], i, h, x => absurd h (by simp)
 | c :: cs, 0, _, x => rfl
 | c :: cs, i + 1, h, x => by
  have := dds_setk cs i (by simpa using h) x
  have e1 : (i + 1) * 3 = i * 3 + 3 := by omega
  rw [e1, dds_cons]
  simp only [List.set_cons_succ, List.getD_cons_succ, dds_cons]
  rw [this]
theorem dds_setl : ∀ (cs : List Dd) (i : Nat), i < cs.length → ∀ x : Int, (dds cs).set (i * 3 + 1) (.int .i64 x) = dds (cs.set i ⟨(cs.getD i dd0).k, x, (cs.getD i dd0).t⟩)
 | [], i, h, x => absurd h (by simp)
 | c :: cs, 0, _, x => rfl
 | c :: cs, i + 1, h, x => by
  have := dds_setl cs i (by simpa using h) x
  have e1 : (i + 1) * 3 + 1 = i * 3 + 1 + 3 := by omega
  rw [e1, dds_cons]
  simp only [List.set_cons_succ, List.getD_cons_succ, dds_cons]
  rw [this]
theorem dds_sett : ∀ (cs : List Dd) (i : Nat), i < cs.length → ∀ x : List UInt8, (dds cs).set (i * 3 + 2) (.string (tx x)) = dds (cs.set i ⟨(cs.getD i dd0).k, (cs.getD i dd0).l, x⟩)
 | [], i, h, x => absurd h (by simp)
 | c :: cs, 0, _, x => rfl
 | c :: cs, i + 1, h, x => by
  have := dds_sett cs i (by simpa using h) x
  have e1 : (i + 1) * 3 + 2 = i * 3 + 2 + 3 := by omega
  rw [e1, dds_cons]
  simp only [List.set_cons_succ, List.getD_cons_succ, dds_cons]
  rw [this]
set_option maxRecDepth 8000 in
theorem toDd_at (σ : AHeap) (c : Dd) : ACall Tryd.prog w0 9 [ddA c] σ fun r σ' => r = ddA c ∧ σ' = σ := by
 obtain ⟨A, B, C⟩ := c
 unfold ddA
 refine acall_goc mixed Tryd.func9 rfl goodc9 fun pr => ?_
 simp -implicitDefEqProofs (disch := omega) only [Nat.reduceEqDiff, ↓reduceIte, vcu, ↓vcd]
 refine r_boxed fun h1 τ1 n1 s1 e1 => ?_
 replace e1 : τ1 h1 = some ⟨[.int .i64 A, .int .i64 B, .string (tx C)], false⟩ := e1
 refine r_new ze26 fun h2 τ2 n2 s2 e2 => ?_
 replace e2 : τ2 h2 = some ⟨[.int .i64 0, .int .i64 0, .string (tx [])], false⟩ := e2
 simp -implicitDefEqProofs (disch := omega) only [Nat.reduceEqDiff, ↓reduceIte, vcu, ↓vcd]
 refine r_new ze26 fun h3 τ3 n3 s3 e3 => ?_
 replace e3 : τ3 h3 = some ⟨[.int .i64 0, .int .i64 0, .string (tx [])], false⟩ := e3
 have f1 := (s3 _ _ (s2 _ _ e1))
 have l0 : ld τ3 h1 0 = some (.int .i64 A) := ld_of f1 rfl
 have d2 := ne_of n3 e2
 have d1 := ne_of n3 (s2 _ _ e1)
 simp -implicitDefEqProofs (disch := omega) only [Nat.reduceEqDiff, ↓reduceIte, vcu, ↓vcd, l0]
 refine r_set (g := h3) (i := 0) z9q z9r co3 z9r e3 (by simp) fun τ4 k4 e4 => ?_
 replace e4 : τ4 h3 = some ⟨[.int .i64 A, .int .i64 0, .string (tx [])], false⟩ := e4
 have l1 : ld τ4 h1 1 = some (.int .i64 B) := ld_of (k4.at f1 d1.symm) rfl
 simp -implicitDefEqProofs (disch := omega) only [Nat.reduceEqDiff, ↓reduceIte, vcu, ↓vcd, l1]
 refine r_set (g := h3) (i := 1) z9q z9r co3 z9r e4 (by simp) fun τ5 k5 e5 => ?_
 replace e5 : τ5 h3 = some ⟨[.int .i64 A, .int .i64 B, .string (tx [])], false⟩ := e5
 have l2 : ld τ5 h1 2 = some (.string (tx C)) := ld_of (k5.at (k4.at f1 d1.symm) d1.symm) rfl
 simp -implicitDefEqProofs (disch := omega) only [Nat.reduceEqDiff, ↓reduceIte, vcu, ↓vcd, l2]
 refine r_set (g := h3) (i := 2) z9q z9r co9 z9r e5 (by simp) fun τ6 k6 e6 => ?_
 replace e6 : τ6 h3 = some ⟨[.int .i64 A, .int .i64 B, .string (tx C)], false⟩ := e6
 have l4 : lds τ6 h3 0 3 = some [.int .i64 A, .int .i64 B, .string (tx C)] := lds_three (ld_of e6 rfl) (ld_of e6 rfl) (ld_of e6 rfl)
 have f2 := k6.at (k5.at (k4.at (s3 _ _ e2) d2.symm) d2.symm) d2.symm
 simp -implicitDefEqProofs (disch := omega) only [Nat.reduceEqDiff, ↓reduceIte, vcu, ↓vcd, l4, co26]
 refine r_sets (g := h2) (i := 0) (C := [.int .i64 0, .int .i64 0, .string (tx [])]) z9q z9co26 z9r z9z f2 z9l fun τ7 k7 e7 => ?_
 replace e7 : τ7 h2 = some ⟨[.int .i64 A, .int .i64 B, .string (tx C)], false⟩ := e7
 have l5 : lds τ7 h2 0 3 = some [.int .i64 A, .int .i64 B, .string (tx C)] := lds_three (ld_of e7 rfl) (ld_of e7 rfl) (ld_of e7 rfl)
 simp -implicitDefEqProofs (disch := omega) only [Nat.reduceEqDiff, ↓reduceIte, vcu, ↓vcd]
 refine fin_cell Tryd.results9 σ ?_ (v := .agg #[.int .i64 A, .int .i64 B, .string (tx C)]) (by simp -implicitDefEqProofs (disch := omega) only [Nat.reduceEqDiff, ↓reduceIte, vcu, ↓vcd, l5, co26]) ⟨rfl, rfl⟩
 have q3 : Sub σ τ3 := s1.trans (s2.trans s3)
 have z3 : σ h3 = none := free_sub (s1.trans s2) n3
 have z2 : σ h2 = none := free_sub s1 n2
 exact k7.sub (k6.sub (k5.sub (k4.sub q3 z3) z3) z3) z2
end Go.Proofs.YtafkndnmhhjdhaaDoor
namespace Go.Proofs.YtafkndnmhhjdhaaDoor
open Go Go.Abs Go.RowKit
variable {w0 : World}
/-- the text of a number -/
def decT (w : Nat) : List UInt8 := if h : w = 0 then [] else decT (w / 10) ++ [UInt8.ofNat (48 + w % 10)]
theorem decT_zero : decT 0 = [] := by rw [decT]; simp
theorem decT_succ {w : Nat} (h : w ≠ 0) : decT w = decT (w / 10) ++ [UInt8.ofNat (48 + w % 10)] := by rw [decT, dif_neg h]
theorem decT_len (w : Nat) : (decT w).length ≤ w := by
 induction w using Nat.strongRecOn with
 | ind w ih =>
  by_cases h : w = 0
  ·subst h; rw [decT_zero]; simp
  ·rw [decT_succ h]
   have := ih (w / 10) (by omega)
   rw [List.length_append, List.length_singleton]; omega
def mkT (k : Int) : List UInt8 := if k ≤ 0 then [109, 48] else 109 :: decT k.toNat
theorem markText_calls (σ : AHeap) (k : Int) (hk : k ≤ 2147483648) : ACall Tryd.prog w0 34 [.int .i64 k] σ fun r σ' => r = .string (tx (mkT k)) ∧ σ' = σ := by
 refine acall_go mixed Tryd.func34 rfl good34 fun pr => ?_
 by_cases h0 : k ≤ 0
 ·simp -implicitDefEqProofs (disch := omega) only [Nat.reduceEqDiff, ↓reduceIte, vcu, ↓vcd]
  refine fin_one Tryd.results34 ⟨?_, rfl⟩
  simp -implicitDefEqProofs (disch := omega) only [Nat.reduceEqDiff, ↓reduceIte, vcu, ↓vcd]
  rw [mkT, if_pos h0]; rfl
 ·simp -implicitDefEqProofs (disch := omega) only [Nat.reduceEqDiff, ↓reduceIte, vcu, ↓vcd]
  refine vc_loop_c mixed (by kernel_rfl) [] (fun m a σ' => ∃ xs : List UInt8, a 0 = .int .i64 m ∧ m ≤ 2147483648 ∧ a 3 = .string (tx xs) ∧ decT m ++ xs = decT k.toNat ∧ Sub σ σ') k.toNat ⟨[], by rw [show ((k.toNat : Nat) : Int) = k by omega]; rfl, by omega, rfl, by simp, Sub.refl _⟩ ?_
  rintro m a σ' hc ⟨xs, h0', hm, h3, he, hs⟩
  clear hc
  have hlen := decT_len k.toNat
  rw [← he, List.length_append] at hlen
  by_cases hlt : 0 < m
  ·simp -implicitDefEqProofs (disch := omega) only [Nat.reduceEqDiff, ↓reduceIte, vcu, ↓vcd, h0', h3, conv_to_u8]
   refine r_lit el56 (out := #[.int .u8 (48 + (m % 10 : Nat))]) (by first | kernel_rfl | (simp -implicitDefEqProofs (disch := omega) only [Nat.reduceEqDiff, ↓reduceIte, vcu, ↓vcd]; kernel_rfl)) (by rfl) fun g τ n1 s1 v1 => ?_
   have l1 : lds τ g 0 1 = some ([((48 + (m % 10 : Nat) : Nat) : Int)].map (.int .u8)) := by
    rw [lds_of v1 (by simp)]; simp
   have hcv := aconvH_bytes (z := 1) Tryd.underlying56 Tryd.underlying5 Tryd.underlying9 l1
   have ha := abin_sadd (P := Tryd.prog) (t := 9) (xs := [UInt8.ofNat (48 + m % 10)]) (ys := xs) (by rw [List.length_singleton]; omega)
   simp -implicitDefEqProofs (disch := omega) only [Nat.reduceEqDiff, ↓reduceIte, vcu, ↓vcd, h0', h3, hcv, ha]
   refine ⟨trivial, m / 10, by omega, _, by simp, by omega, rfl, ?_, hs.trans s1⟩
   rw [← he, decT_succ (w := m) (by omega)]
   simp
  ·have e : m = 0 := by omega
   subst e
   rw [decT_zero, List.nil_append] at he
   have ha := abin_sadd (P := Tryd.prog) (t := 9) (xs := [109]) (ys := xs) (by rw [List.length_singleton]; omega)
   have hlit : (ByteArray.mk #[109]) = tx [109] := rfl
   simp -implicitDefEqProofs (disch := omega) only [Nat.reduceEqDiff, ↓reduceIte, vcu, ↓vcd, h0', h3, hlit, ha]
   refine fin_drop Tryd.results34 σ hs ⟨?_, rfl⟩
   simp -implicitDefEqProofs (disch := omega) only [Nat.reduceEqDiff, ↓reduceIte, vcu, ↓vcd]
   rw [mkT, if_neg h0, ← he]; rfl
end Go.Proofs.YtafkndnmhhjdhaaDoor
namespace Go.Proofs.YtafkndnmhhjdhaaDoor
open Go Go.Abs Go.RowKit Go.Dial
variable {w0 : World}
set_option maxRecDepth 8000 in
theorem szDd_at (σ : AHeap) (c : Dd) (z : Int) (hz : 0 ≤ z ∧ z ≤ 1048576) (hx : c.t.length ≤ 2 ^ 63 - 1) : ACall Tryd.prog w0 7 [ddA c, .int .i64 z] σ fun r σ' => r = .int .i64 (if z < c.t.length then -1 else z - c.t.length) ∧ σ' = σ := by
 obtain ⟨A, B, C⟩ := c
 unfold ddA
 dsimp only at hx ⊢
 refine acall_go mixed Tryd.func7 rfl good7 fun pr => ?_
 simp -implicitDefEqProofs (disch := omega) only [Nat.reduceEqDiff, ↓reduceIte, vcu, ↓vcd]
 refine r_boxed fun h1 τ1 n1 s1 e1 => ?_
 replace e1 : τ1 h1 = some ⟨[.int .i64 A, .int .i64 B, .string (tx C)], false⟩ := e1
 have a1 : ld τ1 h1 2 = some (.string (tx C)) := ld_of e1 rfl
 by_cases h : z < C.length
 ·simp -implicitDefEqProofs (disch := omega) only [Nat.reduceEqDiff, ↓reduceIte, vcu, ↓vcd, a1]
  refine fin_drop Tryd.results7 σ s1 ⟨?_, rfl⟩
  simp -implicitDefEqProofs (disch := omega) only [Nat.reduceEqDiff, ↓reduceIte, vcu, ↓vcd]
  rw [if_pos h]
 ·simp -implicitDefEqProofs (disch := omega) only [Nat.reduceEqDiff, ↓reduceIte, vcu, ↓vcd, a1]
  refine fin_drop Tryd.results7 σ s1 ⟨?_, rfl⟩
  simp -implicitDefEqProofs (disch := omega) only [Nat.reduceEqDiff, ↓reduceIte, vcu, ↓vcd]
  rw [if_neg h]
def markE (k : Int) (n : Nat) : List Dd := (List.range n).map fun (i : Nat) => ⟨k + 3 * i, k + 3 * i + 1, mkT (k + 3 * i + 2)⟩
theorem markE_length (k : Int) (n : Nat) : (markE k n).length = n := by simp [markE]
theorem markE_getD {n i : Nat} {k : Int} (h : i < n) : (markE k n).getD i dd0 = ⟨k + 3 * i, k + 3 * i + 1, mkT (k + 3 * i + 2)⟩ := by simp [markE, List.getD, h]
theorem markE_succ (n : Nat) (k : Int) : markE k (n + 1) = markE k n ++ [⟨k + 3 * n, k + 3 * n + 1, mkT (k + 3 * n + 2)⟩] := by simp [markE, List.range_succ]
theorem setD_drop (A xs : List Dd) (v : Dd) {i : Nat} (hA : A.length = i) (h : i < xs.length) : (A ++ xs.drop i).set i v = A ++ [v] ++ xs.drop (i + 1) := by
 rw [List.set_append_right _ _ (by omega), hA, Nat.sub_self, List.drop_eq_getElem_cons h, List.set_cons_zero, List.append_assoc]; rfl
theorem setD_mid (A D : List Dd) (u v : Dd) {i : Nat} (hA : A.length = i) : (A ++ [u] ++ D).set i v = A ++ [v] ++ D ∧ (A ++ [u] ++ D).getD i dd0 = u := by
 subst hA
 refine ⟨?_, by simp [List.getD]⟩
 rw [List.append_assoc, List.set_append_right _ _ (Nat.le_refl _), Nat.sub_self, List.singleton_append, List.set_cons_zero, List.append_assoc]; rfl
set_option maxRecDepth 8000 in
theorem markE_own (σ : AHeap) (g : Nat) (cs : List Dd) (k : Int) (hg : σ g = some ⟨dds cs, false⟩) (hl : cs.length ≤ 1048576) (hk : 0 ≤ k ∧ k ≤ 1073741824) :
  ACall Tryd.prog w0 21 [.slice (some ⟨g, 0, none⟩) cs.length 3, .int .i64 k] σ fun r σ' => r = .int .i64 (k + 3 * cs.length) ∧ Kept g σ σ' ∧ σ' g = some ⟨dds (markE k cs.length), false⟩ := by
 refine acall_go mixed Tryd.func21 rfl good21 fun pr => ?_
 simp -implicitDefEqProofs (disch := omega) only [Nat.reduceEqDiff, ↓reduceIte, vcu, ↓vcd]
 refine vc_loop_c mixed (by kernel_rfl) [0] (fun m a σ' => ∃ i : Nat, m + i = cs.length ∧ a 1 = .int .i64 (k + 3 * i) ∧ a 5 = .int .i64 i ∧ Kept g σ σ' ∧ σ' g = some ⟨dds (markE k i ++ cs.drop i), false⟩) cs.length ⟨0, by simp, by simp [fset, aenter], rfl, Kept.refl _ _, by simpa [markE] using hg⟩ ?_
 rintro m a σ' hc ⟨i, hi, h1, h5, hkp, hgk⟩
 simp -implicitDefEqProofs (disch := omega) only [Nat.reduceEqDiff, ↓reduceIte, vcu, ↓vcd] at hc
 obtain ⟨h0, -⟩ := hc
 by_cases hlt : i < cs.length
 ·have hl2 : (markE k i ++ cs.drop i).length = cs.length := by simp [markE_length]; omega
  have hml := markE_length k i
  have hl3 : ∀ u : Dd, (markE k i ++ [u] ++ cs.drop (i + 1)).length = cs.length := fun u => by simp [markE_length]; omega
  simp -implicitDefEqProofs (disch := omega) only [Nat.reduceEqDiff, ↓reduceIte, vcu, ↓vcd, h0, h1, h5]
  refine r_set (g := g) (i := i * 3) (by simp -implicitDefEqProofs (disch := omega) only [Nat.reduceEqDiff, ↓reduceIte, vcu, ↓vcd, Nat.zero_add, Nat.add_zero]) z9r co3 z9r hgk (by rw [dds_length, hl2]; omega) fun τ1 k1 e1 => ?_
  simp -implicitDefEqProofs (disch := omega) only [Nat.reduceEqDiff, ↓reduceIte, vcu, ↓vcd] at e1
  rw [dds_setk _ i (by omega) _, setD_drop _ _ _ hml hlt] at e1
  generalize (markE k i ++ cs.drop i).getD i dd0 = c at e1
  simp -implicitDefEqProofs (disch := omega) only [Nat.reduceEqDiff, ↓reduceIte, vcu, ↓vcd, h0, h1, h5]
  refine r_set (g := g) (i := i * 3 + 1) (by simp -implicitDefEqProofs (disch := omega) only [Nat.reduceEqDiff, ↓reduceIte, vcu, ↓vcd, Nat.zero_add]) z9r co3 z9r e1 (by rw [dds_length, hl3]; omega) fun τ2 k2 e2 => ?_
  simp -implicitDefEqProofs (disch := omega) only [Nat.reduceEqDiff, ↓reduceIte, vcu, ↓vcd] at e2
  rw [dds_setl _ i (by rw [hl3]; omega) _, (setD_mid _ _ _ _ hml).1, (setD_mid _ _ _ dd0 hml).2] at e2
  dsimp only at e2
  simp -implicitDefEqProofs (disch := omega) only [Nat.reduceEqDiff, ↓reduceIte, vcu, ↓vcd, h0, h1, h5]
  refine (markText_calls _ (k + 3 * i + 1 + 1) (by omega)).mono ?_
  rintro r _ ⟨rfl, rfl⟩
  simp -implicitDefEqProofs (disch := omega) only [Nat.reduceEqDiff, ↓reduceIte, vcu, ↓vcd, opK_some, h0, h1, h5]
  refine r_set (g := g) (i := i * 3 + 2) (by simp -implicitDefEqProofs (disch := omega) only [Nat.reduceEqDiff, ↓reduceIte, vcu, ↓vcd, Nat.zero_add]) z9r co9 z9r e2 (by rw [dds_length, hl3]; omega) fun τ3 k3 e3 => ?_
  simp -implicitDefEqProofs (disch := omega) only [Nat.reduceEqDiff, ↓reduceIte, vcu, ↓vcd] at e3
  rw [dds_sett _ i (by rw [hl3]; omega) _, (setD_mid _ _ _ _ hml).1, (setD_mid _ _ _ dd0 hml).2] at e3
  dsimp only at e3
  have hsn := markE_succ i k
  rw [show k + 3 * (i : Int) + 1 + 1 = k + 3 * i + 2 by omega, ← hsn] at e3
  simp -implicitDefEqProofs (disch := omega) only [Nat.reduceEqDiff, ↓reduceIte, vcu, ↓vcd, h0, h1, h5]
  refine ⟨⟨trivial, trivial⟩, m - 1, by omega, i + 1, by omega, ?_, by simp, ((hkp.trans k1).trans k2).trans k3, e3⟩
  congr 1; omega
 ·simp -implicitDefEqProofs (disch := omega) only [Nat.reduceEqDiff, ↓reduceIte, vcu, ↓vcd, h0, h1, h5]
  have e : i = cs.length := by omega
  subst e
  refine fin_one Tryd.results21 ⟨?_, hkp, by simpa using hgk⟩
  simp -implicitDefEqProofs (disch := omega) only [Nat.reduceEqDiff, ↓reduceIte, vcu, ↓vcd, h1]
set_option maxRecDepth 8000 in
theorem heldE_at (σ : AHeap) (g o n : Nat) (k : Int) (hv : DdsAt σ g o (markE k n)) (hl : n ≤ 1048576) (hk : 0 ≤ k ∧ k ≤ 1073741824) :
  ACall Tryd.prog w0 22 [.slice (some ⟨g, o, none⟩) n 3, .int .i64 k] σ fun r σ' => r = .int .i64 (k + 3 * n) ∧ σ' = σ := by
 refine acall_go mixed Tryd.func22 rfl good22 fun pr => ?_
 simp -implicitDefEqProofs (disch := omega) only [Nat.reduceEqDiff, ↓reduceIte, vcu, ↓vcd]
 refine vc_loop_c mixed (by kernel_rfl) [0] (fun m a σ' => ∃ i : Nat, m + i = n ∧ a 1 = .int .i64 (k + 3 * i) ∧ a 5 = .int .i64 i ∧ σ' = σ) n ⟨0, by simp, by simp [fset, aenter], rfl, rfl⟩ ?_
 rintro m a σ' hc ⟨i, hi, h1, h5, rfl⟩
 simp -implicitDefEqProofs (disch := omega) only [Nat.reduceEqDiff, ↓reduceIte, vcu, ↓vcd] at hc
 obtain ⟨h0, -⟩ := hc
 by_cases hlt : i < n
 ·obtain ⟨q1, q2, q3⟩ := hv i (by rw [markE_length]; exact hlt)
  rw [markE_getD hlt] at q1 q2 q3
  dsimp only at q1 q2 q3
  have hk2 : k + 3 * (i : Int) + 1 + 1 = k + 3 * i + 2 := by omega
  simp -implicitDefEqProofs (disch := omega) only [Nat.reduceEqDiff, ↓reduceIte, vcu, ↓vcd, h0, h1, h5, q1, q2, q3, Nat.add_zero, eq_self, ne_eq, not_true_eq_false, decide_false]
  rw [r_callq]
  refine ⟨_, markText_calls _ (k + 3 * i + 1 + 1) (by omega), ?_⟩
  simp -implicitDefEqProofs (disch := omega) only [Nat.reduceEqDiff, ↓reduceIte, vcu, ↓vcd, h0, h1, h5, q3, hk2, Nat.add_zero, eq_self, decide_true, Bool.not_true]
  refine ⟨⟨trivial, trivial⟩, m - 1, by omega, i + 1, by omega, ?_, by simp, trivial⟩
  congr 1; omega
 ·simp -implicitDefEqProofs (disch := omega) only [Nat.reduceEqDiff, ↓reduceIte, vcu, ↓vcd, h0, h1, h5]
  have e : i = n := by omega
  subst e
  refine fin_one Tryd.results22 ⟨?_, rfl⟩
  simp -implicitDefEqProofs (disch := omega) only [Nat.reduceEqDiff, ↓reduceIte, vcu, ↓vcd, h1]
theorem markE_calls (β σ : AHeap) (v : Value) (cs : List Dd) (k : Int) (hv : OwnD β σ v cs) (hl : cs.length ≤ 1048576) (hk : 0 ≤ k ∧ k ≤ 1073741824) :
  ACall Tryd.prog w0 21 [v, .int .i64 k] σ fun r σ' => r = .int .i64 (k + 3 * cs.length) ∧ OwnD β σ' v (markE k cs.length) ∧ (∀ h ob, β h = some ob → σ h = some ob → σ' h = some ob) := by
 rcases hv with ⟨rfl, rfl⟩ | ⟨g, rfl, hg, hn⟩
 ·refine ACall.nil_arg (pre := []) (z := 3) (by kernel_rfl) fun g hg => ?_
  refine (markE_own _ g [] k (AHeap.upd_same _ _ _) (by simp) hk).mono ?_
  rintro r σ' ⟨rfl, h1, h2⟩
  exact ⟨rfl, .inl ⟨rfl, rfl⟩, fun h ob _ e => h1 h ob (ne_of' hg e) (sub_upd hg h ob e)⟩
 ·refine (markE_own σ g cs k hg hl hk).mono ?_
  rintro r σ' ⟨rfl, h1, h2⟩
  exact ⟨rfl, .inr ⟨g, by rw [markE_length], h2, hn⟩, fun h ob hb e => h1 h ob (ne_of' hn hb) e⟩
theorem heldE_calls (σ : AHeap) (v : Value) (n : Nat) (k : Int) (hv : Dds σ v (markE k n)) (hl : n ≤ 1048576) (hk : 0 ≤ k ∧ k ≤ 1073741824) :
  ACall Tryd.prog w0 22 [v, .int .i64 k] σ fun r σ' => r = .int .i64 (k + 3 * n) ∧ σ' = σ :=
 ACall.dds_quiet (pre := []) (by kernel_rfl) hv fun σ1 g o _ hg => by
  rw [markE_length]; exact heldE_at σ1 g o n k hg hl hk
end Go.Proofs.YtafkndnmhhjdhaaDoor
namespace Go.Proofs.YtafkndnmhhjdhaaDoor
open Go Go.Abs Go.RowKit
variable {w0 : World}
/-- a number of a plan -/
def PRow (ps : List (List UInt8)) (k : Nat) : Prop := DgT (ps.getD k []) ∧ (1 ≤ (ps.getD k []).length ∧ (ps.getD k []).length ≤ 3) ∧ ∀ j, j < ps.length → j ≠ k → ¬Beg (ps.getD k []) (ps.getD j [])
def PlanOk (ps : List (List UInt8)) : Prop := (∀ k, k < ps.length → PRow ps k) ∧ ps.length ≤ 10
end Go.Proofs.YtafkndnmhhjdhaaDoor
namespace Go.Proofs.YtafkndnmhhjdhaaDoor
open Go Go.Abs Go.RowKit
variable {w0 : World}
/-- the first from k on of which it holds -/
def fstN (p : Nat → Bool) : Nat → Nat → Option Nat
 | _, 0 => none
 | k, m + 1 => if p k = true then some k else fstN p (k + 1) m
end Go.Proofs.YtafkndnmhhjdhaaDoor
namespace Go.Proofs.YtafkndnmhhjdhaaDoor
open Go Go.Abs Go.RowKit
def shr : List Int → Int
 | [] => 0
 | l :: ls => 4 ^ (3 - l).toNat + shr ls
end Go.Proofs.YtafkndnmhhjdhaaDoor
namespace Go.Proofs.YtafkndnmhhjdhaaDoor
open Go Go.Abs Go.RowKit
/-- the length at a place; its share -/
def lnA (xs : List Int) (i : Nat) : Nat := (xs.getD i 0).toNat
/-- which numbers are found before -/
def dn (xs : List Int) (L k i : Nat) : Prop := lnA xs i ≤ L ∨ (lnA xs i = L + 1 ∧ i < k)
end Go.Proofs.YtafkndnmhhjdhaaDoor
namespace Go.Clos
structure Sp where
 O : Int
 E : Int
 M : Int
deriving DecidableEq
def SV (s : Sp) : Prop := (1 ≤ s.O ∧ s.O ≤ 4) ∧ (1 ≤ s.E ∧ s.E ≤ 3) ∧ (1 ≤ s.M ∧ s.M ≤ 5)
def Rg (s : Sp) (c : Cl) : Prop := (0 ≤ c.i ∧ c.i ≤ s.O * s.E - 1) ∧ (0 ≤ c.o ∧ c.o ≤ s.O * s.E - 1) ∧ (0 ≤ c.v ∧ c.v ≤ s.M - 1)
/-- two calls that are not possible at the same time -/
def Hit (s : Sp) (c d : Cl) : Prop := c.i = d.i ∨ c.o = d.o ∨ c.v = d.v ∧ (c.i / s.E = d.i / s.E ∨ c.o / s.E = d.o / s.E)
def CV (s : Sp) (cs : List Cl) : Prop := SV s ∧ (∀ c ∈ cs, Rg s c) ∧ cs.Pairwise fun d c => ¬ Hit s c d
section
variable {s : Sp} {cs : List Cl} (h : CV s cs)
include h
end
/-- the middle switches that the calls of an outer switch use -/
def usedI (s : Sp) (cs : List Cl) (x : Int) : List Int := (cs.filter fun c => c.i / s.E = x).map (·.v)
def usedO (s : Sp) (cs : List Cl) (x : Int) : List Int := (cs.filter fun c => c.o / s.E = x).map (·.v)
/-- the first middle switch that is not used -/
def firstN (used : List Int) : Nat → Nat → Int
 | 0, _ => -1
 | n + 1, k => if (k : Int) ∈ used then firstN used n (k + 1) else k
/-- a line has a call -/
def Busy (cs : List Cl) (i o : Int) : Prop := ∃ c ∈ cs, c.i = i ∨ c.o = o
def Lines (s : Sp) (i o : Int) : Prop := (0 ≤ i ∧ i ≤ s.O * s.E - 1) ∧ (0 ≤ o ∧ o ≤ s.O * s.E - 1)
def Enough (s : Sp) : Prop := SV s ∧ s.E ≤ s.M
end Go.Clos
namespace Go.Clos
def gc (cs : List Cl) (k : Nat) : Cl := cs.getD k Go.Abs.cl0
/-- the outer switch of a call on a side (true: of its output) -/
def sw (s : Sp) (sd : Bool) (c : Cl) : Int := bif sd then c.o / s.E else c.i / s.E
def AtC (s : Sp) (sd : Bool) (x w : Int) (c : Cl) : Prop := sw s sd c = x ∧ c.v = w
instance (s : Sp) (sd : Bool) (x w : Int) (c : Cl) : Decidable (AtC s sd x w c) := by unfold AtC; infer_instance
/-- the last of the first n calls at an outer switch through a middle switch that is not in the chain -/
def nxt (s : Sp) (cs : List Cl) (ch : List Nat) (sd : Bool) (x w : Int) : Nat → Option Nat
 | 0 => none
 | n + 1 => if AtC s sd x w (gc cs n) ∧ n ∉ ch then some n else nxt s cs ch sd x w n
def wantOf (a b : Int) (sd : Bool) : Int := bif sd then a else b
/-- the chain -/
def go (s : Sp) (cs : List Cl) (a b : Int) : Nat → List Nat → Bool → Int → List Nat
 | 0, ch, _, _ => ch
 | f + 1, ch, sd, x => match nxt s cs ch sd x (wantOf a b sd) cs.length with
  | none => ch
  | some k => go s cs a b f (ch ++ [k]) (!sd) (sw s (!sd) (gc cs k))
section
variable {s : Sp} {cs : List Cl} {a b B : Int} (h : CV s cs) (hab : a ≠ b) (hB : ∀ l, l < cs.length → sw s true (gc cs l) = B → (gc cs l).v ≠ b)
include h hab hB
end
end Go.Clos
namespace Go.Clos
def wayB (s : Sp) (cs : List Cl) (o : Int) : Int := firstN (usedO s cs (o / s.E)) s.M.toNat 0
section
variable {s : Sp} {cs : List Cl} {i o : Int} (hs : Enough s) (h : CV s cs) (hl : Lines s i o) (hb : ¬ Busy cs i o)
include hs h hl hb
end
end Go.Clos
namespace Go.Proofs.YtafkndnmhhjdhaaDoor
open Go Go.Abs Go.RowKit Go.Dial Go.Clos
/-- an exchange -/
structure Ex where
 s : Sp
 ps : List (List UInt8)
 cs : List Cl
deriving DecidableEq
/-- nobody's input is an output -/
def SepC (cs : List Cl) : Prop := ∀ c ∈ cs, ∀ d ∈ cs, c.i ≠ d.o
def ExOk (e : Ex) : Prop := Enough e.s ∧ PlanOk e.ps ∧ (e.ps.length : Int) = e.s.O * e.s.E ∧ CV e.s e.cs ∧ SepC e.cs
/-- connected -/
def Pr (cs : List Cl) (x y : Int) : Prop := ∃ c ∈ cs, (c.i = x ∧ c.o = y) ∨ (c.o = x ∧ c.i = y)
/-- the peer of a line: the first call that has it -/
def peerS : List Cl → Int → Int
 | [], _ => -1
 | c :: cs, x => if c.i = x then c.o else if c.o = x then c.i else peerS cs x
section
variable {s : Sp} {cs : List Cl} (h : CV s cs) (hs : SepC cs)
include h hs
end
end Go.Proofs.YtafkndnmhhjdhaaDoor
namespace Go.Proofs.YtafkndnmhhjdhaaDoor
open Go Go.Abs Go.RowKit Go.Dial Go.Clos
def lineS (ps : List (List UInt8)) (t : List UInt8) : Int := match fstN (fun k => decide (ps.getD k [] = t)) 0 ps.length with | some k => k | none => -1
/-- what a deed that was done has done -/
structure Did (e : Ex) (d : Dd) (x : Ex) : Prop where
 ok : ExOk x
 s : x.s = e.s
 len : x.ps.length = e.ps.length
 ne : x ≠ e
 line : 0 ≤ d.l ∧ d.l < e.ps.length
 call : d.k = 0 → x.ps = e.ps ∧ (0 ≤ lineS e.ps d.t ∧ lineS e.ps d.t ≠ d.l) ∧ (∀ a b, Pr x.cs a b ↔ Pr e.cs a b ∨ (a = d.l ∧ b = lineS e.ps d.t) ∨ (a = lineS e.ps d.t ∧ b = d.l)) ∧ (∀ y, ¬ Pr e.cs d.l y) ∧ ∀ y, ¬ Pr e.cs (lineS e.ps d.t) y
 drop : d.k = 1 → x.ps = e.ps ∧ Pr e.cs d.l (peerS e.cs d.l) ∧ ∀ a b, Pr x.cs a b ↔ Pr e.cs a b ∧ a ≠ d.l ∧ a ≠ peerS e.cs d.l
 num : d.k = 2 → x.cs = e.cs
 kind : d.k = 0 ∨ d.k = 1 ∨ d.k = 2
section
variable {e x : Ex} {d : Dd} (h : ExOk e) (D : Did e d x)
include h D
end
end Go.Proofs.YtafkndnmhhjdhaaDoor
namespace Go.Proofs.YtafkndnmhhjdhaaDoor
open Go Go.Abs Go.RowKit Go.Dial Go.Clos
def w_no : List UInt8 := [110, 111]
def w_wrong : List UInt8 := [119, 114, 111, 110, 103]
def w_busy : List UInt8 := [98, 117, 115, 121]
def refuse (e : Ex) (d : Dd) : List UInt8 := if d.k ≠ 0 ∨ (e.ps.length : Int) ≤ d.l then w_no else if lineS e.ps d.t < 0 then w_wrong else w_busy
end Go.Proofs.YtafkndnmhhjdhaaDoor
namespace Go.Proofs.YtafkndnmhhjdhaaDoor
open Go Go.Abs Go.RowKit Go.Dial Go.Clos
variable {w0 : World}
/-- from τ to τ' all stays but what was made between β and σ -/
def Kp (β σ τ τ' : AHeap) : Prop := ∀ h ob, τ h = some ob → (β h ≠ none ∨ σ h = none) → τ' h = some ob
theorem Kp.sub {β σ τ τ' : AHeap} (k : Kp β σ τ τ') {α : AHeap} (h : Sub α β) (ht : Sub α τ) : Sub α τ' := fun i ob e => k i ob (ht i ob e) (.inl (by rw [h i ob e]; exact Option.some_ne_none _))
theorem markD_kp (β σ τ : AHeap) (v : Value) (cs : List Dd) (k : Int) (h0 : OwnD β σ v cs) (hv : OwnD β τ v cs) (hl : cs.length ≤ 1048576) (hk : 0 ≤ k ∧ k ≤ 1073741824) :
  ACall Tryd.prog w0 21 [v, .int .i64 k] τ fun r τ' => r = .int .i64 (k + 3 * cs.length) ∧ OwnD β τ' v (markE k cs.length) ∧ Kp β σ τ τ' := by
 rcases hv with ⟨rfl, rfl⟩ | ⟨g, rfl, hg, hn⟩
 ·refine (markE_calls τ τ _ [] k (.inl ⟨rfl, rfl⟩) hl hk).mono ?_
  rintro r τ' ⟨h1, h2, h3⟩
  refine ⟨h1, ?_, fun h ob e _ => h3 h ob e e⟩
  rcases h2 with h2 | ⟨g, e, _⟩
  ·exact .inl h2
  ·cases e
 ·refine (markE_own τ g cs k hg hl hk).mono ?_
  rintro r τ' ⟨rfl, h1, h2⟩
  refine ⟨rfl, .inr ⟨g, by rw [markE_length], h2, hn⟩, fun h ob e hc => h1 h ob ?_ e⟩
  rintro rfl
  rcases hc with hc | hc
  ·exact hc hn
  ·rcases h0 with ⟨h0, _⟩ | ⟨g0, e0, hg0, _⟩
   ·cases h0
   ·cases e0; rw [hg0] at hc; cases hc
end Go.Proofs.YtafkndnmhhjdhaaDoor
namespace Go.Proofs.YtafkndnmhhjdhaaDoor
open Go Go.Abs Go.RowKit Go.Dial
variable {w0 : World}
theorem abin_uge {t : TypeId} {a b : Int} : abin Tryd.prog t .geq (.int .u8 a) (.int .u8 b) = some (.bool (decide (a ≥ b))) := by simp [abin]
theorem implDg_calls (σ : AHeap) (xs : List UInt8) (hl : xs.length ≤ 1048576) : ACall Tryd.prog w0 36 [.string (tx xs)] σ fun r σ' => r = .bool (decide (DgT xs)) ∧ σ' = σ := by
 refine acall_go mixed Tryd.func36 rfl good36 fun pr => ?_
 simp -implicitDefEqProofs (disch := omega) only [Nat.reduceEqDiff, ↓reduceIte, vcu, ↓vcd]
 refine vc_loop_c mixed (by kernel_rfl) [0, 5] (fun m a σ' => ∃ k : Nat, m + k = xs.length ∧ a 6 = .int .i64 k ∧ (∀ j, j < k → 48 ≤ (xs.getD j 0).toNat ∧ (xs.getD j 0).toNat ≤ 51) ∧ σ' = σ) xs.length ⟨0, by simp, rfl, fun j hj => absurd hj (by omega), rfl⟩ ?_
 rintro m a σ' hc ⟨k, hk, h6, hd, rfl⟩
 simp -implicitDefEqProofs (disch := omega) only [Nat.reduceEqDiff, ↓reduceIte, vcu, ↓vcd] at hc
 obtain ⟨h0, h5, -⟩ := hc
 by_cases hlt : k < xs.length
 ·have hb := u8_le (xs.getD k 0)
  by_cases hlo : ((xs.getD k 0).toNat : Int) < 48
  ·have hn : ¬DgT xs := fun h => by have := h.at hlt; omega
   simp -implicitDefEqProofs (disch := omega) only [Nat.reduceEqDiff, ↓reduceIte, vcu, ↓vcd, h0, h5, h6, abin_ulss, abin_uge]
   refine fin_one Tryd.results36 ⟨?_, rfl⟩
   simp -implicitDefEqProofs (disch := omega) only [Nat.reduceEqDiff, ↓reduceIte, vcu, ↓vcd]
   simp [hn]
  ·by_cases hhi : ((xs.getD k 0).toNat : Int) ≥ 52
   ·have hn : ¬DgT xs := fun h => by have := h.at hlt; omega
    simp -implicitDefEqProofs (disch := omega) only [Nat.reduceEqDiff, ↓reduceIte, vcu, ↓vcd, h0, h5, h6, abin_ulss, abin_uge]
    refine fin_one Tryd.results36 ⟨?_, rfl⟩
    simp -implicitDefEqProofs (disch := omega) only [Nat.reduceEqDiff, ↓reduceIte, vcu, ↓vcd]
    simp [hn]
   ·simp -implicitDefEqProofs (disch := omega) only [Nat.reduceEqDiff, ↓reduceIte, vcu, ↓vcd, h0, h5, h6, abin_ulss, abin_uge]
    refine ⟨⟨trivial, trivial, trivial⟩, m - 1, by omega, k + 1, by omega, by simp, fun j hj => ?_, trivial⟩
    by_cases hjk : j = k
    ·subst hjk; exact ⟨by omega, by omega⟩
    ·exact hd j (by omega)
 ·simp -implicitDefEqProofs (disch := omega) only [Nat.reduceEqDiff, ↓reduceIte, vcu, ↓vcd, h0, h5, h6]
  have e : k = xs.length := by omega
  refine fin_one Tryd.results36 ⟨?_, rfl⟩
  simp -implicitDefEqProofs (disch := omega) only [Nat.reduceEqDiff, ↓reduceIte, vcu, ↓vcd]
  subst e
  simp [dgT_of hd]
end Go.Proofs.YtafkndnmhhjdhaaDoor
namespace Go.Proofs.YtafkndnmhhjdhaaDoor
open Go Go.Abs Go.RowKit Go.Dial Go.Clos
variable {w0 : World}
section
variable {P : Program} {w0 : Base} {a : AFrame} {σ : AHeap} {K : AK} {all os : List Oper} {d : Nat} {ty : TypeId} {pos : String} {af : Array Edge}
/-- append to a row of one's own, or to nil -/
theorem r_pushDN {t u : TypeId} {zv : Value} {b : Nat} {x y : Operand} {e : Nat} {β : AHeap} {cs ds : List Dd} (hE : Elems P t 3 zv b) (hb : b ≤ 64) (hu : ∃ e2, P.underlying u = some (.slice e2))
  (hs : Sub β σ) (hx : OwnD β σ (ev a x) cs) (hy : ev a y = .slice (some ⟨e, 0, none⟩) ds.length 3) (he : σ e = some ⟨dds ds, false⟩) (h0 : 0 < ds.length) (hl : cs.length + ds.length ≤ 4294967296)
  (hk : ∀ v' τ, Sub β τ → OwnD β τ v' (cs ++ ds) → vcR P w0 false all os (fset a d v') τ K) :
  vcR P w0 false all (⟨some d, .call ⟨.builtin .append, #[x, y], #[t, u]⟩, ty, pos, af, none⟩ :: os) a σ K := by
 rcases hx with ⟨ex, rfl⟩ | ⟨g, ex, hg, hn⟩
 ·refine r_push_nil hE hu ex (by rw [hy]; exact acells_dds (ddsAt_own he)) ?_ fun g' τ h1 h2 h3 => ?_
  ·rw [dds_length]
   have : ds.length * 3 * b ≤ 4294967296 * 3 * 64 := Nat.mul_le_mul (by simp at hl; omega) hb
   simp at hl
   omega
  ·have := hk (.slice (some ⟨g', 0, none⟩) ds.length 3) τ (hs.trans h2) (.inr ⟨g', rfl, h3, free_sub hs h1⟩)
   rw [dds_length, show ds.length * 3 / 3 = ds.length by omega]
   exact this
 ·refine r_pushD hE hb hu ex hg rfl hy (ddsAt_own he) rfl hl fun g' τ h1 h2 h3 => ?_
  have := hk (.slice (some ⟨g', 0, none⟩) (cs.length + ds.length) 3) τ (h2.sub hs hn) (.inr ⟨g', by rw [List.length_append], h3, free_sub hs h1⟩)
  exact this
end
end Go.Proofs.YtafkndnmhhjdhaaDoor
