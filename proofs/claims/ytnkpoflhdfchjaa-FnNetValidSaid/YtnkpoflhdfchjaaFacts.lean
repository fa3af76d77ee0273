/- Closed facts on the program of this seat: sizes, kinds, the static look at each body. -/
import Derived.Test.YtnkpoflhdfchjaaAbt
import Derived.Test.YtnkpoflhdfchjaaRows
import Derived.KernelRfl
set_option linter.unusedSimpArgs false
set_option linter.unusedVariables false
namespace Go.Proofs.Ytnkpoflhdfchjaa
open Go Go.Abs

theorem mixed : Try.prog.follows .mixedOrders = true := by kernel_rfl
theorem own : ownKnob Try.prog.godebug = none := by kernel_rfl
theorem laidOut : laidOutB Try.prog = true := by kernel_rfl

theorem pt0 : isPtr Try.prog 0 = false := by kernel_rfl
theorem co1 : Try.prog.cellsOf 1 = 1 := by kernel_rfl
theorem ag1 : aisAgg Try.prog 1 = false := by kernel_rfl
theorem pt1 : isPtr Try.prog 1 = false := by kernel_rfl
theorem ze1 : azero Try.prog 1 = some Value.nilFunc := by kernel_rfl
theorem co2 : Try.prog.cellsOf 2 = 1 := by kernel_rfl
theorem ag2 : aisAgg Try.prog 2 = false := by kernel_rfl
theorem pt2 : isPtr Try.prog 2 = false := by kernel_rfl
theorem ze2 : azero Try.prog 2 = some (Value.int IntKind.i64 0) := by kernel_rfl
theorem co3 : Try.prog.cellsOf 3 = 1 := by kernel_rfl
theorem ag3 : aisAgg Try.prog 3 = false := by kernel_rfl
theorem pt3 : isPtr Try.prog 3 = false := by kernel_rfl
theorem ze3 : azero Try.prog 3 = some (Value.int IntKind.i64 0) := by kernel_rfl
theorem co4 : Try.prog.cellsOf 4 = 1 := by kernel_rfl
theorem ag4 : aisAgg Try.prog 4 = false := by kernel_rfl
theorem pt4 : isPtr Try.prog 4 = false := by kernel_rfl
theorem bo4 : isBool Try.prog 4 = true := by kernel_rfl
theorem ze4 : azero Try.prog 4 = some (Value.bool false) := by kernel_rfl
theorem co5 : Try.prog.cellsOf 5 = 1 := by kernel_rfl
theorem ag5 : aisAgg Try.prog 5 = false := by kernel_rfl
theorem pt5 : isPtr Try.prog 5 = false := by kernel_rfl
theorem ze5 : azero Try.prog 5 = some (Value.int IntKind.u8 0) := by kernel_rfl
theorem co6 : Try.prog.cellsOf 6 = 1 := by kernel_rfl
theorem ag6 : aisAgg Try.prog 6 = false := by kernel_rfl
theorem pt6 : isPtr Try.prog 6 = false := by kernel_rfl
theorem ze6 : azero Try.prog 6 = some (Value.int IntKind.u8 0) := by kernel_rfl
theorem co9 : Try.prog.cellsOf 9 = 1 := by kernel_rfl
theorem ag9 : aisAgg Try.prog 9 = false := by kernel_rfl
theorem pt9 : isPtr Try.prog 9 = false := by kernel_rfl
theorem ze9 : azero Try.prog 9 = some (Value.string { data := #[] }) := by kernel_rfl
theorem co10 : Try.prog.cellsOf 10 = 1 := by kernel_rfl
theorem ag10 : aisAgg Try.prog 10 = false := by kernel_rfl
theorem pt10 : isPtr Try.prog 10 = false := by kernel_rfl
theorem ze10 : azero Try.prog 10 = some (Value.string { data := #[] }) := by kernel_rfl
theorem co11 : Try.prog.cellsOf 11 = 1 := by kernel_rfl
theorem ag11 : aisAgg Try.prog 11 = false := by kernel_rfl
theorem pt11 : isPtr Try.prog 11 = false := by kernel_rfl
theorem ze11 : azero Try.prog 11 = some (Value.string { data := #[] }) := by kernel_rfl
theorem co12 : Try.prog.cellsOf 12 = 1 := by kernel_rfl
theorem ag12 : aisAgg Try.prog 12 = false := by kernel_rfl
theorem pt12 : isPtr Try.prog 12 = false := by kernel_rfl
theorem ze12 : azero Try.prog 12 = some (Value.int IntKind.u64 0) := by kernel_rfl
theorem co15 : Try.prog.cellsOf 15 = 1 := by kernel_rfl
theorem ag15 : aisAgg Try.prog 15 = false := by kernel_rfl
theorem pt15 : isPtr Try.prog 15 = true := by kernel_rfl
theorem ze15 : azero Try.prog 15 = some (Value.pointer none) := by kernel_rfl
theorem co16 : Try.prog.cellsOf 16 = 1 := by kernel_rfl
theorem ag16 : aisAgg Try.prog 16 = false := by kernel_rfl
theorem pt16 : isPtr Try.prog 16 = true := by kernel_rfl
theorem ze16 : azero Try.prog 16 = some (Value.pointer none) := by kernel_rfl
theorem co17 : Try.prog.cellsOf 17 = 1 := by kernel_rfl
theorem ag17 : aisAgg Try.prog 17 = false := by kernel_rfl
theorem pt17 : isPtr Try.prog 17 = true := by kernel_rfl
theorem ze17 : azero Try.prog 17 = some (Value.pointer none) := by kernel_rfl
theorem pt20 : isPtr Try.prog 20 = false := by kernel_rfl
theorem co21 : Try.prog.cellsOf 21 = 1 := by kernel_rfl
theorem ag21 : aisAgg Try.prog 21 = false := by kernel_rfl
theorem pt21 : isPtr Try.prog 21 = false := by kernel_rfl
theorem ze21 : azero Try.prog 21 = some (Value.int IntKind.i32 0) := by kernel_rfl
theorem co22 : Try.prog.cellsOf 22 = 1 := by kernel_rfl
theorem ag22 : aisAgg Try.prog 22 = false := by kernel_rfl
theorem pt22 : isPtr Try.prog 22 = false := by kernel_rfl
theorem esz22 : aesz Try.prog 22 = 1 := by kernel_rfl
theorem el22 : Elems Try.prog 22 1 (Value.int IntKind.u8 0) 1 := ⟨⟨5, Try.t5, Try.underlying22, by kernel_rfl, rfl, rfl, rfl⟩, ⟨5, Try.underlying22, by kernel_rfl, by kernel_rfl⟩⟩
theorem sl22 : ∃ e, Try.prog.underlying 22 = some (.slice e) := ⟨5, Try.underlying22⟩
theorem ze22 : azero Try.prog 22 = some (Value.slice none 0 0) := by kernel_rfl
theorem co23 : Try.prog.cellsOf 23 = 1 := by kernel_rfl
theorem ag23 : aisAgg Try.prog 23 = false := by kernel_rfl
theorem pt23 : isPtr Try.prog 23 = false := by kernel_rfl
theorem esz23 : aesz Try.prog 23 = 2 := by kernel_rfl
theorem el23 : Elems Try.prog 23 2 (Value.agg #[Value.int IntKind.i64 0, Value.int IntKind.i64 0]) 16 := ⟨⟨28, Try.t28, Try.underlying23, by kernel_rfl, rfl, rfl, rfl⟩, ⟨28, Try.underlying23, by kernel_rfl, by kernel_rfl⟩⟩
theorem sl23 : ∃ e, Try.prog.underlying 23 = some (.slice e) := ⟨28, Try.underlying23⟩
theorem ze23 : azero Try.prog 23 = some (Value.slice none 0 0) := by kernel_rfl
theorem pt24 : isPtr Try.prog 24 = false := by kernel_rfl
theorem co25 : Try.prog.cellsOf 25 = 1 := by kernel_rfl
theorem ag25 : aisAgg Try.prog 25 = false := by kernel_rfl
theorem pt25 : isPtr Try.prog 25 = false := by kernel_rfl
theorem ze25 : azero Try.prog 25 = some Value.nilFunc := by kernel_rfl
theorem co26 : Try.prog.cellsOf 26 = 1 := by kernel_rfl
theorem ag26 : aisAgg Try.prog 26 = false := by kernel_rfl
theorem pt26 : isPtr Try.prog 26 = false := by kernel_rfl
theorem ze26 : azero Try.prog 26 = some Value.nilFunc := by kernel_rfl
theorem co27 : Try.prog.cellsOf 27 = 2 := by kernel_rfl
theorem ag27 : aisAgg Try.prog 27 = true := by kernel_rfl
theorem pt27 : isPtr Try.prog 27 = false := by kernel_rfl
theorem ze27 : azero Try.prog 27 = some (Value.agg #[Value.int IntKind.i64 0, Value.int IntKind.i64 0]) := by kernel_rfl
theorem fv27_0 {x0 x1 : Value} : afieldV Try.prog 27 0 (.agg #[x0, x1]) = some x0 := by simp [afieldV, Try.underlying27, apart, Try.underlying3, ag3, co3, aisAgg]
theorem fl27_0 {h b : Nat} : afield Try.prog 27 0 (.pointer (some ⟨h, b, none⟩)) = some (.pointer (some ⟨h, b + 0, none⟩)) := by simp [afield, Try.underlying27]
theorem fv27_1 {x0 x1 : Value} : afieldV Try.prog 27 1 (.agg #[x0, x1]) = some x1 := by simp [afieldV, Try.underlying27, apart, Try.underlying3, ag3, co3, aisAgg]
theorem fl27_1 {h b : Nat} : afield Try.prog 27 1 (.pointer (some ⟨h, b, none⟩)) = some (.pointer (some ⟨h, b + 1, none⟩)) := by simp [afield, Try.underlying27]
theorem co28 : Try.prog.cellsOf 28 = 2 := by kernel_rfl
theorem ag28 : aisAgg Try.prog 28 = true := by kernel_rfl
theorem pt28 : isPtr Try.prog 28 = false := by kernel_rfl
theorem ze28 : azero Try.prog 28 = some (Value.agg #[Value.int IntKind.i64 0, Value.int IntKind.i64 0]) := by kernel_rfl
theorem fv28_0 {x0 x1 : Value} : afieldV Try.prog 28 0 (.agg #[x0, x1]) = some x0 := by simp [afieldV, Try.underlying28, apart, Try.underlying3, ag3, co3, aisAgg]
theorem fl28_0 {h b : Nat} : afield Try.prog 28 0 (.pointer (some ⟨h, b, none⟩)) = some (.pointer (some ⟨h, b + 0, none⟩)) := by simp [afield, Try.underlying28]
theorem fv28_1 {x0 x1 : Value} : afieldV Try.prog 28 1 (.agg #[x0, x1]) = some x1 := by simp [afieldV, Try.underlying28, apart, Try.underlying3, ag3, co3, aisAgg]
theorem fl28_1 {h b : Nat} : afield Try.prog 28 1 (.pointer (some ⟨h, b, none⟩)) = some (.pointer (some ⟨h, b + 1, none⟩)) := by simp [afield, Try.underlying28]
theorem co29 : Try.prog.cellsOf 29 = 1 := by kernel_rfl
theorem ag29 : aisAgg Try.prog 29 = false := by kernel_rfl
theorem pt29 : isPtr Try.prog 29 = false := by kernel_rfl
theorem ze29 : azero Try.prog 29 = some Value.nilFunc := by kernel_rfl
theorem co30 : Try.prog.cellsOf 30 = 1 := by kernel_rfl
theorem ag30 : aisAgg Try.prog 30 = false := by kernel_rfl
theorem pt30 : isPtr Try.prog 30 = false := by kernel_rfl
theorem ze30 : azero Try.prog 30 = some Value.nilFunc := by kernel_rfl
theorem co31 : Try.prog.cellsOf 31 = 1 := by kernel_rfl
theorem ag31 : aisAgg Try.prog 31 = false := by kernel_rfl
theorem pt31 : isPtr Try.prog 31 = false := by kernel_rfl
theorem esz31 : aesz Try.prog 31 = 1 := by kernel_rfl
theorem el31 : Elems Try.prog 31 1 (Value.int IntKind.i64 0) 8 := ⟨⟨3, Try.t3, Try.underlying31, by kernel_rfl, rfl, rfl, rfl⟩, ⟨3, Try.underlying31, by kernel_rfl, by kernel_rfl⟩⟩
theorem sl31 : ∃ e, Try.prog.underlying 31 = some (.slice e) := ⟨3, Try.underlying31⟩
theorem ze31 : azero Try.prog 31 = some (Value.slice none 0 0) := by kernel_rfl
theorem pt32 : isPtr Try.prog 32 = false := by kernel_rfl
theorem co33 : Try.prog.cellsOf 33 = 1 := by kernel_rfl
theorem ag33 : aisAgg Try.prog 33 = false := by kernel_rfl
theorem pt33 : isPtr Try.prog 33 = false := by kernel_rfl
theorem ze33 : azero Try.prog 33 = some Value.nilFunc := by kernel_rfl
theorem co34 : Try.prog.cellsOf 34 = 1 := by kernel_rfl
theorem ag34 : aisAgg Try.prog 34 = false := by kernel_rfl
theorem pt34 : isPtr Try.prog 34 = false := by kernel_rfl
theorem ze34 : azero Try.prog 34 = some Value.nilFunc := by kernel_rfl
theorem co35 : Try.prog.cellsOf 35 = 1 := by kernel_rfl
theorem ag35 : aisAgg Try.prog 35 = false := by kernel_rfl
theorem pt35 : isPtr Try.prog 35 = false := by kernel_rfl
theorem ze35 : azero Try.prog 35 = some Value.nilFunc := by kernel_rfl
theorem co36 : Try.prog.cellsOf 36 = 1 := by kernel_rfl
theorem ag36 : aisAgg Try.prog 36 = false := by kernel_rfl
theorem pt36 : isPtr Try.prog 36 = false := by kernel_rfl
theorem ze36 : azero Try.prog 36 = some Value.nilFunc := by kernel_rfl
theorem pt37 : isPtr Try.prog 37 = false := by kernel_rfl
theorem co38 : Try.prog.cellsOf 38 = 1 := by kernel_rfl
theorem ag38 : aisAgg Try.prog 38 = false := by kernel_rfl
theorem pt38 : isPtr Try.prog 38 = false := by kernel_rfl
theorem ze38 : azero Try.prog 38 = some Value.nilFunc := by kernel_rfl
theorem co39 : Try.prog.cellsOf 39 = 1 := by kernel_rfl
theorem ag39 : aisAgg Try.prog 39 = false := by kernel_rfl
theorem pt39 : isPtr Try.prog 39 = false := by kernel_rfl
theorem ze39 : azero Try.prog 39 = some Value.nilFunc := by kernel_rfl
theorem co40 : Try.prog.cellsOf 40 = 1 := by kernel_rfl
theorem ag40 : aisAgg Try.prog 40 = false := by kernel_rfl
theorem pt40 : isPtr Try.prog 40 = false := by kernel_rfl
theorem ze40 : azero Try.prog 40 = some Value.nilFunc := by kernel_rfl
theorem co41 : Try.prog.cellsOf 41 = 1 := by kernel_rfl
theorem ag41 : aisAgg Try.prog 41 = false := by kernel_rfl
theorem pt41 : isPtr Try.prog 41 = false := by kernel_rfl
theorem ze41 : azero Try.prog 41 = some Value.nilFunc := by kernel_rfl
theorem co42 : Try.prog.cellsOf 42 = 1 := by kernel_rfl
theorem ag42 : aisAgg Try.prog 42 = false := by kernel_rfl
theorem pt42 : isPtr Try.prog 42 = false := by kernel_rfl
theorem ze42 : azero Try.prog 42 = some Value.nilFunc := by kernel_rfl
theorem co43 : Try.prog.cellsOf 43 = 1 := by kernel_rfl
theorem ag43 : aisAgg Try.prog 43 = false := by kernel_rfl
theorem pt43 : isPtr Try.prog 43 = false := by kernel_rfl
theorem ze43 : azero Try.prog 43 = some Value.nilFunc := by kernel_rfl
theorem co44 : Try.prog.cellsOf 44 = 1 := by kernel_rfl
theorem ag44 : aisAgg Try.prog 44 = false := by kernel_rfl
theorem pt44 : isPtr Try.prog 44 = false := by kernel_rfl
theorem esz44 : aesz Try.prog 44 = 2 := by kernel_rfl
theorem el44 : Elems Try.prog 44 2 (Value.agg #[Value.int IntKind.i64 0, Value.int IntKind.i64 0]) 16 := ⟨⟨73, Try.t73, Try.underlying44, by kernel_rfl, rfl, rfl, rfl⟩, ⟨73, Try.underlying44, by kernel_rfl, by kernel_rfl⟩⟩
theorem sl44 : ∃ e, Try.prog.underlying 44 = some (.slice e) := ⟨73, Try.underlying44⟩
theorem ze44 : azero Try.prog 44 = some (Value.slice none 0 0) := by kernel_rfl
theorem co45 : Try.prog.cellsOf 45 = 1 := by kernel_rfl
theorem ag45 : aisAgg Try.prog 45 = false := by kernel_rfl
theorem pt45 : isPtr Try.prog 45 = false := by kernel_rfl
theorem ze45 : azero Try.prog 45 = some Value.nilFunc := by kernel_rfl
theorem co46 : Try.prog.cellsOf 46 = 1 := by kernel_rfl
theorem ag46 : aisAgg Try.prog 46 = false := by kernel_rfl
theorem pt46 : isPtr Try.prog 46 = false := by kernel_rfl
theorem ze46 : azero Try.prog 46 = some Value.nilFunc := by kernel_rfl
theorem co47 : Try.prog.cellsOf 47 = 1 := by kernel_rfl
theorem ag47 : aisAgg Try.prog 47 = false := by kernel_rfl
theorem pt47 : isPtr Try.prog 47 = false := by kernel_rfl
theorem ze47 : azero Try.prog 47 = some Value.nilFunc := by kernel_rfl
theorem co48 : Try.prog.cellsOf 48 = 1 := by kernel_rfl
theorem ag48 : aisAgg Try.prog 48 = false := by kernel_rfl
theorem pt48 : isPtr Try.prog 48 = false := by kernel_rfl
theorem ze48 : azero Try.prog 48 = some Value.nilFunc := by kernel_rfl
theorem co49 : Try.prog.cellsOf 49 = 1 := by kernel_rfl
theorem ag49 : aisAgg Try.prog 49 = false := by kernel_rfl
theorem pt49 : isPtr Try.prog 49 = false := by kernel_rfl
theorem ze49 : azero Try.prog 49 = some Value.nilFunc := by kernel_rfl
theorem co50 : Try.prog.cellsOf 50 = 1 := by kernel_rfl
theorem ag50 : aisAgg Try.prog 50 = false := by kernel_rfl
theorem pt50 : isPtr Try.prog 50 = false := by kernel_rfl
theorem ze50 : azero Try.prog 50 = some Value.nilFunc := by kernel_rfl
theorem co51 : Try.prog.cellsOf 51 = 1 := by kernel_rfl
theorem ag51 : aisAgg Try.prog 51 = false := by kernel_rfl
theorem pt51 : isPtr Try.prog 51 = false := by kernel_rfl
theorem ze51 : azero Try.prog 51 = some Value.nilFunc := by kernel_rfl
theorem co52 : Try.prog.cellsOf 52 = 1 := by kernel_rfl
theorem ag52 : aisAgg Try.prog 52 = false := by kernel_rfl
theorem pt52 : isPtr Try.prog 52 = false := by kernel_rfl
theorem ze52 : azero Try.prog 52 = some Value.nilFunc := by kernel_rfl
theorem co53 : Try.prog.cellsOf 53 = 1 := by kernel_rfl
theorem ag53 : aisAgg Try.prog 53 = false := by kernel_rfl
theorem pt53 : isPtr Try.prog 53 = true := by kernel_rfl
theorem ze53 : azero Try.prog 53 = some (Value.pointer none) := by kernel_rfl
theorem co54 : Try.prog.cellsOf 54 = 1 := by kernel_rfl
theorem ag54 : aisAgg Try.prog 54 = false := by kernel_rfl
theorem pt54 : isPtr Try.prog 54 = false := by kernel_rfl
theorem ze54 : azero Try.prog 54 = some Value.nilFunc := by kernel_rfl
theorem co55 : Try.prog.cellsOf 55 = 1 := by kernel_rfl
theorem ag55 : aisAgg Try.prog 55 = false := by kernel_rfl
theorem pt55 : isPtr Try.prog 55 = false := by kernel_rfl
theorem ze55 : azero Try.prog 55 = some Value.nilFunc := by kernel_rfl
theorem co56 : Try.prog.cellsOf 56 = 1 := by kernel_rfl
theorem ag56 : aisAgg Try.prog 56 = false := by kernel_rfl
theorem pt56 : isPtr Try.prog 56 = false := by kernel_rfl
theorem ze56 : azero Try.prog 56 = some Value.nilFunc := by kernel_rfl
theorem co57 : Try.prog.cellsOf 57 = 1 := by kernel_rfl
theorem ag57 : aisAgg Try.prog 57 = false := by kernel_rfl
theorem pt57 : isPtr Try.prog 57 = false := by kernel_rfl
theorem ze57 : azero Try.prog 57 = some Value.nilFunc := by kernel_rfl
theorem co58 : Try.prog.cellsOf 58 = 1 := by kernel_rfl
theorem ag58 : aisAgg Try.prog 58 = false := by kernel_rfl
theorem pt58 : isPtr Try.prog 58 = false := by kernel_rfl
theorem ze58 : azero Try.prog 58 = some Value.nilFunc := by kernel_rfl
theorem co59 : Try.prog.cellsOf 59 = 1 := by kernel_rfl
theorem ag59 : aisAgg Try.prog 59 = false := by kernel_rfl
theorem pt59 : isPtr Try.prog 59 = false := by kernel_rfl
theorem ze59 : azero Try.prog 59 = some Value.nilFunc := by kernel_rfl
theorem co60 : Try.prog.cellsOf 60 = 1 := by kernel_rfl
theorem ag60 : aisAgg Try.prog 60 = false := by kernel_rfl
theorem pt60 : isPtr Try.prog 60 = false := by kernel_rfl
theorem ze60 : azero Try.prog 60 = some Value.nilFunc := by kernel_rfl
theorem co61 : Try.prog.cellsOf 61 = 1 := by kernel_rfl
theorem ag61 : aisAgg Try.prog 61 = false := by kernel_rfl
theorem pt61 : isPtr Try.prog 61 = false := by kernel_rfl
theorem ze61 : azero Try.prog 61 = some Value.nilFunc := by kernel_rfl
theorem co62 : Try.prog.cellsOf 62 = 1 := by kernel_rfl
theorem ag62 : aisAgg Try.prog 62 = false := by kernel_rfl
theorem pt62 : isPtr Try.prog 62 = false := by kernel_rfl
theorem ze62 : azero Try.prog 62 = some Value.nilFunc := by kernel_rfl
theorem co63 : Try.prog.cellsOf 63 = 1 := by kernel_rfl
theorem ag63 : aisAgg Try.prog 63 = false := by kernel_rfl
theorem pt63 : isPtr Try.prog 63 = false := by kernel_rfl
theorem ze63 : azero Try.prog 63 = some Value.nilFunc := by kernel_rfl
theorem co64 : Try.prog.cellsOf 64 = 6 := by kernel_rfl
theorem ag64 : aisAgg Try.prog 64 = true := by kernel_rfl
theorem pt64 : isPtr Try.prog 64 = false := by kernel_rfl
theorem esz64 : aesz Try.prog 64 = 1 := by kernel_rfl
theorem ze64 : azero Try.prog 64 = some (Value.agg #[Value.int IntKind.i64 0, Value.int IntKind.i64 0, Value.int IntKind.i64 0, Value.int IntKind.i64 0, Value.int IntKind.i64 0, Value.int IntKind.i64 0]) := by kernel_rfl
theorem co65 : Try.prog.cellsOf 65 = 1 := by kernel_rfl
theorem ag65 : aisAgg Try.prog 65 = false := by kernel_rfl
theorem pt65 : isPtr Try.prog 65 = false := by kernel_rfl
theorem ze65 : azero Try.prog 65 = some Value.nilFunc := by kernel_rfl
theorem co66 : Try.prog.cellsOf 66 = 1 := by kernel_rfl
theorem ag66 : aisAgg Try.prog 66 = false := by kernel_rfl
theorem pt66 : isPtr Try.prog 66 = false := by kernel_rfl
theorem ze66 : azero Try.prog 66 = some Value.nilFunc := by kernel_rfl
theorem co67 : Try.prog.cellsOf 67 = 1 := by kernel_rfl
theorem ag67 : aisAgg Try.prog 67 = false := by kernel_rfl
theorem pt67 : isPtr Try.prog 67 = false := by kernel_rfl
theorem ze67 : azero Try.prog 67 = some Value.nilFunc := by kernel_rfl
theorem co68 : Try.prog.cellsOf 68 = 1 := by kernel_rfl
theorem ag68 : aisAgg Try.prog 68 = false := by kernel_rfl
theorem pt68 : isPtr Try.prog 68 = false := by kernel_rfl
theorem ze68 : azero Try.prog 68 = some Value.nilFunc := by kernel_rfl
theorem co69 : Try.prog.cellsOf 69 = 1 := by kernel_rfl
theorem ag69 : aisAgg Try.prog 69 = false := by kernel_rfl
theorem pt69 : isPtr Try.prog 69 = false := by kernel_rfl
theorem esz69 : aesz Try.prog 69 = 1 := by kernel_rfl
theorem el69 : Elems Try.prog 69 1 (Value.bool false) 1 := ⟨⟨4, Try.t4, Try.underlying69, by kernel_rfl, rfl, rfl, rfl⟩, ⟨4, Try.underlying69, by kernel_rfl, by kernel_rfl⟩⟩
theorem sl69 : ∃ e, Try.prog.underlying 69 = some (.slice e) := ⟨4, Try.underlying69⟩
theorem ze69 : azero Try.prog 69 = some (Value.slice none 0 0) := by kernel_rfl
theorem co70 : Try.prog.cellsOf 70 = 1 := by kernel_rfl
theorem ag70 : aisAgg Try.prog 70 = false := by kernel_rfl
theorem pt70 : isPtr Try.prog 70 = false := by kernel_rfl
theorem ze70 : azero Try.prog 70 = some Value.nilFunc := by kernel_rfl
theorem co71 : Try.prog.cellsOf 71 = 1 := by kernel_rfl
theorem ag71 : aisAgg Try.prog 71 = false := by kernel_rfl
theorem pt71 : isPtr Try.prog 71 = false := by kernel_rfl
theorem ze71 : azero Try.prog 71 = some Value.nilFunc := by kernel_rfl
theorem co72 : Try.prog.cellsOf 72 = 1 := by kernel_rfl
theorem ag72 : aisAgg Try.prog 72 = false := by kernel_rfl
theorem pt72 : isPtr Try.prog 72 = false := by kernel_rfl
theorem ze72 : azero Try.prog 72 = some Value.nilFunc := by kernel_rfl
theorem co73 : Try.prog.cellsOf 73 = 2 := by kernel_rfl
theorem ag73 : aisAgg Try.prog 73 = true := by kernel_rfl
theorem pt73 : isPtr Try.prog 73 = false := by kernel_rfl
theorem ze73 : azero Try.prog 73 = some (Value.agg #[Value.int IntKind.i64 0, Value.int IntKind.i64 0]) := by kernel_rfl
theorem fv73_0 {x0 x1 : Value} : afieldV Try.prog 73 0 (.agg #[x0, x1]) = some x0 := by simp [afieldV, Try.underlying73, apart, Try.underlying3, ag3, co3, aisAgg]
theorem fl73_0 {h b : Nat} : afield Try.prog 73 0 (.pointer (some ⟨h, b, none⟩)) = some (.pointer (some ⟨h, b + 0, none⟩)) := by simp [afield, Try.underlying73]
theorem fv73_1 {x0 x1 : Value} : afieldV Try.prog 73 1 (.agg #[x0, x1]) = some x1 := by simp [afieldV, Try.underlying73, apart, Try.underlying3, ag3, co3, aisAgg]
theorem fl73_1 {h b : Nat} : afield Try.prog 73 1 (.pointer (some ⟨h, b, none⟩)) = some (.pointer (some ⟨h, b + 1, none⟩)) := by simp [afield, Try.underlying73]
theorem co74 : Try.prog.cellsOf 74 = 1 := by kernel_rfl
theorem ag74 : aisAgg Try.prog 74 = false := by kernel_rfl
theorem pt74 : isPtr Try.prog 74 = false := by kernel_rfl
theorem ze74 : azero Try.prog 74 = some Value.nilFunc := by kernel_rfl
theorem co75 : Try.prog.cellsOf 75 = 2 := by kernel_rfl
theorem ag75 : aisAgg Try.prog 75 = true := by kernel_rfl
theorem pt75 : isPtr Try.prog 75 = false := by kernel_rfl
theorem ze75 : azero Try.prog 75 = some (Value.agg #[Value.slice none 0 0, Value.int IntKind.i64 0]) := by kernel_rfl
theorem fv75_0 {x0 x1 : Value} : afieldV Try.prog 75 0 (.agg #[x0, x1]) = some x0 := by simp [afieldV, Try.underlying75, apart, Try.underlying22, ag22, co22, aisAgg]
theorem fl75_0 {h b : Nat} : afield Try.prog 75 0 (.pointer (some ⟨h, b, none⟩)) = some (.pointer (some ⟨h, b + 0, none⟩)) := by simp [afield, Try.underlying75]
theorem fv75_1 {x0 x1 : Value} : afieldV Try.prog 75 1 (.agg #[x0, x1]) = some x1 := by simp [afieldV, Try.underlying75, apart, Try.underlying3, ag3, co3, aisAgg]
theorem fl75_1 {h b : Nat} : afield Try.prog 75 1 (.pointer (some ⟨h, b, none⟩)) = some (.pointer (some ⟨h, b + 1, none⟩)) := by simp [afield, Try.underlying75]
theorem co76 : Try.prog.cellsOf 76 = 2 := by kernel_rfl
theorem ag76 : aisAgg Try.prog 76 = true := by kernel_rfl
theorem pt76 : isPtr Try.prog 76 = false := by kernel_rfl
theorem ze76 : azero Try.prog 76 = some (Value.agg #[Value.slice none 0 0, Value.int IntKind.i64 0]) := by kernel_rfl
theorem fv76_0 {x0 x1 : Value} : afieldV Try.prog 76 0 (.agg #[x0, x1]) = some x0 := by simp [afieldV, Try.underlying76, apart, Try.underlying22, ag22, co22, aisAgg]
theorem fl76_0 {h b : Nat} : afield Try.prog 76 0 (.pointer (some ⟨h, b, none⟩)) = some (.pointer (some ⟨h, b + 0, none⟩)) := by simp [afield, Try.underlying76]
theorem fv76_1 {x0 x1 : Value} : afieldV Try.prog 76 1 (.agg #[x0, x1]) = some x1 := by simp [afieldV, Try.underlying76, apart, Try.underlying3, ag3, co3, aisAgg]
theorem fl76_1 {h b : Nat} : afield Try.prog 76 1 (.pointer (some ⟨h, b, none⟩)) = some (.pointer (some ⟨h, b + 1, none⟩)) := by simp [afield, Try.underlying76]
theorem co77 : Try.prog.cellsOf 77 = 6 := by kernel_rfl
theorem ag77 : aisAgg Try.prog 77 = true := by kernel_rfl
theorem pt77 : isPtr Try.prog 77 = false := by kernel_rfl
theorem esz77 : aesz Try.prog 77 = 1 := by kernel_rfl
theorem ze77 : azero Try.prog 77 = some (Value.agg #[Value.bool false, Value.bool false, Value.bool false, Value.bool false, Value.bool false, Value.bool false]) := by kernel_rfl
theorem co78 : Try.prog.cellsOf 78 = 1 := by kernel_rfl
theorem ag78 : aisAgg Try.prog 78 = false := by kernel_rfl
theorem pt78 : isPtr Try.prog 78 = false := by kernel_rfl
theorem ze78 : azero Try.prog 78 = some Value.nilFunc := by kernel_rfl
theorem co79 : Try.prog.cellsOf 79 = 1 := by kernel_rfl
theorem ag79 : aisAgg Try.prog 79 = false := by kernel_rfl
theorem pt79 : isPtr Try.prog 79 = false := by kernel_rfl
theorem ze79 : azero Try.prog 79 = some Value.nilFunc := by kernel_rfl
theorem co80 : Try.prog.cellsOf 80 = 1 := by kernel_rfl
theorem ag80 : aisAgg Try.prog 80 = false := by kernel_rfl
theorem pt80 : isPtr Try.prog 80 = false := by kernel_rfl
theorem ze80 : azero Try.prog 80 = some Value.nilFunc := by kernel_rfl
theorem co81 : Try.prog.cellsOf 81 = 1 := by kernel_rfl
theorem ag81 : aisAgg Try.prog 81 = false := by kernel_rfl
theorem pt81 : isPtr Try.prog 81 = false := by kernel_rfl
theorem ze81 : azero Try.prog 81 = some Value.nilFunc := by kernel_rfl
theorem co82 : Try.prog.cellsOf 82 = 1 := by kernel_rfl
theorem ag82 : aisAgg Try.prog 82 = false := by kernel_rfl
theorem pt82 : isPtr Try.prog 82 = false := by kernel_rfl
theorem ze82 : azero Try.prog 82 = some Value.nilFunc := by kernel_rfl
theorem co83 : Try.prog.cellsOf 83 = 1 := by kernel_rfl
theorem ag83 : aisAgg Try.prog 83 = false := by kernel_rfl
theorem pt83 : isPtr Try.prog 83 = false := by kernel_rfl
theorem esz83 : aesz Try.prog 83 = 1 := by kernel_rfl
theorem el83 : Elems Try.prog 83 1 (Value.slice none 0 0) 24 := ⟨⟨23, Try.t23, Try.underlying83, by kernel_rfl, rfl, rfl, rfl⟩, ⟨23, Try.underlying83, by kernel_rfl, by kernel_rfl⟩⟩
theorem sl83 : ∃ e, Try.prog.underlying 83 = some (.slice e) := ⟨23, Try.underlying83⟩
theorem ze83 : azero Try.prog 83 = some (Value.slice none 0 0) := by kernel_rfl
theorem co84 : Try.prog.cellsOf 84 = 1 := by kernel_rfl
theorem ag84 : aisAgg Try.prog 84 = false := by kernel_rfl
theorem pt84 : isPtr Try.prog 84 = false := by kernel_rfl
theorem ze84 : azero Try.prog 84 = some Value.nilFunc := by kernel_rfl
theorem co85 : Try.prog.cellsOf 85 = 1 := by kernel_rfl
theorem ag85 : aisAgg Try.prog 85 = false := by kernel_rfl
theorem pt85 : isPtr Try.prog 85 = false := by kernel_rfl
theorem ze85 : azero Try.prog 85 = some Value.nilFunc := by kernel_rfl
theorem co88 : Try.prog.cellsOf 88 = 0 := by kernel_rfl
theorem ag88 : aisAgg Try.prog 88 = true := by kernel_rfl
theorem pt88 : isPtr Try.prog 88 = false := by kernel_rfl
theorem esz88 : aesz Try.prog 88 = 1 := by kernel_rfl
theorem ze88 : azero Try.prog 88 = some (Value.agg #[]) := by kernel_rfl
theorem co91 : Try.prog.cellsOf 91 = 1 := by kernel_rfl
theorem ag91 : aisAgg Try.prog 91 = false := by kernel_rfl
theorem pt91 : isPtr Try.prog 91 = false := by kernel_rfl
theorem ze91 : azero Try.prog 91 = some Value.nilFunc := by kernel_rfl
theorem co92 : Try.prog.cellsOf 92 = 1 := by kernel_rfl
theorem ag92 : aisAgg Try.prog 92 = false := by kernel_rfl
theorem pt92 : isPtr Try.prog 92 = false := by kernel_rfl
theorem ze92 : azero Try.prog 92 = some (Value.int IntKind.u32 0) := by kernel_rfl
theorem co93 : Try.prog.cellsOf 93 = 1 := by kernel_rfl
theorem ag93 : aisAgg Try.prog 93 = false := by kernel_rfl
theorem pt93 : isPtr Try.prog 93 = false := by kernel_rfl
theorem ze93 : azero Try.prog 93 = some (Value.int IntKind.u8 0) := by kernel_rfl
theorem co94 : Try.prog.cellsOf 94 = 1 := by kernel_rfl
theorem ag94 : aisAgg Try.prog 94 = false := by kernel_rfl
theorem pt94 : isPtr Try.prog 94 = false := by kernel_rfl
theorem ze94 : azero Try.prog 94 = some (Value.int IntKind.u8 0) := by kernel_rfl
theorem co95 : Try.prog.cellsOf 95 = 1 := by kernel_rfl
theorem ag95 : aisAgg Try.prog 95 = false := by kernel_rfl
theorem pt95 : isPtr Try.prog 95 = false := by kernel_rfl
theorem ze95 : azero Try.prog 95 = some Value.nilFunc := by kernel_rfl
theorem co96 : Try.prog.cellsOf 96 = 1 := by kernel_rfl
theorem ag96 : aisAgg Try.prog 96 = false := by kernel_rfl
theorem pt96 : isPtr Try.prog 96 = true := by kernel_rfl
theorem ze96 : azero Try.prog 96 = some (Value.pointer none) := by kernel_rfl
theorem co97 : Try.prog.cellsOf 97 = 1 := by kernel_rfl
theorem ag97 : aisAgg Try.prog 97 = false := by kernel_rfl
theorem pt97 : isPtr Try.prog 97 = false := by kernel_rfl
theorem ze97 : azero Try.prog 97 = some (Value.int IntKind.i32 0) := by kernel_rfl
theorem co98 : Try.prog.cellsOf 98 = 1 := by kernel_rfl
theorem ag98 : aisAgg Try.prog 98 = false := by kernel_rfl
theorem pt98 : isPtr Try.prog 98 = false := by kernel_rfl
theorem ze98 : azero Try.prog 98 = some (Value.int IntKind.i32 0) := by kernel_rfl
theorem pt101 : isPtr Try.prog 101 = false := by kernel_rfl
theorem good3 : (callable Try.prog 3 && tmpsOnly Try.f3 && decide (1 ≤ Try.f3.ntmps) && (match Try.f3.body with | some c => goodC Try.prog Try.f3.ntmps c | none => false)) = true := by kernel_rfl
theorem good4 : (callable Try.prog 4 && tmpsOnly Try.f4 && decide (1 ≤ Try.f4.ntmps) && (match Try.f4.body with | some c => goodC Try.prog Try.f4.ntmps c | none => false)) = true := by kernel_rfl
theorem good5 : (callable Try.prog 5 && tmpsOnly Try.f5 && decide (1 ≤ Try.f5.ntmps) && (match Try.f5.body with | some c => goodC Try.prog Try.f5.ntmps c | none => false)) = true := by kernel_rfl
theorem good6 : (callable Try.prog 6 && tmpsOnly Try.f6 && decide (1 ≤ Try.f6.ntmps) && (match Try.f6.body with | some c => goodC Try.prog Try.f6.ntmps c | none => false)) = true := by kernel_rfl
theorem good7 : (callable Try.prog 7 && tmpsOnly Try.f7 && decide (1 ≤ Try.f7.ntmps) && (match Try.f7.body with | some c => goodC Try.prog Try.f7.ntmps c | none => false)) = true := by kernel_rfl
theorem good8 : (callable Try.prog 8 && tmpsOnly Try.f8 && decide (1 ≤ Try.f8.ntmps) && (match Try.f8.body with | some c => goodC Try.prog Try.f8.ntmps c | none => false)) = true := by kernel_rfl
theorem good9 : (callable Try.prog 9 && tmpsOnly Try.f9 && decide (1 ≤ Try.f9.ntmps) && (match Try.f9.body with | some c => goodC Try.prog Try.f9.ntmps c | none => false)) = true := by kernel_rfl
theorem good10 : (callable Try.prog 10 && tmpsOnly Try.f10 && decide (1 ≤ Try.f10.ntmps) && (match Try.f10.body with | some c => goodC Try.prog Try.f10.ntmps c | none => false)) = true := by kernel_rfl
theorem good11 : (callable Try.prog 11 && tmpsOnly Try.f11 && decide (1 ≤ Try.f11.ntmps) && (match Try.f11.body with | some c => goodC Try.prog Try.f11.ntmps c | none => false)) = true := by kernel_rfl
theorem good12 : (callable Try.prog 12 && tmpsOnly Try.f12 && decide (1 ≤ Try.f12.ntmps) && (match Try.f12.body with | some c => goodC Try.prog Try.f12.ntmps c | none => false)) = true := by kernel_rfl
theorem good13 : (callable Try.prog 13 && tmpsOnly Try.f13 && decide (1 ≤ Try.f13.ntmps) && (match Try.f13.body with | some c => goodC Try.prog Try.f13.ntmps c | none => false)) = true := by kernel_rfl
theorem good14 : (callable Try.prog 14 && tmpsOnly Try.f14 && decide (2 ≤ Try.f14.ntmps) && (match Try.f14.body with | some c => goodC Try.prog Try.f14.ntmps c | none => false)) = true := by kernel_rfl
theorem good15 : (callable Try.prog 15 && tmpsOnly Try.f15 && decide (3 ≤ Try.f15.ntmps) && (match Try.f15.body with | some c => goodC Try.prog Try.f15.ntmps c | none => false)) = true := by kernel_rfl
theorem good16 : (callable Try.prog 16 && tmpsOnly Try.f16 && decide (2 ≤ Try.f16.ntmps) && (match Try.f16.body with | some c => goodC Try.prog Try.f16.ntmps c | none => false)) = true := by kernel_rfl
theorem good17 : (callable Try.prog 17 && tmpsOnly Try.f17 && decide (2 ≤ Try.f17.ntmps) && (match Try.f17.body with | some c => goodC Try.prog Try.f17.ntmps c | none => false)) = true := by kernel_rfl
theorem good18 : (callable Try.prog 18 && tmpsOnly Try.f18 && decide (2 ≤ Try.f18.ntmps) && (match Try.f18.body with | some c => goodC Try.prog Try.f18.ntmps c | none => false)) = true := by kernel_rfl
theorem good19 : (callable Try.prog 19 && tmpsOnly Try.f19 && decide (2 ≤ Try.f19.ntmps) && (match Try.f19.body with | some c => goodC Try.prog Try.f19.ntmps c | none => false)) = true := by kernel_rfl
theorem good20 : (callable Try.prog 20 && tmpsOnly Try.f20 && decide (2 ≤ Try.f20.ntmps) && (match Try.f20.body with | some c => goodC Try.prog Try.f20.ntmps c | none => false)) = true := by kernel_rfl
theorem good21 : (callable Try.prog 21 && tmpsOnly Try.f21 && decide (1 ≤ Try.f21.ntmps) && (match Try.f21.body with | some c => goodC Try.prog Try.f21.ntmps c | none => false)) = true := by kernel_rfl
theorem good22 : (callable Try.prog 22 && tmpsOnly Try.f22 && decide (1 ≤ Try.f22.ntmps) && (match Try.f22.body with | some c => goodC Try.prog Try.f22.ntmps c | none => false)) = true := by kernel_rfl
theorem good23 : (callable Try.prog 23 && tmpsOnly Try.f23 && decide (1 ≤ Try.f23.ntmps) && (match Try.f23.body with | some c => goodC Try.prog Try.f23.ntmps c | none => false)) = true := by kernel_rfl
theorem good24 : (callable Try.prog 24 && tmpsOnly Try.f24 && decide (2 ≤ Try.f24.ntmps) && (match Try.f24.body with | some c => goodC Try.prog Try.f24.ntmps c | none => false)) = true := by kernel_rfl
theorem good25 : (callable Try.prog 25 && tmpsOnly Try.f25 && decide (1 ≤ Try.f25.ntmps) && (match Try.f25.body with | some c => goodC Try.prog Try.f25.ntmps c | none => false)) = true := by kernel_rfl
theorem good26 : (callable Try.prog 26 && tmpsOnly Try.f26 && decide (2 ≤ Try.f26.ntmps) && (match Try.f26.body with | some c => goodC Try.prog Try.f26.ntmps c | none => false)) = true := by kernel_rfl
theorem good27 : (callable Try.prog 27 && tmpsOnly Try.f27 && decide (2 ≤ Try.f27.ntmps) && (match Try.f27.body with | some c => goodC Try.prog Try.f27.ntmps c | none => false)) = true := by kernel_rfl
theorem good28 : (callable Try.prog 28 && tmpsOnly Try.f28 && decide (0 ≤ Try.f28.ntmps) && (match Try.f28.body with | some c => goodC Try.prog Try.f28.ntmps c | none => false)) = true := by kernel_rfl
theorem good29 : (callable Try.prog 29 && tmpsOnly Try.f29 && decide (1 ≤ Try.f29.ntmps) && (match Try.f29.body with | some c => goodC Try.prog Try.f29.ntmps c | none => false)) = true := by kernel_rfl
theorem good30 : (callable Try.prog 30 && tmpsOnly Try.f30 && decide (3 ≤ Try.f30.ntmps) && (match Try.f30.body with | some c => goodC Try.prog Try.f30.ntmps c | none => false)) = true := by kernel_rfl
theorem good31 : (callable Try.prog 31 && tmpsOnly Try.f31 && decide (2 ≤ Try.f31.ntmps) && (match Try.f31.body with | some c => goodC Try.prog Try.f31.ntmps c | none => false)) = true := by kernel_rfl
theorem good32 : (callable Try.prog 32 && tmpsOnly Try.f32 && decide (3 ≤ Try.f32.ntmps) && (match Try.f32.body with | some c => goodC Try.prog Try.f32.ntmps c | none => false)) = true := by kernel_rfl
theorem good33 : (callable Try.prog 33 && tmpsOnly Try.f33 && decide (2 ≤ Try.f33.ntmps) && (match Try.f33.body with | some c => goodC Try.prog Try.f33.ntmps c | none => false)) = true := by kernel_rfl
theorem good34 : (callable Try.prog 34 && tmpsOnly Try.f34 && decide (1 ≤ Try.f34.ntmps) && (match Try.f34.body with | some c => goodC Try.prog Try.f34.ntmps c | none => false)) = true := by kernel_rfl
theorem good35 : (callable Try.prog 35 && tmpsOnly Try.f35 && decide (2 ≤ Try.f35.ntmps) && (match Try.f35.body with | some c => goodC Try.prog Try.f35.ntmps c | none => false)) = true := by kernel_rfl
theorem good36 : (callable Try.prog 36 && tmpsOnly Try.f36 && decide (2 ≤ Try.f36.ntmps) && (match Try.f36.body with | some c => goodC Try.prog Try.f36.ntmps c | none => false)) = true := by kernel_rfl
theorem good37 : (callable Try.prog 37 && tmpsOnly Try.f37 && decide (2 ≤ Try.f37.ntmps) && (match Try.f37.body with | some c => goodC Try.prog Try.f37.ntmps c | none => false)) = true := by kernel_rfl
theorem good38 : (callable Try.prog 38 && tmpsOnly Try.f38 && decide (1 ≤ Try.f38.ntmps) && (match Try.f38.body with | some c => goodC Try.prog Try.f38.ntmps c | none => false)) = true := by kernel_rfl
theorem goodc39 : (callable Try.prog 39 && Try.f39.results.toList.all (rok Try.prog) && decide (2 ≤ Try.f39.ntmps) && (match Try.f39.body with | some c => goodC Try.prog Try.f39.ntmps c | none => false)) = true := by kernel_rfl
theorem good40 : (callable Try.prog 40 && tmpsOnly Try.f40 && decide (1 ≤ Try.f40.ntmps) && (match Try.f40.body with | some c => goodC Try.prog Try.f40.ntmps c | none => false)) = true := by kernel_rfl
theorem good41 : (callable Try.prog 41 && tmpsOnly Try.f41 && decide (2 ≤ Try.f41.ntmps) && (match Try.f41.body with | some c => goodC Try.prog Try.f41.ntmps c | none => false)) = true := by kernel_rfl
theorem good42 : (callable Try.prog 42 && tmpsOnly Try.f42 && decide (1 ≤ Try.f42.ntmps) && (match Try.f42.body with | some c => goodC Try.prog Try.f42.ntmps c | none => false)) = true := by kernel_rfl
theorem good43 : (callable Try.prog 43 && tmpsOnly Try.f43 && decide (2 ≤ Try.f43.ntmps) && (match Try.f43.body with | some c => goodC Try.prog Try.f43.ntmps c | none => false)) = true := by kernel_rfl
theorem good44 : (callable Try.prog 44 && tmpsOnly Try.f44 && decide (2 ≤ Try.f44.ntmps) && (match Try.f44.body with | some c => goodC Try.prog Try.f44.ntmps c | none => false)) = true := by kernel_rfl
theorem good45 : (callable Try.prog 45 && tmpsOnly Try.f45 && decide (2 ≤ Try.f45.ntmps) && (match Try.f45.body with | some c => goodC Try.prog Try.f45.ntmps c | none => false)) = true := by kernel_rfl
theorem good46 : (callable Try.prog 46 && tmpsOnly Try.f46 && decide (1 ≤ Try.f46.ntmps) && (match Try.f46.body with | some c => goodC Try.prog Try.f46.ntmps c | none => false)) = true := by kernel_rfl
theorem good47 : (callable Try.prog 47 && tmpsOnly Try.f47 && decide (2 ≤ Try.f47.ntmps) && (match Try.f47.body with | some c => goodC Try.prog Try.f47.ntmps c | none => false)) = true := by kernel_rfl
theorem good48 : (callable Try.prog 48 && tmpsOnly Try.f48 && decide (1 ≤ Try.f48.ntmps) && (match Try.f48.body with | some c => goodC Try.prog Try.f48.ntmps c | none => false)) = true := by kernel_rfl
theorem good49 : (callable Try.prog 49 && tmpsOnly Try.f49 && decide (2 ≤ Try.f49.ntmps) && (match Try.f49.body with | some c => goodC Try.prog Try.f49.ntmps c | none => false)) = true := by kernel_rfl
theorem good50 : (callable Try.prog 50 && tmpsOnly Try.f50 && decide (2 ≤ Try.f50.ntmps) && (match Try.f50.body with | some c => goodC Try.prog Try.f50.ntmps c | none => false)) = true := by kernel_rfl
theorem good51 : (callable Try.prog 51 && tmpsOnly Try.f51 && decide (1 ≤ Try.f51.ntmps) && (match Try.f51.body with | some c => goodC Try.prog Try.f51.ntmps c | none => false)) = true := by kernel_rfl
theorem good52 : (callable Try.prog 52 && tmpsOnly Try.f52 && decide (1 ≤ Try.f52.ntmps) && (match Try.f52.body with | some c => goodC Try.prog Try.f52.ntmps c | none => false)) = true := by kernel_rfl
theorem good53 : (callable Try.prog 53 && tmpsOnly Try.f53 && decide (2 ≤ Try.f53.ntmps) && (match Try.f53.body with | some c => goodC Try.prog Try.f53.ntmps c | none => false)) = true := by kernel_rfl
theorem good54 : (callable Try.prog 54 && tmpsOnly Try.f54 && decide (1 ≤ Try.f54.ntmps) && (match Try.f54.body with | some c => goodC Try.prog Try.f54.ntmps c | none => false)) = true := by kernel_rfl
theorem good55 : (callable Try.prog 55 && tmpsOnly Try.f55 && decide (1 ≤ Try.f55.ntmps) && (match Try.f55.body with | some c => goodC Try.prog Try.f55.ntmps c | none => false)) = true := by kernel_rfl
theorem good56 : (callable Try.prog 56 && tmpsOnly Try.f56 && decide (1 ≤ Try.f56.ntmps) && (match Try.f56.body with | some c => goodC Try.prog Try.f56.ntmps c | none => false)) = true := by kernel_rfl
theorem good57 : (callable Try.prog 57 && tmpsOnly Try.f57 && decide (1 ≤ Try.f57.ntmps) && (match Try.f57.body with | some c => goodC Try.prog Try.f57.ntmps c | none => false)) = true := by kernel_rfl
theorem good58 : (callable Try.prog 58 && tmpsOnly Try.f58 && decide (1 ≤ Try.f58.ntmps) && (match Try.f58.body with | some c => goodC Try.prog Try.f58.ntmps c | none => false)) = true := by kernel_rfl
theorem good59 : (callable Try.prog 59 && tmpsOnly Try.f59 && decide (1 ≤ Try.f59.ntmps) && (match Try.f59.body with | some c => goodC Try.prog Try.f59.ntmps c | none => false)) = true := by kernel_rfl
theorem good60 : (callable Try.prog 60 && tmpsOnly Try.f60 && decide (1 ≤ Try.f60.ntmps) && (match Try.f60.body with | some c => goodC Try.prog Try.f60.ntmps c | none => false)) = true := by kernel_rfl
theorem good61 : (callable Try.prog 61 && tmpsOnly Try.f61 && decide (1 ≤ Try.f61.ntmps) && (match Try.f61.body with | some c => goodC Try.prog Try.f61.ntmps c | none => false)) = true := by kernel_rfl
theorem good62 : (callable Try.prog 62 && tmpsOnly Try.f62 && decide (2 ≤ Try.f62.ntmps) && (match Try.f62.body with | some c => goodC Try.prog Try.f62.ntmps c | none => false)) = true := by kernel_rfl
theorem good63 : (callable Try.prog 63 && tmpsOnly Try.f63 && decide (2 ≤ Try.f63.ntmps) && (match Try.f63.body with | some c => goodC Try.prog Try.f63.ntmps c | none => false)) = true := by kernel_rfl
theorem good64 : (callable Try.prog 64 && tmpsOnly Try.f64 && decide (2 ≤ Try.f64.ntmps) && (match Try.f64.body with | some c => goodC Try.prog Try.f64.ntmps c | none => false)) = true := by kernel_rfl
theorem good65 : (callable Try.prog 65 && tmpsOnly Try.f65 && decide (1 ≤ Try.f65.ntmps) && (match Try.f65.body with | some c => goodC Try.prog Try.f65.ntmps c | none => false)) = true := by kernel_rfl
theorem good66 : (callable Try.prog 66 && tmpsOnly Try.f66 && decide (2 ≤ Try.f66.ntmps) && (match Try.f66.body with | some c => goodC Try.prog Try.f66.ntmps c | none => false)) = true := by kernel_rfl
theorem good67 : (callable Try.prog 67 && tmpsOnly Try.f67 && decide (1 ≤ Try.f67.ntmps) && (match Try.f67.body with | some c => goodC Try.prog Try.f67.ntmps c | none => false)) = true := by kernel_rfl
theorem good68 : (callable Try.prog 68 && tmpsOnly Try.f68 && decide (2 ≤ Try.f68.ntmps) && (match Try.f68.body with | some c => goodC Try.prog Try.f68.ntmps c | none => false)) = true := by kernel_rfl
theorem good69 : (callable Try.prog 69 && tmpsOnly Try.f69 && decide (2 ≤ Try.f69.ntmps) && (match Try.f69.body with | some c => goodC Try.prog Try.f69.ntmps c | none => false)) = true := by kernel_rfl
theorem good70 : (callable Try.prog 70 && tmpsOnly Try.f70 && decide (2 ≤ Try.f70.ntmps) && (match Try.f70.body with | some c => goodC Try.prog Try.f70.ntmps c | none => false)) = true := by kernel_rfl
theorem good71 : (callable Try.prog 71 && tmpsOnly Try.f71 && decide (2 ≤ Try.f71.ntmps) && (match Try.f71.body with | some c => goodC Try.prog Try.f71.ntmps c | none => false)) = true := by kernel_rfl
theorem good72 : (callable Try.prog 72 && tmpsOnly Try.f72 && decide (2 ≤ Try.f72.ntmps) && (match Try.f72.body with | some c => goodC Try.prog Try.f72.ntmps c | none => false)) = true := by kernel_rfl
theorem good73 : (callable Try.prog 73 && tmpsOnly Try.f73 && decide (2 ≤ Try.f73.ntmps) && (match Try.f73.body with | some c => goodC Try.prog Try.f73.ntmps c | none => false)) = true := by kernel_rfl
theorem good74 : (callable Try.prog 74 && tmpsOnly Try.f74 && decide (1 ≤ Try.f74.ntmps) && (match Try.f74.body with | some c => goodC Try.prog Try.f74.ntmps c | none => false)) = true := by kernel_rfl
theorem good75 : (callable Try.prog 75 && tmpsOnly Try.f75 && decide (3 ≤ Try.f75.ntmps) && (match Try.f75.body with | some c => goodC Try.prog Try.f75.ntmps c | none => false)) = true := by kernel_rfl
theorem good76 : (callable Try.prog 76 && tmpsOnly Try.f76 && decide (1 ≤ Try.f76.ntmps) && (match Try.f76.body with | some c => goodC Try.prog Try.f76.ntmps c | none => false)) = true := by kernel_rfl
theorem good77 : (callable Try.prog 77 && tmpsOnly Try.f77 && decide (2 ≤ Try.f77.ntmps) && (match Try.f77.body with | some c => goodC Try.prog Try.f77.ntmps c | none => false)) = true := by kernel_rfl
theorem good78 : (callable Try.prog 78 && tmpsOnly Try.f78 && decide (2 ≤ Try.f78.ntmps) && (match Try.f78.body with | some c => goodC Try.prog Try.f78.ntmps c | none => false)) = true := by kernel_rfl
theorem good79 : (callable Try.prog 79 && tmpsOnly Try.f79 && decide (1 ≤ Try.f79.ntmps) && (match Try.f79.body with | some c => goodC Try.prog Try.f79.ntmps c | none => false)) = true := by kernel_rfl
theorem good80 : (callable Try.prog 80 && tmpsOnly Try.f80 && decide (2 ≤ Try.f80.ntmps) && (match Try.f80.body with | some c => goodC Try.prog Try.f80.ntmps c | none => false)) = true := by kernel_rfl
theorem good81 : (callable Try.prog 81 && tmpsOnly Try.f81 && decide (1 ≤ Try.f81.ntmps) && (match Try.f81.body with | some c => goodC Try.prog Try.f81.ntmps c | none => false)) = true := by kernel_rfl
theorem good82 : (callable Try.prog 82 && tmpsOnly Try.f82 && decide (2 ≤ Try.f82.ntmps) && (match Try.f82.body with | some c => goodC Try.prog Try.f82.ntmps c | none => false)) = true := by kernel_rfl
theorem good83 : (callable Try.prog 83 && tmpsOnly Try.f83 && decide (1 ≤ Try.f83.ntmps) && (match Try.f83.body with | some c => goodC Try.prog Try.f83.ntmps c | none => false)) = true := by kernel_rfl
theorem good84 : (callable Try.prog 84 && tmpsOnly Try.f84 && decide (3 ≤ Try.f84.ntmps) && (match Try.f84.body with | some c => goodC Try.prog Try.f84.ntmps c | none => false)) = true := by kernel_rfl
theorem good85 : (callable Try.prog 85 && tmpsOnly Try.f85 && decide (1 ≤ Try.f85.ntmps) && (match Try.f85.body with | some c => goodC Try.prog Try.f85.ntmps c | none => false)) = true := by kernel_rfl
theorem good86 : (callable Try.prog 86 && tmpsOnly Try.f86 && decide (1 ≤ Try.f86.ntmps) && (match Try.f86.body with | some c => goodC Try.prog Try.f86.ntmps c | none => false)) = true := by kernel_rfl
theorem good87 : (callable Try.prog 87 && tmpsOnly Try.f87 && decide (1 ≤ Try.f87.ntmps) && (match Try.f87.body with | some c => goodC Try.prog Try.f87.ntmps c | none => false)) = true := by kernel_rfl
theorem good88 : (callable Try.prog 88 && tmpsOnly Try.f88 && decide (1 ≤ Try.f88.ntmps) && (match Try.f88.body with | some c => goodC Try.prog Try.f88.ntmps c | none => false)) = true := by kernel_rfl
theorem good89 : (callable Try.prog 89 && tmpsOnly Try.f89 && decide (2 ≤ Try.f89.ntmps) && (match Try.f89.body with | some c => goodC Try.prog Try.f89.ntmps c | none => false)) = true := by kernel_rfl
theorem good90 : (callable Try.prog 90 && tmpsOnly Try.f90 && decide (2 ≤ Try.f90.ntmps) && (match Try.f90.body with | some c => goodC Try.prog Try.f90.ntmps c | none => false)) = true := by kernel_rfl
theorem good91 : (callable Try.prog 91 && tmpsOnly Try.f91 && decide (2 ≤ Try.f91.ntmps) && (match Try.f91.body with | some c => goodC Try.prog Try.f91.ntmps c | none => false)) = true := by kernel_rfl
theorem good92 : (callable Try.prog 92 && tmpsOnly Try.f92 && decide (2 ≤ Try.f92.ntmps) && (match Try.f92.body with | some c => goodC Try.prog Try.f92.ntmps c | none => false)) = true := by kernel_rfl
theorem good93 : (callable Try.prog 93 && tmpsOnly Try.f93 && decide (2 ≤ Try.f93.ntmps) && (match Try.f93.body with | some c => goodC Try.prog Try.f93.ntmps c | none => false)) = true := by kernel_rfl
theorem good94 : (callable Try.prog 94 && tmpsOnly Try.f94 && decide (2 ≤ Try.f94.ntmps) && (match Try.f94.body with | some c => goodC Try.prog Try.f94.ntmps c | none => false)) = true := by kernel_rfl
theorem goodc95 : (callable Try.prog 95 && Try.f95.results.toList.all (rok Try.prog) && decide (1 ≤ Try.f95.ntmps) && (match Try.f95.body with | some c => goodC Try.prog Try.f95.ntmps c | none => false)) = true := by kernel_rfl
theorem good96 : (callable Try.prog 96 && tmpsOnly Try.f96 && decide (2 ≤ Try.f96.ntmps) && (match Try.f96.body with | some c => goodC Try.prog Try.f96.ntmps c | none => false)) = true := by kernel_rfl
theorem good97 : (callable Try.prog 97 && tmpsOnly Try.f97 && decide (2 ≤ Try.f97.ntmps) && (match Try.f97.body with | some c => goodC Try.prog Try.f97.ntmps c | none => false)) = true := by kernel_rfl
theorem good98 : (callable Try.prog 98 && tmpsOnly Try.f98 && decide (2 ≤ Try.f98.ntmps) && (match Try.f98.body with | some c => goodC Try.prog Try.f98.ntmps c | none => false)) = true := by kernel_rfl
theorem good99 : (callable Try.prog 99 && tmpsOnly Try.f99 && decide (2 ≤ Try.f99.ntmps) && (match Try.f99.body with | some c => goodC Try.prog Try.f99.ntmps c | none => false)) = true := by kernel_rfl
theorem good100 : (callable Try.prog 100 && tmpsOnly Try.f100 && decide (1 ≤ Try.f100.ntmps) && (match Try.f100.body with | some c => goodC Try.prog Try.f100.ntmps c | none => false)) = true := by kernel_rfl
theorem good101 : (callable Try.prog 101 && tmpsOnly Try.f101 && decide (3 ≤ Try.f101.ntmps) && (match Try.f101.body with | some c => goodC Try.prog Try.f101.ntmps c | none => false)) = true := by kernel_rfl
theorem good102 : (callable Try.prog 102 && tmpsOnly Try.f102 && decide (3 ≤ Try.f102.ntmps) && (match Try.f102.body with | some c => goodC Try.prog Try.f102.ntmps c | none => false)) = true := by kernel_rfl
theorem good103 : (callable Try.prog 103 && tmpsOnly Try.f103 && decide (1 ≤ Try.f103.ntmps) && (match Try.f103.body with | some c => goodC Try.prog Try.f103.ntmps c | none => false)) = true := by kernel_rfl
theorem good104 : (callable Try.prog 104 && tmpsOnly Try.f104 && decide (2 ≤ Try.f104.ntmps) && (match Try.f104.body with | some c => goodC Try.prog Try.f104.ntmps c | none => false)) = true := by kernel_rfl
abbrev chr (n : Nat) : Char := Char.ofNat n
set_option maxRecDepth 20000 in
theorem initS : Try.prog.initOrder.toList = [chr 104, chr 97, chr 114, chr 110, chr 101, chr 115, chr 115, chr 32, chr 98, chr 57, chr 52, chr 99, chr 98, chr 51, chr 54, chr 57, chr 51, chr 101, chr 56, chr 102, chr 53, chr 48, chr 49, chr 50, chr 56, chr 49, chr 49, chr 56, chr 53, chr 100, chr 55, chr 100, chr 51, chr 97, chr 100, chr 97, chr 55, chr 51, chr 101, chr 55, chr 100, chr 100, chr 102, chr 51, chr 102, chr 102, chr 51, chr 97, chr 98, chr 100, chr 52, chr 100, chr 56, chr 49, chr 56, chr 55, chr 48, chr 98, chr 101, chr 98, chr 100, chr 54, chr 49, chr 57, chr 97, chr 102, chr 97, chr 55, chr 52, chr 54, chr 54, chr 49, chr 32, chr 99, chr 117, chr 116, chr 32, chr 97, chr 116, chr 32, chr 108, chr 111, chr 111, chr 112, chr 46, chr 101, chr 120, chr 97, chr 109, chr 112, chr 108, chr 101, chr 47, chr 99, chr 105, chr 114, chr 99, chr 117, chr 105, chr 116, chr 115, chr 119, chr 105, chr 116, chr 99, chr 104, chr 105, chr 110, chr 103, chr 47, chr 108, chr 97, chr 119, chr 115, chr 46, chr 70, chr 110, chr 78, chr 101, chr 116, chr 86, chr 97, chr 108, chr 105, chr 100, chr 32, chr 108, chr 111, chr 111, chr 112, chr 46, chr 101, chr 120, chr 97, chr 109, chr 112, chr 108, chr 101, chr 47, chr 99, chr 105, chr 114, chr 99, chr 117, chr 105, chr 116, chr 115, chr 119, chr 105, chr 116, chr 99, chr 104, chr 105, chr 110, chr 103, chr 47, chr 108, chr 97, chr 119, chr 115, chr 46, chr 70, chr 110, chr 78, chr 101, chr 116, chr 82, chr 117, chr 110, chr 32, chr 108, chr 111, chr 111, chr 112, chr 46, chr 101, chr 120, chr 97, chr 109, chr 112, chr 108, chr 101, chr 47, chr 99, chr 105, chr 114, chr 99, chr 117, chr 105, chr 116, chr 115, chr 119, chr 105, chr 116, chr 99, chr 104, chr 105, chr 110, chr 103, chr 47, chr 108, chr 97, chr 119, chr 115, chr 46, chr 70, chr 110, chr 78, chr 101, chr 116, chr 83, chr 111, chr 114, chr 116, chr 115, chr 32, chr 108, chr 111, chr 111, chr 112, chr 46, chr 101, chr 120, chr 97, chr 109, chr 112, chr 108, chr 101, chr 47, chr 99, chr 105, chr 114, chr 99, chr 117, chr 105, chr 116, chr 115, chr 119, chr 105, chr 116, chr 99, chr 104, chr 105, chr 110, chr 103, chr 47, chr 108, chr 97, chr 119, chr 115, chr 46, chr 70, chr 110, chr 66, chr 105, chr 116, chr 70, chr 97, chr 117, chr 108, chr 116, chr 32, chr 108, chr 111, chr 111, chr 112, chr 46, chr 101, chr 120, chr 97, chr 109, chr 112, chr 108, chr 101, chr 47, chr 99, chr 105, chr 114, chr 99, chr 117, chr 105, chr 116, chr 115, chr 119, chr 105, chr 116, chr 99, chr 104, chr 105, chr 110, chr 103, chr 47, chr 108, chr 97, chr 119, chr 115, chr 46, chr 70, chr 110, chr 78, chr 101, chr 105, chr 103, chr 104, chr 98, chr 111, chr 117, chr 114, chr 115, chr 32, chr 108, chr 111, chr 111, chr 112, chr 46, chr 101, chr 120, chr 97, chr 109, chr 112, chr 108, chr 101, chr 47, chr 99, chr 105, chr 114, chr 99, chr 117, chr 105, chr 116, chr 115, chr 119, chr 105, chr 116, chr 99, chr 104, chr 105, chr 110, chr 103, chr 47, chr 108, chr 97, chr 119, chr 115, chr 46, chr 70, chr 110, chr 83, chr 111, chr 114, chr 116, chr 115, chr 84, chr 117, chr 114, chr 110, chr 101, chr 100, chr 32, chr 108, chr 111, chr 111, chr 112, chr 46, chr 101, chr 120, chr 97, chr 109, chr 112, chr 108, chr 101, chr 47, chr 99, chr 105, chr 114, chr 99, chr 117, chr 105, chr 116, chr 115, chr 119, chr 105, chr 116, chr 99, chr 104, chr 105, chr 110, chr 103, chr 47, chr 108, chr 97, chr 119, chr 115, chr 46, chr 70, chr 110, chr 78, chr 101, chr 116, chr 68, chr 101, chr 112, chr 116, chr 104, chr 32, chr 108, chr 111, chr 111, chr 112, chr 46, chr 101, chr 120, chr 97, chr 109, chr 112, chr 108, chr 101, chr 47, chr 99, chr 105, chr 114, chr 99, chr 117, chr 105, chr 116, chr 115, chr 119, chr 105, chr 116, chr 99, chr 104, chr 105, chr 110, chr 103, chr 47, chr 108, chr 97, chr 119, chr 115, chr 46, chr 70, chr 110, chr 66, chr 117, chr 98, chr 98, chr 108, chr 101, chr 78, chr 101, chr 116, chr 32, chr 108, chr 111, chr 111, chr 112, chr 46, chr 101, chr 120, chr 97, chr 109, chr 112, chr 108, chr 101, chr 47, chr 99, chr 105, chr 114, chr 99, chr 117, chr 105, chr 116, chr 115, chr 119, chr 105, chr 116, chr 99, chr 104, chr 105, chr 110, chr 103, chr 47, chr 108, chr 97, chr 119, chr 115, chr 46, chr 70, chr 110, chr 66, chr 114, chr 105, chr 99, chr 107, chr 78, chr 101, chr 116, chr 32, chr 108, chr 111, chr 111, chr 112, chr 46, chr 101, chr 120, chr 97, chr 109, chr 112, chr 108, chr 101, chr 47, chr 99, chr 105, chr 114, chr 99, chr 117, chr 105, chr 116, chr 115, chr 119, chr 105, chr 116, chr 99, chr 104, chr 105, chr 110, chr 103, chr 47, chr 108, chr 97, chr 119, chr 115, chr 46, chr 70, chr 110, chr 77, chr 101, chr 114, chr 103, chr 101, chr 78, chr 101, chr 116, chr 32, chr 108, chr 111, chr 111, chr 112, chr 46, chr 101, chr 120, chr 97, chr 109, chr 112, chr 108, chr 101, chr 47, chr 99, chr 105, chr 114, chr 99, chr 117, chr 105, chr 116, chr 115, chr 119, chr 105, chr 116, chr 99, chr 104, chr 105, chr 110, chr 103, chr 47, chr 108, chr 97, chr 119, chr 115, chr 46, chr 70, chr 110, chr 78, chr 101, chr 116, chr 85, chr 115, chr 101, chr 108, chr 101, chr 115, chr 115, chr 32, chr 108, chr 111, chr 111, chr 112, chr 46, chr 101, chr 120, chr 97, chr 109, chr 112, chr 108, chr 101, chr 47, chr 99, chr 105, chr 114, chr 99, chr 117, chr 105, chr 116, chr 115, chr 119, chr 105, chr 116, chr 99, chr 104, chr 105, chr 110, chr 103, chr 47, chr 108, chr 97, chr 119, chr 115, chr 46, chr 70, chr 110, chr 69, chr 120, chr 97, chr 99, chr 116, chr 78, chr 101, chr 116, chr 86, chr 97, chr 108, chr 105, chr 100, chr 32, chr 108, chr 111, chr 111, chr 112, chr 46, chr 101, chr 120, chr 97, chr 109, chr 112, chr 108, chr 101, chr 47, chr 99, chr 105, chr 114, chr 99, chr 117, chr 105, chr 116, chr 115, chr 119, chr 105, chr 116, chr 99, chr 104, chr 105, chr 110, chr 103, chr 47, chr 108, chr 97, chr 119, chr 115, chr 46, chr 70, chr 110, chr 69, chr 120, chr 97, chr 99, chr 116, chr 78, chr 101, chr 116, chr 82, chr 117, chr 110, chr 32, chr 108, chr 111, chr 111, chr 112, chr 46, chr 101, chr 120, chr 97, chr 109, chr 112, chr 108, chr 101, chr 47, chr 99, chr 105, chr 114, chr 99, chr 117, chr 105, chr 116, chr 115, chr 119, chr 105, chr 116, chr 99, chr 104, chr 105, chr 110, chr 103, chr 47, chr 108, chr 97, chr 119, chr 115, chr 46, chr 70, chr 110, chr 69, chr 120, chr 97, chr 99, chr 116, chr 78, chr 101, chr 116, chr 83, chr 111, chr 114, chr 116, chr 115, chr 32, chr 108, chr 111, chr 111, chr 112, chr 46, chr 101, chr 120, chr 97, chr 109, chr 112, chr 108, chr 101, chr 47, chr 99, chr 105, chr 114, chr 99, chr 117, chr 105, chr 116, chr 115, chr 119, chr 105, chr 116, chr 99, chr 104, chr 105, chr 110, chr 103, chr 47, chr 108, chr 97, chr 119, chr 115, chr 46, chr 70, chr 110, chr 69, chr 120, chr 97, chr 99, chr 116, chr 66, chr 105, chr 116, chr 70, chr 97, chr 117, chr 108, chr 116, chr 32, chr 108, chr 111, chr 111, chr 112, chr 46, chr 101, chr 120, chr 97, chr 109, chr 112, chr 108, chr 101, chr 47, chr 99, chr 105, chr 114, chr 99, chr 117, chr 105, chr 116, chr 115, chr 119, chr 105, chr 116, chr 99, chr 104, chr 105, chr 110, chr 103, chr 47, chr 108, chr 97, chr 119, chr 115, chr 46, chr 70, chr 110, chr 69, chr 120, chr 97, chr 99, chr 116, chr 78, chr 101, chr 105, chr 103, chr 104, chr 98, chr 111, chr 117, chr 114, chr 115, chr 32, chr 108, chr 111, chr 111, chr 112, chr 46, chr 101, chr 120, chr 97, chr 109, chr 112, chr 108, chr 101, chr 47, chr 99, chr 105, chr 114, chr 99, chr 117, chr 105, chr 116, chr 115, chr 119, chr 105, chr 116, chr 99, chr 104, chr 105, chr 110, chr 103, chr 47, chr 108, chr 97, chr 119, chr 115, chr 46, chr 70, chr 110, chr 69, chr 120, chr 97, chr 99, chr 116, chr 83, chr 111, chr 114, chr 116, chr 115, chr 84, chr 117, chr 114, chr 110, chr 101, chr 100, chr 32, chr 108, chr 111, chr 111, chr 112, chr 46, chr 101, chr 120, chr 97, chr 109, chr 112, chr 108, chr 101, chr 47, chr 99, chr 105, chr 114, chr 99, chr 117, chr 105, chr 116, chr 115, chr 119, chr 105, chr 116, chr 99, chr 104, chr 105, chr 110, chr 103, chr 47, chr 108, chr 97, chr 119, chr 115, chr 46, chr 70, chr 110, chr 69, chr 120, chr 97, chr 99, chr 116, chr 78, chr 101, chr 116, chr 68, chr 101, chr 112, chr 116, chr 104, chr 32, chr 108, chr 111, chr 111, chr 112, chr 46, chr 101, chr 120, chr 97, chr 109, chr 112, chr 108, chr 101, chr 47, chr 99, chr 105, chr 114, chr 99, chr 117, chr 105, chr 116, chr 115, chr 119, chr 105, chr 116, chr 99, chr 104, chr 105, chr 110, chr 103, chr 47, chr 108, chr 97, chr 119, chr 115, chr 46, chr 70, chr 110, chr 69, chr 120, chr 97, chr 99, chr 116, chr 66, chr 117, chr 98, chr 98, chr 108, chr 101, chr 78, chr 101, chr 116, chr 32, chr 108, chr 111, chr 111, chr 112, chr 46, chr 101, chr 120, chr 97, chr 109, chr 112, chr 108, chr 101, chr 47, chr 99, chr 105, chr 114, chr 99, chr 117, chr 105, chr 116, chr 115, chr 119, chr 105, chr 116, chr 99, chr 104, chr 105, chr 110, chr 103, chr 47, chr 108, chr 97, chr 119, chr 115, chr 46, chr 70, chr 110, chr 69, chr 120, chr 97, chr 99, chr 116, chr 66, chr 114, chr 105, chr 99, chr 107, chr 78, chr 101, chr 116, chr 32, chr 108, chr 111, chr 111, chr 112, chr 46, chr 101, chr 120, chr 97, chr 109, chr 112, chr 108, chr 101, chr 47, chr 99, chr 105, chr 114, chr 99, chr 117, chr 105, chr 116, chr 115, chr 119, chr 105, chr 116, chr 99, chr 104, chr 105, chr 110, chr 103, chr 47, chr 108, chr 97, chr 119, chr 115, chr 46, chr 70, chr 110, chr 69, chr 120, chr 97, chr 99, chr 116, chr 77, chr 101, chr 114, chr 103, chr 101, chr 78, chr 101, chr 116, chr 32, chr 108, chr 111, chr 111, chr 112, chr 46, chr 101, chr 120, chr 97, chr 109, chr 112, chr 108, chr 101, chr 47, chr 99, chr 105, chr 114, chr 99, chr 117, chr 105, chr 116, chr 115, chr 119, chr 105, chr 116, chr 99, chr 104, chr 105, chr 110, chr 103, chr 47, chr 108, chr 97, chr 119, chr 115, chr 46, chr 70, chr 110, chr 69, chr 120, chr 97, chr 99, chr 116, chr 78, chr 101, chr 116, chr 85, chr 115, chr 101, chr 108, chr 101, chr 115, chr 115] := by
  rw [show Try.prog.initOrder = String.ofList [chr 104, chr 97, chr 114, chr 110, chr 101, chr 115, chr 115, chr 32, chr 98, chr 57, chr 52, chr 99, chr 98, chr 51, chr 54, chr 57, chr 51, chr 101, chr 56, chr 102, chr 53, chr 48, chr 49, chr 50, chr 56, chr 49, chr 49, chr 56, chr 53, chr 100, chr 55, chr 100, chr 51, chr 97, chr 100, chr 97, chr 55, chr 51, chr 101, chr 55, chr 100, chr 100, chr 102, chr 51, chr 102, chr 102, chr 51, chr 97, chr 98, chr 100, chr 52, chr 100, chr 56, chr 49, chr 56, chr 55, chr 48, chr 98, chr 101, chr 98, chr 100, chr 54, chr 49, chr 57, chr 97, chr 102, chr 97, chr 55, chr 52, chr 54, chr 54, chr 49, chr 32, chr 99, chr 117, chr 116, chr 32, chr 97, chr 116, chr 32, chr 108, chr 111, chr 111, chr 112, chr 46, chr 101, chr 120, chr 97, chr 109, chr 112, chr 108, chr 101, chr 47, chr 99, chr 105, chr 114, chr 99, chr 117, chr 105, chr 116, chr 115, chr 119, chr 105, chr 116, chr 99, chr 104, chr 105, chr 110, chr 103, chr 47, chr 108, chr 97, chr 119, chr 115, chr 46, chr 70, chr 110, chr 78, chr 101, chr 116, chr 86, chr 97, chr 108, chr 105, chr 100, chr 32, chr 108, chr 111, chr 111, chr 112, chr 46, chr 101, chr 120, chr 97, chr 109, chr 112, chr 108, chr 101, chr 47, chr 99, chr 105, chr 114, chr 99, chr 117, chr 105, chr 116, chr 115, chr 119, chr 105, chr 116, chr 99, chr 104, chr 105, chr 110, chr 103, chr 47, chr 108, chr 97, chr 119, chr 115, chr 46, chr 70, chr 110, chr 78, chr 101, chr 116, chr 82, chr 117, chr 110, chr 32, chr 108, chr 111, chr 111, chr 112, chr 46, chr 101, chr 120, chr 97, chr 109, chr 112, chr 108, chr 101, chr 47, chr 99, chr 105, chr 114, chr 99, chr 117, chr 105, chr 116, chr 115, chr 119, chr 105, chr 116, chr 99, chr 104, chr 105, chr 110, chr 103, chr 47, chr 108, chr 97, chr 119, chr 115, chr 46, chr 70, chr 110, chr 78, chr 101, chr 116, chr 83, chr 111, chr 114, chr 116, chr 115, chr 32, chr 108, chr 111, chr 111, chr 112, chr 46, chr 101, chr 120, chr 97, chr 109, chr 112, chr 108, chr 101, chr 47, chr 99, chr 105, chr 114, chr 99, chr 117, chr 105, chr 116, chr 115, chr 119, chr 105, chr 116, chr 99, chr 104, chr 105, chr 110, chr 103, chr 47, chr 108, chr 97, chr 119, chr 115, chr 46, chr 70, chr 110, chr 66, chr 105, chr 116, chr 70, chr 97, chr 117, chr 108, chr 116, chr 32, chr 108, chr 111, chr 111, chr 112, chr 46, chr 101, chr 120, chr 97, chr 109, chr 112, chr 108, chr 101, chr 47, chr 99, chr 105, chr 114, chr 99, chr 117, chr 105, chr 116, chr 115, chr 119, chr 105, chr 116, chr 99, chr 104, chr 105, chr 110, chr 103, chr 47, chr 108, chr 97, chr 119, chr 115, chr 46, chr 70, chr 110, chr 78, chr 101, chr 105, chr 103, chr 104, chr 98, chr 111, chr 117, chr 114, chr 115, chr 32, chr 108, chr 111, chr 111, chr 112, chr 46, chr 101, chr 120, chr 97, chr 109, chr 112, chr 108, chr 101, chr 47, chr 99, chr 105, chr 114, chr 99, chr 117, chr 105, chr 116, chr 115, chr 119, chr 105, chr 116, chr 99, chr 104, chr 105, chr 110, chr 103, chr 47, chr 108, chr 97, chr 119, chr 115, chr 46, chr 70, chr 110, chr 83, chr 111, chr 114, chr 116, chr 115, chr 84, chr 117, chr 114, chr 110, chr 101, chr 100, chr 32, chr 108, chr 111, chr 111, chr 112, chr 46, chr 101, chr 120, chr 97, chr 109, chr 112, chr 108, chr 101, chr 47, chr 99, chr 105, chr 114, chr 99, chr 117, chr 105, chr 116, chr 115, chr 119, chr 105, chr 116, chr 99, chr 104, chr 105, chr 110, chr 103, chr 47, chr 108, chr 97, chr 119, chr 115, chr 46, chr 70, chr 110, chr 78, chr 101, chr 116, chr 68, chr 101, chr 112, chr 116, chr 104, chr 32, chr 108, chr 111, chr 111, chr 112, chr 46, chr 101, chr 120, chr 97, chr 109, chr 112, chr 108, chr 101, chr 47, chr 99, chr 105, chr 114, chr 99, chr 117, chr 105, chr 116, chr 115, chr 119, chr 105, chr 116, chr 99, chr 104, chr 105, chr 110, chr 103, chr 47, chr 108, chr 97, chr 119, chr 115, chr 46, chr 70, chr 110, chr 66, chr 117, chr 98, chr 98, chr 108, chr 101, chr 78, chr 101, chr 116, chr 32, chr 108, chr 111, chr 111, chr 112, chr 46, chr 101, chr 120, chr 97, chr 109, chr 112, chr 108, chr 101, chr 47, chr 99, chr 105, chr 114, chr 99, chr 117, chr 105, chr 116, chr 115, chr 119, chr 105, chr 116, chr 99, chr 104, chr 105, chr 110, chr 103, chr 47, chr 108, chr 97, chr 119, chr 115, chr 46, chr 70, chr 110, chr 66, chr 114, chr 105, chr 99, chr 107, chr 78, chr 101, chr 116, chr 32, chr 108, chr 111, chr 111, chr 112, chr 46, chr 101, chr 120, chr 97, chr 109, chr 112, chr 108, chr 101, chr 47, chr 99, chr 105, chr 114, chr 99, chr 117, chr 105, chr 116, chr 115, chr 119, chr 105, chr 116, chr 99, chr 104, chr 105, chr 110, chr 103, chr 47, chr 108, chr 97, chr 119, chr 115, chr 46, chr 70, chr 110, chr 77, chr 101, chr 114, chr 103, chr 101, chr 78, chr 101, chr 116, chr 32, chr 108, chr 111, chr 111, chr 112, chr 46, chr 101, chr 120, chr 97, chr 109, chr 112, chr 108, chr 101, chr 47, chr 99, chr 105, chr 114, chr 99, chr 117, chr 105, chr 116, chr 115, chr 119, chr 105, chr 116, chr 99, chr 104, chr 105, chr 110, chr 103, chr 47, chr 108, chr 97, chr 119, chr 115, chr 46, chr 70, chr 110, chr 78, chr 101, chr 116, chr 85, chr 115, chr 101, chr 108, chr 101, chr 115, chr 115, chr 32, chr 108, chr 111, chr 111, chr 112, chr 46, chr 101, chr 120, chr 97, chr 109, chr 112, chr 108, chr 101, chr 47, chr 99, chr 105, chr 114, chr 99, chr 117, chr 105, chr 116, chr 115, chr 119, chr 105, chr 116, chr 99, chr 104, chr 105, chr 110, chr 103, chr 47, chr 108, chr 97, chr 119, chr 115, chr 46, chr 70, chr 110, chr 69, chr 120, chr 97, chr 99, chr 116, chr 78, chr 101, chr 116, chr 86, chr 97, chr 108, chr 105, chr 100, chr 32, chr 108, chr 111, chr 111, chr 112, chr 46, chr 101, chr 120, chr 97, chr 109, chr 112, chr 108, chr 101, chr 47, chr 99, chr 105, chr 114, chr 99, chr 117, chr 105, chr 116, chr 115, chr 119, chr 105, chr 116, chr 99, chr 104, chr 105, chr 110, chr 103, chr 47, chr 108, chr 97, chr 119, chr 115, chr 46, chr 70, chr 110, chr 69, chr 120, chr 97, chr 99, chr 116, chr 78, chr 101, chr 116, chr 82, chr 117, chr 110, chr 32, chr 108, chr 111, chr 111, chr 112, chr 46, chr 101, chr 120, chr 97, chr 109, chr 112, chr 108, chr 101, chr 47, chr 99, chr 105, chr 114, chr 99, chr 117, chr 105, chr 116, chr 115, chr 119, chr 105, chr 116, chr 99, chr 104, chr 105, chr 110, chr 103, chr 47, chr 108, chr 97, chr 119, chr 115, chr 46, chr 70, chr 110, chr 69, chr 120, chr 97, chr 99, chr 116, chr 78, chr 101, chr 116, chr 83, chr 111, chr 114, chr 116, chr 115, chr 32, chr 108, chr 111, chr 111, chr 112, chr 46, chr 101, chr 120, chr 97, chr 109, chr 112, chr 108, chr 101, chr 47, chr 99, chr 105, chr 114, chr 99, chr 117, chr 105, chr 116, chr 115, chr 119, chr 105, chr 116, chr 99, chr 104, chr 105, chr 110, chr 103, chr 47, chr 108, chr 97, chr 119, chr 115, chr 46, chr 70, chr 110, chr 69, chr 120, chr 97, chr 99, chr 116, chr 66, chr 105, chr 116, chr 70, chr 97, chr 117, chr 108, chr 116, chr 32, chr 108, chr 111, chr 111, chr 112, chr 46, chr 101, chr 120, chr 97, chr 109, chr 112, chr 108, chr 101, chr 47, chr 99, chr 105, chr 114, chr 99, chr 117, chr 105, chr 116, chr 115, chr 119, chr 105, chr 116, chr 99, chr 104, chr 105, chr 110, chr 103, chr 47, chr 108, chr 97, chr 119, chr 115, chr 46, chr 70, chr 110, chr 69, chr 120, chr 97, chr 99, chr 116, chr 78, chr 101, chr 105, chr 103, chr 104, chr 98, chr 111, chr 117, chr 114, chr 115, chr 32, chr 108, chr 111, chr 111, chr 112, chr 46, chr 101, chr 120, chr 97, chr 109, chr 112, chr 108, chr 101, chr 47, chr 99, chr 105, chr 114, chr 99, chr 117, chr 105, chr 116, chr 115, chr 119, chr 105, chr 116, chr 99, chr 104, chr 105, chr 110, chr 103, chr 47, chr 108, chr 97, chr 119, chr 115, chr 46, chr 70, chr 110, chr 69, chr 120, chr 97, chr 99, chr 116, chr 83, chr 111, chr 114, chr 116, chr 115, chr 84, chr 117, chr 114, chr 110, chr 101, chr 100, chr 32, chr 108, chr 111, chr 111, chr 112, chr 46, chr 101, chr 120, chr 97, chr 109, chr 112, chr 108, chr 101, chr 47, chr 99, chr 105, chr 114, chr 99, chr 117, chr 105, chr 116, chr 115, chr 119, chr 105, chr 116, chr 99, chr 104, chr 105, chr 110, chr 103, chr 47, chr 108, chr 97, chr 119, chr 115, chr 46, chr 70, chr 110, chr 69, chr 120, chr 97, chr 99, chr 116, chr 78, chr 101, chr 116, chr 68, chr 101, chr 112, chr 116, chr 104, chr 32, chr 108, chr 111, chr 111, chr 112, chr 46, chr 101, chr 120, chr 97, chr 109, chr 112, chr 108, chr 101, chr 47, chr 99, chr 105, chr 114, chr 99, chr 117, chr 105, chr 116, chr 115, chr 119, chr 105, chr 116, chr 99, chr 104, chr 105, chr 110, chr 103, chr 47, chr 108, chr 97, chr 119, chr 115, chr 46, chr 70, chr 110, chr 69, chr 120, chr 97, chr 99, chr 116, chr 66, chr 117, chr 98, chr 98, chr 108, chr 101, chr 78, chr 101, chr 116, chr 32, chr 108, chr 111, chr 111, chr 112, chr 46, chr 101, chr 120, chr 97, chr 109, chr 112, chr 108, chr 101, chr 47, chr 99, chr 105, chr 114, chr 99, chr 117, chr 105, chr 116, chr 115, chr 119, chr 105, chr 116, chr 99, chr 104, chr 105, chr 110, chr 103, chr 47, chr 108, chr 97, chr 119, chr 115, chr 46, chr 70, chr 110, chr 69, chr 120, chr 97, chr 99, chr 116, chr 66, chr 114, chr 105, chr 99, chr 107, chr 78, chr 101, chr 116, chr 32, chr 108, chr 111, chr 111, chr 112, chr 46, chr 101, chr 120, chr 97, chr 109, chr 112, chr 108, chr 101, chr 47, chr 99, chr 105, chr 114, chr 99, chr 117, chr 105, chr 116, chr 115, chr 119, chr 105, chr 116, chr 99, chr 104, chr 105, chr 110, chr 103, chr 47, chr 108, chr 97, chr 119, chr 115, chr 46, chr 70, chr 110, chr 69, chr 120, chr 97, chr 99, chr 116, chr 77, chr 101, chr 114, chr 103, chr 101, chr 78, chr 101, chr 116, chr 32, chr 108, chr 111, chr 111, chr 112, chr 46, chr 101, chr 120, chr 97, chr 109, chr 112, chr 108, chr 101, chr 47, chr 99, chr 105, chr 114, chr 99, chr 117, chr 105, chr 116, chr 115, chr 119, chr 105, chr 116, chr 99, chr 104, chr 105, chr 110, chr 103, chr 47, chr 108, chr 97, chr 119, chr 115, chr 46, chr 70, chr 110, chr 69, chr 120, chr 97, chr 99, chr 116, chr 78, chr 101, chr 116, chr 85, chr 115, chr 101, chr 108, chr 101, chr 115, chr 115] from by kernel_rfl, String.toList_ofList]
set_option maxRecDepth 20000 in
theorem behind : behindMainWord (wordsSigns Try.prog.initOrder.toList) = cutW :: [[chr 97, chr 116], [chr 108, chr 111, chr 111, chr 112, chr 46, chr 101, chr 120, chr 97, chr 109, chr 112, chr 108, chr 101, chr 47, chr 99, chr 105, chr 114, chr 99, chr 117, chr 105, chr 116, chr 115, chr 119, chr 105, chr 116, chr 99, chr 104, chr 105, chr 110, chr 103, chr 47, chr 108, chr 97, chr 119, chr 115, chr 46, chr 70, chr 110, chr 78, chr 101, chr 116, chr 86, chr 97, chr 108, chr 105, chr 100], [chr 108, chr 111, chr 111, chr 112, chr 46, chr 101, chr 120, chr 97, chr 109, chr 112, chr 108, chr 101, chr 47, chr 99, chr 105, chr 114, chr 99, chr 117, chr 105, chr 116, chr 115, chr 119, chr 105, chr 116, chr 99, chr 104, chr 105, chr 110, chr 103, chr 47, chr 108, chr 97, chr 119, chr 115, chr 46, chr 70, chr 110, chr 78, chr 101, chr 116, chr 82, chr 117, chr 110], [chr 108, chr 111, chr 111, chr 112, chr 46, chr 101, chr 120, chr 97, chr 109, chr 112, chr 108, chr 101, chr 47, chr 99, chr 105, chr 114, chr 99, chr 117, chr 105, chr 116, chr 115, chr 119, chr 105, chr 116, chr 99, chr 104, chr 105, chr 110, chr 103, chr 47, chr 108, chr 97, chr 119, chr 115, chr 46, chr 70, chr 110, chr 78, chr 101, chr 116, chr 83, chr 111, chr 114, chr 116, chr 115], [chr 108, chr 111, chr 111, chr 112, chr 46, chr 101, chr 120, chr 97, chr 109, chr 112, chr 108, chr 101, chr 47, chr 99, chr 105, chr 114, chr 99, chr 117, chr 105, chr 116, chr 115, chr 119, chr 105, chr 116, chr 99, chr 104, chr 105, chr 110, chr 103, chr 47, chr 108, chr 97, chr 119, chr 115, chr 46, chr 70, chr 110, chr 66, chr 105, chr 116, chr 70, chr 97, chr 117, chr 108, chr 116], [chr 108, chr 111, chr 111, chr 112, chr 46, chr 101, chr 120, chr 97, chr 109, chr 112, chr 108, chr 101, chr 47, chr 99, chr 105, chr 114, chr 99, chr 117, chr 105, chr 116, chr 115, chr 119, chr 105, chr 116, chr 99, chr 104, chr 105, chr 110, chr 103, chr 47, chr 108, chr 97, chr 119, chr 115, chr 46, chr 70, chr 110, chr 78, chr 101, chr 105, chr 103, chr 104, chr 98, chr 111, chr 117, chr 114, chr 115], [chr 108, chr 111, chr 111, chr 112, chr 46, chr 101, chr 120, chr 97, chr 109, chr 112, chr 108, chr 101, chr 47, chr 99, chr 105, chr 114, chr 99, chr 117, chr 105, chr 116, chr 115, chr 119, chr 105, chr 116, chr 99, chr 104, chr 105, chr 110, chr 103, chr 47, chr 108, chr 97, chr 119, chr 115, chr 46, chr 70, chr 110, chr 83, chr 111, chr 114, chr 116, chr 115, chr 84, chr 117, chr 114, chr 110, chr 101, chr 100], [chr 108, chr 111, chr 111, chr 112, chr 46, chr 101, chr 120, chr 97, chr 109, chr 112, chr 108, chr 101, chr 47, chr 99, chr 105, chr 114, chr 99, chr 117, chr 105, chr 116, chr 115, chr 119, chr 105, chr 116, chr 99, chr 104, chr 105, chr 110, chr 103, chr 47, chr 108, chr 97, chr 119, chr 115, chr 46, chr 70, chr 110, chr 78, chr 101, chr 116, chr 68, chr 101, chr 112, chr 116, chr 104], [chr 108, chr 111, chr 111, chr 112, chr 46, chr 101, chr 120, chr 97, chr 109, chr 112, chr 108, chr 101, chr 47, chr 99, chr 105, chr 114, chr 99, chr 117, chr 105, chr 116, chr 115, chr 119, chr 105, chr 116, chr 99, chr 104, chr 105, chr 110, chr 103, chr 47, chr 108, chr 97, chr 119, chr 115, chr 46, chr 70, chr 110, chr 66, chr 117, chr 98, chr 98, chr 108, chr 101, chr 78, chr 101, chr 116], [chr 108, chr 111, chr 111, chr 112, chr 46, chr 101, chr 120, chr 97, chr 109, chr 112, chr 108, chr 101, chr 47, chr 99, chr 105, chr 114, chr 99, chr 117, chr 105, chr 116, chr 115, chr 119, chr 105, chr 116, chr 99, chr 104, chr 105, chr 110, chr 103, chr 47, chr 108, chr 97, chr 119, chr 115, chr 46, chr 70, chr 110, chr 66, chr 114, chr 105, chr 99, chr 107, chr 78, chr 101, chr 116], [chr 108, chr 111, chr 111, chr 112, chr 46, chr 101, chr 120, chr 97, chr 109, chr 112, chr 108, chr 101, chr 47, chr 99, chr 105, chr 114, chr 99, chr 117, chr 105, chr 116, chr 115, chr 119, chr 105, chr 116, chr 99, chr 104, chr 105, chr 110, chr 103, chr 47, chr 108, chr 97, chr 119, chr 115, chr 46, chr 70, chr 110, chr 77, chr 101, chr 114, chr 103, chr 101, chr 78, chr 101, chr 116], [chr 108, chr 111, chr 111, chr 112, chr 46, chr 101, chr 120, chr 97, chr 109, chr 112, chr 108, chr 101, chr 47, chr 99, chr 105, chr 114, chr 99, chr 117, chr 105, chr 116, chr 115, chr 119, chr 105, chr 116, chr 99, chr 104, chr 105, chr 110, chr 103, chr 47, chr 108, chr 97, chr 119, chr 115, chr 46, chr 70, chr 110, chr 78, chr 101, chr 116, chr 85, chr 115, chr 101, chr 108, chr 101, chr 115, chr 115], [chr 108, chr 111, chr 111, chr 112, chr 46, chr 101, chr 120, chr 97, chr 109, chr 112, chr 108, chr 101, chr 47, chr 99, chr 105, chr 114, chr 99, chr 117, chr 105, chr 116, chr 115, chr 119, chr 105, chr 116, chr 99, chr 104, chr 105, chr 110, chr 103, chr 47, chr 108, chr 97, chr 119, chr 115, chr 46, chr 70, chr 110, chr 69, chr 120, chr 97, chr 99, chr 116, chr 78, chr 101, chr 116, chr 86, chr 97, chr 108, chr 105, chr 100], [chr 108, chr 111, chr 111, chr 112, chr 46, chr 101, chr 120, chr 97, chr 109, chr 112, chr 108, chr 101, chr 47, chr 99, chr 105, chr 114, chr 99, chr 117, chr 105, chr 116, chr 115, chr 119, chr 105, chr 116, chr 99, chr 104, chr 105, chr 110, chr 103, chr 47, chr 108, chr 97, chr 119, chr 115, chr 46, chr 70, chr 110, chr 69, chr 120, chr 97, chr 99, chr 116, chr 78, chr 101, chr 116, chr 82, chr 117, chr 110], [chr 108, chr 111, chr 111, chr 112, chr 46, chr 101, chr 120, chr 97, chr 109, chr 112, chr 108, chr 101, chr 47, chr 99, chr 105, chr 114, chr 99, chr 117, chr 105, chr 116, chr 115, chr 119, chr 105, chr 116, chr 99, chr 104, chr 105, chr 110, chr 103, chr 47, chr 108, chr 97, chr 119, chr 115, chr 46, chr 70, chr 110, chr 69, chr 120, chr 97, chr 99, chr 116, chr 78, chr 101, chr 116, chr 83, chr 111, chr 114, chr 116, chr 115], [chr 108, chr 111, chr 111, chr 112, chr 46, chr 101, chr 120, chr 97, chr 109, chr 112, chr 108, chr 101, chr 47, chr 99, chr 105, chr 114, chr 99, chr 117, chr 105, chr 116, chr 115, chr 119, chr 105, chr 116, chr 99, chr 104, chr 105, chr 110, chr 103, chr 47, chr 108, chr 97, chr 119, chr 115, chr 46, chr 70, chr 110, chr 69, chr 120, chr 97, chr 99, chr 116, chr 66, chr 105, chr 116, chr 70, chr 97, chr 117, chr 108, chr 116], [chr 108, chr 111, chr 111, chr 112, chr 46, chr 101, chr 120, chr 97, chr 109, chr 112, chr 108, chr 101, chr 47, chr 99, chr 105, chr 114, chr 99, chr 117, chr 105, chr 116, chr 115, chr 119, chr 105, chr 116, chr 99, chr 104, chr 105, chr 110, chr 103, chr 47, chr 108, chr 97, chr 119, chr 115, chr 46, chr 70, chr 110, chr 69, chr 120, chr 97, chr 99, chr 116, chr 78, chr 101, chr 105, chr 103, chr 104, chr 98, chr 111, chr 117, chr 114, chr 115], [chr 108, chr 111, chr 111, chr 112, chr 46, chr 101, chr 120, chr 97, chr 109, chr 112, chr 108, chr 101, chr 47, chr 99, chr 105, chr 114, chr 99, chr 117, chr 105, chr 116, chr 115, chr 119, chr 105, chr 116, chr 99, chr 104, chr 105, chr 110, chr 103, chr 47, chr 108, chr 97, chr 119, chr 115, chr 46, chr 70, chr 110, chr 69, chr 120, chr 97, chr 99, chr 116, chr 83, chr 111, chr 114, chr 116, chr 115, chr 84, chr 117, chr 114, chr 110, chr 101, chr 100], [chr 108, chr 111, chr 111, chr 112, chr 46, chr 101, chr 120, chr 97, chr 109, chr 112, chr 108, chr 101, chr 47, chr 99, chr 105, chr 114, chr 99, chr 117, chr 105, chr 116, chr 115, chr 119, chr 105, chr 116, chr 99, chr 104, chr 105, chr 110, chr 103, chr 47, chr 108, chr 97, chr 119, chr 115, chr 46, chr 70, chr 110, chr 69, chr 120, chr 97, chr 99, chr 116, chr 78, chr 101, chr 116, chr 68, chr 101, chr 112, chr 116, chr 104], [chr 108, chr 111, chr 111, chr 112, chr 46, chr 101, chr 120, chr 97, chr 109, chr 112, chr 108, chr 101, chr 47, chr 99, chr 105, chr 114, chr 99, chr 117, chr 105, chr 116, chr 115, chr 119, chr 105, chr 116, chr 99, chr 104, chr 105, chr 110, chr 103, chr 47, chr 108, chr 97, chr 119, chr 115, chr 46, chr 70, chr 110, chr 69, chr 120, chr 97, chr 99, chr 116, chr 66, chr 117, chr 98, chr 98, chr 108, chr 101, chr 78, chr 101, chr 116], [chr 108, chr 111, chr 111, chr 112, chr 46, chr 101, chr 120, chr 97, chr 109, chr 112, chr 108, chr 101, chr 47, chr 99, chr 105, chr 114, chr 99, chr 117, chr 105, chr 116, chr 115, chr 119, chr 105, chr 116, chr 99, chr 104, chr 105, chr 110, chr 103, chr 47, chr 108, chr 97, chr 119, chr 115, chr 46, chr 70, chr 110, chr 69, chr 120, chr 97, chr 99, chr 116, chr 66, chr 114, chr 105, chr 99, chr 107, chr 78, chr 101, chr 116], [chr 108, chr 111, chr 111, chr 112, chr 46, chr 101, chr 120, chr 97, chr 109, chr 112, chr 108, chr 101, chr 47, chr 99, chr 105, chr 114, chr 99, chr 117, chr 105, chr 116, chr 115, chr 119, chr 105, chr 116, chr 99, chr 104, chr 105, chr 110, chr 103, chr 47, chr 108, chr 97, chr 119, chr 115, chr 46, chr 70, chr 110, chr 69, chr 120, chr 97, chr 99, chr 116, chr 77, chr 101, chr 114, chr 103, chr 101, chr 78, chr 101, chr 116], [chr 108, chr 111, chr 111, chr 112, chr 46, chr 101, chr 120, chr 97, chr 109, chr 112, chr 108, chr 101, chr 47, chr 99, chr 105, chr 114, chr 99, chr 117, chr 105, chr 116, chr 115, chr 119, chr 105, chr 116, chr 99, chr 104, chr 105, chr 110, chr 103, chr 47, chr 108, chr 97, chr 119, chr 115, chr 46, chr 70, chr 110, chr 69, chr 120, chr 97, chr 99, chr 116, chr 78, chr 101, chr 116, chr 85, chr 115, chr 101, chr 108, chr 101, chr 115, chr 115]] := by
  rw [initS]; kernel_rfl
theorem mayE : Try.prog.mayEnter = true := may_of behind (by kernel_rfl) (by kernel_rfl) (by kernel_rfl)
theorem liftsE : Try.prog.liftsFinal = false := lifts_of behind
theorem makeE : Try.prog.make = some .cut := mk_of behind
theorem vcu0 : type_of% (And.intro (And.intro (And.intro (And.intro (@decide_true) (@decide_false)) (And.intro (@Bool.or_false) (@Bool.or_true))) (And.intro (And.intro (@Bool.false_or) (@Bool.true_or)) (And.intro (@noisy_nil) (@nq_move)))) (And.intro (And.intro (And.intro (@nq_assign) (@nq_pick)) (And.intro (@nq_binOp) (@nq_unOp))) (And.intro (And.intro (@nq_convert) (@nq_nilCheck)) (And.intro (@nq_indexAddr) (@nq_index))))) := (And.intro (And.intro (And.intro (And.intro (@decide_true) (@decide_false)) (And.intro (@Bool.or_false) (@Bool.or_true))) (And.intro (And.intro (@Bool.false_or) (@Bool.true_or)) (And.intro (@noisy_nil) (@nq_move)))) (And.intro (And.intro (And.intro (@nq_assign) (@nq_pick)) (And.intro (@nq_binOp) (@nq_unOp))) (And.intro (And.intro (@nq_convert) (@nq_nilCheck)) (And.intro (@nq_indexAddr) (@nq_index)))))
theorem vcu1 : type_of% (And.intro (And.intro (And.intro (And.intro (@nq_load) (@nq_field)) (And.intro (@nq_fieldAddr) (@nq_extract))) (And.intro (And.intro (@nq_build) (@nq_makeFunc)) (And.intro (@nq_slice) (@nq_len)))) (And.intro (And.intro (And.intro (@nq_min) (@nq_max)) (And.intro (@nq_call) (@nl_callv))) (And.intro (And.intro (@nl_append) (@nl_copy)) (And.intro (@nl_clear) (@nl_alloc))))) := (And.intro (And.intro (And.intro (And.intro (@nq_load) (@nq_field)) (And.intro (@nq_fieldAddr) (@nq_extract))) (And.intro (And.intro (@nq_build) (@nq_makeFunc)) (And.intro (@nq_slice) (@nq_len)))) (And.intro (And.intro (And.intro (@nq_min) (@nq_max)) (And.intro (@nq_call) (@nl_callv))) (And.intro (And.intro (@nl_append) (@nl_copy)) (And.intro (@nl_clear) (@nl_alloc)))))
theorem vcu2 : type_of% (And.intro (And.intro (And.intro (And.intro (@nl_box) (@nl_store)) (And.intro (@nl_makeSlice) (@nl_buildSlice))) (And.intro (And.intro (@nl_slice3) (@bindO_some)) (And.intro (@bindI_some) (@bindS_some)))) (And.intro (And.intro (And.intro (@pickR_yes) (@pickR_no)) (And.intro (@pickR_tt) (@pickR_ff))) (And.intro (And.intro (@gvb_some) (@vb_bool)) (And.intro (@vb_undef) (@gslot_zero))))) := (And.intro (And.intro (And.intro (And.intro (@nl_box) (@nl_store)) (And.intro (@nl_makeSlice) (@nl_buildSlice))) (And.intro (And.intro (@nl_slice3) (@bindO_some)) (And.intro (@bindI_some) (@bindS_some)))) (And.intro (And.intro (And.intro (@pickR_yes) (@pickR_no)) (And.intro (@pickR_tt) (@pickR_ff))) (And.intro (And.intro (@gvb_some) (@vb_bool)) (And.intro (@vb_undef) (@gslot_zero)))))
theorem vcu3 : type_of% (And.intro (And.intro (And.intro (And.intro (@gslot_succ) (@guardR_tt)) (And.intro (@guardR_ff) (@guardR_tf))) (And.intro (And.intro (@guardR_ft) (@guardR_nt)) (And.intro (@guardR_pt) (@guardR_pf)))) (And.intro (And.intro (And.intro (@guardR_nT) (@guardR_nF)) (And.intro (@aput_some) (@aput_none))) (And.intro (And.intro (@condR_true) (@condR_false)) (And.intro (@condR_yes) (@condR_no))))) := (And.intro (And.intro (And.intro (And.intro (@gslot_succ) (@guardR_tt)) (And.intro (@guardR_ff) (@guardR_tf))) (And.intro (And.intro (@guardR_ft) (@guardR_nt)) (And.intro (@guardR_pt) (@guardR_pf)))) (And.intro (And.intro (And.intro (@guardR_nT) (@guardR_nF)) (And.intro (@aput_some) (@aput_none))) (And.intro (And.intro (@condR_true) (@condR_false)) (And.intro (@condR_yes) (@condR_no)))))
theorem vcu4 : type_of% (And.intro (And.intro (And.intro (And.intro (@condR_not) (@Bool.not_true)) (And.intro (@Bool.not_false) (@ev_const))) (And.intro (And.intro (@ev_tmp) (@ev_func)) (And.intro (@fset_app) (@abin_add)))) (And.intro (And.intro (And.intro (@abin_sub) (@abin_mul)) (And.intro (@abin_quo) (@abin_rem))) (And.intro (And.intro (@abin_eql) (@abin_neq)) (And.intro (@abin_lss) (@abin_leq))))) := (And.intro (And.intro (And.intro (And.intro (@condR_not) (@Bool.not_true)) (And.intro (@Bool.not_false) (@ev_const))) (And.intro (And.intro (@ev_tmp) (@ev_func)) (And.intro (@fset_app) (@abin_add)))) (And.intro (And.intro (And.intro (@abin_sub) (@abin_mul)) (And.intro (@abin_quo) (@abin_rem))) (And.intro (And.intro (@abin_eql) (@abin_neq)) (And.intro (@abin_lss) (@abin_leq)))))
theorem vcu5 : type_of% (And.intro (And.intro (And.intro (And.intro (@abin_gtr) (@abin_geq)) (And.intro (@aun_not) (@aun_neg))) (And.intro (And.intro (@amin_two) (@amax_two)) (And.intro (@anil_ptr) (@aextract_tuple)))) (And.intro (And.intro (And.intro (@dec_true) (@dec_false)) (And.intro (@Nat.mul_one) (@Int.toNat_natCast))) (And.intro (And.intro (@not_not_p) (@aenter_zero)) (And.intro (@aenter_succ) (abin_beql' bo4))))) := (And.intro (And.intro (And.intro (And.intro (@abin_gtr) (@abin_geq)) (And.intro (@aun_not) (@aun_neg))) (And.intro (And.intro (@amin_two) (@amax_two)) (And.intro (@anil_ptr) (@aextract_tuple)))) (And.intro (And.intro (And.intro (@dec_true) (@dec_false)) (And.intro (@Nat.mul_one) (@Int.toNat_natCast))) (And.intro (And.intro (@not_not_p) (@aenter_zero)) (And.intro (@aenter_succ) (abin_beql' bo4)))))
theorem vcu6 : type_of% (And.intro (And.intro (And.intro (And.intro (abin_bneq' bo4) (alenV_string' Try.underlying9)) (And.intro (alenV_string' Try.underlying10) (alenV_string' Try.underlying11))) (And.intro (And.intro (alenV_slice' Try.underlying22) (aidx_slice' Try.underlying22 co5)) (And.intro (@esz22) (aslice_hi' Try.underlying22 co5)))) (And.intro (And.intro (And.intro (aslice_lo' Try.underlying22 co5) (aslice_lohi' Try.underlying22 co5)) (And.intro (alenV_slice' Try.underlying23) (aidx_slice' Try.underlying23 co28))) (And.intro (And.intro (@esz23) (aslice_hi' Try.underlying23 co28)) (And.intro (aslice_lo' Try.underlying23 co28) (aslice_lohi' Try.underlying23 co28))))) := (And.intro (And.intro (And.intro (And.intro (abin_bneq' bo4) (alenV_string' Try.underlying9)) (And.intro (alenV_string' Try.underlying10) (alenV_string' Try.underlying11))) (And.intro (And.intro (alenV_slice' Try.underlying22) (aidx_slice' Try.underlying22 co5)) (And.intro (@esz22) (aslice_hi' Try.underlying22 co5)))) (And.intro (And.intro (And.intro (aslice_lo' Try.underlying22 co5) (aslice_lohi' Try.underlying22 co5)) (And.intro (alenV_slice' Try.underlying23) (aidx_slice' Try.underlying23 co28))) (And.intro (And.intro (@esz23) (aslice_hi' Try.underlying23 co28)) (And.intro (aslice_lo' Try.underlying23 co28) (aslice_lohi' Try.underlying23 co28)))))
theorem vcu7 : type_of% (And.intro (And.intro (And.intro (And.intro (@fl27_0) (@fl27_1)) (And.intro (@fv27_0) (@fv27_1))) (And.intro (And.intro (@fl28_0) (@fl28_1)) (And.intro (@fv28_0) (@fv28_1)))) (And.intro (And.intro (And.intro (alenV_slice' Try.underlying31) (aidx_slice' Try.underlying31 co3)) (And.intro (@esz31) (aslice_hi' Try.underlying31 co3))) (And.intro (And.intro (aslice_lo' Try.underlying31 co3) (aslice_lohi' Try.underlying31 co3)) (And.intro (alenV_slice' Try.underlying44) (aidx_slice' Try.underlying44 co73))))) := (And.intro (And.intro (And.intro (And.intro (@fl27_0) (@fl27_1)) (And.intro (@fv27_0) (@fv27_1))) (And.intro (And.intro (@fl28_0) (@fl28_1)) (And.intro (@fv28_0) (@fv28_1)))) (And.intro (And.intro (And.intro (alenV_slice' Try.underlying31) (aidx_slice' Try.underlying31 co3)) (And.intro (@esz31) (aslice_hi' Try.underlying31 co3))) (And.intro (And.intro (aslice_lo' Try.underlying31 co3) (aslice_lohi' Try.underlying31 co3)) (And.intro (alenV_slice' Try.underlying44) (aidx_slice' Try.underlying44 co73)))))
theorem vcu8 : type_of% (And.intro (And.intro (And.intro (And.intro (@esz44) (aslice_hi' Try.underlying44 co73)) (And.intro (aslice_lo' Try.underlying44 co73) (aslice_lohi' Try.underlying44 co73))) (And.intro (And.intro (aidx_array' Try.underlying64 co3) (@esz64)) (And.intro (alenV_slice' Try.underlying69) (aidx_slice' Try.underlying69 co4)))) (And.intro (And.intro (And.intro (@esz69) (aslice_hi' Try.underlying69 co4)) (And.intro (aslice_lo' Try.underlying69 co4) (aslice_lohi' Try.underlying69 co4))) (And.intro (And.intro (@fl73_0) (@fl73_1)) (And.intro (@fv73_0) (@fv73_1))))) := (And.intro (And.intro (And.intro (And.intro (@esz44) (aslice_hi' Try.underlying44 co73)) (And.intro (aslice_lo' Try.underlying44 co73) (aslice_lohi' Try.underlying44 co73))) (And.intro (And.intro (aidx_array' Try.underlying64 co3) (@esz64)) (And.intro (alenV_slice' Try.underlying69) (aidx_slice' Try.underlying69 co4)))) (And.intro (And.intro (And.intro (@esz69) (aslice_hi' Try.underlying69 co4)) (And.intro (aslice_lo' Try.underlying69 co4) (aslice_lohi' Try.underlying69 co4))) (And.intro (And.intro (@fl73_0) (@fl73_1)) (And.intro (@fv73_0) (@fv73_1)))))
theorem vcu9 : type_of% (And.intro (And.intro (And.intro (And.intro (@fl75_0) (@fl75_1)) (And.intro (@fv75_0) (@fv75_1))) (And.intro (And.intro (@fl76_0) (@fl76_1)) (And.intro (@fv76_0) (@fv76_1)))) (And.intro (And.intro (And.intro (aidx_array' Try.underlying77 co4) (@esz77)) (And.intro (alenV_slice' Try.underlying83) (aidx_slice' Try.underlying83 co23))) (And.intro (And.intro (@esz83) (aslice_hi' Try.underlying83 co23)) (And.intro (aslice_lo' Try.underlying83 co23) (aslice_lohi' Try.underlying83 co23))))) := (And.intro (And.intro (And.intro (And.intro (@fl75_0) (@fl75_1)) (And.intro (@fv75_0) (@fv75_1))) (And.intro (And.intro (@fl76_0) (@fl76_1)) (And.intro (@fv76_0) (@fv76_1)))) (And.intro (And.intro (And.intro (aidx_array' Try.underlying77 co4) (@esz77)) (And.intro (alenV_slice' Try.underlying83) (aidx_slice' Try.underlying83 co23))) (And.intro (And.intro (@esz83) (aslice_hi' Try.underlying83 co23)) (And.intro (aslice_lo' Try.underlying83 co23) (aslice_lohi' Try.underlying83 co23)))))
theorem vcu10 : type_of% (And.intro (And.intro (And.intro (And.intro (aidx_array' Try.underlying88 co16) (@esz88)) (And.intro (@pt0) (@pt1))) (And.intro (And.intro (@pt2) (@pt3)) (And.intro (@pt4) (@pt5)))) (And.intro (And.intro (And.intro (@pt6) (@pt9)) (And.intro (@pt10) (@pt11))) (And.intro (And.intro (@pt12) (@pt15)) (And.intro (@pt16) (@pt17))))) := (And.intro (And.intro (And.intro (And.intro (aidx_array' Try.underlying88 co16) (@esz88)) (And.intro (@pt0) (@pt1))) (And.intro (And.intro (@pt2) (@pt3)) (And.intro (@pt4) (@pt5)))) (And.intro (And.intro (And.intro (@pt6) (@pt9)) (And.intro (@pt10) (@pt11))) (And.intro (And.intro (@pt12) (@pt15)) (And.intro (@pt16) (@pt17)))))
theorem vcu11 : type_of% (And.intro (And.intro (And.intro (And.intro (@pt20) (@pt21)) (And.intro (@pt22) (@pt23))) (And.intro (And.intro (@pt24) (@pt25)) (And.intro (@pt26) (@pt27)))) (And.intro (And.intro (And.intro (@pt28) (@pt29)) (And.intro (@pt30) (@pt31))) (And.intro (And.intro (@pt32) (@pt33)) (And.intro (@pt34) (@pt35))))) := (And.intro (And.intro (And.intro (And.intro (@pt20) (@pt21)) (And.intro (@pt22) (@pt23))) (And.intro (And.intro (@pt24) (@pt25)) (And.intro (@pt26) (@pt27)))) (And.intro (And.intro (And.intro (@pt28) (@pt29)) (And.intro (@pt30) (@pt31))) (And.intro (And.intro (@pt32) (@pt33)) (And.intro (@pt34) (@pt35)))))
theorem vcu12 : type_of% (And.intro (And.intro (And.intro (And.intro (@pt36) (@pt37)) (And.intro (@pt38) (@pt39))) (And.intro (And.intro (@pt40) (@pt41)) (And.intro (@pt42) (@pt43)))) (And.intro (And.intro (And.intro (@pt44) (@pt45)) (And.intro (@pt46) (@pt47))) (And.intro (And.intro (@pt48) (@pt49)) (And.intro (@pt50) (@pt51))))) := (And.intro (And.intro (And.intro (And.intro (@pt36) (@pt37)) (And.intro (@pt38) (@pt39))) (And.intro (And.intro (@pt40) (@pt41)) (And.intro (@pt42) (@pt43)))) (And.intro (And.intro (And.intro (@pt44) (@pt45)) (And.intro (@pt46) (@pt47))) (And.intro (And.intro (@pt48) (@pt49)) (And.intro (@pt50) (@pt51)))))
theorem vcu13 : type_of% (And.intro (And.intro (And.intro (And.intro (@pt52) (@pt53)) (And.intro (@pt54) (@pt55))) (And.intro (And.intro (@pt56) (@pt57)) (And.intro (@pt58) (@pt59)))) (And.intro (And.intro (And.intro (@pt60) (@pt61)) (And.intro (@pt62) (@pt63))) (And.intro (And.intro (@pt64) (@pt65)) (And.intro (@pt66) (@pt67))))) := (And.intro (And.intro (And.intro (And.intro (@pt52) (@pt53)) (And.intro (@pt54) (@pt55))) (And.intro (And.intro (@pt56) (@pt57)) (And.intro (@pt58) (@pt59)))) (And.intro (And.intro (And.intro (@pt60) (@pt61)) (And.intro (@pt62) (@pt63))) (And.intro (And.intro (@pt64) (@pt65)) (And.intro (@pt66) (@pt67)))))
theorem vcu14 : type_of% (And.intro (And.intro (And.intro (And.intro (@pt68) (@pt69)) (And.intro (@pt70) (@pt71))) (And.intro (And.intro (@pt72) (@pt73)) (And.intro (@pt74) (@pt75)))) (And.intro (And.intro (And.intro (@pt76) (@pt77)) (And.intro (@pt78) (@pt79))) (And.intro (And.intro (@pt80) (@pt81)) (And.intro (@pt82) (@pt83))))) := (And.intro (And.intro (And.intro (And.intro (@pt68) (@pt69)) (And.intro (@pt70) (@pt71))) (And.intro (And.intro (@pt72) (@pt73)) (And.intro (@pt74) (@pt75)))) (And.intro (And.intro (And.intro (@pt76) (@pt77)) (And.intro (@pt78) (@pt79))) (And.intro (And.intro (@pt80) (@pt81)) (And.intro (@pt82) (@pt83)))))
theorem vcu15 : type_of% (And.intro (And.intro (And.intro (And.intro (@pt84) (@pt85)) (And.intro (@pt88) (@pt91))) (And.intro (And.intro (@pt92) (@pt93)) (And.intro (@pt94) (@pt95)))) (And.intro (And.intro (And.intro (@pt96) (@pt97)) (And.intro (@pt98) (@pt101))) (And.intro (And.intro (aload_agg' ag27) (aload_agg' ag28)) (And.intro (aload_agg' ag64) (aload_agg' ag73))))) := (And.intro (And.intro (And.intro (And.intro (@pt84) (@pt85)) (And.intro (@pt88) (@pt91))) (And.intro (And.intro (@pt92) (@pt93)) (And.intro (@pt94) (@pt95)))) (And.intro (And.intro (And.intro (@pt96) (@pt97)) (And.intro (@pt98) (@pt101))) (And.intro (And.intro (aload_agg' ag27) (aload_agg' ag28)) (And.intro (aload_agg' ag64) (aload_agg' ag73)))))
theorem vcu16 : type_of% (And.intro (And.intro (And.intro (And.intro (aload_agg' ag75) (aload_agg' ag76)) (And.intro (aload_agg' ag77) (aload_cell' ag1))) (And.intro (And.intro (aload_cell' ag2) (aload_cell' ag3)) (And.intro (aload_cell' ag4) (aload_cell' ag5)))) (And.intro (And.intro (And.intro (aload_cell' ag6) (aload_cell' ag9)) (And.intro (aload_cell' ag10) (aload_cell' ag11))) (And.intro (And.intro (aload_cell' ag12) (aload_cell' ag15)) (And.intro (aload_cell' ag16) (aload_cell' ag17))))) := (And.intro (And.intro (And.intro (And.intro (aload_agg' ag75) (aload_agg' ag76)) (And.intro (aload_agg' ag77) (aload_cell' ag1))) (And.intro (And.intro (aload_cell' ag2) (aload_cell' ag3)) (And.intro (aload_cell' ag4) (aload_cell' ag5)))) (And.intro (And.intro (And.intro (aload_cell' ag6) (aload_cell' ag9)) (And.intro (aload_cell' ag10) (aload_cell' ag11))) (And.intro (And.intro (aload_cell' ag12) (aload_cell' ag15)) (And.intro (aload_cell' ag16) (aload_cell' ag17)))))
theorem vcu17 : type_of% (And.intro (And.intro (And.intro (And.intro (aload_cell' ag21) (aload_cell' ag22)) (And.intro (aload_cell' ag23) (aload_cell' ag25))) (And.intro (And.intro (aload_cell' ag26) (aload_cell' ag29)) (And.intro (aload_cell' ag30) (aload_cell' ag31)))) (And.intro (And.intro (And.intro (aload_cell' ag33) (aload_cell' ag34)) (And.intro (aload_cell' ag35) (aload_cell' ag36))) (And.intro (And.intro (aload_cell' ag38) (aload_cell' ag39)) (And.intro (aload_cell' ag40) (aload_cell' ag41))))) := (And.intro (And.intro (And.intro (And.intro (aload_cell' ag21) (aload_cell' ag22)) (And.intro (aload_cell' ag23) (aload_cell' ag25))) (And.intro (And.intro (aload_cell' ag26) (aload_cell' ag29)) (And.intro (aload_cell' ag30) (aload_cell' ag31)))) (And.intro (And.intro (And.intro (aload_cell' ag33) (aload_cell' ag34)) (And.intro (aload_cell' ag35) (aload_cell' ag36))) (And.intro (And.intro (aload_cell' ag38) (aload_cell' ag39)) (And.intro (aload_cell' ag40) (aload_cell' ag41)))))
theorem vcu18 : type_of% (And.intro (And.intro (And.intro (And.intro (aload_cell' ag42) (aload_cell' ag43)) (And.intro (aload_cell' ag44) (aload_cell' ag45))) (And.intro (And.intro (aload_cell' ag46) (aload_cell' ag47)) (And.intro (aload_cell' ag48) (aload_cell' ag49)))) (And.intro (And.intro (And.intro (aload_cell' ag50) (aload_cell' ag51)) (And.intro (aload_cell' ag52) (aload_cell' ag53))) (And.intro (And.intro (aload_cell' ag54) (aload_cell' ag55)) (And.intro (aload_cell' ag56) (aload_cell' ag57))))) := (And.intro (And.intro (And.intro (And.intro (aload_cell' ag42) (aload_cell' ag43)) (And.intro (aload_cell' ag44) (aload_cell' ag45))) (And.intro (And.intro (aload_cell' ag46) (aload_cell' ag47)) (And.intro (aload_cell' ag48) (aload_cell' ag49)))) (And.intro (And.intro (And.intro (aload_cell' ag50) (aload_cell' ag51)) (And.intro (aload_cell' ag52) (aload_cell' ag53))) (And.intro (And.intro (aload_cell' ag54) (aload_cell' ag55)) (And.intro (aload_cell' ag56) (aload_cell' ag57)))))
theorem vcu19 : type_of% (And.intro (And.intro (And.intro (And.intro (aload_cell' ag58) (aload_cell' ag59)) (And.intro (aload_cell' ag60) (aload_cell' ag61))) (And.intro (And.intro (aload_cell' ag62) (aload_cell' ag63)) (And.intro (aload_cell' ag65) (aload_cell' ag66)))) (And.intro (And.intro (And.intro (aload_cell' ag67) (aload_cell' ag68)) (And.intro (aload_cell' ag69) (aload_cell' ag70))) (And.intro (And.intro (aload_cell' ag71) (aload_cell' ag72)) (And.intro (aload_cell' ag74) (aload_cell' ag78))))) := (And.intro (And.intro (And.intro (And.intro (aload_cell' ag58) (aload_cell' ag59)) (And.intro (aload_cell' ag60) (aload_cell' ag61))) (And.intro (And.intro (aload_cell' ag62) (aload_cell' ag63)) (And.intro (aload_cell' ag65) (aload_cell' ag66)))) (And.intro (And.intro (And.intro (aload_cell' ag67) (aload_cell' ag68)) (And.intro (aload_cell' ag69) (aload_cell' ag70))) (And.intro (And.intro (aload_cell' ag71) (aload_cell' ag72)) (And.intro (aload_cell' ag74) (aload_cell' ag78)))))
theorem vcu20 : type_of% (And.intro (And.intro (And.intro (aload_cell' ag79) (And.intro (aload_cell' ag80) (aload_cell' ag81))) (And.intro (And.intro (aload_cell' ag82) (aload_cell' ag83)) (And.intro (aload_cell' ag84) (aload_cell' ag85)))) (And.intro (And.intro (And.intro (aload_cell' ag91) (aload_cell' ag92)) (And.intro (aload_cell' ag93) (aload_cell' ag94))) (And.intro (And.intro (aload_cell' ag95) (aload_cell' ag96)) (And.intro (aload_cell' ag97) (aload_cell' ag98))))) := (And.intro (And.intro (And.intro (aload_cell' ag79) (And.intro (aload_cell' ag80) (aload_cell' ag81))) (And.intro (And.intro (aload_cell' ag82) (aload_cell' ag83)) (And.intro (aload_cell' ag84) (aload_cell' ag85)))) (And.intro (And.intro (And.intro (aload_cell' ag91) (aload_cell' ag92)) (And.intro (aload_cell' ag93) (aload_cell' ag94))) (And.intro (And.intro (aload_cell' ag95) (aload_cell' ag96)) (And.intro (aload_cell' ag97) (aload_cell' ag98)))))
theorem vcd0 : type_of% (And.intro (And.intro (And.intro (And.intro (@cs_cons) (@cs_nil)) (And.intro (@retC_normal) (@retC_ret))) (And.intro (And.intro (@vc_seq) (@vc_block)) (And.intro (@vc_region) (@vc_regionD)))) (And.intro (And.intro (And.intro (@vcD_false) (@vcD_true)) (And.intro (@vc_loop_eq) (@vc_cond))) (And.intro (And.intro (@vc_skip) (@vc_exit)) (And.intro (@vc_ret) (@seqC_normal))))) := (And.intro (And.intro (And.intro (And.intro (@cs_cons) (@cs_nil)) (And.intro (@retC_normal) (@retC_ret))) (And.intro (And.intro (@vc_seq) (@vc_block)) (And.intro (@vc_region) (@vc_regionD)))) (And.intro (And.intro (And.intro (@vcD_false) (@vcD_true)) (And.intro (@vc_loop_eq) (@vc_cond))) (And.intro (And.intro (@vc_skip) (@vc_exit)) (And.intro (@vc_ret) (@seqC_normal)))))
theorem vcd1 : type_of% (And.intro (And.intro (And.intro (And.intro (@seqC_exit) (@seqC_ret)) (And.intro (@blockK_normal) (@blockK_exit))) (And.intro (And.intro (@blockK_ret) (@retK_normal)) (And.intro (@retK_ret) (@seqK_normal)))) (And.intro (And.intro (And.intro (@seqK_exit) (@seqK_ret)) (And.intro (@r_nil) (@r_assign))) (And.intro (And.intro (@r_move) (@r_len)) (And.intro (@r_binOpT) (@r_binOpI))))) := (And.intro (And.intro (And.intro (And.intro (@seqC_exit) (@seqC_ret)) (And.intro (@blockK_normal) (@blockK_exit))) (And.intro (And.intro (@blockK_ret) (@retK_normal)) (And.intro (@retK_ret) (@seqK_normal)))) (And.intro (And.intro (And.intro (@seqK_exit) (@seqK_ret)) (And.intro (@r_nil) (@r_assign))) (And.intro (And.intro (@r_move) (@r_len)) (And.intro (@r_binOpT) (@r_binOpI)))))
theorem vcd2 : type_of% (And.intro (And.intro (And.intro (And.intro (@r_binOpB) (@r_binOpS)) (And.intro (@r_unOp) (@r_convert))) (And.intro (And.intro (@r_indexAddr) (@r_load)) (And.intro (@r_pick) (@r_slice)))) (And.intro (And.intro (And.intro (@r_nilCheck) (@r_fieldAddr)) (And.intro (@r_field) (@r_extract))) (And.intro (And.intro (@r_min) (@r_max)) (And.intro (@r_call) (@r_makeFunc))))) := (And.intro (And.intro (And.intro (And.intro (@r_binOpB) (@r_binOpS)) (And.intro (@r_unOp) (@r_convert))) (And.intro (And.intro (@r_indexAddr) (@r_load)) (And.intro (@r_pick) (@r_slice)))) (And.intro (And.intro (And.intro (@r_nilCheck) (@r_fieldAddr)) (And.intro (@r_field) (@r_extract))) (And.intro (And.intro (@r_min) (@r_max)) (And.intro (@r_call) (@r_makeFunc)))))
theorem vcd3 : type_of% (@r_guard) := (@r_guard)

end Go.Proofs.Ytnkpoflhdfchjaa
