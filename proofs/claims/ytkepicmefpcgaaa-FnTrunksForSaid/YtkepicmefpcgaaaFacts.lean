/- Closed facts on the program of this seat: sizes, kinds, the static look at each body. -/
import Derived.Test.YtkepicmefpcgaaaAbu
import Derived.Test.YtkepicmefpcgaaaRows
import Derived.KernelRfl
set_option linter.unusedSimpArgs false
set_option linter.unusedVariables false
namespace Go.Proofs.Ytkepicmefpcgaaa
open Go Go.Abs

theorem mixed : Try.prog.follows .mixedOrders = true := by kernel_rfl
theorem own : ownKnob Try.prog.godebug = none := by kernel_rfl
theorem laidOut : laidOutB Try.prog = true := by kernel_rfl

theorem pt0 : isPtr Try.prog 0 = false := by kernel_rfl
theorem sc0 : isSlc Try.prog 0 = false := by kernel_rfl
theorem co1 : Try.prog.cellsOf 1 = 1 := by kernel_rfl
theorem ag1 : aisAgg Try.prog 1 = false := by kernel_rfl
theorem pt1 : isPtr Try.prog 1 = false := by kernel_rfl
theorem sc1 : isSlc Try.prog 1 = false := by kernel_rfl
theorem ze1 : azero Try.prog 1 = some Value.nilFunc := by kernel_rfl
theorem co2 : Try.prog.cellsOf 2 = 1 := by kernel_rfl
theorem ag2 : aisAgg Try.prog 2 = false := by kernel_rfl
theorem pt2 : isPtr Try.prog 2 = false := by kernel_rfl
theorem sc2 : isSlc Try.prog 2 = false := by kernel_rfl
theorem ze2 : azero Try.prog 2 = some (Value.int IntKind.i64 0) := by kernel_rfl
theorem co3 : Try.prog.cellsOf 3 = 1 := by kernel_rfl
theorem ag3 : aisAgg Try.prog 3 = false := by kernel_rfl
theorem pt3 : isPtr Try.prog 3 = false := by kernel_rfl
theorem sc3 : isSlc Try.prog 3 = false := by kernel_rfl
theorem ze3 : azero Try.prog 3 = some (Value.int IntKind.i64 0) := by kernel_rfl
theorem co4 : Try.prog.cellsOf 4 = 1 := by kernel_rfl
theorem ag4 : aisAgg Try.prog 4 = false := by kernel_rfl
theorem pt4 : isPtr Try.prog 4 = false := by kernel_rfl
theorem sc4 : isSlc Try.prog 4 = false := by kernel_rfl
theorem bo4 : isBool Try.prog 4 = true := by kernel_rfl
theorem ze4 : azero Try.prog 4 = some (Value.bool false) := by kernel_rfl
theorem co5 : Try.prog.cellsOf 5 = 1 := by kernel_rfl
theorem ag5 : aisAgg Try.prog 5 = false := by kernel_rfl
theorem pt5 : isPtr Try.prog 5 = false := by kernel_rfl
theorem sc5 : isSlc Try.prog 5 = false := by kernel_rfl
theorem ze5 : azero Try.prog 5 = some (Value.int IntKind.u8 0) := by kernel_rfl
theorem co6 : Try.prog.cellsOf 6 = 1 := by kernel_rfl
theorem ag6 : aisAgg Try.prog 6 = false := by kernel_rfl
theorem pt6 : isPtr Try.prog 6 = false := by kernel_rfl
theorem sc6 : isSlc Try.prog 6 = false := by kernel_rfl
theorem ze6 : azero Try.prog 6 = some (Value.int IntKind.u8 0) := by kernel_rfl
theorem co9 : Try.prog.cellsOf 9 = 1 := by kernel_rfl
theorem ag9 : aisAgg Try.prog 9 = false := by kernel_rfl
theorem pt9 : isPtr Try.prog 9 = false := by kernel_rfl
theorem sc9 : isSlc Try.prog 9 = false := by kernel_rfl
theorem ze9 : azero Try.prog 9 = some (Value.string { data := #[] }) := by kernel_rfl
theorem co10 : Try.prog.cellsOf 10 = 1 := by kernel_rfl
theorem ag10 : aisAgg Try.prog 10 = false := by kernel_rfl
theorem pt10 : isPtr Try.prog 10 = false := by kernel_rfl
theorem sc10 : isSlc Try.prog 10 = false := by kernel_rfl
theorem ze10 : azero Try.prog 10 = some (Value.string { data := #[] }) := by kernel_rfl
theorem co11 : Try.prog.cellsOf 11 = 1 := by kernel_rfl
theorem ag11 : aisAgg Try.prog 11 = false := by kernel_rfl
theorem pt11 : isPtr Try.prog 11 = false := by kernel_rfl
theorem sc11 : isSlc Try.prog 11 = false := by kernel_rfl
theorem ze11 : azero Try.prog 11 = some (Value.string { data := #[] }) := by kernel_rfl
theorem co12 : Try.prog.cellsOf 12 = 1 := by kernel_rfl
theorem ag12 : aisAgg Try.prog 12 = false := by kernel_rfl
theorem pt12 : isPtr Try.prog 12 = false := by kernel_rfl
theorem sc12 : isSlc Try.prog 12 = false := by kernel_rfl
theorem ze12 : azero Try.prog 12 = some (Value.int IntKind.u64 0) := by kernel_rfl
theorem co15 : Try.prog.cellsOf 15 = 1 := by kernel_rfl
theorem ag15 : aisAgg Try.prog 15 = false := by kernel_rfl
theorem pt15 : isPtr Try.prog 15 = true := by kernel_rfl
theorem sc15 : isSlc Try.prog 15 = false := by kernel_rfl
theorem ze15 : azero Try.prog 15 = some (Value.pointer none) := by kernel_rfl
theorem co16 : Try.prog.cellsOf 16 = 1 := by kernel_rfl
theorem ag16 : aisAgg Try.prog 16 = false := by kernel_rfl
theorem pt16 : isPtr Try.prog 16 = true := by kernel_rfl
theorem sc16 : isSlc Try.prog 16 = false := by kernel_rfl
theorem ze16 : azero Try.prog 16 = some (Value.pointer none) := by kernel_rfl
theorem co17 : Try.prog.cellsOf 17 = 1 := by kernel_rfl
theorem ag17 : aisAgg Try.prog 17 = false := by kernel_rfl
theorem pt17 : isPtr Try.prog 17 = true := by kernel_rfl
theorem sc17 : isSlc Try.prog 17 = false := by kernel_rfl
theorem ze17 : azero Try.prog 17 = some (Value.pointer none) := by kernel_rfl
theorem pt20 : isPtr Try.prog 20 = false := by kernel_rfl
theorem sc20 : isSlc Try.prog 20 = false := by kernel_rfl
theorem co21 : Try.prog.cellsOf 21 = 1 := by kernel_rfl
theorem ag21 : aisAgg Try.prog 21 = false := by kernel_rfl
theorem pt21 : isPtr Try.prog 21 = false := by kernel_rfl
theorem sc21 : isSlc Try.prog 21 = false := by kernel_rfl
theorem ze21 : azero Try.prog 21 = some (Value.int IntKind.i32 0) := by kernel_rfl
theorem co22 : Try.prog.cellsOf 22 = 1 := by kernel_rfl
theorem ag22 : aisAgg Try.prog 22 = false := by kernel_rfl
theorem pt22 : isPtr Try.prog 22 = false := by kernel_rfl
theorem sc22 : isSlc Try.prog 22 = true := by kernel_rfl
theorem esz22 : aesz Try.prog 22 = 1 := by kernel_rfl
theorem el22 : Elems Try.prog 22 1 (Value.int IntKind.u8 0) 1 := ⟨⟨5, Try.t5, Try.underlying22, by kernel_rfl, rfl, rfl, rfl⟩, ⟨5, Try.underlying22, by kernel_rfl, by kernel_rfl⟩⟩
theorem sl22 : ∃ e, Try.prog.underlying 22 = some (.slice e) := ⟨5, Try.underlying22⟩
theorem ze22 : azero Try.prog 22 = some (Value.slice none 0 0) := by kernel_rfl
theorem co23 : Try.prog.cellsOf 23 = 2 := by kernel_rfl
theorem ag23 : aisAgg Try.prog 23 = true := by kernel_rfl
theorem pt23 : isPtr Try.prog 23 = false := by kernel_rfl
theorem sc23 : isSlc Try.prog 23 = false := by kernel_rfl
theorem ze23 : azero Try.prog 23 = some (Value.agg #[Value.int IntKind.i64 0, Value.int IntKind.i64 0]) := by kernel_rfl
theorem fv23_0 {x0 x1 : Value} : afieldV Try.prog 23 0 (.agg #[x0, x1]) = some x0 := by simp [afieldV, Try.underlying23, apart, Try.underlying3, ag3, co3, aisAgg]
theorem fl23_0 {h b : Nat} : afield Try.prog 23 0 (.pointer (some ⟨h, b, none⟩)) = some (.pointer (some ⟨h, b + 0, none⟩)) := by simp [afield, Try.underlying23]
theorem fv23_1 {x0 x1 : Value} : afieldV Try.prog 23 1 (.agg #[x0, x1]) = some x1 := by simp [afieldV, Try.underlying23, apart, Try.underlying3, ag3, co3, aisAgg]
theorem fl23_1 {h b : Nat} : afield Try.prog 23 1 (.pointer (some ⟨h, b, none⟩)) = some (.pointer (some ⟨h, b + 1, none⟩)) := by simp [afield, Try.underlying23]
theorem co24 : Try.prog.cellsOf 24 = 2 := by kernel_rfl
theorem ag24 : aisAgg Try.prog 24 = true := by kernel_rfl
theorem pt24 : isPtr Try.prog 24 = false := by kernel_rfl
theorem sc24 : isSlc Try.prog 24 = false := by kernel_rfl
theorem ze24 : azero Try.prog 24 = some (Value.agg #[Value.int IntKind.i64 0, Value.int IntKind.i64 0]) := by kernel_rfl
theorem fv24_0 {x0 x1 : Value} : afieldV Try.prog 24 0 (.agg #[x0, x1]) = some x0 := by simp [afieldV, Try.underlying24, apart, Try.underlying3, ag3, co3, aisAgg]
theorem fl24_0 {h b : Nat} : afield Try.prog 24 0 (.pointer (some ⟨h, b, none⟩)) = some (.pointer (some ⟨h, b + 0, none⟩)) := by simp [afield, Try.underlying24]
theorem fv24_1 {x0 x1 : Value} : afieldV Try.prog 24 1 (.agg #[x0, x1]) = some x1 := by simp [afieldV, Try.underlying24, apart, Try.underlying3, ag3, co3, aisAgg]
theorem fl24_1 {h b : Nat} : afield Try.prog 24 1 (.pointer (some ⟨h, b, none⟩)) = some (.pointer (some ⟨h, b + 1, none⟩)) := by simp [afield, Try.underlying24]
theorem co25 : Try.prog.cellsOf 25 = 1 := by kernel_rfl
theorem ag25 : aisAgg Try.prog 25 = false := by kernel_rfl
theorem pt25 : isPtr Try.prog 25 = false := by kernel_rfl
theorem sc25 : isSlc Try.prog 25 = false := by kernel_rfl
theorem ze25 : azero Try.prog 25 = some Value.nilFunc := by kernel_rfl
theorem co26 : Try.prog.cellsOf 26 = 1 := by kernel_rfl
theorem ag26 : aisAgg Try.prog 26 = false := by kernel_rfl
theorem pt26 : isPtr Try.prog 26 = false := by kernel_rfl
theorem sc26 : isSlc Try.prog 26 = false := by kernel_rfl
theorem ze26 : azero Try.prog 26 = some Value.nilFunc := by kernel_rfl
theorem co27 : Try.prog.cellsOf 27 = 1 := by kernel_rfl
theorem ag27 : aisAgg Try.prog 27 = false := by kernel_rfl
theorem pt27 : isPtr Try.prog 27 = false := by kernel_rfl
theorem sc27 : isSlc Try.prog 27 = false := by kernel_rfl
theorem ze27 : azero Try.prog 27 = some Value.nilFunc := by kernel_rfl
theorem co28 : Try.prog.cellsOf 28 = 1 := by kernel_rfl
theorem ag28 : aisAgg Try.prog 28 = false := by kernel_rfl
theorem pt28 : isPtr Try.prog 28 = false := by kernel_rfl
theorem sc28 : isSlc Try.prog 28 = false := by kernel_rfl
theorem ze28 : azero Try.prog 28 = some Value.nilFunc := by kernel_rfl
theorem pt29 : isPtr Try.prog 29 = false := by kernel_rfl
theorem sc29 : isSlc Try.prog 29 = false := by kernel_rfl
theorem co30 : Try.prog.cellsOf 30 = 1 := by kernel_rfl
theorem ag30 : aisAgg Try.prog 30 = false := by kernel_rfl
theorem pt30 : isPtr Try.prog 30 = false := by kernel_rfl
theorem sc30 : isSlc Try.prog 30 = false := by kernel_rfl
theorem ze30 : azero Try.prog 30 = some Value.nilFunc := by kernel_rfl
theorem co31 : Try.prog.cellsOf 31 = 1 := by kernel_rfl
theorem ag31 : aisAgg Try.prog 31 = false := by kernel_rfl
theorem pt31 : isPtr Try.prog 31 = false := by kernel_rfl
theorem sc31 : isSlc Try.prog 31 = false := by kernel_rfl
theorem ze31 : azero Try.prog 31 = some Value.nilFunc := by kernel_rfl
theorem pt32 : isPtr Try.prog 32 = false := by kernel_rfl
theorem sc32 : isSlc Try.prog 32 = false := by kernel_rfl
theorem co33 : Try.prog.cellsOf 33 = 1 := by kernel_rfl
theorem ag33 : aisAgg Try.prog 33 = false := by kernel_rfl
theorem pt33 : isPtr Try.prog 33 = false := by kernel_rfl
theorem sc33 : isSlc Try.prog 33 = false := by kernel_rfl
theorem ze33 : azero Try.prog 33 = some Value.nilFunc := by kernel_rfl
theorem pt34 : isPtr Try.prog 34 = false := by kernel_rfl
theorem sc34 : isSlc Try.prog 34 = false := by kernel_rfl
theorem co35 : Try.prog.cellsOf 35 = 1 := by kernel_rfl
theorem ag35 : aisAgg Try.prog 35 = false := by kernel_rfl
theorem pt35 : isPtr Try.prog 35 = false := by kernel_rfl
theorem sc35 : isSlc Try.prog 35 = false := by kernel_rfl
theorem ze35 : azero Try.prog 35 = some Value.nilFunc := by kernel_rfl
theorem co36 : Try.prog.cellsOf 36 = 1 := by kernel_rfl
theorem ag36 : aisAgg Try.prog 36 = false := by kernel_rfl
theorem pt36 : isPtr Try.prog 36 = false := by kernel_rfl
theorem sc36 : isSlc Try.prog 36 = true := by kernel_rfl
theorem esz36 : aesz Try.prog 36 = 1 := by kernel_rfl
theorem el36 : Elems Try.prog 36 1 (Value.int IntKind.i64 0) 8 := ⟨⟨3, Try.t3, Try.underlying36, by kernel_rfl, rfl, rfl, rfl⟩, ⟨3, Try.underlying36, by kernel_rfl, by kernel_rfl⟩⟩
theorem sl36 : ∃ e, Try.prog.underlying 36 = some (.slice e) := ⟨3, Try.underlying36⟩
theorem ze36 : azero Try.prog 36 = some (Value.slice none 0 0) := by kernel_rfl
theorem co37 : Try.prog.cellsOf 37 = 1 := by kernel_rfl
theorem ag37 : aisAgg Try.prog 37 = false := by kernel_rfl
theorem pt37 : isPtr Try.prog 37 = false := by kernel_rfl
theorem sc37 : isSlc Try.prog 37 = false := by kernel_rfl
theorem ze37 : azero Try.prog 37 = some Value.nilFunc := by kernel_rfl
theorem co38 : Try.prog.cellsOf 38 = 1 := by kernel_rfl
theorem ag38 : aisAgg Try.prog 38 = false := by kernel_rfl
theorem pt38 : isPtr Try.prog 38 = false := by kernel_rfl
theorem sc38 : isSlc Try.prog 38 = false := by kernel_rfl
theorem ze38 : azero Try.prog 38 = some Value.nilFunc := by kernel_rfl
theorem co39 : Try.prog.cellsOf 39 = 1 := by kernel_rfl
theorem ag39 : aisAgg Try.prog 39 = false := by kernel_rfl
theorem pt39 : isPtr Try.prog 39 = false := by kernel_rfl
theorem sc39 : isSlc Try.prog 39 = false := by kernel_rfl
theorem ze39 : azero Try.prog 39 = some Value.nilFunc := by kernel_rfl
theorem pt40 : isPtr Try.prog 40 = false := by kernel_rfl
theorem sc40 : isSlc Try.prog 40 = false := by kernel_rfl
theorem co41 : Try.prog.cellsOf 41 = 1 := by kernel_rfl
theorem ag41 : aisAgg Try.prog 41 = false := by kernel_rfl
theorem pt41 : isPtr Try.prog 41 = false := by kernel_rfl
theorem sc41 : isSlc Try.prog 41 = false := by kernel_rfl
theorem ze41 : azero Try.prog 41 = some Value.nilFunc := by kernel_rfl
theorem co42 : Try.prog.cellsOf 42 = 1 := by kernel_rfl
theorem ag42 : aisAgg Try.prog 42 = false := by kernel_rfl
theorem pt42 : isPtr Try.prog 42 = false := by kernel_rfl
theorem sc42 : isSlc Try.prog 42 = false := by kernel_rfl
theorem ze42 : azero Try.prog 42 = some Value.nilFunc := by kernel_rfl
theorem co43 : Try.prog.cellsOf 43 = 2 := by kernel_rfl
theorem ag43 : aisAgg Try.prog 43 = true := by kernel_rfl
theorem pt43 : isPtr Try.prog 43 = false := by kernel_rfl
theorem sc43 : isSlc Try.prog 43 = false := by kernel_rfl
theorem ze43 : azero Try.prog 43 = some (Value.agg #[Value.int IntKind.i64 0, Value.int IntKind.i64 0]) := by kernel_rfl
theorem fv43_0 {x0 x1 : Value} : afieldV Try.prog 43 0 (.agg #[x0, x1]) = some x0 := by simp [afieldV, Try.underlying43, apart, Try.underlying3, ag3, co3, aisAgg]
theorem fl43_0 {h b : Nat} : afield Try.prog 43 0 (.pointer (some ⟨h, b, none⟩)) = some (.pointer (some ⟨h, b + 0, none⟩)) := by simp [afield, Try.underlying43]
theorem fv43_1 {x0 x1 : Value} : afieldV Try.prog 43 1 (.agg #[x0, x1]) = some x1 := by simp [afieldV, Try.underlying43, apart, Try.underlying3, ag3, co3, aisAgg]
theorem fl43_1 {h b : Nat} : afield Try.prog 43 1 (.pointer (some ⟨h, b, none⟩)) = some (.pointer (some ⟨h, b + 1, none⟩)) := by simp [afield, Try.underlying43]
theorem co44 : Try.prog.cellsOf 44 = 1 := by kernel_rfl
theorem ag44 : aisAgg Try.prog 44 = false := by kernel_rfl
theorem pt44 : isPtr Try.prog 44 = false := by kernel_rfl
theorem sc44 : isSlc Try.prog 44 = false := by kernel_rfl
theorem ze44 : azero Try.prog 44 = some Value.nilFunc := by kernel_rfl
theorem co45 : Try.prog.cellsOf 45 = 1 := by kernel_rfl
theorem ag45 : aisAgg Try.prog 45 = false := by kernel_rfl
theorem pt45 : isPtr Try.prog 45 = false := by kernel_rfl
theorem sc45 : isSlc Try.prog 45 = false := by kernel_rfl
theorem ze45 : azero Try.prog 45 = some Value.nilFunc := by kernel_rfl
theorem co46 : Try.prog.cellsOf 46 = 1 := by kernel_rfl
theorem ag46 : aisAgg Try.prog 46 = false := by kernel_rfl
theorem pt46 : isPtr Try.prog 46 = false := by kernel_rfl
theorem sc46 : isSlc Try.prog 46 = false := by kernel_rfl
theorem ze46 : azero Try.prog 46 = some Value.nilFunc := by kernel_rfl
theorem co47 : Try.prog.cellsOf 47 = 1 := by kernel_rfl
theorem ag47 : aisAgg Try.prog 47 = false := by kernel_rfl
theorem pt47 : isPtr Try.prog 47 = false := by kernel_rfl
theorem sc47 : isSlc Try.prog 47 = false := by kernel_rfl
theorem ze47 : azero Try.prog 47 = some Value.nilFunc := by kernel_rfl
theorem co48 : Try.prog.cellsOf 48 = 1 := by kernel_rfl
theorem ag48 : aisAgg Try.prog 48 = false := by kernel_rfl
theorem pt48 : isPtr Try.prog 48 = false := by kernel_rfl
theorem sc48 : isSlc Try.prog 48 = false := by kernel_rfl
theorem ze48 : azero Try.prog 48 = some Value.nilFunc := by kernel_rfl
theorem co49 : Try.prog.cellsOf 49 = 1 := by kernel_rfl
theorem ag49 : aisAgg Try.prog 49 = false := by kernel_rfl
theorem pt49 : isPtr Try.prog 49 = false := by kernel_rfl
theorem sc49 : isSlc Try.prog 49 = false := by kernel_rfl
theorem ze49 : azero Try.prog 49 = some Value.nilFunc := by kernel_rfl
theorem co50 : Try.prog.cellsOf 50 = 1 := by kernel_rfl
theorem ag50 : aisAgg Try.prog 50 = false := by kernel_rfl
theorem pt50 : isPtr Try.prog 50 = false := by kernel_rfl
theorem sc50 : isSlc Try.prog 50 = false := by kernel_rfl
theorem ze50 : azero Try.prog 50 = some Value.nilFunc := by kernel_rfl
theorem co51 : Try.prog.cellsOf 51 = 1 := by kernel_rfl
theorem ag51 : aisAgg Try.prog 51 = false := by kernel_rfl
theorem pt51 : isPtr Try.prog 51 = true := by kernel_rfl
theorem sc51 : isSlc Try.prog 51 = false := by kernel_rfl
theorem ze51 : azero Try.prog 51 = some (Value.pointer none) := by kernel_rfl
theorem co52 : Try.prog.cellsOf 52 = 1 := by kernel_rfl
theorem ag52 : aisAgg Try.prog 52 = false := by kernel_rfl
theorem pt52 : isPtr Try.prog 52 = false := by kernel_rfl
theorem sc52 : isSlc Try.prog 52 = false := by kernel_rfl
theorem ze52 : azero Try.prog 52 = some Value.nilFunc := by kernel_rfl
theorem co53 : Try.prog.cellsOf 53 = 1 := by kernel_rfl
theorem ag53 : aisAgg Try.prog 53 = false := by kernel_rfl
theorem pt53 : isPtr Try.prog 53 = false := by kernel_rfl
theorem sc53 : isSlc Try.prog 53 = false := by kernel_rfl
theorem ze53 : azero Try.prog 53 = some Value.nilFunc := by kernel_rfl
theorem co54 : Try.prog.cellsOf 54 = 1 := by kernel_rfl
theorem ag54 : aisAgg Try.prog 54 = false := by kernel_rfl
theorem pt54 : isPtr Try.prog 54 = false := by kernel_rfl
theorem sc54 : isSlc Try.prog 54 = false := by kernel_rfl
theorem ze54 : azero Try.prog 54 = some Value.nilFunc := by kernel_rfl
theorem co55 : Try.prog.cellsOf 55 = 1 := by kernel_rfl
theorem ag55 : aisAgg Try.prog 55 = false := by kernel_rfl
theorem pt55 : isPtr Try.prog 55 = false := by kernel_rfl
theorem sc55 : isSlc Try.prog 55 = false := by kernel_rfl
theorem ze55 : azero Try.prog 55 = some Value.nilFunc := by kernel_rfl
theorem co56 : Try.prog.cellsOf 56 = 1 := by kernel_rfl
theorem ag56 : aisAgg Try.prog 56 = false := by kernel_rfl
theorem pt56 : isPtr Try.prog 56 = false := by kernel_rfl
theorem sc56 : isSlc Try.prog 56 = false := by kernel_rfl
theorem ze56 : azero Try.prog 56 = some Value.nilFunc := by kernel_rfl
theorem co57 : Try.prog.cellsOf 57 = 1 := by kernel_rfl
theorem ag57 : aisAgg Try.prog 57 = false := by kernel_rfl
theorem pt57 : isPtr Try.prog 57 = false := by kernel_rfl
theorem sc57 : isSlc Try.prog 57 = false := by kernel_rfl
theorem ze57 : azero Try.prog 57 = some Value.nilFunc := by kernel_rfl
theorem co58 : Try.prog.cellsOf 58 = 1 := by kernel_rfl
theorem ag58 : aisAgg Try.prog 58 = false := by kernel_rfl
theorem pt58 : isPtr Try.prog 58 = false := by kernel_rfl
theorem sc58 : isSlc Try.prog 58 = false := by kernel_rfl
theorem ze58 : azero Try.prog 58 = some Value.nilFunc := by kernel_rfl
theorem co59 : Try.prog.cellsOf 59 = 1 := by kernel_rfl
theorem ag59 : aisAgg Try.prog 59 = false := by kernel_rfl
theorem pt59 : isPtr Try.prog 59 = false := by kernel_rfl
theorem sc59 : isSlc Try.prog 59 = true := by kernel_rfl
theorem esz59 : aesz Try.prog 59 = 2 := by kernel_rfl
theorem el59 : Elems Try.prog 59 2 (Value.agg #[Value.int IntKind.i64 0, Value.int IntKind.i64 0]) 16 := ⟨⟨24, Try.t24, Try.underlying59, by kernel_rfl, rfl, rfl, rfl⟩, ⟨24, Try.underlying59, by kernel_rfl, by kernel_rfl⟩⟩
theorem sl59 : ∃ e, Try.prog.underlying 59 = some (.slice e) := ⟨24, Try.underlying59⟩
theorem ze59 : azero Try.prog 59 = some (Value.slice none 0 0) := by kernel_rfl
theorem co60 : Try.prog.cellsOf 60 = 2 := by kernel_rfl
theorem ag60 : aisAgg Try.prog 60 = true := by kernel_rfl
theorem pt60 : isPtr Try.prog 60 = false := by kernel_rfl
theorem sc60 : isSlc Try.prog 60 = true := by kernel_rfl
theorem ze60 : azero Try.prog 60 = some (Value.agg #[Value.slice none 0 0, Value.int IntKind.i64 0]) := by kernel_rfl
theorem fv60_0 {x0 x1 : Value} : afieldV Try.prog 60 0 (.agg #[x0, x1]) = some x0 := by simp [afieldV, Try.underlying60, apart, Try.underlying22, ag22, co22, aisAgg]
theorem fl60_0 {h b : Nat} : afield Try.prog 60 0 (.pointer (some ⟨h, b, none⟩)) = some (.pointer (some ⟨h, b + 0, none⟩)) := by simp [afield, Try.underlying60]
theorem fv60_1 {x0 x1 : Value} : afieldV Try.prog 60 1 (.agg #[x0, x1]) = some x1 := by simp [afieldV, Try.underlying60, apart, Try.underlying3, ag3, co3, aisAgg]
theorem fl60_1 {h b : Nat} : afield Try.prog 60 1 (.pointer (some ⟨h, b, none⟩)) = some (.pointer (some ⟨h, b + 1, none⟩)) := by simp [afield, Try.underlying60]
theorem co61 : Try.prog.cellsOf 61 = 2 := by kernel_rfl
theorem ag61 : aisAgg Try.prog 61 = true := by kernel_rfl
theorem pt61 : isPtr Try.prog 61 = false := by kernel_rfl
theorem sc61 : isSlc Try.prog 61 = true := by kernel_rfl
theorem ze61 : azero Try.prog 61 = some (Value.agg #[Value.slice none 0 0, Value.int IntKind.i64 0]) := by kernel_rfl
theorem fv61_0 {x0 x1 : Value} : afieldV Try.prog 61 0 (.agg #[x0, x1]) = some x0 := by simp [afieldV, Try.underlying61, apart, Try.underlying22, ag22, co22, aisAgg]
theorem fl61_0 {h b : Nat} : afield Try.prog 61 0 (.pointer (some ⟨h, b, none⟩)) = some (.pointer (some ⟨h, b + 0, none⟩)) := by simp [afield, Try.underlying61]
theorem fv61_1 {x0 x1 : Value} : afieldV Try.prog 61 1 (.agg #[x0, x1]) = some x1 := by simp [afieldV, Try.underlying61, apart, Try.underlying3, ag3, co3, aisAgg]
theorem fl61_1 {h b : Nat} : afield Try.prog 61 1 (.pointer (some ⟨h, b, none⟩)) = some (.pointer (some ⟨h, b + 1, none⟩)) := by simp [afield, Try.underlying61]
theorem co62 : Try.prog.cellsOf 62 = 6 := by kernel_rfl
theorem ag62 : aisAgg Try.prog 62 = true := by kernel_rfl
theorem pt62 : isPtr Try.prog 62 = false := by kernel_rfl
theorem sc62 : isSlc Try.prog 62 = false := by kernel_rfl
theorem esz62 : aesz Try.prog 62 = 1 := by kernel_rfl
theorem ze62 : azero Try.prog 62 = some (Value.agg #[Value.bool false, Value.bool false, Value.bool false, Value.bool false, Value.bool false, Value.bool false]) := by kernel_rfl
theorem co63 : Try.prog.cellsOf 63 = 1 := by kernel_rfl
theorem ag63 : aisAgg Try.prog 63 = false := by kernel_rfl
theorem pt63 : isPtr Try.prog 63 = false := by kernel_rfl
theorem sc63 : isSlc Try.prog 63 = false := by kernel_rfl
theorem ze63 : azero Try.prog 63 = some Value.nilFunc := by kernel_rfl
theorem co64 : Try.prog.cellsOf 64 = 1 := by kernel_rfl
theorem ag64 : aisAgg Try.prog 64 = false := by kernel_rfl
theorem pt64 : isPtr Try.prog 64 = false := by kernel_rfl
theorem sc64 : isSlc Try.prog 64 = false := by kernel_rfl
theorem ze64 : azero Try.prog 64 = some Value.nilFunc := by kernel_rfl
theorem co67 : Try.prog.cellsOf 67 = 0 := by kernel_rfl
theorem ag67 : aisAgg Try.prog 67 = true := by kernel_rfl
theorem pt67 : isPtr Try.prog 67 = false := by kernel_rfl
theorem sc67 : isSlc Try.prog 67 = false := by kernel_rfl
theorem esz67 : aesz Try.prog 67 = 1 := by kernel_rfl
theorem ze67 : azero Try.prog 67 = some (Value.agg #[]) := by kernel_rfl
theorem co70 : Try.prog.cellsOf 70 = 1 := by kernel_rfl
theorem ag70 : aisAgg Try.prog 70 = false := by kernel_rfl
theorem pt70 : isPtr Try.prog 70 = false := by kernel_rfl
theorem sc70 : isSlc Try.prog 70 = false := by kernel_rfl
theorem ze70 : azero Try.prog 70 = some Value.nilFunc := by kernel_rfl
theorem co71 : Try.prog.cellsOf 71 = 1 := by kernel_rfl
theorem ag71 : aisAgg Try.prog 71 = false := by kernel_rfl
theorem pt71 : isPtr Try.prog 71 = false := by kernel_rfl
theorem sc71 : isSlc Try.prog 71 = false := by kernel_rfl
theorem ze71 : azero Try.prog 71 = some (Value.int IntKind.u32 0) := by kernel_rfl
theorem co72 : Try.prog.cellsOf 72 = 1 := by kernel_rfl
theorem ag72 : aisAgg Try.prog 72 = false := by kernel_rfl
theorem pt72 : isPtr Try.prog 72 = false := by kernel_rfl
theorem sc72 : isSlc Try.prog 72 = false := by kernel_rfl
theorem ze72 : azero Try.prog 72 = some (Value.int IntKind.u8 0) := by kernel_rfl
theorem co73 : Try.prog.cellsOf 73 = 1 := by kernel_rfl
theorem ag73 : aisAgg Try.prog 73 = false := by kernel_rfl
theorem pt73 : isPtr Try.prog 73 = false := by kernel_rfl
theorem sc73 : isSlc Try.prog 73 = false := by kernel_rfl
theorem ze73 : azero Try.prog 73 = some (Value.int IntKind.u8 0) := by kernel_rfl
theorem co74 : Try.prog.cellsOf 74 = 1 := by kernel_rfl
theorem ag74 : aisAgg Try.prog 74 = false := by kernel_rfl
theorem pt74 : isPtr Try.prog 74 = false := by kernel_rfl
theorem sc74 : isSlc Try.prog 74 = false := by kernel_rfl
theorem ze74 : azero Try.prog 74 = some Value.nilFunc := by kernel_rfl
theorem co75 : Try.prog.cellsOf 75 = 1 := by kernel_rfl
theorem ag75 : aisAgg Try.prog 75 = false := by kernel_rfl
theorem pt75 : isPtr Try.prog 75 = true := by kernel_rfl
theorem sc75 : isSlc Try.prog 75 = false := by kernel_rfl
theorem ze75 : azero Try.prog 75 = some (Value.pointer none) := by kernel_rfl
theorem co76 : Try.prog.cellsOf 76 = 1 := by kernel_rfl
theorem ag76 : aisAgg Try.prog 76 = false := by kernel_rfl
theorem pt76 : isPtr Try.prog 76 = false := by kernel_rfl
theorem sc76 : isSlc Try.prog 76 = false := by kernel_rfl
theorem ze76 : azero Try.prog 76 = some (Value.int IntKind.i32 0) := by kernel_rfl
theorem co77 : Try.prog.cellsOf 77 = 1 := by kernel_rfl
theorem ag77 : aisAgg Try.prog 77 = false := by kernel_rfl
theorem pt77 : isPtr Try.prog 77 = false := by kernel_rfl
theorem sc77 : isSlc Try.prog 77 = false := by kernel_rfl
theorem ze77 : azero Try.prog 77 = some (Value.int IntKind.i32 0) := by kernel_rfl
theorem pt80 : isPtr Try.prog 80 = false := by kernel_rfl
theorem sc80 : isSlc Try.prog 80 = false := by kernel_rfl
theorem good3 : (callable Try.prog 3 && tmpsOnly Try.f3 && decide (1 ≤ Try.f3.ntmps) && (match Try.f3.body with | some c => goodC Try.prog Try.f3.ntmps c | none => false)) = true := by kernel_rfl
theorem good4 : (callable Try.prog 4 && tmpsOnly Try.f4 && decide (1 ≤ Try.f4.ntmps) && (match Try.f4.body with | some c => goodC Try.prog Try.f4.ntmps c | none => false)) = true := by kernel_rfl
theorem good5 : (callable Try.prog 5 && tmpsOnly Try.f5 && decide (1 ≤ Try.f5.ntmps) && (match Try.f5.body with | some c => goodC Try.prog Try.f5.ntmps c | none => false)) = true := by kernel_rfl
theorem good6 : (callable Try.prog 6 && tmpsOnly Try.f6 && decide (1 ≤ Try.f6.ntmps) && (match Try.f6.body with | some c => goodC Try.prog Try.f6.ntmps c | none => false)) = true := by kernel_rfl
theorem good7 : (callable Try.prog 7 && tmpsOnly Try.f7 && decide (1 ≤ Try.f7.ntmps) && (match Try.f7.body with | some c => goodC Try.prog Try.f7.ntmps c | none => false)) = true := by kernel_rfl
theorem good8 : (callable Try.prog 8 && tmpsOnly Try.f8 && decide (1 ≤ Try.f8.ntmps) && (match Try.f8.body with | some c => goodC Try.prog Try.f8.ntmps c | none => false)) = true := by kernel_rfl
theorem good9 : (callable Try.prog 9 && tmpsOnly Try.f9 && decide (1 ≤ Try.f9.ntmps) && (match Try.f9.body with | some c => goodC Try.prog Try.f9.ntmps c | none => false)) = true := by kernel_rfl
theorem good10 : (callable Try.prog 10 && tmpsOnly Try.f10 && decide (1 ≤ Try.f10.ntmps) && (match Try.f10.body with | some c => goodC Try.prog Try.f10.ntmps c | none => false)) = true := by kernel_rfl
theorem good11 : (callable Try.prog 11 && tmpsOnly Try.f11 && decide (2 ≤ Try.f11.ntmps) && (match Try.f11.body with | some c => goodC Try.prog Try.f11.ntmps c | none => false)) = true := by kernel_rfl
theorem good12 : (callable Try.prog 12 && tmpsOnly Try.f12 && decide (2 ≤ Try.f12.ntmps) && (match Try.f12.body with | some c => goodC Try.prog Try.f12.ntmps c | none => false)) = true := by kernel_rfl
theorem good13 : (callable Try.prog 13 && tmpsOnly Try.f13 && decide (2 ≤ Try.f13.ntmps) && (match Try.f13.body with | some c => goodC Try.prog Try.f13.ntmps c | none => false)) = true := by kernel_rfl
theorem good14 : (callable Try.prog 14 && tmpsOnly Try.f14 && decide (2 ≤ Try.f14.ntmps) && (match Try.f14.body with | some c => goodC Try.prog Try.f14.ntmps c | none => false)) = true := by kernel_rfl
theorem good15 : (callable Try.prog 15 && tmpsOnly Try.f15 && decide (2 ≤ Try.f15.ntmps) && (match Try.f15.body with | some c => goodC Try.prog Try.f15.ntmps c | none => false)) = true := by kernel_rfl
theorem good16 : (callable Try.prog 16 && tmpsOnly Try.f16 && decide (2 ≤ Try.f16.ntmps) && (match Try.f16.body with | some c => goodC Try.prog Try.f16.ntmps c | none => false)) = true := by kernel_rfl
theorem goodc17 : (callable Try.prog 17 && Try.f17.results.toList.all (rok Try.prog) && decide (1 ≤ Try.f17.ntmps) && (match Try.f17.body with | some c => goodC Try.prog Try.f17.ntmps c | none => false)) = true := by kernel_rfl
theorem good18 : (callable Try.prog 18 && tmpsOnly Try.f18 && decide (1 ≤ Try.f18.ntmps) && (match Try.f18.body with | some c => goodC Try.prog Try.f18.ntmps c | none => false)) = true := by kernel_rfl
theorem good19 : (callable Try.prog 19 && tmpsOnly Try.f19 && decide (1 ≤ Try.f19.ntmps) && (match Try.f19.body with | some c => goodC Try.prog Try.f19.ntmps c | none => false)) = true := by kernel_rfl
theorem good20 : (callable Try.prog 20 && tmpsOnly Try.f20 && decide (0 ≤ Try.f20.ntmps) && (match Try.f20.body with | some c => goodC Try.prog Try.f20.ntmps c | none => false)) = true := by kernel_rfl
theorem goodc21 : (callable Try.prog 21 && Try.f21.results.toList.all (rok Try.prog) && decide (1 ≤ Try.f21.ntmps) && (match Try.f21.body with | some c => goodC Try.prog Try.f21.ntmps c | none => false)) = true := by kernel_rfl
theorem good22 : (callable Try.prog 22 && tmpsOnly Try.f22 && decide (2 ≤ Try.f22.ntmps) && (match Try.f22.body with | some c => goodC Try.prog Try.f22.ntmps c | none => false)) = true := by kernel_rfl
theorem good23 : (callable Try.prog 23 && tmpsOnly Try.f23 && decide (2 ≤ Try.f23.ntmps) && (match Try.f23.body with | some c => goodC Try.prog Try.f23.ntmps c | none => false)) = true := by kernel_rfl
theorem good24 : (callable Try.prog 24 && tmpsOnly Try.f24 && decide (1 ≤ Try.f24.ntmps) && (match Try.f24.body with | some c => goodC Try.prog Try.f24.ntmps c | none => false)) = true := by kernel_rfl
theorem goodc25 : (callable Try.prog 25 && Try.f25.results.toList.all (rok Try.prog) && decide (2 ≤ Try.f25.ntmps) && (match Try.f25.body with | some c => goodC Try.prog Try.f25.ntmps c | none => false)) = true := by kernel_rfl
theorem goodc26 : (callable Try.prog 26 && Try.f26.results.toList.all (rok Try.prog) && decide (2 ≤ Try.f26.ntmps) && (match Try.f26.body with | some c => goodC Try.prog Try.f26.ntmps c | none => false)) = true := by kernel_rfl
theorem goodc27 : (callable Try.prog 27 && Try.f27.results.toList.all (rok Try.prog) && decide (2 ≤ Try.f27.ntmps) && (match Try.f27.body with | some c => goodC Try.prog Try.f27.ntmps c | none => false)) = true := by kernel_rfl
theorem good28 : (callable Try.prog 28 && tmpsOnly Try.f28 && decide (1 ≤ Try.f28.ntmps) && (match Try.f28.body with | some c => goodC Try.prog Try.f28.ntmps c | none => false)) = true := by kernel_rfl
theorem goodc29 : (callable Try.prog 29 && Try.f29.results.toList.all (rok Try.prog) && decide (2 ≤ Try.f29.ntmps) && (match Try.f29.body with | some c => goodC Try.prog Try.f29.ntmps c | none => false)) = true := by kernel_rfl
theorem good30 : (callable Try.prog 30 && tmpsOnly Try.f30 && decide (2 ≤ Try.f30.ntmps) && (match Try.f30.body with | some c => goodC Try.prog Try.f30.ntmps c | none => false)) = true := by kernel_rfl
theorem good31 : (callable Try.prog 31 && tmpsOnly Try.f31 && decide (1 ≤ Try.f31.ntmps) && (match Try.f31.body with | some c => goodC Try.prog Try.f31.ntmps c | none => false)) = true := by kernel_rfl
theorem good32 : (callable Try.prog 32 && tmpsOnly Try.f32 && decide (1 ≤ Try.f32.ntmps) && (match Try.f32.body with | some c => goodC Try.prog Try.f32.ntmps c | none => false)) = true := by kernel_rfl
theorem goodc33 : (callable Try.prog 33 && Try.f33.results.toList.all (rok Try.prog) && decide (2 ≤ Try.f33.ntmps) && (match Try.f33.body with | some c => goodC Try.prog Try.f33.ntmps c | none => false)) = true := by kernel_rfl
theorem goodc34 : (callable Try.prog 34 && Try.f34.results.toList.all (rok Try.prog) && decide (2 ≤ Try.f34.ntmps) && (match Try.f34.body with | some c => goodC Try.prog Try.f34.ntmps c | none => false)) = true := by kernel_rfl
theorem good35 : (callable Try.prog 35 && tmpsOnly Try.f35 && decide (1 ≤ Try.f35.ntmps) && (match Try.f35.body with | some c => goodC Try.prog Try.f35.ntmps c | none => false)) = true := by kernel_rfl
theorem good36 : (callable Try.prog 36 && tmpsOnly Try.f36 && decide (2 ≤ Try.f36.ntmps) && (match Try.f36.body with | some c => goodC Try.prog Try.f36.ntmps c | none => false)) = true := by kernel_rfl
theorem good37 : (callable Try.prog 37 && tmpsOnly Try.f37 && decide (2 ≤ Try.f37.ntmps) && (match Try.f37.body with | some c => goodC Try.prog Try.f37.ntmps c | none => false)) = true := by kernel_rfl
theorem goodc38 : (callable Try.prog 38 && Try.f38.results.toList.all (rok Try.prog) && decide (1 ≤ Try.f38.ntmps) && (match Try.f38.body with | some c => goodC Try.prog Try.f38.ntmps c | none => false)) = true := by kernel_rfl
theorem good39 : (callable Try.prog 39 && tmpsOnly Try.f39 && decide (2 ≤ Try.f39.ntmps) && (match Try.f39.body with | some c => goodC Try.prog Try.f39.ntmps c | none => false)) = true := by kernel_rfl
theorem good40 : (callable Try.prog 40 && tmpsOnly Try.f40 && decide (2 ≤ Try.f40.ntmps) && (match Try.f40.body with | some c => goodC Try.prog Try.f40.ntmps c | none => false)) = true := by kernel_rfl
theorem goodc41 : (callable Try.prog 41 && Try.f41.results.toList.all (rok Try.prog) && decide (1 ≤ Try.f41.ntmps) && (match Try.f41.body with | some c => goodC Try.prog Try.f41.ntmps c | none => false)) = true := by kernel_rfl
theorem good42 : (callable Try.prog 42 && tmpsOnly Try.f42 && decide (2 ≤ Try.f42.ntmps) && (match Try.f42.body with | some c => goodC Try.prog Try.f42.ntmps c | none => false)) = true := by kernel_rfl
theorem good43 : (callable Try.prog 43 && tmpsOnly Try.f43 && decide (2 ≤ Try.f43.ntmps) && (match Try.f43.body with | some c => goodC Try.prog Try.f43.ntmps c | none => false)) = true := by kernel_rfl
theorem good44 : (callable Try.prog 44 && tmpsOnly Try.f44 && decide (2 ≤ Try.f44.ntmps) && (match Try.f44.body with | some c => goodC Try.prog Try.f44.ntmps c | none => false)) = true := by kernel_rfl
theorem good45 : (callable Try.prog 45 && tmpsOnly Try.f45 && decide (2 ≤ Try.f45.ntmps) && (match Try.f45.body with | some c => goodC Try.prog Try.f45.ntmps c | none => false)) = true := by kernel_rfl
theorem goodc46 : (callable Try.prog 46 && Try.f46.results.toList.all (rok Try.prog) && decide (2 ≤ Try.f46.ntmps) && (match Try.f46.body with | some c => goodC Try.prog Try.f46.ntmps c | none => false)) = true := by kernel_rfl
theorem good47 : (callable Try.prog 47 && tmpsOnly Try.f47 && decide (1 ≤ Try.f47.ntmps) && (match Try.f47.body with | some c => goodC Try.prog Try.f47.ntmps c | none => false)) = true := by kernel_rfl
theorem good48 : (callable Try.prog 48 && tmpsOnly Try.f48 && decide (3 ≤ Try.f48.ntmps) && (match Try.f48.body with | some c => goodC Try.prog Try.f48.ntmps c | none => false)) = true := by kernel_rfl
theorem good49 : (callable Try.prog 49 && tmpsOnly Try.f49 && decide (1 ≤ Try.f49.ntmps) && (match Try.f49.body with | some c => goodC Try.prog Try.f49.ntmps c | none => false)) = true := by kernel_rfl
theorem good50 : (callable Try.prog 50 && tmpsOnly Try.f50 && decide (2 ≤ Try.f50.ntmps) && (match Try.f50.body with | some c => goodC Try.prog Try.f50.ntmps c | none => false)) = true := by kernel_rfl
theorem good51 : (callable Try.prog 51 && tmpsOnly Try.f51 && decide (1 ≤ Try.f51.ntmps) && (match Try.f51.body with | some c => goodC Try.prog Try.f51.ntmps c | none => false)) = true := by kernel_rfl
theorem good52 : (callable Try.prog 52 && tmpsOnly Try.f52 && decide (2 ≤ Try.f52.ntmps) && (match Try.f52.body with | some c => goodC Try.prog Try.f52.ntmps c | none => false)) = true := by kernel_rfl
theorem goodc53 : (callable Try.prog 53 && Try.f53.results.toList.all (rok Try.prog) && decide (2 ≤ Try.f53.ntmps) && (match Try.f53.body with | some c => goodC Try.prog Try.f53.ntmps c | none => false)) = true := by kernel_rfl
theorem good54 : (callable Try.prog 54 && tmpsOnly Try.f54 && decide (2 ≤ Try.f54.ntmps) && (match Try.f54.body with | some c => goodC Try.prog Try.f54.ntmps c | none => false)) = true := by kernel_rfl
theorem goodc55 : (callable Try.prog 55 && Try.f55.results.toList.all (rok Try.prog) && decide (2 ≤ Try.f55.ntmps) && (match Try.f55.body with | some c => goodC Try.prog Try.f55.ntmps c | none => false)) = true := by kernel_rfl
theorem good56 : (callable Try.prog 56 && tmpsOnly Try.f56 && decide (1 ≤ Try.f56.ntmps) && (match Try.f56.body with | some c => goodC Try.prog Try.f56.ntmps c | none => false)) = true := by kernel_rfl
theorem good57 : (callable Try.prog 57 && tmpsOnly Try.f57 && decide (2 ≤ Try.f57.ntmps) && (match Try.f57.body with | some c => goodC Try.prog Try.f57.ntmps c | none => false)) = true := by kernel_rfl
theorem good58 : (callable Try.prog 58 && tmpsOnly Try.f58 && decide (2 ≤ Try.f58.ntmps) && (match Try.f58.body with | some c => goodC Try.prog Try.f58.ntmps c | none => false)) = true := by kernel_rfl
abbrev chr (n : Nat) : Char := Char.ofNat n
set_option maxRecDepth 20000 in
theorem initS : Try.prog.initOrder.toList = [chr 104, chr 97, chr 114, chr 110, chr 101, chr 115, chr 115, chr 32, chr 100, chr 101, chr 50, chr 98, chr 54, chr 53, chr 50, chr 57, chr 53, chr 49, chr 49, chr 53, chr 101, chr 98, chr 100, chr 102, chr 54, chr 51, chr 97, chr 49, chr 97, chr 51, chr 102, chr 53, chr 54, chr 54, chr 101, chr 56, chr 54, chr 57, chr 54, chr 48, chr 100, chr 102, chr 48, chr 49, chr 56, chr 57, chr 57, chr 57, chr 48, chr 54, chr 98, chr 97, chr 99, chr 99, chr 97, chr 101, chr 98, chr 52, chr 52, chr 98, chr 99, chr 57, chr 49, chr 50, chr 100, chr 102, chr 55, chr 57, chr 55, chr 102, chr 55, chr 100, chr 32, chr 99, chr 117, chr 116, chr 32, chr 97, chr 116, chr 32, chr 108, chr 111, chr 111, chr 112, chr 46, chr 101, chr 120, chr 97, chr 109, chr 112, chr 108, chr 101, chr 47, chr 99, chr 105, chr 114, chr 99, chr 117, chr 105, chr 116, chr 115, chr 119, chr 105, chr 116, chr 99, chr 104, chr 105, chr 110, chr 103, chr 47, chr 108, chr 97, chr 119, chr 115, chr 46, chr 70, chr 110, chr 70, chr 114, chr 97, chr 99, chr 86, chr 97, chr 108, chr 105, chr 100, chr 32, chr 108, chr 111, chr 111, chr 112, chr 46, chr 101, chr 120, chr 97, chr 109, chr 112, chr 108, chr 101, chr 47, chr 99, chr 105, chr 114, chr 99, chr 117, chr 105, chr 116, chr 115, chr 119, chr 105, chr 116, chr 99, chr 104, chr 105, chr 110, chr 103, chr 47, chr 108, chr 97, chr 119, chr 115, chr 46, chr 70, chr 110, chr 70, chr 114, chr 97, chr 99, chr 76, chr 101, chr 115, chr 115, chr 32, chr 108, chr 111, chr 111, chr 112, chr 46, chr 101, chr 120, chr 97, chr 109, chr 112, chr 108, chr 101, chr 47, chr 99, chr 105, chr 114, chr 99, chr 117, chr 105, chr 116, chr 115, chr 119, chr 105, chr 116, chr 99, chr 104, chr 105, chr 110, chr 103, chr 47, chr 108, chr 97, chr 119, chr 115, chr 46, chr 70, chr 110, chr 76, chr 111, chr 115, chr 116, chr 80, chr 97, chr 114, chr 116, chr 32, chr 108, chr 111, chr 111, chr 112, chr 46, chr 101, chr 120, chr 97, chr 109, chr 112, chr 108, chr 101, chr 47, chr 99, chr 105, chr 114, chr 99, chr 117, chr 105, chr 116, chr 115, chr 119, chr 105, chr 116, chr 99, chr 104, chr 105, chr 110, chr 103, chr 47, chr 108, chr 97, chr 119, chr 115, chr 46, chr 70, chr 110, chr 76, chr 111, chr 115, chr 116, chr 83, chr 117, chr 109, chr 32, chr 108, chr 111, chr 111, chr 112, chr 46, chr 101, chr 120, chr 97, chr 109, chr 112, chr 108, chr 101, chr 47, chr 99, chr 105, chr 114, chr 99, chr 117, chr 105, chr 116, chr 115, chr 119, chr 105, chr 116, chr 99, chr 104, chr 105, chr 110, chr 103, chr 47, chr 108, chr 97, chr 119, chr 115, chr 46, chr 70, chr 110, chr 84, chr 97, chr 107, chr 101, chr 110, chr 76, chr 111, chr 97, chr 100, chr 32, chr 108, chr 111, chr 111, chr 112, chr 46, chr 101, chr 120, chr 97, chr 109, chr 112, chr 108, chr 101, chr 47, chr 99, chr 105, chr 114, chr 99, chr 117, chr 105, chr 116, chr 115, chr 119, chr 105, chr 116, chr 99, chr 104, chr 105, chr 110, chr 103, chr 47, chr 108, chr 97, chr 119, chr 115, chr 46, chr 70, chr 110, chr 66, chr 117, chr 115, chr 121, chr 80, chr 97, chr 114, chr 116, chr 115, chr 32, chr 108, chr 111, chr 111, chr 112, chr 46, chr 101, chr 120, chr 97, chr 109, chr 112, chr 108, chr 101, chr 47, chr 99, chr 105, chr 114, chr 99, chr 117, chr 105, chr 116, chr 115, chr 119, chr 105, chr 116, chr 99, chr 104, chr 105, chr 110, chr 103, chr 47, chr 108, chr 97, chr 119, chr 115, chr 46, chr 70, chr 110, chr 84, chr 114, chr 117, chr 110, chr 107, chr 115, chr 70, chr 111, chr 114, chr 32, chr 108, chr 111, chr 111, chr 112, chr 46, chr 101, chr 120, chr 97, chr 109, chr 112, chr 108, chr 101, chr 47, chr 99, chr 105, chr 114, chr 99, chr 117, chr 105, chr 116, chr 115, chr 119, chr 105, chr 116, chr 99, chr 104, chr 105, chr 110, chr 103, chr 47, chr 108, chr 97, chr 119, chr 115, chr 46, chr 70, chr 110, chr 69, chr 120, chr 97, chr 99, chr 116, chr 70, chr 114, chr 97, chr 99, chr 86, chr 97, chr 108, chr 105, chr 100, chr 32, chr 108, chr 111, chr 111, chr 112, chr 46, chr 101, chr 120, chr 97, chr 109, chr 112, chr 108, chr 101, chr 47, chr 99, chr 105, chr 114, chr 99, chr 117, chr 105, chr 116, chr 115, chr 119, chr 105, chr 116, chr 99, chr 104, chr 105, chr 110, chr 103, chr 47, chr 108, chr 97, chr 119, chr 115, chr 46, chr 70, chr 110, chr 69, chr 120, chr 97, chr 99, chr 116, chr 70, chr 114, chr 97, chr 99, chr 76, chr 101, chr 115, chr 115, chr 32, chr 108, chr 111, chr 111, chr 112, chr 46, chr 101, chr 120, chr 97, chr 109, chr 112, chr 108, chr 101, chr 47, chr 99, chr 105, chr 114, chr 99, chr 117, chr 105, chr 116, chr 115, chr 119, chr 105, chr 116, chr 99, chr 104, chr 105, chr 110, chr 103, chr 47, chr 108, chr 97, chr 119, chr 115, chr 46, chr 70, chr 110, chr 69, chr 120, chr 97, chr 99, chr 116, chr 76, chr 111, chr 115, chr 116, chr 80, chr 97, chr 114, chr 116, chr 32, chr 108, chr 111, chr 111, chr 112, chr 46, chr 101, chr 120, chr 97, chr 109, chr 112, chr 108, chr 101, chr 47, chr 99, chr 105, chr 114, chr 99, chr 117, chr 105, chr 116, chr 115, chr 119, chr 105, chr 116, chr 99, chr 104, chr 105, chr 110, chr 103, chr 47, chr 108, chr 97, chr 119, chr 115, chr 46, chr 70, chr 110, chr 69, chr 120, chr 97, chr 99, chr 116, chr 76, chr 111, chr 115, chr 116, chr 83, chr 117, chr 109, chr 32, chr 108, chr 111, chr 111, chr 112, chr 46, chr 101, chr 120, chr 97, chr 109, chr 112, chr 108, chr 101, chr 47, chr 99, chr 105, chr 114, chr 99, chr 117, chr 105, chr 116, chr 115, chr 119, chr 105, chr 116, chr 99, chr 104, chr 105, chr 110, chr 103, chr 47, chr 108, chr 97, chr 119, chr 115, chr 46, chr 70, chr 110, chr 69, chr 120, chr 97, chr 99, chr 116, chr 84, chr 97, chr 107, chr 101, chr 110, chr 76, chr 111, chr 97, chr 100, chr 32, chr 108, chr 111, chr 111, chr 112, chr 46, chr 101, chr 120, chr 97, chr 109, chr 112, chr 108, chr 101, chr 47, chr 99, chr 105, chr 114, chr 99, chr 117, chr 105, chr 116, chr 115, chr 119, chr 105, chr 116, chr 99, chr 104, chr 105, chr 110, chr 103, chr 47, chr 108, chr 97, chr 119, chr 115, chr 46, chr 70, chr 110, chr 69, chr 120, chr 97, chr 99, chr 116, chr 66, chr 117, chr 115, chr 121, chr 80, chr 97, chr 114, chr 116, chr 115, chr 32, chr 108, chr 111, chr 111, chr 112, chr 46, chr 101, chr 120, chr 97, chr 109, chr 112, chr 108, chr 101, chr 47, chr 99, chr 105, chr 114, chr 99, chr 117, chr 105, chr 116, chr 115, chr 119, chr 105, chr 116, chr 99, chr 104, chr 105, chr 110, chr 103, chr 47, chr 108, chr 97, chr 119, chr 115, chr 46, chr 70, chr 110, chr 69, chr 120, chr 97, chr 99, chr 116, chr 84, chr 114, chr 117, chr 110, chr 107, chr 115, chr 70, chr 111, chr 114] := by
  rw [show Try.prog.initOrder = String.ofList [chr 104, chr 97, chr 114, chr 110, chr 101, chr 115, chr 115, chr 32, chr 100, chr 101, chr 50, chr 98, chr 54, chr 53, chr 50, chr 57, chr 53, chr 49, chr 49, chr 53, chr 101, chr 98, chr 100, chr 102, chr 54, chr 51, chr 97, chr 49, chr 97, chr 51, chr 102, chr 53, chr 54, chr 54, chr 101, chr 56, chr 54, chr 57, chr 54, chr 48, chr 100, chr 102, chr 48, chr 49, chr 56, chr 57, chr 57, chr 57, chr 48, chr 54, chr 98, chr 97, chr 99, chr 99, chr 97, chr 101, chr 98, chr 52, chr 52, chr 98, chr 99, chr 57, chr 49, chr 50, chr 100, chr 102, chr 55, chr 57, chr 55, chr 102, chr 55, chr 100, chr 32, chr 99, chr 117, chr 116, chr 32, chr 97, chr 116, chr 32, chr 108, chr 111, chr 111, chr 112, chr 46, chr 101, chr 120, chr 97, chr 109, chr 112, chr 108, chr 101, chr 47, chr 99, chr 105, chr 114, chr 99, chr 117, chr 105, chr 116, chr 115, chr 119, chr 105, chr 116, chr 99, chr 104, chr 105, chr 110, chr 103, chr 47, chr 108, chr 97, chr 119, chr 115, chr 46, chr 70, chr 110, chr 70, chr 114, chr 97, chr 99, chr 86, chr 97, chr 108, chr 105, chr 100, chr 32, chr 108, chr 111, chr 111, chr 112, chr 46, chr 101, chr 120, chr 97, chr 109, chr 112, chr 108, chr 101, chr 47, chr 99, chr 105, chr 114, chr 99, chr 117, chr 105, chr 116, chr 115, chr 119, chr 105, chr 116, chr 99, chr 104, chr 105, chr 110, chr 103, chr 47, chr 108, chr 97, chr 119, chr 115, chr 46, chr 70, chr 110, chr 70, chr 114, chr 97, chr 99, chr 76, chr 101, chr 115, chr 115, chr 32, chr 108, chr 111, chr 111, chr 112, chr 46, chr 101, chr 120, chr 97, chr 109, chr 112, chr 108, chr 101, chr 47, chr 99, chr 105, chr 114, chr 99, chr 117, chr 105, chr 116, chr 115, chr 119, chr 105, chr 116, chr 99, chr 104, chr 105, chr 110, chr 103, chr 47, chr 108, chr 97, chr 119, chr 115, chr 46, chr 70, chr 110, chr 76, chr 111, chr 115, chr 116, chr 80, chr 97, chr 114, chr 116, chr 32, chr 108, chr 111, chr 111, chr 112, chr 46, chr 101, chr 120, chr 97, chr 109, chr 112, chr 108, chr 101, chr 47, chr 99, chr 105, chr 114, chr 99, chr 117, chr 105, chr 116, chr 115, chr 119, chr 105, chr 116, chr 99, chr 104, chr 105, chr 110, chr 103, chr 47, chr 108, chr 97, chr 119, chr 115, chr 46, chr 70, chr 110, chr 76, chr 111, chr 115, chr 116, chr 83, chr 117, chr 109, chr 32, chr 108, chr 111, chr 111, chr 112, chr 46, chr 101, chr 120, chr 97, chr 109, chr 112, chr 108, chr 101, chr 47, chr 99, chr 105, chr 114, chr 99, chr 117, chr 105, chr 116, chr 115, chr 119, chr 105, chr 116, chr 99, chr 104, chr 105, chr 110, chr 103, chr 47, chr 108, chr 97, chr 119, chr 115, chr 46, chr 70, chr 110, chr 84, chr 97, chr 107, chr 101, chr 110, chr 76, chr 111, chr 97, chr 100, chr 32, chr 108, chr 111, chr 111, chr 112, chr 46, chr 101, chr 120, chr 97, chr 109, chr 112, chr 108, chr 101, chr 47, chr 99, chr 105, chr 114, chr 99, chr 117, chr 105, chr 116, chr 115, chr 119, chr 105, chr 116, chr 99, chr 104, chr 105, chr 110, chr 103, chr 47, chr 108, chr 97, chr 119, chr 115, chr 46, chr 70, chr 110, chr 66, chr 117, chr 115, chr 121, chr 80, chr 97, chr 114, chr 116, chr 115, chr 32, chr 108, chr 111, chr 111, chr 112, chr 46, chr 101, chr 120, chr 97, chr 109, chr 112, chr 108, chr 101, chr 47, chr 99, chr 105, chr 114, chr 99, chr 117, chr 105, chr 116, chr 115, chr 119, chr 105, chr 116, chr 99, chr 104, chr 105, chr 110, chr 103, chr 47, chr 108, chr 97, chr 119, chr 115, chr 46, chr 70, chr 110, chr 84, chr 114, chr 117, chr 110, chr 107, chr 115, chr 70, chr 111, chr 114, chr 32, chr 108, chr 111, chr 111, chr 112, chr 46, chr 101, chr 120, chr 97, chr 109, chr 112, chr 108, chr 101, chr 47, chr 99, chr 105, chr 114, chr 99, chr 117, chr 105, chr 116, chr 115, chr 119, chr 105, chr 116, chr 99, chr 104, chr 105, chr 110, chr 103, chr 47, chr 108, chr 97, chr 119, chr 115, chr 46, chr 70, chr 110, chr 69, chr 120, chr 97, chr 99, chr 116, chr 70, chr 114, chr 97, chr 99, chr 86, chr 97, chr 108, chr 105, chr 100, chr 32, chr 108, chr 111, chr 111, chr 112, chr 46, chr 101, chr 120, chr 97, chr 109, chr 112, chr 108, chr 101, chr 47, chr 99, chr 105, chr 114, chr 99, chr 117, chr 105, chr 116, chr 115, chr 119, chr 105, chr 116, chr 99, chr 104, chr 105, chr 110, chr 103, chr 47, chr 108, chr 97, chr 119, chr 115, chr 46, chr 70, chr 110, chr 69, chr 120, chr 97, chr 99, chr 116, chr 70, chr 114, chr 97, chr 99, chr 76, chr 101, chr 115, chr 115, chr 32, chr 108, chr 111, chr 111, chr 112, chr 46, chr 101, chr 120, chr 97, chr 109, chr 112, chr 108, chr 101, chr 47, chr 99, chr 105, chr 114, chr 99, chr 117, chr 105, chr 116, chr 115, chr 119, chr 105, chr 116, chr 99, chr 104, chr 105, chr 110, chr 103, chr 47, chr 108, chr 97, chr 119, chr 115, chr 46, chr 70, chr 110, chr 69, chr 120, chr 97, chr 99, chr 116, chr 76, chr 111, chr 115, chr 116, chr 80, chr 97, chr 114, chr 116, chr 32, chr 108, chr 111, chr 111, chr 112, chr 46, chr 101, chr 120, chr 97, chr 109, chr 112, chr 108, chr 101, chr 47, chr 99, chr 105, chr 114, chr 99, chr 117, chr 105, chr 116, chr 115, chr 119, chr 105, chr 116, chr 99, chr 104, chr 105, chr 110, chr 103, chr 47, chr 108, chr 97, chr 119, chr 115, chr 46, chr 70, chr 110, chr 69, chr 120, chr 97, chr 99, chr 116, chr 76, chr 111, chr 115, chr 116, chr 83, chr 117, chr 109, chr 32, chr 108, chr 111, chr 111, chr 112, chr 46, chr 101, chr 120, chr 97, chr 109, chr 112, chr 108, chr 101, chr 47, chr 99, chr 105, chr 114, chr 99, chr 117, chr 105, chr 116, chr 115, chr 119, chr 105, chr 116, chr 99, chr 104, chr 105, chr 110, chr 103, chr 47, chr 108, chr 97, chr 119, chr 115, chr 46, chr 70, chr 110, chr 69, chr 120, chr 97, chr 99, chr 116, chr 84, chr 97, chr 107, chr 101, chr 110, chr 76, chr 111, chr 97, chr 100, chr 32, chr 108, chr 111, chr 111, chr 112, chr 46, chr 101, chr 120, chr 97, chr 109, chr 112, chr 108, chr 101, chr 47, chr 99, chr 105, chr 114, chr 99, chr 117, chr 105, chr 116, chr 115, chr 119, chr 105, chr 116, chr 99, chr 104, chr 105, chr 110, chr 103, chr 47, chr 108, chr 97, chr 119, chr 115, chr 46, chr 70, chr 110, chr 69, chr 120, chr 97, chr 99, chr 116, chr 66, chr 117, chr 115, chr 121, chr 80, chr 97, chr 114, chr 116, chr 115, chr 32, chr 108, chr 111, chr 111, chr 112, chr 46, chr 101, chr 120, chr 97, chr 109, chr 112, chr 108, chr 101, chr 47, chr 99, chr 105, chr 114, chr 99, chr 117, chr 105, chr 116, chr 115, chr 119, chr 105, chr 116, chr 99, chr 104, chr 105, chr 110, chr 103, chr 47, chr 108, chr 97, chr 119, chr 115, chr 46, chr 70, chr 110, chr 69, chr 120, chr 97, chr 99, chr 116, chr 84, chr 114, chr 117, chr 110, chr 107, chr 115, chr 70, chr 111, chr 114] from by kernel_rfl, String.toList_ofList]
set_option maxRecDepth 20000 in
theorem behind : behindMainWord (wordsSigns Try.prog.initOrder.toList) = cutW :: [[chr 97, chr 116], [chr 108, chr 111, chr 111, chr 112, chr 46, chr 101, chr 120, chr 97, chr 109, chr 112, chr 108, chr 101, chr 47, chr 99, chr 105, chr 114, chr 99, chr 117, chr 105, chr 116, chr 115, chr 119, chr 105, chr 116, chr 99, chr 104, chr 105, chr 110, chr 103, chr 47, chr 108, chr 97, chr 119, chr 115, chr 46, chr 70, chr 110, chr 70, chr 114, chr 97, chr 99, chr 86, chr 97, chr 108, chr 105, chr 100], [chr 108, chr 111, chr 111, chr 112, chr 46, chr 101, chr 120, chr 97, chr 109, chr 112, chr 108, chr 101, chr 47, chr 99, chr 105, chr 114, chr 99, chr 117, chr 105, chr 116, chr 115, chr 119, chr 105, chr 116, chr 99, chr 104, chr 105, chr 110, chr 103, chr 47, chr 108, chr 97, chr 119, chr 115, chr 46, chr 70, chr 110, chr 70, chr 114, chr 97, chr 99, chr 76, chr 101, chr 115, chr 115], [chr 108, chr 111, chr 111, chr 112, chr 46, chr 101, chr 120, chr 97, chr 109, chr 112, chr 108, chr 101, chr 47, chr 99, chr 105, chr 114, chr 99, chr 117, chr 105, chr 116, chr 115, chr 119, chr 105, chr 116, chr 99, chr 104, chr 105, chr 110, chr 103, chr 47, chr 108, chr 97, chr 119, chr 115, chr 46, chr 70, chr 110, chr 76, chr 111, chr 115, chr 116, chr 80, chr 97, chr 114, chr 116], [chr 108, chr 111, chr 111, chr 112, chr 46, chr 101, chr 120, chr 97, chr 109, chr 112, chr 108, chr 101, chr 47, chr 99, chr 105, chr 114, chr 99, chr 117, chr 105, chr 116, chr 115, chr 119, chr 105, chr 116, chr 99, chr 104, chr 105, chr 110, chr 103, chr 47, chr 108, chr 97, chr 119, chr 115, chr 46, chr 70, chr 110, chr 76, chr 111, chr 115, chr 116, chr 83, chr 117, chr 109], [chr 108, chr 111, chr 111, chr 112, chr 46, chr 101, chr 120, chr 97, chr 109, chr 112, chr 108, chr 101, chr 47, chr 99, chr 105, chr 114, chr 99, chr 117, chr 105, chr 116, chr 115, chr 119, chr 105, chr 116, chr 99, chr 104, chr 105, chr 110, chr 103, chr 47, chr 108, chr 97, chr 119, chr 115, chr 46, chr 70, chr 110, chr 84, chr 97, chr 107, chr 101, chr 110, chr 76, chr 111, chr 97, chr 100], [chr 108, chr 111, chr 111, chr 112, chr 46, chr 101, chr 120, chr 97, chr 109, chr 112, chr 108, chr 101, chr 47, chr 99, chr 105, chr 114, chr 99, chr 117, chr 105, chr 116, chr 115, chr 119, chr 105, chr 116, chr 99, chr 104, chr 105, chr 110, chr 103, chr 47, chr 108, chr 97, chr 119, chr 115, chr 46, chr 70, chr 110, chr 66, chr 117, chr 115, chr 121, chr 80, chr 97, chr 114, chr 116, chr 115], [chr 108, chr 111, chr 111, chr 112, chr 46, chr 101, chr 120, chr 97, chr 109, chr 112, chr 108, chr 101, chr 47, chr 99, chr 105, chr 114, chr 99, chr 117, chr 105, chr 116, chr 115, chr 119, chr 105, chr 116, chr 99, chr 104, chr 105, chr 110, chr 103, chr 47, chr 108, chr 97, chr 119, chr 115, chr 46, chr 70, chr 110, chr 84, chr 114, chr 117, chr 110, chr 107, chr 115, chr 70, chr 111, chr 114], [chr 108, chr 111, chr 111, chr 112, chr 46, chr 101, chr 120, chr 97, chr 109, chr 112, chr 108, chr 101, chr 47, chr 99, chr 105, chr 114, chr 99, chr 117, chr 105, chr 116, chr 115, chr 119, chr 105, chr 116, chr 99, chr 104, chr 105, chr 110, chr 103, chr 47, chr 108, chr 97, chr 119, chr 115, chr 46, chr 70, chr 110, chr 69, chr 120, chr 97, chr 99, chr 116, chr 70, chr 114, chr 97, chr 99, chr 86, chr 97, chr 108, chr 105, chr 100], [chr 108, chr 111, chr 111, chr 112, chr 46, chr 101, chr 120, chr 97, chr 109, chr 112, chr 108, chr 101, chr 47, chr 99, chr 105, chr 114, chr 99, chr 117, chr 105, chr 116, chr 115, chr 119, chr 105, chr 116, chr 99, chr 104, chr 105, chr 110, chr 103, chr 47, chr 108, chr 97, chr 119, chr 115, chr 46, chr 70, chr 110, chr 69, chr 120, chr 97, chr 99, chr 116, chr 70, chr 114, chr 97, chr 99, chr 76, chr 101, chr 115, chr 115], [chr 108, chr 111, chr 111, chr 112, chr 46, chr 101, chr 120, chr 97, chr 109, chr 112, chr 108, chr 101, chr 47, chr 99, chr 105, chr 114, chr 99, chr 117, chr 105, chr 116, chr 115, chr 119, chr 105, chr 116, chr 99, chr 104, chr 105, chr 110, chr 103, chr 47, chr 108, chr 97, chr 119, chr 115, chr 46, chr 70, chr 110, chr 69, chr 120, chr 97, chr 99, chr 116, chr 76, chr 111, chr 115, chr 116, chr 80, chr 97, chr 114, chr 116], [chr 108, chr 111, chr 111, chr 112, chr 46, chr 101, chr 120, chr 97, chr 109, chr 112, chr 108, chr 101, chr 47, chr 99, chr 105, chr 114, chr 99, chr 117, chr 105, chr 116, chr 115, chr 119, chr 105, chr 116, chr 99, chr 104, chr 105, chr 110, chr 103, chr 47, chr 108, chr 97, chr 119, chr 115, chr 46, chr 70, chr 110, chr 69, chr 120, chr 97, chr 99, chr 116, chr 76, chr 111, chr 115, chr 116, chr 83, chr 117, chr 109], [chr 108, chr 111, chr 111, chr 112, chr 46, chr 101, chr 120, chr 97, chr 109, chr 112, chr 108, chr 101, chr 47, chr 99, chr 105, chr 114, chr 99, chr 117, chr 105, chr 116, chr 115, chr 119, chr 105, chr 116, chr 99, chr 104, chr 105, chr 110, chr 103, chr 47, chr 108, chr 97, chr 119, chr 115, chr 46, chr 70, chr 110, chr 69, chr 120, chr 97, chr 99, chr 116, chr 84, chr 97, chr 107, chr 101, chr 110, chr 76, chr 111, chr 97, chr 100], [chr 108, chr 111, chr 111, chr 112, chr 46, chr 101, chr 120, chr 97, chr 109, chr 112, chr 108, chr 101, chr 47, chr 99, chr 105, chr 114, chr 99, chr 117, chr 105, chr 116, chr 115, chr 119, chr 105, chr 116, chr 99, chr 104, chr 105, chr 110, chr 103, chr 47, chr 108, chr 97, chr 119, chr 115, chr 46, chr 70, chr 110, chr 69, chr 120, chr 97, chr 99, chr 116, chr 66, chr 117, chr 115, chr 121, chr 80, chr 97, chr 114, chr 116, chr 115], [chr 108, chr 111, chr 111, chr 112, chr 46, chr 101, chr 120, chr 97, chr 109, chr 112, chr 108, chr 101, chr 47, chr 99, chr 105, chr 114, chr 99, chr 117, chr 105, chr 116, chr 115, chr 119, chr 105, chr 116, chr 99, chr 104, chr 105, chr 110, chr 103, chr 47, chr 108, chr 97, chr 119, chr 115, chr 46, chr 70, chr 110, chr 69, chr 120, chr 97, chr 99, chr 116, chr 84, chr 114, chr 117, chr 110, chr 107, chr 115, chr 70, chr 111, chr 114]] := by
  rw [initS]; kernel_rfl
theorem mayE : Try.prog.mayEnter = true := may_of behind (by kernel_rfl) (by kernel_rfl) (by kernel_rfl)
theorem liftsE : Try.prog.liftsFinal = false := lifts_of behind
theorem makeE : Try.prog.make = some .cut := mk_of behind
theorem vcu0 : type_of% (And.intro (And.intro (And.intro (And.intro (@decide_true) (@decide_false)) (And.intro (@Bool.or_false) (@Bool.or_true))) (And.intro (And.intro (@Bool.false_or) (@Bool.true_or)) (And.intro (@noisy_nil) (@nq_move)))) (And.intro (And.intro (And.intro (@nq_assign) (@nq_pick)) (And.intro (@nq_binOp) (@nq_unOp))) (And.intro (And.intro (@nq_convert) (@nq_nilCheck)) (And.intro (@nq_indexAddr) (@nq_index))))) := (And.intro (And.intro (And.intro (And.intro (@decide_true) (@decide_false)) (And.intro (@Bool.or_false) (@Bool.or_true))) (And.intro (And.intro (@Bool.false_or) (@Bool.true_or)) (And.intro (@noisy_nil) (@nq_move)))) (And.intro (And.intro (And.intro (@nq_assign) (@nq_pick)) (And.intro (@nq_binOp) (@nq_unOp))) (And.intro (And.intro (@nq_convert) (@nq_nilCheck)) (And.intro (@nq_indexAddr) (@nq_index)))))
theorem vcu1 : type_of% (And.intro (And.intro (And.intro (And.intro (@nq_load) (@nq_field)) (And.intro (@nq_fieldAddr) (@nq_extract))) (And.intro (And.intro (@nq_build) (@nq_makeFunc)) (And.intro (@nq_slice) (@nq_len)))) (And.intro (And.intro (And.intro (@nq_min) (@nq_max)) (And.intro (@nq_call) (@nl_callv))) (And.intro (And.intro (@nl_append) (@nl_copy)) (And.intro (@nl_clear) (@nl_alloc))))) := (And.intro (And.intro (And.intro (And.intro (@nq_load) (@nq_field)) (And.intro (@nq_fieldAddr) (@nq_extract))) (And.intro (And.intro (@nq_build) (@nq_makeFunc)) (And.intro (@nq_slice) (@nq_len)))) (And.intro (And.intro (And.intro (@nq_min) (@nq_max)) (And.intro (@nq_call) (@nl_callv))) (And.intro (And.intro (@nl_append) (@nl_copy)) (And.intro (@nl_clear) (@nl_alloc)))))
theorem vcu2 : type_of% (And.intro (And.intro (And.intro (And.intro (@nl_box) (@nl_store)) (And.intro (@nl_makeSlice) (@nl_buildSlice))) (And.intro (And.intro (@nl_slice3) (@bindO_some)) (And.intro (@bindI_some) (@bindS_some)))) (And.intro (And.intro (And.intro (@pickR_yes) (@pickR_no)) (And.intro (@pickR_tt) (@pickR_ff))) (And.intro (And.intro (@gvb_some) (@vb_bool)) (And.intro (@vb_undef) (@gslot_zero))))) := (And.intro (And.intro (And.intro (And.intro (@nl_box) (@nl_store)) (And.intro (@nl_makeSlice) (@nl_buildSlice))) (And.intro (And.intro (@nl_slice3) (@bindO_some)) (And.intro (@bindI_some) (@bindS_some)))) (And.intro (And.intro (And.intro (@pickR_yes) (@pickR_no)) (And.intro (@pickR_tt) (@pickR_ff))) (And.intro (And.intro (@gvb_some) (@vb_bool)) (And.intro (@vb_undef) (@gslot_zero)))))
theorem vcu3 : type_of% (And.intro (And.intro (And.intro (And.intro (@gslot_succ) (@guardR_tt)) (And.intro (@guardR_ff) (@guardR_tf))) (And.intro (And.intro (@guardR_ft) (@guardR_nt)) (And.intro (@guardR_pt) (@guardR_pf)))) (And.intro (And.intro (And.intro (@guardR_nT) (@guardR_nF)) (And.intro (@aput_some) (@aput_none))) (And.intro (And.intro (@condR_true) (@condR_false)) (And.intro (@condR_yes) (@condR_no))))) := (And.intro (And.intro (And.intro (And.intro (@gslot_succ) (@guardR_tt)) (And.intro (@guardR_ff) (@guardR_tf))) (And.intro (And.intro (@guardR_ft) (@guardR_nt)) (And.intro (@guardR_pt) (@guardR_pf)))) (And.intro (And.intro (And.intro (@guardR_nT) (@guardR_nF)) (And.intro (@aput_some) (@aput_none))) (And.intro (And.intro (@condR_true) (@condR_false)) (And.intro (@condR_yes) (@condR_no)))))
theorem vcu4 : type_of% (And.intro (And.intro (And.intro (And.intro (@condR_not) (@Bool.not_true)) (And.intro (@Bool.not_false) (@ev_const))) (And.intro (And.intro (@ev_tmp) (@ev_func)) (And.intro (@fset_app) (@abin_add)))) (And.intro (And.intro (And.intro (@abin_sub) (@abin_mul)) (And.intro (@abin_quo) (@abin_rem))) (And.intro (And.intro (@abin_eql) (@abin_neq)) (And.intro (@abin_lss) (@abin_leq))))) := (And.intro (And.intro (And.intro (And.intro (@condR_not) (@Bool.not_true)) (And.intro (@Bool.not_false) (@ev_const))) (And.intro (And.intro (@ev_tmp) (@ev_func)) (And.intro (@fset_app) (@abin_add)))) (And.intro (And.intro (And.intro (@abin_sub) (@abin_mul)) (And.intro (@abin_quo) (@abin_rem))) (And.intro (And.intro (@abin_eql) (@abin_neq)) (And.intro (@abin_lss) (@abin_leq)))))
theorem vcu5 : type_of% (And.intro (And.intro (And.intro (And.intro (@abin_gtr) (@abin_geq)) (And.intro (@abin_seql) (@abin_sneq))) (And.intro (And.intro (@abin_sadd) (@bindX_some)) (And.intro (@tx_nil) (@tx_empty)))) (And.intro (And.intro (And.intro (@aun_not) (@aun_neg)) (And.intro (@aconvH_int) (@amin_two))) (And.intro (And.intro (@amax_two) (@anil_ptr)) (And.intro (@aextract_tuple) (@dec_true))))) := (And.intro (And.intro (And.intro (And.intro (@abin_gtr) (@abin_geq)) (And.intro (@abin_seql) (@abin_sneq))) (And.intro (And.intro (@abin_sadd) (@bindX_some)) (And.intro (@tx_nil) (@tx_empty)))) (And.intro (And.intro (And.intro (@aun_not) (@aun_neg)) (And.intro (@aconvH_int) (@amin_two))) (And.intro (And.intro (@amax_two) (@anil_ptr)) (And.intro (@aextract_tuple) (@dec_true)))))
theorem vcu6 : type_of% (And.intro (And.intro (And.intro (And.intro (@dec_false) (@Nat.mul_one)) (And.intro (@Int.toNat_natCast) (@not_not_p))) (And.intro (And.intro (@aenter_zero) (@aenter_succ)) (And.intro (abin_beql' bo4) (abin_bneq' bo4)))) (And.intro (And.intro (And.intro (alenV_tx' Try.underlying9) (aslice_thi' Try.underlying9)) (And.intro (aslice_tlo' Try.underlying9) (aslice_tlohi' Try.underlying9))) (And.intro (And.intro (alenV_tx' Try.underlying10) (aslice_thi' Try.underlying10)) (And.intro (aslice_tlo' Try.underlying10) (aslice_tlohi' Try.underlying10))))) := (And.intro (And.intro (And.intro (And.intro (@dec_false) (@Nat.mul_one)) (And.intro (@Int.toNat_natCast) (@not_not_p))) (And.intro (And.intro (@aenter_zero) (@aenter_succ)) (And.intro (abin_beql' bo4) (abin_bneq' bo4)))) (And.intro (And.intro (And.intro (alenV_tx' Try.underlying9) (aslice_thi' Try.underlying9)) (And.intro (aslice_tlo' Try.underlying9) (aslice_tlohi' Try.underlying9))) (And.intro (And.intro (alenV_tx' Try.underlying10) (aslice_thi' Try.underlying10)) (And.intro (aslice_tlo' Try.underlying10) (aslice_tlohi' Try.underlying10)))))
theorem vcu7 : type_of% (And.intro (And.intro (And.intro (And.intro (alenV_tx' Try.underlying11) (aslice_thi' Try.underlying11)) (And.intro (aslice_tlo' Try.underlying11) (aslice_tlohi' Try.underlying11))) (And.intro (And.intro (alenV_slice' Try.underlying22) (aidx_slice' Try.underlying22 co5)) (And.intro (@esz22) (aslice_hi' Try.underlying22 co5)))) (And.intro (And.intro (And.intro (aslice_lo' Try.underlying22 co5) (aslice_lohi' Try.underlying22 co5)) (And.intro (aslice_nhi' Try.underlying22) (aslice_nlo' Try.underlying22))) (And.intro (And.intro (aslice_nlohi' Try.underlying22) (@fl23_0)) (And.intro (@fl23_1) (@fv23_0))))) := (And.intro (And.intro (And.intro (And.intro (alenV_tx' Try.underlying11) (aslice_thi' Try.underlying11)) (And.intro (aslice_tlo' Try.underlying11) (aslice_tlohi' Try.underlying11))) (And.intro (And.intro (alenV_slice' Try.underlying22) (aidx_slice' Try.underlying22 co5)) (And.intro (@esz22) (aslice_hi' Try.underlying22 co5)))) (And.intro (And.intro (And.intro (aslice_lo' Try.underlying22 co5) (aslice_lohi' Try.underlying22 co5)) (And.intro (aslice_nhi' Try.underlying22) (aslice_nlo' Try.underlying22))) (And.intro (And.intro (aslice_nlohi' Try.underlying22) (@fl23_0)) (And.intro (@fl23_1) (@fv23_0)))))
theorem vcu8 : type_of% (And.intro (And.intro (And.intro (And.intro (@fv23_1) (@fl24_0)) (And.intro (@fl24_1) (@fv24_0))) (And.intro (And.intro (@fv24_1) (alenV_slice' Try.underlying36)) (And.intro (aidx_slice' Try.underlying36 co3) (@esz36)))) (And.intro (And.intro (And.intro (aslice_hi' Try.underlying36 co3) (aslice_lo' Try.underlying36 co3)) (And.intro (aslice_lohi' Try.underlying36 co3) (aslice_nhi' Try.underlying36))) (And.intro (And.intro (aslice_nlo' Try.underlying36) (aslice_nlohi' Try.underlying36)) (And.intro (@fl43_0) (@fl43_1))))) := (And.intro (And.intro (And.intro (And.intro (@fv23_1) (@fl24_0)) (And.intro (@fl24_1) (@fv24_0))) (And.intro (And.intro (@fv24_1) (alenV_slice' Try.underlying36)) (And.intro (aidx_slice' Try.underlying36 co3) (@esz36)))) (And.intro (And.intro (And.intro (aslice_hi' Try.underlying36 co3) (aslice_lo' Try.underlying36 co3)) (And.intro (aslice_lohi' Try.underlying36 co3) (aslice_nhi' Try.underlying36))) (And.intro (And.intro (aslice_nlo' Try.underlying36) (aslice_nlohi' Try.underlying36)) (And.intro (@fl43_0) (@fl43_1)))))
theorem vcu9 : type_of% (And.intro (And.intro (And.intro (And.intro (@fv43_0) (@fv43_1)) (And.intro (alenV_slice' Try.underlying59) (aidx_slice' Try.underlying59 co24))) (And.intro (And.intro (@esz59) (aslice_hi' Try.underlying59 co24)) (And.intro (aslice_lo' Try.underlying59 co24) (aslice_lohi' Try.underlying59 co24)))) (And.intro (And.intro (And.intro (aslice_nhi' Try.underlying59) (aslice_nlo' Try.underlying59)) (And.intro (aslice_nlohi' Try.underlying59) (@fl60_0))) (And.intro (And.intro (@fl60_1) (@fv60_0)) (And.intro (@fv60_1) (@fl61_0))))) := (And.intro (And.intro (And.intro (And.intro (@fv43_0) (@fv43_1)) (And.intro (alenV_slice' Try.underlying59) (aidx_slice' Try.underlying59 co24))) (And.intro (And.intro (@esz59) (aslice_hi' Try.underlying59 co24)) (And.intro (aslice_lo' Try.underlying59 co24) (aslice_lohi' Try.underlying59 co24)))) (And.intro (And.intro (And.intro (aslice_nhi' Try.underlying59) (aslice_nlo' Try.underlying59)) (And.intro (aslice_nlohi' Try.underlying59) (@fl60_0))) (And.intro (And.intro (@fl60_1) (@fv60_0)) (And.intro (@fv60_1) (@fl61_0)))))
theorem vcu10 : type_of% (And.intro (And.intro (And.intro (And.intro (@fl61_1) (@fv61_0)) (And.intro (@fv61_1) (aidx_array' Try.underlying62 co4))) (And.intro (And.intro (@esz62) (aidx_array' Try.underlying67 co16)) (And.intro (@esz67) (@pt0)))) (And.intro (And.intro (And.intro (@pt1) (@pt2)) (And.intro (@pt3) (@pt4))) (And.intro (And.intro (@pt5) (@pt6)) (And.intro (@pt9) (@pt10))))) := (And.intro (And.intro (And.intro (And.intro (@fl61_1) (@fv61_0)) (And.intro (@fv61_1) (aidx_array' Try.underlying62 co4))) (And.intro (And.intro (@esz62) (aidx_array' Try.underlying67 co16)) (And.intro (@esz67) (@pt0)))) (And.intro (And.intro (And.intro (@pt1) (@pt2)) (And.intro (@pt3) (@pt4))) (And.intro (And.intro (@pt5) (@pt6)) (And.intro (@pt9) (@pt10)))))
theorem vcu11 : type_of% (And.intro (And.intro (And.intro (And.intro (@pt11) (@pt12)) (And.intro (@pt15) (@pt16))) (And.intro (And.intro (@pt17) (@pt20)) (And.intro (@pt21) (@pt22)))) (And.intro (And.intro (And.intro (@pt23) (@pt24)) (And.intro (@pt25) (@pt26))) (And.intro (And.intro (@pt27) (@pt28)) (And.intro (@pt29) (@pt30))))) := (And.intro (And.intro (And.intro (And.intro (@pt11) (@pt12)) (And.intro (@pt15) (@pt16))) (And.intro (And.intro (@pt17) (@pt20)) (And.intro (@pt21) (@pt22)))) (And.intro (And.intro (And.intro (@pt23) (@pt24)) (And.intro (@pt25) (@pt26))) (And.intro (And.intro (@pt27) (@pt28)) (And.intro (@pt29) (@pt30)))))
theorem vcu12 : type_of% (And.intro (And.intro (And.intro (And.intro (@pt31) (@pt32)) (And.intro (@pt33) (@pt34))) (And.intro (And.intro (@pt35) (@pt36)) (And.intro (@pt37) (@pt38)))) (And.intro (And.intro (And.intro (@pt39) (@pt40)) (And.intro (@pt41) (@pt42))) (And.intro (And.intro (@pt43) (@pt44)) (And.intro (@pt45) (@pt46))))) := (And.intro (And.intro (And.intro (And.intro (@pt31) (@pt32)) (And.intro (@pt33) (@pt34))) (And.intro (And.intro (@pt35) (@pt36)) (And.intro (@pt37) (@pt38)))) (And.intro (And.intro (And.intro (@pt39) (@pt40)) (And.intro (@pt41) (@pt42))) (And.intro (And.intro (@pt43) (@pt44)) (And.intro (@pt45) (@pt46)))))
theorem vcu13 : type_of% (And.intro (And.intro (And.intro (And.intro (@pt47) (@pt48)) (And.intro (@pt49) (@pt50))) (And.intro (And.intro (@pt51) (@pt52)) (And.intro (@pt53) (@pt54)))) (And.intro (And.intro (And.intro (@pt55) (@pt56)) (And.intro (@pt57) (@pt58))) (And.intro (And.intro (@pt59) (@pt60)) (And.intro (@pt61) (@pt62))))) := (And.intro (And.intro (And.intro (And.intro (@pt47) (@pt48)) (And.intro (@pt49) (@pt50))) (And.intro (And.intro (@pt51) (@pt52)) (And.intro (@pt53) (@pt54)))) (And.intro (And.intro (And.intro (@pt55) (@pt56)) (And.intro (@pt57) (@pt58))) (And.intro (And.intro (@pt59) (@pt60)) (And.intro (@pt61) (@pt62)))))
theorem vcu14 : type_of% (And.intro (And.intro (And.intro (And.intro (@pt63) (@pt64)) (And.intro (@pt67) (@pt70))) (And.intro (And.intro (@pt71) (@pt72)) (And.intro (@pt73) (@pt74)))) (And.intro (And.intro (And.intro (@pt75) (@pt76)) (And.intro (@pt77) (@pt80))) (And.intro (And.intro (@sc0) (@sc1)) (And.intro (@sc2) (@sc3))))) := (And.intro (And.intro (And.intro (And.intro (@pt63) (@pt64)) (And.intro (@pt67) (@pt70))) (And.intro (And.intro (@pt71) (@pt72)) (And.intro (@pt73) (@pt74)))) (And.intro (And.intro (And.intro (@pt75) (@pt76)) (And.intro (@pt77) (@pt80))) (And.intro (And.intro (@sc0) (@sc1)) (And.intro (@sc2) (@sc3)))))
theorem vcu15 : type_of% (And.intro (And.intro (And.intro (And.intro (@sc4) (@sc5)) (And.intro (@sc6) (@sc9))) (And.intro (And.intro (@sc10) (@sc11)) (And.intro (@sc12) (@sc15)))) (And.intro (And.intro (And.intro (@sc16) (@sc17)) (And.intro (@sc20) (@sc21))) (And.intro (And.intro (@sc22) (@sc23)) (And.intro (@sc24) (@sc25))))) := (And.intro (And.intro (And.intro (And.intro (@sc4) (@sc5)) (And.intro (@sc6) (@sc9))) (And.intro (And.intro (@sc10) (@sc11)) (And.intro (@sc12) (@sc15)))) (And.intro (And.intro (And.intro (@sc16) (@sc17)) (And.intro (@sc20) (@sc21))) (And.intro (And.intro (@sc22) (@sc23)) (And.intro (@sc24) (@sc25)))))
theorem vcu16 : type_of% (And.intro (And.intro (And.intro (And.intro (@sc26) (@sc27)) (And.intro (@sc28) (@sc29))) (And.intro (And.intro (@sc30) (@sc31)) (And.intro (@sc32) (@sc33)))) (And.intro (And.intro (And.intro (@sc34) (@sc35)) (And.intro (@sc36) (@sc37))) (And.intro (And.intro (@sc38) (@sc39)) (And.intro (@sc40) (@sc41))))) := (And.intro (And.intro (And.intro (And.intro (@sc26) (@sc27)) (And.intro (@sc28) (@sc29))) (And.intro (And.intro (@sc30) (@sc31)) (And.intro (@sc32) (@sc33)))) (And.intro (And.intro (And.intro (@sc34) (@sc35)) (And.intro (@sc36) (@sc37))) (And.intro (And.intro (@sc38) (@sc39)) (And.intro (@sc40) (@sc41)))))
theorem vcu17 : type_of% (And.intro (And.intro (And.intro (And.intro (@sc42) (@sc43)) (And.intro (@sc44) (@sc45))) (And.intro (And.intro (@sc46) (@sc47)) (And.intro (@sc48) (@sc49)))) (And.intro (And.intro (And.intro (@sc50) (@sc51)) (And.intro (@sc52) (@sc53))) (And.intro (And.intro (@sc54) (@sc55)) (And.intro (@sc56) (@sc57))))) := (And.intro (And.intro (And.intro (And.intro (@sc42) (@sc43)) (And.intro (@sc44) (@sc45))) (And.intro (And.intro (@sc46) (@sc47)) (And.intro (@sc48) (@sc49)))) (And.intro (And.intro (And.intro (@sc50) (@sc51)) (And.intro (@sc52) (@sc53))) (And.intro (And.intro (@sc54) (@sc55)) (And.intro (@sc56) (@sc57)))))
theorem vcu18 : type_of% (And.intro (And.intro (And.intro (And.intro (@sc58) (@sc59)) (And.intro (@sc60) (@sc61))) (And.intro (And.intro (@sc62) (@sc63)) (And.intro (@sc64) (@sc67)))) (And.intro (And.intro (And.intro (@sc70) (@sc71)) (And.intro (@sc72) (@sc73))) (And.intro (And.intro (@sc74) (@sc75)) (And.intro (@sc76) (@sc77))))) := (And.intro (And.intro (And.intro (And.intro (@sc58) (@sc59)) (And.intro (@sc60) (@sc61))) (And.intro (And.intro (@sc62) (@sc63)) (And.intro (@sc64) (@sc67)))) (And.intro (And.intro (And.intro (@sc70) (@sc71)) (And.intro (@sc72) (@sc73))) (And.intro (And.intro (@sc74) (@sc75)) (And.intro (@sc76) (@sc77)))))
theorem vcu19 : type_of% (And.intro (And.intro (And.intro (And.intro (@sc80) (aload_agg' ag23)) (And.intro (aload_agg' ag24) (aload_agg' ag43))) (And.intro (And.intro (aload_agg' ag60) (aload_agg' ag61)) (And.intro (aload_agg' ag62) (aload_cell' ag1)))) (And.intro (And.intro (And.intro (aload_cell' ag2) (aload_cell' ag3)) (And.intro (aload_cell' ag4) (aload_cell' ag5))) (And.intro (And.intro (aload_cell' ag6) (aload_cell' ag9)) (And.intro (aload_cell' ag10) (aload_cell' ag11))))) := (And.intro (And.intro (And.intro (And.intro (@sc80) (aload_agg' ag23)) (And.intro (aload_agg' ag24) (aload_agg' ag43))) (And.intro (And.intro (aload_agg' ag60) (aload_agg' ag61)) (And.intro (aload_agg' ag62) (aload_cell' ag1)))) (And.intro (And.intro (And.intro (aload_cell' ag2) (aload_cell' ag3)) (And.intro (aload_cell' ag4) (aload_cell' ag5))) (And.intro (And.intro (aload_cell' ag6) (aload_cell' ag9)) (And.intro (aload_cell' ag10) (aload_cell' ag11)))))
theorem vcu20 : type_of% (And.intro (And.intro (And.intro (And.intro (aload_cell' ag12) (aload_cell' ag15)) (And.intro (aload_cell' ag16) (aload_cell' ag17))) (And.intro (And.intro (aload_cell' ag21) (aload_cell' ag22)) (And.intro (aload_cell' ag25) (aload_cell' ag26)))) (And.intro (And.intro (And.intro (aload_cell' ag27) (aload_cell' ag28)) (And.intro (aload_cell' ag30) (aload_cell' ag31))) (And.intro (And.intro (aload_cell' ag33) (aload_cell' ag35)) (And.intro (aload_cell' ag36) (aload_cell' ag37))))) := (And.intro (And.intro (And.intro (And.intro (aload_cell' ag12) (aload_cell' ag15)) (And.intro (aload_cell' ag16) (aload_cell' ag17))) (And.intro (And.intro (aload_cell' ag21) (aload_cell' ag22)) (And.intro (aload_cell' ag25) (aload_cell' ag26)))) (And.intro (And.intro (And.intro (aload_cell' ag27) (aload_cell' ag28)) (And.intro (aload_cell' ag30) (aload_cell' ag31))) (And.intro (And.intro (aload_cell' ag33) (aload_cell' ag35)) (And.intro (aload_cell' ag36) (aload_cell' ag37)))))
theorem vcu21 : type_of% (And.intro (And.intro (And.intro (And.intro (aload_cell' ag38) (aload_cell' ag39)) (And.intro (aload_cell' ag41) (aload_cell' ag42))) (And.intro (And.intro (aload_cell' ag44) (aload_cell' ag45)) (And.intro (aload_cell' ag46) (aload_cell' ag47)))) (And.intro (And.intro (And.intro (aload_cell' ag48) (aload_cell' ag49)) (And.intro (aload_cell' ag50) (aload_cell' ag51))) (And.intro (And.intro (aload_cell' ag52) (aload_cell' ag53)) (And.intro (aload_cell' ag54) (aload_cell' ag55))))) := (And.intro (And.intro (And.intro (And.intro (aload_cell' ag38) (aload_cell' ag39)) (And.intro (aload_cell' ag41) (aload_cell' ag42))) (And.intro (And.intro (aload_cell' ag44) (aload_cell' ag45)) (And.intro (aload_cell' ag46) (aload_cell' ag47)))) (And.intro (And.intro (And.intro (aload_cell' ag48) (aload_cell' ag49)) (And.intro (aload_cell' ag50) (aload_cell' ag51))) (And.intro (And.intro (aload_cell' ag52) (aload_cell' ag53)) (And.intro (aload_cell' ag54) (aload_cell' ag55)))))
theorem vcu22 : type_of% (And.intro (And.intro (And.intro (aload_cell' ag56) (And.intro (aload_cell' ag57) (aload_cell' ag58))) (And.intro (And.intro (aload_cell' ag59) (aload_cell' ag63)) (And.intro (aload_cell' ag64) (aload_cell' ag70)))) (And.intro (And.intro (aload_cell' ag71) (And.intro (aload_cell' ag72) (aload_cell' ag73))) (And.intro (And.intro (aload_cell' ag74) (aload_cell' ag75)) (And.intro (aload_cell' ag76) (aload_cell' ag77))))) := (And.intro (And.intro (And.intro (aload_cell' ag56) (And.intro (aload_cell' ag57) (aload_cell' ag58))) (And.intro (And.intro (aload_cell' ag59) (aload_cell' ag63)) (And.intro (aload_cell' ag64) (aload_cell' ag70)))) (And.intro (And.intro (aload_cell' ag71) (And.intro (aload_cell' ag72) (aload_cell' ag73))) (And.intro (And.intro (aload_cell' ag74) (aload_cell' ag75)) (And.intro (aload_cell' ag76) (aload_cell' ag77)))))
theorem vcd0 : type_of% (And.intro (And.intro (And.intro (And.intro (@cs_cons) (@cs_nil)) (And.intro (@retC_normal) (@retC_ret))) (And.intro (And.intro (@vc_seq) (@vc_block)) (And.intro (@vc_region) (@vc_regionD)))) (And.intro (And.intro (And.intro (@vcD_false) (@vcD_true)) (And.intro (@vc_loop_eq) (@vc_cond))) (And.intro (And.intro (@vc_skip) (@vc_exit)) (And.intro (@vc_ret) (@seqC_normal))))) := (And.intro (And.intro (And.intro (And.intro (@cs_cons) (@cs_nil)) (And.intro (@retC_normal) (@retC_ret))) (And.intro (And.intro (@vc_seq) (@vc_block)) (And.intro (@vc_region) (@vc_regionD)))) (And.intro (And.intro (And.intro (@vcD_false) (@vcD_true)) (And.intro (@vc_loop_eq) (@vc_cond))) (And.intro (And.intro (@vc_skip) (@vc_exit)) (And.intro (@vc_ret) (@seqC_normal)))))
theorem vcd1 : type_of% (And.intro (And.intro (And.intro (And.intro (@seqC_exit) (@seqC_ret)) (And.intro (@blockK_normal) (@blockK_exit))) (And.intro (And.intro (@blockK_ret) (@retK_normal)) (And.intro (@retK_ret) (@seqK_normal)))) (And.intro (And.intro (And.intro (@seqK_exit) (@seqK_ret)) (And.intro (@r_nil) (@r_assign))) (And.intro (And.intro (@r_move) (@r_len)) (And.intro (@r_binOpT) (@r_binOpI))))) := (And.intro (And.intro (And.intro (And.intro (@seqC_exit) (@seqC_ret)) (And.intro (@blockK_normal) (@blockK_exit))) (And.intro (And.intro (@blockK_ret) (@retK_normal)) (And.intro (@retK_ret) (@seqK_normal)))) (And.intro (And.intro (And.intro (@seqK_exit) (@seqK_ret)) (And.intro (@r_nil) (@r_assign))) (And.intro (And.intro (@r_move) (@r_len)) (And.intro (@r_binOpT) (@r_binOpI)))))
theorem vcd2 : type_of% (And.intro (And.intro (And.intro (And.intro (@r_binOpB) (@r_binOpS)) (And.intro (@r_unOp) (@r_convert))) (And.intro (And.intro (@r_indexAddr) (@r_load)) (And.intro (@r_pick) (@r_slice)))) (And.intro (And.intro (And.intro (@r_nilCheck) (@r_fieldAddr)) (And.intro (@r_field) (@r_extract))) (And.intro (And.intro (@r_min) (@r_max)) (And.intro (@r_call) (@r_makeFunc))))) := (And.intro (And.intro (And.intro (And.intro (@r_binOpB) (@r_binOpS)) (And.intro (@r_unOp) (@r_convert))) (And.intro (And.intro (@r_indexAddr) (@r_load)) (And.intro (@r_pick) (@r_slice)))) (And.intro (And.intro (And.intro (@r_nilCheck) (@r_fieldAddr)) (And.intro (@r_field) (@r_extract))) (And.intro (And.intro (@r_min) (@r_max)) (And.intro (@r_call) (@r_makeFunc)))))
theorem vcd3 : type_of% (And.intro (And.intro (@r_guard) (r_index' Try.underlying9)) (And.intro (r_index' Try.underlying10) (r_index' Try.underlying11))) := (And.intro (And.intro (@r_guard) (r_index' Try.underlying9)) (And.intro (r_index' Try.underlying10) (r_index' Try.underlying11)))
theorem vcu : type_of% (And.intro (And.intro (And.intro (And.intro @vcu0 @vcu1) (And.intro @vcu2 (And.intro @vcu3 @vcu4))) (And.intro (And.intro @vcu5 (And.intro @vcu6 @vcu7)) (And.intro @vcu8 (And.intro @vcu9 @vcu10)))) (And.intro (And.intro (And.intro @vcu11 (And.intro @vcu12 @vcu13)) (And.intro @vcu14 (And.intro @vcu15 @vcu16))) (And.intro (And.intro @vcu17 (And.intro @vcu18 @vcu19)) (And.intro @vcu20 (And.intro @vcu21 @vcu22))))) := (And.intro (And.intro (And.intro (And.intro @vcu0 @vcu1) (And.intro @vcu2 (And.intro @vcu3 @vcu4))) (And.intro (And.intro @vcu5 (And.intro @vcu6 @vcu7)) (And.intro @vcu8 (And.intro @vcu9 @vcu10)))) (And.intro (And.intro (And.intro @vcu11 (And.intro @vcu12 @vcu13)) (And.intro @vcu14 (And.intro @vcu15 @vcu16))) (And.intro (And.intro @vcu17 (And.intro @vcu18 @vcu19)) (And.intro @vcu20 (And.intro @vcu21 @vcu22)))))
theorem vcd : type_of% (And.intro (And.intro @vcd0 @vcd1) (And.intro @vcd2 @vcd3)) := (And.intro (And.intro @vcd0 @vcd1) (And.intro @vcd2 @vcd3))

end Go.Proofs.Ytkepicmefpcgaaa
