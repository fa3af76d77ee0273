/- Closed facts on the program of this seat: sizes, kinds, the static look at each body. -/
import Derived.Test.YtnenopebfobajaaAbu
import Derived.Test.YtnenopebfobajaaRows
import Derived.KernelRfl
set_option linter.unusedSimpArgs false
set_option linter.unusedVariables false
namespace Go.Proofs.Ytnenopebfobajaa
open Go Go.Abs

theorem mixed : Try.prog.follows .mixedOrders = true := by kernel_rfl
theorem own : ownKnob Try.prog.godebug = none := by kernel_rfl
theorem laidOut : laidOutB Try.prog = true := by kernel_rfl

theorem pt0 : isPtr Try.prog 0 = false := by kernel_rfl
theorem sc0 : isSlc Try.prog 0 = false := by kernel_rfl
theorem co1 : Try.prog.cellsOf 1 = 1 := by kernel_rfl
theorem ag1 : aisAgg Try.prog 1 = false := by kernel_rfl
theorem pt1 : isPtr Try.prog 1 = false := by kernel_rfl
theorem sc1 : isSlc Try.prog 1 = false := by kernel_rfl
theorem ze1 : azero Try.prog 1 = some Value.nilFunc := by kernel_rfl
theorem co2 : Try.prog.cellsOf 2 = 1 := by kernel_rfl
theorem ag2 : aisAgg Try.prog 2 = false := by kernel_rfl
theorem pt2 : isPtr Try.prog 2 = false := by kernel_rfl
theorem sc2 : isSlc Try.prog 2 = false := by kernel_rfl
theorem ze2 : azero Try.prog 2 = some (Value.int IntKind.i64 0) := by kernel_rfl
theorem co3 : Try.prog.cellsOf 3 = 1 := by kernel_rfl
theorem ag3 : aisAgg Try.prog 3 = false := by kernel_rfl
theorem pt3 : isPtr Try.prog 3 = false := by kernel_rfl
theorem sc3 : isSlc Try.prog 3 = false := by kernel_rfl
theorem ze3 : azero Try.prog 3 = some (Value.int IntKind.i64 0) := by kernel_rfl
theorem co4 : Try.prog.cellsOf 4 = 1 := by kernel_rfl
theorem ag4 : aisAgg Try.prog 4 = false := by kernel_rfl
theorem pt4 : isPtr Try.prog 4 = false := by kernel_rfl
theorem sc4 : isSlc Try.prog 4 = false := by kernel_rfl
theorem bo4 : isBool Try.prog 4 = true := by kernel_rfl
theorem ze4 : azero Try.prog 4 = some (Value.bool false) := by kernel_rfl
theorem co5 : Try.prog.cellsOf 5 = 1 := by kernel_rfl
theorem ag5 : aisAgg Try.prog 5 = false := by kernel_rfl
theorem pt5 : isPtr Try.prog 5 = false := by kernel_rfl
theorem sc5 : isSlc Try.prog 5 = false := by kernel_rfl
theorem ze5 : azero Try.prog 5 = some (Value.int IntKind.u8 0) := by kernel_rfl
theorem co6 : Try.prog.cellsOf 6 = 1 := by kernel_rfl
theorem ag6 : aisAgg Try.prog 6 = false := by kernel_rfl
theorem pt6 : isPtr Try.prog 6 = false := by kernel_rfl
theorem sc6 : isSlc Try.prog 6 = false := by kernel_rfl
theorem ze6 : azero Try.prog 6 = some (Value.int IntKind.u8 0) := by kernel_rfl
theorem co9 : Try.prog.cellsOf 9 = 1 := by kernel_rfl
theorem ag9 : aisAgg Try.prog 9 = false := by kernel_rfl
theorem pt9 : isPtr Try.prog 9 = false := by kernel_rfl
theorem sc9 : isSlc Try.prog 9 = false := by kernel_rfl
theorem ze9 : azero Try.prog 9 = some (Value.string { data := #[] }) := by kernel_rfl
theorem co10 : Try.prog.cellsOf 10 = 1 := by kernel_rfl
theorem ag10 : aisAgg Try.prog 10 = false := by kernel_rfl
theorem pt10 : isPtr Try.prog 10 = false := by kernel_rfl
theorem sc10 : isSlc Try.prog 10 = false := by kernel_rfl
theorem ze10 : azero Try.prog 10 = some (Value.string { data := #[] }) := by kernel_rfl
theorem co11 : Try.prog.cellsOf 11 = 1 := by kernel_rfl
theorem ag11 : aisAgg Try.prog 11 = false := by kernel_rfl
theorem pt11 : isPtr Try.prog 11 = false := by kernel_rfl
theorem sc11 : isSlc Try.prog 11 = false := by kernel_rfl
theorem ze11 : azero Try.prog 11 = some (Value.string { data := #[] }) := by kernel_rfl
theorem co12 : Try.prog.cellsOf 12 = 1 := by kernel_rfl
theorem ag12 : aisAgg Try.prog 12 = false := by kernel_rfl
theorem pt12 : isPtr Try.prog 12 = false := by kernel_rfl
theorem sc12 : isSlc Try.prog 12 = false := by kernel_rfl
theorem ze12 : azero Try.prog 12 = some (Value.int IntKind.u64 0) := by kernel_rfl
theorem co15 : Try.prog.cellsOf 15 = 1 := by kernel_rfl
theorem ag15 : aisAgg Try.prog 15 = false := by kernel_rfl
theorem pt15 : isPtr Try.prog 15 = true := by kernel_rfl
theorem sc15 : isSlc Try.prog 15 = false := by kernel_rfl
theorem ze15 : azero Try.prog 15 = some (Value.pointer none) := by kernel_rfl
theorem co16 : Try.prog.cellsOf 16 = 1 := by kernel_rfl
theorem ag16 : aisAgg Try.prog 16 = false := by kernel_rfl
theorem pt16 : isPtr Try.prog 16 = true := by kernel_rfl
theorem sc16 : isSlc Try.prog 16 = false := by kernel_rfl
theorem ze16 : azero Try.prog 16 = some (Value.pointer none) := by kernel_rfl
theorem co17 : Try.prog.cellsOf 17 = 1 := by kernel_rfl
theorem ag17 : aisAgg Try.prog 17 = false := by kernel_rfl
theorem pt17 : isPtr Try.prog 17 = true := by kernel_rfl
theorem sc17 : isSlc Try.prog 17 = false := by kernel_rfl
theorem ze17 : azero Try.prog 17 = some (Value.pointer none) := by kernel_rfl
theorem pt20 : isPtr Try.prog 20 = false := by kernel_rfl
theorem sc20 : isSlc Try.prog 20 = false := by kernel_rfl
theorem co21 : Try.prog.cellsOf 21 = 1 := by kernel_rfl
theorem ag21 : aisAgg Try.prog 21 = false := by kernel_rfl
theorem pt21 : isPtr Try.prog 21 = false := by kernel_rfl
theorem sc21 : isSlc Try.prog 21 = false := by kernel_rfl
theorem ze21 : azero Try.prog 21 = some (Value.int IntKind.i32 0) := by kernel_rfl
theorem co22 : Try.prog.cellsOf 22 = 1 := by kernel_rfl
theorem ag22 : aisAgg Try.prog 22 = false := by kernel_rfl
theorem pt22 : isPtr Try.prog 22 = false := by kernel_rfl
theorem sc22 : isSlc Try.prog 22 = true := by kernel_rfl
theorem esz22 : aesz Try.prog 22 = 1 := by kernel_rfl
theorem el22 : Elems Try.prog 22 1 (Value.int IntKind.u8 0) 1 := ⟨⟨5, Try.t5, Try.underlying22, by kernel_rfl, rfl, rfl, rfl⟩, ⟨5, Try.underlying22, by kernel_rfl, by kernel_rfl⟩⟩
theorem sl22 : ∃ e, Try.prog.underlying 22 = some (.slice e) := ⟨5, Try.underlying22⟩
theorem ze22 : azero Try.prog 22 = some (Value.slice none 0 0) := by kernel_rfl
theorem co23 : Try.prog.cellsOf 23 = 1 := by kernel_rfl
theorem ag23 : aisAgg Try.prog 23 = false := by kernel_rfl
theorem pt23 : isPtr Try.prog 23 = false := by kernel_rfl
theorem sc23 : isSlc Try.prog 23 = false := by kernel_rfl
theorem ze23 : azero Try.prog 23 = some Value.nilFunc := by kernel_rfl
theorem co24 : Try.prog.cellsOf 24 = 1 := by kernel_rfl
theorem ag24 : aisAgg Try.prog 24 = false := by kernel_rfl
theorem pt24 : isPtr Try.prog 24 = false := by kernel_rfl
theorem sc24 : isSlc Try.prog 24 = false := by kernel_rfl
theorem ze24 : azero Try.prog 24 = some Value.nilFunc := by kernel_rfl
theorem co25 : Try.prog.cellsOf 25 = 1 := by kernel_rfl
theorem ag25 : aisAgg Try.prog 25 = false := by kernel_rfl
theorem pt25 : isPtr Try.prog 25 = false := by kernel_rfl
theorem sc25 : isSlc Try.prog 25 = false := by kernel_rfl
theorem ze25 : azero Try.prog 25 = some Value.nilFunc := by kernel_rfl
theorem co26 : Try.prog.cellsOf 26 = 1 := by kernel_rfl
theorem ag26 : aisAgg Try.prog 26 = false := by kernel_rfl
theorem pt26 : isPtr Try.prog 26 = false := by kernel_rfl
theorem sc26 : isSlc Try.prog 26 = false := by kernel_rfl
theorem ze26 : azero Try.prog 26 = some Value.nilFunc := by kernel_rfl
theorem co27 : Try.prog.cellsOf 27 = 1 := by kernel_rfl
theorem ag27 : aisAgg Try.prog 27 = false := by kernel_rfl
theorem pt27 : isPtr Try.prog 27 = false := by kernel_rfl
theorem sc27 : isSlc Try.prog 27 = true := by kernel_rfl
theorem esz27 : aesz Try.prog 27 = 1 := by kernel_rfl
theorem el27 : Elems Try.prog 27 1 (Value.string { data := #[] }) 16 := ⟨⟨9, Try.t9, Try.underlying27, by kernel_rfl, rfl, rfl, rfl⟩, ⟨9, Try.underlying27, by kernel_rfl, by kernel_rfl⟩⟩
theorem sl27 : ∃ e, Try.prog.underlying 27 = some (.slice e) := ⟨9, Try.underlying27⟩
theorem ze27 : azero Try.prog 27 = some (Value.slice none 0 0) := by kernel_rfl
theorem co28 : Try.prog.cellsOf 28 = 1 := by kernel_rfl
theorem ag28 : aisAgg Try.prog 28 = false := by kernel_rfl
theorem pt28 : isPtr Try.prog 28 = false := by kernel_rfl
theorem sc28 : isSlc Try.prog 28 = false := by kernel_rfl
theorem ze28 : azero Try.prog 28 = some Value.nilFunc := by kernel_rfl
theorem co29 : Try.prog.cellsOf 29 = 1 := by kernel_rfl
theorem ag29 : aisAgg Try.prog 29 = false := by kernel_rfl
theorem pt29 : isPtr Try.prog 29 = false := by kernel_rfl
theorem sc29 : isSlc Try.prog 29 = false := by kernel_rfl
theorem ze29 : azero Try.prog 29 = some Value.nilFunc := by kernel_rfl
theorem co30 : Try.prog.cellsOf 30 = 1 := by kernel_rfl
theorem ag30 : aisAgg Try.prog 30 = false := by kernel_rfl
theorem pt30 : isPtr Try.prog 30 = false := by kernel_rfl
theorem sc30 : isSlc Try.prog 30 = false := by kernel_rfl
theorem ze30 : azero Try.prog 30 = some Value.nilFunc := by kernel_rfl
theorem co31 : Try.prog.cellsOf 31 = 1 := by kernel_rfl
theorem ag31 : aisAgg Try.prog 31 = false := by kernel_rfl
theorem pt31 : isPtr Try.prog 31 = false := by kernel_rfl
theorem sc31 : isSlc Try.prog 31 = true := by kernel_rfl
theorem esz31 : aesz Try.prog 31 = 1 := by kernel_rfl
theorem el31 : Elems Try.prog 31 1 (Value.int IntKind.i64 0) 8 := ⟨⟨3, Try.t3, Try.underlying31, by kernel_rfl, rfl, rfl, rfl⟩, ⟨3, Try.underlying31, by kernel_rfl, by kernel_rfl⟩⟩
theorem sl31 : ∃ e, Try.prog.underlying 31 = some (.slice e) := ⟨3, Try.underlying31⟩
theorem ze31 : azero Try.prog 31 = some (Value.slice none 0 0) := by kernel_rfl
theorem co32 : Try.prog.cellsOf 32 = 1 := by kernel_rfl
theorem ag32 : aisAgg Try.prog 32 = false := by kernel_rfl
theorem pt32 : isPtr Try.prog 32 = false := by kernel_rfl
theorem sc32 : isSlc Try.prog 32 = false := by kernel_rfl
theorem ze32 : azero Try.prog 32 = some Value.nilFunc := by kernel_rfl
theorem co33 : Try.prog.cellsOf 33 = 1 := by kernel_rfl
theorem ag33 : aisAgg Try.prog 33 = false := by kernel_rfl
theorem pt33 : isPtr Try.prog 33 = false := by kernel_rfl
theorem sc33 : isSlc Try.prog 33 = false := by kernel_rfl
theorem ze33 : azero Try.prog 33 = some Value.nilFunc := by kernel_rfl
theorem co34 : Try.prog.cellsOf 34 = 1 := by kernel_rfl
theorem ag34 : aisAgg Try.prog 34 = false := by kernel_rfl
theorem pt34 : isPtr Try.prog 34 = false := by kernel_rfl
theorem sc34 : isSlc Try.prog 34 = false := by kernel_rfl
theorem ze34 : azero Try.prog 34 = some Value.nilFunc := by kernel_rfl
theorem pt35 : isPtr Try.prog 35 = false := by kernel_rfl
theorem sc35 : isSlc Try.prog 35 = true := by kernel_rfl
theorem co36 : Try.prog.cellsOf 36 = 1 := by kernel_rfl
theorem ag36 : aisAgg Try.prog 36 = false := by kernel_rfl
theorem pt36 : isPtr Try.prog 36 = false := by kernel_rfl
theorem sc36 : isSlc Try.prog 36 = false := by kernel_rfl
theorem ze36 : azero Try.prog 36 = some Value.nilFunc := by kernel_rfl
theorem co37 : Try.prog.cellsOf 37 = 1 := by kernel_rfl
theorem ag37 : aisAgg Try.prog 37 = false := by kernel_rfl
theorem pt37 : isPtr Try.prog 37 = false := by kernel_rfl
theorem sc37 : isSlc Try.prog 37 = false := by kernel_rfl
theorem ze37 : azero Try.prog 37 = some Value.nilFunc := by kernel_rfl
theorem co38 : Try.prog.cellsOf 38 = 1 := by kernel_rfl
theorem ag38 : aisAgg Try.prog 38 = false := by kernel_rfl
theorem pt38 : isPtr Try.prog 38 = false := by kernel_rfl
theorem sc38 : isSlc Try.prog 38 = false := by kernel_rfl
theorem ze38 : azero Try.prog 38 = some Value.nilFunc := by kernel_rfl
theorem pt39 : isPtr Try.prog 39 = false := by kernel_rfl
theorem sc39 : isSlc Try.prog 39 = true := by kernel_rfl
theorem co40 : Try.prog.cellsOf 40 = 1 := by kernel_rfl
theorem ag40 : aisAgg Try.prog 40 = false := by kernel_rfl
theorem pt40 : isPtr Try.prog 40 = false := by kernel_rfl
theorem sc40 : isSlc Try.prog 40 = false := by kernel_rfl
theorem ze40 : azero Try.prog 40 = some Value.nilFunc := by kernel_rfl
theorem pt41 : isPtr Try.prog 41 = false := by kernel_rfl
theorem sc41 : isSlc Try.prog 41 = false := by kernel_rfl
theorem co42 : Try.prog.cellsOf 42 = 1 := by kernel_rfl
theorem ag42 : aisAgg Try.prog 42 = false := by kernel_rfl
theorem pt42 : isPtr Try.prog 42 = false := by kernel_rfl
theorem sc42 : isSlc Try.prog 42 = false := by kernel_rfl
theorem ze42 : azero Try.prog 42 = some Value.nilFunc := by kernel_rfl
theorem pt43 : isPtr Try.prog 43 = false := by kernel_rfl
theorem sc43 : isSlc Try.prog 43 = true := by kernel_rfl
theorem co44 : Try.prog.cellsOf 44 = 1 := by kernel_rfl
theorem ag44 : aisAgg Try.prog 44 = false := by kernel_rfl
theorem pt44 : isPtr Try.prog 44 = false := by kernel_rfl
theorem sc44 : isSlc Try.prog 44 = false := by kernel_rfl
theorem ze44 : azero Try.prog 44 = some Value.nilFunc := by kernel_rfl
theorem pt45 : isPtr Try.prog 45 = false := by kernel_rfl
theorem sc45 : isSlc Try.prog 45 = true := by kernel_rfl
theorem co46 : Try.prog.cellsOf 46 = 1 := by kernel_rfl
theorem ag46 : aisAgg Try.prog 46 = false := by kernel_rfl
theorem pt46 : isPtr Try.prog 46 = false := by kernel_rfl
theorem sc46 : isSlc Try.prog 46 = false := by kernel_rfl
theorem ze46 : azero Try.prog 46 = some Value.nilFunc := by kernel_rfl
theorem co47 : Try.prog.cellsOf 47 = 1 := by kernel_rfl
theorem ag47 : aisAgg Try.prog 47 = false := by kernel_rfl
theorem pt47 : isPtr Try.prog 47 = false := by kernel_rfl
theorem sc47 : isSlc Try.prog 47 = false := by kernel_rfl
theorem ze47 : azero Try.prog 47 = some Value.nilFunc := by kernel_rfl
theorem co48 : Try.prog.cellsOf 48 = 1 := by kernel_rfl
theorem ag48 : aisAgg Try.prog 48 = false := by kernel_rfl
theorem pt48 : isPtr Try.prog 48 = false := by kernel_rfl
theorem sc48 : isSlc Try.prog 48 = true := by kernel_rfl
theorem esz48 : aesz Try.prog 48 = 2 := by kernel_rfl
theorem el48 : Elems Try.prog 48 2 (Value.agg #[Value.string { data := #[] }, Value.int IntKind.i64 0]) 24 := ⟨⟨52, Try.t52, Try.underlying48, by kernel_rfl, rfl, rfl, rfl⟩, ⟨52, Try.underlying48, by kernel_rfl, by kernel_rfl⟩⟩
theorem sl48 : ∃ e, Try.prog.underlying 48 = some (.slice e) := ⟨52, Try.underlying48⟩
theorem ze48 : azero Try.prog 48 = some (Value.slice none 0 0) := by kernel_rfl
theorem co49 : Try.prog.cellsOf 49 = 1 := by kernel_rfl
theorem ag49 : aisAgg Try.prog 49 = false := by kernel_rfl
theorem pt49 : isPtr Try.prog 49 = false := by kernel_rfl
theorem sc49 : isSlc Try.prog 49 = false := by kernel_rfl
theorem ze49 : azero Try.prog 49 = some Value.nilFunc := by kernel_rfl
theorem co50 : Try.prog.cellsOf 50 = 1 := by kernel_rfl
theorem ag50 : aisAgg Try.prog 50 = false := by kernel_rfl
theorem pt50 : isPtr Try.prog 50 = false := by kernel_rfl
theorem sc50 : isSlc Try.prog 50 = false := by kernel_rfl
theorem ze50 : azero Try.prog 50 = some Value.nilFunc := by kernel_rfl
theorem co51 : Try.prog.cellsOf 51 = 2 := by kernel_rfl
theorem ag51 : aisAgg Try.prog 51 = true := by kernel_rfl
theorem pt51 : isPtr Try.prog 51 = false := by kernel_rfl
theorem sc51 : isSlc Try.prog 51 = false := by kernel_rfl
theorem ze51 : azero Try.prog 51 = some (Value.agg #[Value.string { data := #[] }, Value.int IntKind.i64 0]) := by kernel_rfl
theorem fv51_0 {x0 x1 : Value} : afieldV Try.prog 51 0 (.agg #[x0, x1]) = some x0 := by simp [afieldV, Try.underlying51, apart, Try.underlying9, ag9, co9, aisAgg]
theorem fl51_0 {h b : Nat} : afield Try.prog 51 0 (.pointer (some ⟨h, b, none⟩)) = some (.pointer (some ⟨h, b + 0, none⟩)) := by simp [afield, Try.underlying51]
theorem fv51_1 {x0 x1 : Value} : afieldV Try.prog 51 1 (.agg #[x0, x1]) = some x1 := by simp [afieldV, Try.underlying51, apart, Try.underlying3, ag3, co3, aisAgg]
theorem fl51_1 {h b : Nat} : afield Try.prog 51 1 (.pointer (some ⟨h, b, none⟩)) = some (.pointer (some ⟨h, b + 1, none⟩)) := by simp [afield, Try.underlying51]
theorem co52 : Try.prog.cellsOf 52 = 2 := by kernel_rfl
theorem ag52 : aisAgg Try.prog 52 = true := by kernel_rfl
theorem pt52 : isPtr Try.prog 52 = false := by kernel_rfl
theorem sc52 : isSlc Try.prog 52 = false := by kernel_rfl
theorem ze52 : azero Try.prog 52 = some (Value.agg #[Value.string { data := #[] }, Value.int IntKind.i64 0]) := by kernel_rfl
theorem fv52_0 {x0 x1 : Value} : afieldV Try.prog 52 0 (.agg #[x0, x1]) = some x0 := by simp [afieldV, Try.underlying52, apart, Try.underlying9, ag9, co9, aisAgg]
theorem fl52_0 {h b : Nat} : afield Try.prog 52 0 (.pointer (some ⟨h, b, none⟩)) = some (.pointer (some ⟨h, b + 0, none⟩)) := by simp [afield, Try.underlying52]
theorem fv52_1 {x0 x1 : Value} : afieldV Try.prog 52 1 (.agg #[x0, x1]) = some x1 := by simp [afieldV, Try.underlying52, apart, Try.underlying3, ag3, co3, aisAgg]
theorem fl52_1 {h b : Nat} : afield Try.prog 52 1 (.pointer (some ⟨h, b, none⟩)) = some (.pointer (some ⟨h, b + 1, none⟩)) := by simp [afield, Try.underlying52]
theorem pt53 : isPtr Try.prog 53 = false := by kernel_rfl
theorem sc53 : isSlc Try.prog 53 = true := by kernel_rfl
theorem co54 : Try.prog.cellsOf 54 = 1 := by kernel_rfl
theorem ag54 : aisAgg Try.prog 54 = false := by kernel_rfl
theorem pt54 : isPtr Try.prog 54 = false := by kernel_rfl
theorem sc54 : isSlc Try.prog 54 = false := by kernel_rfl
theorem ze54 : azero Try.prog 54 = some Value.nilFunc := by kernel_rfl
theorem co55 : Try.prog.cellsOf 55 = 1 := by kernel_rfl
theorem ag55 : aisAgg Try.prog 55 = false := by kernel_rfl
theorem pt55 : isPtr Try.prog 55 = false := by kernel_rfl
theorem sc55 : isSlc Try.prog 55 = false := by kernel_rfl
theorem ze55 : azero Try.prog 55 = some Value.nilFunc := by kernel_rfl
theorem co56 : Try.prog.cellsOf 56 = 1 := by kernel_rfl
theorem ag56 : aisAgg Try.prog 56 = false := by kernel_rfl
theorem pt56 : isPtr Try.prog 56 = false := by kernel_rfl
theorem sc56 : isSlc Try.prog 56 = false := by kernel_rfl
theorem ze56 : azero Try.prog 56 = some Value.nilFunc := by kernel_rfl
theorem co57 : Try.prog.cellsOf 57 = 1 := by kernel_rfl
theorem ag57 : aisAgg Try.prog 57 = false := by kernel_rfl
theorem pt57 : isPtr Try.prog 57 = false := by kernel_rfl
theorem sc57 : isSlc Try.prog 57 = false := by kernel_rfl
theorem ze57 : azero Try.prog 57 = some Value.nilFunc := by kernel_rfl
theorem co58 : Try.prog.cellsOf 58 = 1 := by kernel_rfl
theorem ag58 : aisAgg Try.prog 58 = false := by kernel_rfl
theorem pt58 : isPtr Try.prog 58 = false := by kernel_rfl
theorem sc58 : isSlc Try.prog 58 = false := by kernel_rfl
theorem ze58 : azero Try.prog 58 = some Value.nilFunc := by kernel_rfl
theorem co59 : Try.prog.cellsOf 59 = 1 := by kernel_rfl
theorem ag59 : aisAgg Try.prog 59 = false := by kernel_rfl
theorem pt59 : isPtr Try.prog 59 = true := by kernel_rfl
theorem sc59 : isSlc Try.prog 59 = false := by kernel_rfl
theorem ze59 : azero Try.prog 59 = some (Value.pointer none) := by kernel_rfl
theorem co60 : Try.prog.cellsOf 60 = 1 := by kernel_rfl
theorem ag60 : aisAgg Try.prog 60 = false := by kernel_rfl
theorem pt60 : isPtr Try.prog 60 = false := by kernel_rfl
theorem sc60 : isSlc Try.prog 60 = false := by kernel_rfl
theorem ze60 : azero Try.prog 60 = some Value.nilFunc := by kernel_rfl
theorem co61 : Try.prog.cellsOf 61 = 1 := by kernel_rfl
theorem ag61 : aisAgg Try.prog 61 = false := by kernel_rfl
theorem pt61 : isPtr Try.prog 61 = false := by kernel_rfl
theorem sc61 : isSlc Try.prog 61 = false := by kernel_rfl
theorem ze61 : azero Try.prog 61 = some Value.nilFunc := by kernel_rfl
theorem co62 : Try.prog.cellsOf 62 = 1 := by kernel_rfl
theorem ag62 : aisAgg Try.prog 62 = false := by kernel_rfl
theorem pt62 : isPtr Try.prog 62 = false := by kernel_rfl
theorem sc62 : isSlc Try.prog 62 = false := by kernel_rfl
theorem ze62 : azero Try.prog 62 = some Value.nilFunc := by kernel_rfl
theorem co63 : Try.prog.cellsOf 63 = 1 := by kernel_rfl
theorem ag63 : aisAgg Try.prog 63 = false := by kernel_rfl
theorem pt63 : isPtr Try.prog 63 = false := by kernel_rfl
theorem sc63 : isSlc Try.prog 63 = false := by kernel_rfl
theorem ze63 : azero Try.prog 63 = some Value.nilFunc := by kernel_rfl
theorem co64 : Try.prog.cellsOf 64 = 1 := by kernel_rfl
theorem ag64 : aisAgg Try.prog 64 = false := by kernel_rfl
theorem pt64 : isPtr Try.prog 64 = false := by kernel_rfl
theorem sc64 : isSlc Try.prog 64 = false := by kernel_rfl
theorem ze64 : azero Try.prog 64 = some Value.nilFunc := by kernel_rfl
theorem co65 : Try.prog.cellsOf 65 = 1 := by kernel_rfl
theorem ag65 : aisAgg Try.prog 65 = false := by kernel_rfl
theorem pt65 : isPtr Try.prog 65 = false := by kernel_rfl
theorem sc65 : isSlc Try.prog 65 = false := by kernel_rfl
theorem ze65 : azero Try.prog 65 = some Value.nilFunc := by kernel_rfl
theorem co66 : Try.prog.cellsOf 66 = 1 := by kernel_rfl
theorem ag66 : aisAgg Try.prog 66 = false := by kernel_rfl
theorem pt66 : isPtr Try.prog 66 = false := by kernel_rfl
theorem sc66 : isSlc Try.prog 66 = false := by kernel_rfl
theorem ze66 : azero Try.prog 66 = some Value.nilFunc := by kernel_rfl
theorem co67 : Try.prog.cellsOf 67 = 1 := by kernel_rfl
theorem ag67 : aisAgg Try.prog 67 = false := by kernel_rfl
theorem pt67 : isPtr Try.prog 67 = false := by kernel_rfl
theorem sc67 : isSlc Try.prog 67 = false := by kernel_rfl
theorem ze67 : azero Try.prog 67 = some Value.nilFunc := by kernel_rfl
theorem co68 : Try.prog.cellsOf 68 = 1 := by kernel_rfl
theorem ag68 : aisAgg Try.prog 68 = false := by kernel_rfl
theorem pt68 : isPtr Try.prog 68 = false := by kernel_rfl
theorem sc68 : isSlc Try.prog 68 = false := by kernel_rfl
theorem ze68 : azero Try.prog 68 = some Value.nilFunc := by kernel_rfl
theorem co69 : Try.prog.cellsOf 69 = 1 := by kernel_rfl
theorem ag69 : aisAgg Try.prog 69 = false := by kernel_rfl
theorem pt69 : isPtr Try.prog 69 = false := by kernel_rfl
theorem sc69 : isSlc Try.prog 69 = false := by kernel_rfl
theorem ze69 : azero Try.prog 69 = some Value.nilFunc := by kernel_rfl
theorem co70 : Try.prog.cellsOf 70 = 1 := by kernel_rfl
theorem ag70 : aisAgg Try.prog 70 = false := by kernel_rfl
theorem pt70 : isPtr Try.prog 70 = false := by kernel_rfl
theorem sc70 : isSlc Try.prog 70 = false := by kernel_rfl
theorem ze70 : azero Try.prog 70 = some Value.nilFunc := by kernel_rfl
theorem co71 : Try.prog.cellsOf 71 = 1 := by kernel_rfl
theorem ag71 : aisAgg Try.prog 71 = false := by kernel_rfl
theorem pt71 : isPtr Try.prog 71 = false := by kernel_rfl
theorem sc71 : isSlc Try.prog 71 = false := by kernel_rfl
theorem ze71 : azero Try.prog 71 = some Value.nilFunc := by kernel_rfl
theorem co72 : Try.prog.cellsOf 72 = 1 := by kernel_rfl
theorem ag72 : aisAgg Try.prog 72 = false := by kernel_rfl
theorem pt72 : isPtr Try.prog 72 = false := by kernel_rfl
theorem sc72 : isSlc Try.prog 72 = false := by kernel_rfl
theorem ze72 : azero Try.prog 72 = some Value.nilFunc := by kernel_rfl
theorem co73 : Try.prog.cellsOf 73 = 1 := by kernel_rfl
theorem ag73 : aisAgg Try.prog 73 = false := by kernel_rfl
theorem pt73 : isPtr Try.prog 73 = false := by kernel_rfl
theorem sc73 : isSlc Try.prog 73 = false := by kernel_rfl
theorem ze73 : azero Try.prog 73 = some Value.nilFunc := by kernel_rfl
theorem co74 : Try.prog.cellsOf 74 = 2 := by kernel_rfl
theorem ag74 : aisAgg Try.prog 74 = true := by kernel_rfl
theorem pt74 : isPtr Try.prog 74 = false := by kernel_rfl
theorem sc74 : isSlc Try.prog 74 = false := by kernel_rfl
theorem ze74 : azero Try.prog 74 = some (Value.agg #[Value.slice none 0 0, Value.int IntKind.i64 0]) := by kernel_rfl
theorem fv74_0 {x0 x1 : Value} : afieldV Try.prog 74 0 (.agg #[x0, x1]) = some x0 := by simp [afieldV, Try.underlying74, apart, Try.underlying22, ag22, co22, aisAgg]
theorem fl74_0 {h b : Nat} : afield Try.prog 74 0 (.pointer (some ⟨h, b, none⟩)) = some (.pointer (some ⟨h, b + 0, none⟩)) := by simp [afield, Try.underlying74]
theorem fv74_1 {x0 x1 : Value} : afieldV Try.prog 74 1 (.agg #[x0, x1]) = some x1 := by simp [afieldV, Try.underlying74, apart, Try.underlying3, ag3, co3, aisAgg]
theorem fl74_1 {h b : Nat} : afield Try.prog 74 1 (.pointer (some ⟨h, b, none⟩)) = some (.pointer (some ⟨h, b + 1, none⟩)) := by simp [afield, Try.underlying74]
theorem co75 : Try.prog.cellsOf 75 = 2 := by kernel_rfl
theorem ag75 : aisAgg Try.prog 75 = true := by kernel_rfl
theorem pt75 : isPtr Try.prog 75 = false := by kernel_rfl
theorem sc75 : isSlc Try.prog 75 = false := by kernel_rfl
theorem ze75 : azero Try.prog 75 = some (Value.agg #[Value.slice none 0 0, Value.int IntKind.i64 0]) := by kernel_rfl
theorem fv75_0 {x0 x1 : Value} : afieldV Try.prog 75 0 (.agg #[x0, x1]) = some x0 := by simp [afieldV, Try.underlying75, apart, Try.underlying22, ag22, co22, aisAgg]
theorem fl75_0 {h b : Nat} : afield Try.prog 75 0 (.pointer (some ⟨h, b, none⟩)) = some (.pointer (some ⟨h, b + 0, none⟩)) := by simp [afield, Try.underlying75]
theorem fv75_1 {x0 x1 : Value} : afieldV Try.prog 75 1 (.agg #[x0, x1]) = some x1 := by simp [afieldV, Try.underlying75, apart, Try.underlying3, ag3, co3, aisAgg]
theorem fl75_1 {h b : Nat} : afield Try.prog 75 1 (.pointer (some ⟨h, b, none⟩)) = some (.pointer (some ⟨h, b + 1, none⟩)) := by simp [afield, Try.underlying75]
theorem co76 : Try.prog.cellsOf 76 = 6 := by kernel_rfl
theorem ag76 : aisAgg Try.prog 76 = true := by kernel_rfl
theorem pt76 : isPtr Try.prog 76 = false := by kernel_rfl
theorem sc76 : isSlc Try.prog 76 = false := by kernel_rfl
theorem esz76 : aesz Try.prog 76 = 1 := by kernel_rfl
theorem ze76 : azero Try.prog 76 = some (Value.agg #[Value.bool false, Value.bool false, Value.bool false, Value.bool false, Value.bool false, Value.bool false]) := by kernel_rfl
theorem co77 : Try.prog.cellsOf 77 = 1 := by kernel_rfl
theorem ag77 : aisAgg Try.prog 77 = false := by kernel_rfl
theorem pt77 : isPtr Try.prog 77 = false := by kernel_rfl
theorem sc77 : isSlc Try.prog 77 = false := by kernel_rfl
theorem ze77 : azero Try.prog 77 = some Value.nilFunc := by kernel_rfl
theorem co78 : Try.prog.cellsOf 78 = 1 := by kernel_rfl
theorem ag78 : aisAgg Try.prog 78 = false := by kernel_rfl
theorem pt78 : isPtr Try.prog 78 = false := by kernel_rfl
theorem sc78 : isSlc Try.prog 78 = false := by kernel_rfl
theorem ze78 : azero Try.prog 78 = some Value.nilFunc := by kernel_rfl
theorem co79 : Try.prog.cellsOf 79 = 1 := by kernel_rfl
theorem ag79 : aisAgg Try.prog 79 = false := by kernel_rfl
theorem pt79 : isPtr Try.prog 79 = false := by kernel_rfl
theorem sc79 : isSlc Try.prog 79 = false := by kernel_rfl
theorem ze79 : azero Try.prog 79 = some Value.nilFunc := by kernel_rfl
theorem co80 : Try.prog.cellsOf 80 = 1 := by kernel_rfl
theorem ag80 : aisAgg Try.prog 80 = false := by kernel_rfl
theorem pt80 : isPtr Try.prog 80 = false := by kernel_rfl
theorem sc80 : isSlc Try.prog 80 = false := by kernel_rfl
theorem ze80 : azero Try.prog 80 = some (Value.int IntKind.u64 0) := by kernel_rfl
theorem co81 : Try.prog.cellsOf 81 = 1 := by kernel_rfl
theorem ag81 : aisAgg Try.prog 81 = false := by kernel_rfl
theorem pt81 : isPtr Try.prog 81 = false := by kernel_rfl
theorem sc81 : isSlc Try.prog 81 = false := by kernel_rfl
theorem ze81 : azero Try.prog 81 = some Value.nilFunc := by kernel_rfl
theorem co82 : Try.prog.cellsOf 82 = 1 := by kernel_rfl
theorem ag82 : aisAgg Try.prog 82 = false := by kernel_rfl
theorem pt82 : isPtr Try.prog 82 = false := by kernel_rfl
theorem sc82 : isSlc Try.prog 82 = false := by kernel_rfl
theorem ze82 : azero Try.prog 82 = some Value.nilFunc := by kernel_rfl
theorem co83 : Try.prog.cellsOf 83 = 1 := by kernel_rfl
theorem ag83 : aisAgg Try.prog 83 = false := by kernel_rfl
theorem pt83 : isPtr Try.prog 83 = false := by kernel_rfl
theorem sc83 : isSlc Try.prog 83 = false := by kernel_rfl
theorem ze83 : azero Try.prog 83 = some Value.nilFunc := by kernel_rfl
theorem co84 : Try.prog.cellsOf 84 = 1 := by kernel_rfl
theorem ag84 : aisAgg Try.prog 84 = false := by kernel_rfl
theorem pt84 : isPtr Try.prog 84 = false := by kernel_rfl
theorem sc84 : isSlc Try.prog 84 = false := by kernel_rfl
theorem ze84 : azero Try.prog 84 = some Value.nilFunc := by kernel_rfl
theorem co85 : Try.prog.cellsOf 85 = 1 := by kernel_rfl
theorem ag85 : aisAgg Try.prog 85 = false := by kernel_rfl
theorem pt85 : isPtr Try.prog 85 = false := by kernel_rfl
theorem sc85 : isSlc Try.prog 85 = false := by kernel_rfl
theorem ze85 : azero Try.prog 85 = some Value.nilFunc := by kernel_rfl
theorem co86 : Try.prog.cellsOf 86 = 1 := by kernel_rfl
theorem ag86 : aisAgg Try.prog 86 = false := by kernel_rfl
theorem pt86 : isPtr Try.prog 86 = false := by kernel_rfl
theorem sc86 : isSlc Try.prog 86 = false := by kernel_rfl
theorem ze86 : azero Try.prog 86 = some (Value.int IntKind.i64 0) := by kernel_rfl
theorem pt87 : isPtr Try.prog 87 = false := by kernel_rfl
theorem sc87 : isSlc Try.prog 87 = false := by kernel_rfl
theorem co88 : Try.prog.cellsOf 88 = 1 := by kernel_rfl
theorem ag88 : aisAgg Try.prog 88 = false := by kernel_rfl
theorem pt88 : isPtr Try.prog 88 = false := by kernel_rfl
theorem sc88 : isSlc Try.prog 88 = false := by kernel_rfl
theorem ze88 : azero Try.prog 88 = some Value.nilFunc := by kernel_rfl
theorem co89 : Try.prog.cellsOf 89 = 1 := by kernel_rfl
theorem ag89 : aisAgg Try.prog 89 = false := by kernel_rfl
theorem pt89 : isPtr Try.prog 89 = false := by kernel_rfl
theorem sc89 : isSlc Try.prog 89 = false := by kernel_rfl
theorem ze89 : azero Try.prog 89 = some Value.nilFunc := by kernel_rfl
theorem co90 : Try.prog.cellsOf 90 = 1 := by kernel_rfl
theorem ag90 : aisAgg Try.prog 90 = false := by kernel_rfl
theorem pt90 : isPtr Try.prog 90 = false := by kernel_rfl
theorem sc90 : isSlc Try.prog 90 = false := by kernel_rfl
theorem ze90 : azero Try.prog 90 = some Value.nilFunc := by kernel_rfl
theorem co91 : Try.prog.cellsOf 91 = 1 := by kernel_rfl
theorem ag91 : aisAgg Try.prog 91 = false := by kernel_rfl
theorem pt91 : isPtr Try.prog 91 = false := by kernel_rfl
theorem sc91 : isSlc Try.prog 91 = false := by kernel_rfl
theorem ze91 : azero Try.prog 91 = some Value.nilFunc := by kernel_rfl
theorem pt92 : isPtr Try.prog 92 = false := by kernel_rfl
theorem sc92 : isSlc Try.prog 92 = false := by kernel_rfl
theorem co93 : Try.prog.cellsOf 93 = 1 := by kernel_rfl
theorem ag93 : aisAgg Try.prog 93 = false := by kernel_rfl
theorem pt93 : isPtr Try.prog 93 = false := by kernel_rfl
theorem sc93 : isSlc Try.prog 93 = false := by kernel_rfl
theorem ze93 : azero Try.prog 93 = some Value.nilFunc := by kernel_rfl
theorem co94 : Try.prog.cellsOf 94 = 1 := by kernel_rfl
theorem ag94 : aisAgg Try.prog 94 = false := by kernel_rfl
theorem pt94 : isPtr Try.prog 94 = false := by kernel_rfl
theorem sc94 : isSlc Try.prog 94 = false := by kernel_rfl
theorem ze94 : azero Try.prog 94 = some Value.nilFunc := by kernel_rfl
theorem co95 : Try.prog.cellsOf 95 = 1 := by kernel_rfl
theorem ag95 : aisAgg Try.prog 95 = false := by kernel_rfl
theorem pt95 : isPtr Try.prog 95 = false := by kernel_rfl
theorem sc95 : isSlc Try.prog 95 = false := by kernel_rfl
theorem ze95 : azero Try.prog 95 = some (Value.int IntKind.u32 0) := by kernel_rfl
theorem co96 : Try.prog.cellsOf 96 = 1 := by kernel_rfl
theorem ag96 : aisAgg Try.prog 96 = false := by kernel_rfl
theorem pt96 : isPtr Try.prog 96 = false := by kernel_rfl
theorem sc96 : isSlc Try.prog 96 = false := by kernel_rfl
theorem ze96 : azero Try.prog 96 = some Value.nilFunc := by kernel_rfl
theorem co97 : Try.prog.cellsOf 97 = 1 := by kernel_rfl
theorem ag97 : aisAgg Try.prog 97 = false := by kernel_rfl
theorem pt97 : isPtr Try.prog 97 = false := by kernel_rfl
theorem sc97 : isSlc Try.prog 97 = false := by kernel_rfl
theorem ze97 : azero Try.prog 97 = some (Value.int IntKind.u64 0) := by kernel_rfl
theorem co98 : Try.prog.cellsOf 98 = 1 := by kernel_rfl
theorem ag98 : aisAgg Try.prog 98 = false := by kernel_rfl
theorem pt98 : isPtr Try.prog 98 = false := by kernel_rfl
theorem sc98 : isSlc Try.prog 98 = false := by kernel_rfl
theorem ze98 : azero Try.prog 98 = some Value.nilFunc := by kernel_rfl
theorem co99 : Try.prog.cellsOf 99 = 1 := by kernel_rfl
theorem ag99 : aisAgg Try.prog 99 = false := by kernel_rfl
theorem pt99 : isPtr Try.prog 99 = false := by kernel_rfl
theorem sc99 : isSlc Try.prog 99 = false := by kernel_rfl
theorem ze99 : azero Try.prog 99 = some Value.nilFunc := by kernel_rfl
theorem co100 : Try.prog.cellsOf 100 = 1 := by kernel_rfl
theorem ag100 : aisAgg Try.prog 100 = false := by kernel_rfl
theorem pt100 : isPtr Try.prog 100 = false := by kernel_rfl
theorem sc100 : isSlc Try.prog 100 = false := by kernel_rfl
theorem ze100 : azero Try.prog 100 = some (Value.int IntKind.u64 0) := by kernel_rfl
theorem co101 : Try.prog.cellsOf 101 = 1 := by kernel_rfl
theorem ag101 : aisAgg Try.prog 101 = false := by kernel_rfl
theorem pt101 : isPtr Try.prog 101 = false := by kernel_rfl
theorem sc101 : isSlc Try.prog 101 = false := by kernel_rfl
theorem ze101 : azero Try.prog 101 = some Value.nilFunc := by kernel_rfl
theorem co102 : Try.prog.cellsOf 102 = 1 := by kernel_rfl
theorem ag102 : aisAgg Try.prog 102 = false := by kernel_rfl
theorem pt102 : isPtr Try.prog 102 = false := by kernel_rfl
theorem sc102 : isSlc Try.prog 102 = false := by kernel_rfl
theorem ze102 : azero Try.prog 102 = some Value.nilFunc := by kernel_rfl
theorem co103 : Try.prog.cellsOf 103 = 1 := by kernel_rfl
theorem ag103 : aisAgg Try.prog 103 = false := by kernel_rfl
theorem pt103 : isPtr Try.prog 103 = false := by kernel_rfl
theorem sc103 : isSlc Try.prog 103 = false := by kernel_rfl
theorem ze103 : azero Try.prog 103 = some Value.nilFunc := by kernel_rfl
theorem co104 : Try.prog.cellsOf 104 = 1 := by kernel_rfl
theorem ag104 : aisAgg Try.prog 104 = false := by kernel_rfl
theorem pt104 : isPtr Try.prog 104 = true := by kernel_rfl
theorem sc104 : isSlc Try.prog 104 = false := by kernel_rfl
theorem ze104 : azero Try.prog 104 = some (Value.pointer none) := by kernel_rfl
theorem co105 : Try.prog.cellsOf 105 = 1 := by kernel_rfl
theorem ag105 : aisAgg Try.prog 105 = false := by kernel_rfl
theorem pt105 : isPtr Try.prog 105 = false := by kernel_rfl
theorem sc105 : isSlc Try.prog 105 = false := by kernel_rfl
theorem ze105 : azero Try.prog 105 = some Value.nilFunc := by kernel_rfl
theorem co106 : Try.prog.cellsOf 106 = 1 := by kernel_rfl
theorem ag106 : aisAgg Try.prog 106 = false := by kernel_rfl
theorem pt106 : isPtr Try.prog 106 = false := by kernel_rfl
theorem sc106 : isSlc Try.prog 106 = false := by kernel_rfl
theorem ze106 : azero Try.prog 106 = some Value.nilFunc := by kernel_rfl
theorem co107 : Try.prog.cellsOf 107 = 1 := by kernel_rfl
theorem ag107 : aisAgg Try.prog 107 = false := by kernel_rfl
theorem pt107 : isPtr Try.prog 107 = false := by kernel_rfl
theorem sc107 : isSlc Try.prog 107 = false := by kernel_rfl
theorem ze107 : azero Try.prog 107 = some Value.nilFunc := by kernel_rfl
theorem co108 : Try.prog.cellsOf 108 = 1 := by kernel_rfl
theorem ag108 : aisAgg Try.prog 108 = false := by kernel_rfl
theorem pt108 : isPtr Try.prog 108 = true := by kernel_rfl
theorem sc108 : isSlc Try.prog 108 = false := by kernel_rfl
theorem ze108 : azero Try.prog 108 = some (Value.pointer none) := by kernel_rfl
theorem co109 : Try.prog.cellsOf 109 = 1 := by kernel_rfl
theorem ag109 : aisAgg Try.prog 109 = false := by kernel_rfl
theorem pt109 : isPtr Try.prog 109 = false := by kernel_rfl
theorem sc109 : isSlc Try.prog 109 = false := by kernel_rfl
theorem ze109 : azero Try.prog 109 = some Value.nilFunc := by kernel_rfl
theorem co110 : Try.prog.cellsOf 110 = 1 := by kernel_rfl
theorem ag110 : aisAgg Try.prog 110 = false := by kernel_rfl
theorem pt110 : isPtr Try.prog 110 = false := by kernel_rfl
theorem sc110 : isSlc Try.prog 110 = false := by kernel_rfl
theorem ze110 : azero Try.prog 110 = some Value.nilFunc := by kernel_rfl
theorem co113 : Try.prog.cellsOf 113 = 0 := by kernel_rfl
theorem ag113 : aisAgg Try.prog 113 = true := by kernel_rfl
theorem pt113 : isPtr Try.prog 113 = false := by kernel_rfl
theorem sc113 : isSlc Try.prog 113 = false := by kernel_rfl
theorem esz113 : aesz Try.prog 113 = 1 := by kernel_rfl
theorem ze113 : azero Try.prog 113 = some (Value.agg #[]) := by kernel_rfl
theorem co116 : Try.prog.cellsOf 116 = 1 := by kernel_rfl
theorem ag116 : aisAgg Try.prog 116 = false := by kernel_rfl
theorem pt116 : isPtr Try.prog 116 = false := by kernel_rfl
theorem sc116 : isSlc Try.prog 116 = false := by kernel_rfl
theorem ze116 : azero Try.prog 116 = some Value.nilFunc := by kernel_rfl
theorem co117 : Try.prog.cellsOf 117 = 1 := by kernel_rfl
theorem ag117 : aisAgg Try.prog 117 = false := by kernel_rfl
theorem pt117 : isPtr Try.prog 117 = false := by kernel_rfl
theorem sc117 : isSlc Try.prog 117 = false := by kernel_rfl
theorem ze117 : azero Try.prog 117 = some (Value.int IntKind.u8 0) := by kernel_rfl
theorem co118 : Try.prog.cellsOf 118 = 1 := by kernel_rfl
theorem ag118 : aisAgg Try.prog 118 = false := by kernel_rfl
theorem pt118 : isPtr Try.prog 118 = false := by kernel_rfl
theorem sc118 : isSlc Try.prog 118 = false := by kernel_rfl
theorem ze118 : azero Try.prog 118 = some (Value.int IntKind.u8 0) := by kernel_rfl
theorem co119 : Try.prog.cellsOf 119 = 1 := by kernel_rfl
theorem ag119 : aisAgg Try.prog 119 = false := by kernel_rfl
theorem pt119 : isPtr Try.prog 119 = false := by kernel_rfl
theorem sc119 : isSlc Try.prog 119 = false := by kernel_rfl
theorem ze119 : azero Try.prog 119 = some Value.nilFunc := by kernel_rfl
theorem co120 : Try.prog.cellsOf 120 = 1 := by kernel_rfl
theorem ag120 : aisAgg Try.prog 120 = false := by kernel_rfl
theorem pt120 : isPtr Try.prog 120 = true := by kernel_rfl
theorem sc120 : isSlc Try.prog 120 = false := by kernel_rfl
theorem ze120 : azero Try.prog 120 = some (Value.pointer none) := by kernel_rfl
theorem co121 : Try.prog.cellsOf 121 = 1 := by kernel_rfl
theorem ag121 : aisAgg Try.prog 121 = false := by kernel_rfl
theorem pt121 : isPtr Try.prog 121 = false := by kernel_rfl
theorem sc121 : isSlc Try.prog 121 = false := by kernel_rfl
theorem ze121 : azero Try.prog 121 = some (Value.int IntKind.i32 0) := by kernel_rfl
theorem co122 : Try.prog.cellsOf 122 = 1 := by kernel_rfl
theorem ag122 : aisAgg Try.prog 122 = false := by kernel_rfl
theorem pt122 : isPtr Try.prog 122 = false := by kernel_rfl
theorem sc122 : isSlc Try.prog 122 = false := by kernel_rfl
theorem ze122 : azero Try.prog 122 = some (Value.int IntKind.i32 0) := by kernel_rfl
theorem pt125 : isPtr Try.prog 125 = false := by kernel_rfl
theorem sc125 : isSlc Try.prog 125 = false := by kernel_rfl
theorem good3 : (callable Try.prog 3 && tmpsOnly Try.f3 && decide (1 ≤ Try.f3.ntmps) && (match Try.f3.body with | some c => goodC Try.prog Try.f3.ntmps c | none => false)) = true := by kernel_rfl
theorem good4 : (callable Try.prog 4 && tmpsOnly Try.f4 && decide (1 ≤ Try.f4.ntmps) && (match Try.f4.body with | some c => goodC Try.prog Try.f4.ntmps c | none => false)) = true := by kernel_rfl
theorem good5 : (callable Try.prog 5 && tmpsOnly Try.f5 && decide (1 ≤ Try.f5.ntmps) && (match Try.f5.body with | some c => goodC Try.prog Try.f5.ntmps c | none => false)) = true := by kernel_rfl
theorem good6 : (callable Try.prog 6 && tmpsOnly Try.f6 && decide (1 ≤ Try.f6.ntmps) && (match Try.f6.body with | some c => goodC Try.prog Try.f6.ntmps c | none => false)) = true := by kernel_rfl
theorem good7 : (callable Try.prog 7 && tmpsOnly Try.f7 && decide (1 ≤ Try.f7.ntmps) && (match Try.f7.body with | some c => goodC Try.prog Try.f7.ntmps c | none => false)) = true := by kernel_rfl
theorem good8 : (callable Try.prog 8 && tmpsOnly Try.f8 && decide (1 ≤ Try.f8.ntmps) && (match Try.f8.body with | some c => goodC Try.prog Try.f8.ntmps c | none => false)) = true := by kernel_rfl
theorem good9 : (callable Try.prog 9 && tmpsOnly Try.f9 && decide (1 ≤ Try.f9.ntmps) && (match Try.f9.body with | some c => goodC Try.prog Try.f9.ntmps c | none => false)) = true := by kernel_rfl
theorem good10 : (callable Try.prog 10 && tmpsOnly Try.f10 && decide (1 ≤ Try.f10.ntmps) && (match Try.f10.body with | some c => goodC Try.prog Try.f10.ntmps c | none => false)) = true := by kernel_rfl
theorem good11 : (callable Try.prog 11 && tmpsOnly Try.f11 && decide (1 ≤ Try.f11.ntmps) && (match Try.f11.body with | some c => goodC Try.prog Try.f11.ntmps c | none => false)) = true := by kernel_rfl
theorem good12 : (callable Try.prog 12 && tmpsOnly Try.f12 && decide (1 ≤ Try.f12.ntmps) && (match Try.f12.body with | some c => goodC Try.prog Try.f12.ntmps c | none => false)) = true := by kernel_rfl
theorem good13 : (callable Try.prog 13 && tmpsOnly Try.f13 && decide (1 ≤ Try.f13.ntmps) && (match Try.f13.body with | some c => goodC Try.prog Try.f13.ntmps c | none => false)) = true := by kernel_rfl
theorem good14 : (callable Try.prog 14 && tmpsOnly Try.f14 && decide (1 ≤ Try.f14.ntmps) && (match Try.f14.body with | some c => goodC Try.prog Try.f14.ntmps c | none => false)) = true := by kernel_rfl
theorem good15 : (callable Try.prog 15 && tmpsOnly Try.f15 && decide (1 ≤ Try.f15.ntmps) && (match Try.f15.body with | some c => goodC Try.prog Try.f15.ntmps c | none => false)) = true := by kernel_rfl
theorem good16 : (callable Try.prog 16 && tmpsOnly Try.f16 && decide (1 ≤ Try.f16.ntmps) && (match Try.f16.body with | some c => goodC Try.prog Try.f16.ntmps c | none => false)) = true := by kernel_rfl
theorem good17 : (callable Try.prog 17 && tmpsOnly Try.f17 && decide (1 ≤ Try.f17.ntmps) && (match Try.f17.body with | some c => goodC Try.prog Try.f17.ntmps c | none => false)) = true := by kernel_rfl
theorem good18 : (callable Try.prog 18 && tmpsOnly Try.f18 && decide (1 ≤ Try.f18.ntmps) && (match Try.f18.body with | some c => goodC Try.prog Try.f18.ntmps c | none => false)) = true := by kernel_rfl
theorem good19 : (callable Try.prog 19 && tmpsOnly Try.f19 && decide (1 ≤ Try.f19.ntmps) && (match Try.f19.body with | some c => goodC Try.prog Try.f19.ntmps c | none => false)) = true := by kernel_rfl
theorem good20 : (callable Try.prog 20 && tmpsOnly Try.f20 && decide (0 ≤ Try.f20.ntmps) && (match Try.f20.body with | some c => goodC Try.prog Try.f20.ntmps c | none => false)) = true := by kernel_rfl
theorem good21 : (callable Try.prog 21 && tmpsOnly Try.f21 && decide (1 ≤ Try.f21.ntmps) && (match Try.f21.body with | some c => goodC Try.prog Try.f21.ntmps c | none => false)) = true := by kernel_rfl
theorem good22 : (callable Try.prog 22 && tmpsOnly Try.f22 && decide (1 ≤ Try.f22.ntmps) && (match Try.f22.body with | some c => goodC Try.prog Try.f22.ntmps c | none => false)) = true := by kernel_rfl
theorem good23 : (callable Try.prog 23 && tmpsOnly Try.f23 && decide (1 ≤ Try.f23.ntmps) && (match Try.f23.body with | some c => goodC Try.prog Try.f23.ntmps c | none => false)) = true := by kernel_rfl
theorem good24 : (callable Try.prog 24 && tmpsOnly Try.f24 && decide (1 ≤ Try.f24.ntmps) && (match Try.f24.body with | some c => goodC Try.prog Try.f24.ntmps c | none => false)) = true := by kernel_rfl
theorem good25 : (callable Try.prog 25 && tmpsOnly Try.f25 && decide (1 ≤ Try.f25.ntmps) && (match Try.f25.body with | some c => goodC Try.prog Try.f25.ntmps c | none => false)) = true := by kernel_rfl
theorem good26 : (callable Try.prog 26 && tmpsOnly Try.f26 && decide (1 ≤ Try.f26.ntmps) && (match Try.f26.body with | some c => goodC Try.prog Try.f26.ntmps c | none => false)) = true := by kernel_rfl
theorem good27 : (callable Try.prog 27 && tmpsOnly Try.f27 && decide (1 ≤ Try.f27.ntmps) && (match Try.f27.body with | some c => goodC Try.prog Try.f27.ntmps c | none => false)) = true := by kernel_rfl
theorem good28 : (callable Try.prog 28 && tmpsOnly Try.f28 && decide (1 ≤ Try.f28.ntmps) && (match Try.f28.body with | some c => goodC Try.prog Try.f28.ntmps c | none => false)) = true := by kernel_rfl
theorem good29 : (callable Try.prog 29 && tmpsOnly Try.f29 && decide (1 ≤ Try.f29.ntmps) && (match Try.f29.body with | some c => goodC Try.prog Try.f29.ntmps c | none => false)) = true := by kernel_rfl
theorem good30 : (callable Try.prog 30 && tmpsOnly Try.f30 && decide (1 ≤ Try.f30.ntmps) && (match Try.f30.body with | some c => goodC Try.prog Try.f30.ntmps c | none => false)) = true := by kernel_rfl
theorem good31 : (callable Try.prog 31 && tmpsOnly Try.f31 && decide (1 ≤ Try.f31.ntmps) && (match Try.f31.body with | some c => goodC Try.prog Try.f31.ntmps c | none => false)) = true := by kernel_rfl
theorem good32 : (callable Try.prog 32 && tmpsOnly Try.f32 && decide (1 ≤ Try.f32.ntmps) && (match Try.f32.body with | some c => goodC Try.prog Try.f32.ntmps c | none => false)) = true := by kernel_rfl
theorem good33 : (callable Try.prog 33 && tmpsOnly Try.f33 && decide (1 ≤ Try.f33.ntmps) && (match Try.f33.body with | some c => goodC Try.prog Try.f33.ntmps c | none => false)) = true := by kernel_rfl
theorem good34 : (callable Try.prog 34 && tmpsOnly Try.f34 && decide (2 ≤ Try.f34.ntmps) && (match Try.f34.body with | some c => goodC Try.prog Try.f34.ntmps c | none => false)) = true := by kernel_rfl
theorem good35 : (callable Try.prog 35 && tmpsOnly Try.f35 && decide (2 ≤ Try.f35.ntmps) && (match Try.f35.body with | some c => goodC Try.prog Try.f35.ntmps c | none => false)) = true := by kernel_rfl
theorem good36 : (callable Try.prog 36 && tmpsOnly Try.f36 && decide (1 ≤ Try.f36.ntmps) && (match Try.f36.body with | some c => goodC Try.prog Try.f36.ntmps c | none => false)) = true := by kernel_rfl
theorem good37 : (callable Try.prog 37 && tmpsOnly Try.f37 && decide (1 ≤ Try.f37.ntmps) && (match Try.f37.body with | some c => goodC Try.prog Try.f37.ntmps c | none => false)) = true := by kernel_rfl
theorem good38 : (callable Try.prog 38 && tmpsOnly Try.f38 && decide (1 ≤ Try.f38.ntmps) && (match Try.f38.body with | some c => goodC Try.prog Try.f38.ntmps c | none => false)) = true := by kernel_rfl
theorem good39 : (callable Try.prog 39 && tmpsOnly Try.f39 && decide (2 ≤ Try.f39.ntmps) && (match Try.f39.body with | some c => goodC Try.prog Try.f39.ntmps c | none => false)) = true := by kernel_rfl
theorem good40 : (callable Try.prog 40 && tmpsOnly Try.f40 && decide (2 ≤ Try.f40.ntmps) && (match Try.f40.body with | some c => goodC Try.prog Try.f40.ntmps c | none => false)) = true := by kernel_rfl
theorem good41 : (callable Try.prog 41 && tmpsOnly Try.f41 && decide (1 ≤ Try.f41.ntmps) && (match Try.f41.body with | some c => goodC Try.prog Try.f41.ntmps c | none => false)) = true := by kernel_rfl
theorem good42 : (callable Try.prog 42 && tmpsOnly Try.f42 && decide (2 ≤ Try.f42.ntmps) && (match Try.f42.body with | some c => goodC Try.prog Try.f42.ntmps c | none => false)) = true := by kernel_rfl
theorem good43 : (callable Try.prog 43 && tmpsOnly Try.f43 && decide (2 ≤ Try.f43.ntmps) && (match Try.f43.body with | some c => goodC Try.prog Try.f43.ntmps c | none => false)) = true := by kernel_rfl
theorem good44 : (callable Try.prog 44 && tmpsOnly Try.f44 && decide (1 ≤ Try.f44.ntmps) && (match Try.f44.body with | some c => goodC Try.prog Try.f44.ntmps c | none => false)) = true := by kernel_rfl
theorem good45 : (callable Try.prog 45 && tmpsOnly Try.f45 && decide (1 ≤ Try.f45.ntmps) && (match Try.f45.body with | some c => goodC Try.prog Try.f45.ntmps c | none => false)) = true := by kernel_rfl
theorem good46 : (callable Try.prog 46 && tmpsOnly Try.f46 && decide (1 ≤ Try.f46.ntmps) && (match Try.f46.body with | some c => goodC Try.prog Try.f46.ntmps c | none => false)) = true := by kernel_rfl
theorem good47 : (callable Try.prog 47 && tmpsOnly Try.f47 && decide (1 ≤ Try.f47.ntmps) && (match Try.f47.body with | some c => goodC Try.prog Try.f47.ntmps c | none => false)) = true := by kernel_rfl
theorem good48 : (callable Try.prog 48 && tmpsOnly Try.f48 && decide (2 ≤ Try.f48.ntmps) && (match Try.f48.body with | some c => goodC Try.prog Try.f48.ntmps c | none => false)) = true := by kernel_rfl
theorem good49 : (callable Try.prog 49 && tmpsOnly Try.f49 && decide (2 ≤ Try.f49.ntmps) && (match Try.f49.body with | some c => goodC Try.prog Try.f49.ntmps c | none => false)) = true := by kernel_rfl
theorem good50 : (callable Try.prog 50 && tmpsOnly Try.f50 && decide (1 ≤ Try.f50.ntmps) && (match Try.f50.body with | some c => goodC Try.prog Try.f50.ntmps c | none => false)) = true := by kernel_rfl
theorem good51 : (callable Try.prog 51 && tmpsOnly Try.f51 && decide (1 ≤ Try.f51.ntmps) && (match Try.f51.body with | some c => goodC Try.prog Try.f51.ntmps c | none => false)) = true := by kernel_rfl
theorem good52 : (callable Try.prog 52 && tmpsOnly Try.f52 && decide (1 ≤ Try.f52.ntmps) && (match Try.f52.body with | some c => goodC Try.prog Try.f52.ntmps c | none => false)) = true := by kernel_rfl
theorem good53 : (callable Try.prog 53 && tmpsOnly Try.f53 && decide (1 ≤ Try.f53.ntmps) && (match Try.f53.body with | some c => goodC Try.prog Try.f53.ntmps c | none => false)) = true := by kernel_rfl
theorem good54 : (callable Try.prog 54 && tmpsOnly Try.f54 && decide (1 ≤ Try.f54.ntmps) && (match Try.f54.body with | some c => goodC Try.prog Try.f54.ntmps c | none => false)) = true := by kernel_rfl
theorem good55 : (callable Try.prog 55 && tmpsOnly Try.f55 && decide (1 ≤ Try.f55.ntmps) && (match Try.f55.body with | some c => goodC Try.prog Try.f55.ntmps c | none => false)) = true := by kernel_rfl
theorem good56 : (callable Try.prog 56 && tmpsOnly Try.f56 && decide (1 ≤ Try.f56.ntmps) && (match Try.f56.body with | some c => goodC Try.prog Try.f56.ntmps c | none => false)) = true := by kernel_rfl
theorem good57 : (callable Try.prog 57 && tmpsOnly Try.f57 && decide (1 ≤ Try.f57.ntmps) && (match Try.f57.body with | some c => goodC Try.prog Try.f57.ntmps c | none => false)) = true := by kernel_rfl
theorem good58 : (callable Try.prog 58 && tmpsOnly Try.f58 && decide (2 ≤ Try.f58.ntmps) && (match Try.f58.body with | some c => goodC Try.prog Try.f58.ntmps c | none => false)) = true := by kernel_rfl
theorem good59 : (callable Try.prog 59 && tmpsOnly Try.f59 && decide (2 ≤ Try.f59.ntmps) && (match Try.f59.body with | some c => goodC Try.prog Try.f59.ntmps c | none => false)) = true := by kernel_rfl
theorem good60 : (callable Try.prog 60 && tmpsOnly Try.f60 && decide (1 ≤ Try.f60.ntmps) && (match Try.f60.body with | some c => goodC Try.prog Try.f60.ntmps c | none => false)) = true := by kernel_rfl
theorem good61 : (callable Try.prog 61 && tmpsOnly Try.f61 && decide (1 ≤ Try.f61.ntmps) && (match Try.f61.body with | some c => goodC Try.prog Try.f61.ntmps c | none => false)) = true := by kernel_rfl
theorem good62 : (callable Try.prog 62 && tmpsOnly Try.f62 && decide (2 ≤ Try.f62.ntmps) && (match Try.f62.body with | some c => goodC Try.prog Try.f62.ntmps c | none => false)) = true := by kernel_rfl
theorem good63 : (callable Try.prog 63 && tmpsOnly Try.f63 && decide (1 ≤ Try.f63.ntmps) && (match Try.f63.body with | some c => goodC Try.prog Try.f63.ntmps c | none => false)) = true := by kernel_rfl
theorem good64 : (callable Try.prog 64 && tmpsOnly Try.f64 && decide (1 ≤ Try.f64.ntmps) && (match Try.f64.body with | some c => goodC Try.prog Try.f64.ntmps c | none => false)) = true := by kernel_rfl
theorem good65 : (callable Try.prog 65 && tmpsOnly Try.f65 && decide (1 ≤ Try.f65.ntmps) && (match Try.f65.body with | some c => goodC Try.prog Try.f65.ntmps c | none => false)) = true := by kernel_rfl
theorem good66 : (callable Try.prog 66 && tmpsOnly Try.f66 && decide (2 ≤ Try.f66.ntmps) && (match Try.f66.body with | some c => goodC Try.prog Try.f66.ntmps c | none => false)) = true := by kernel_rfl
theorem good67 : (callable Try.prog 67 && tmpsOnly Try.f67 && decide (2 ≤ Try.f67.ntmps) && (match Try.f67.body with | some c => goodC Try.prog Try.f67.ntmps c | none => false)) = true := by kernel_rfl
theorem good68 : (callable Try.prog 68 && tmpsOnly Try.f68 && decide (3 ≤ Try.f68.ntmps) && (match Try.f68.body with | some c => goodC Try.prog Try.f68.ntmps c | none => false)) = true := by kernel_rfl
theorem good69 : (callable Try.prog 69 && tmpsOnly Try.f69 && decide (1 ≤ Try.f69.ntmps) && (match Try.f69.body with | some c => goodC Try.prog Try.f69.ntmps c | none => false)) = true := by kernel_rfl
theorem good70 : (callable Try.prog 70 && tmpsOnly Try.f70 && decide (2 ≤ Try.f70.ntmps) && (match Try.f70.body with | some c => goodC Try.prog Try.f70.ntmps c | none => false)) = true := by kernel_rfl
theorem good71 : (callable Try.prog 71 && tmpsOnly Try.f71 && decide (2 ≤ Try.f71.ntmps) && (match Try.f71.body with | some c => goodC Try.prog Try.f71.ntmps c | none => false)) = true := by kernel_rfl
theorem good72 : (callable Try.prog 72 && tmpsOnly Try.f72 && decide (2 ≤ Try.f72.ntmps) && (match Try.f72.body with | some c => goodC Try.prog Try.f72.ntmps c | none => false)) = true := by kernel_rfl
theorem good73 : (callable Try.prog 73 && tmpsOnly Try.f73 && decide (1 ≤ Try.f73.ntmps) && (match Try.f73.body with | some c => goodC Try.prog Try.f73.ntmps c | none => false)) = true := by kernel_rfl
theorem good74 : (callable Try.prog 74 && tmpsOnly Try.f74 && decide (2 ≤ Try.f74.ntmps) && (match Try.f74.body with | some c => goodC Try.prog Try.f74.ntmps c | none => false)) = true := by kernel_rfl
theorem good75 : (callable Try.prog 75 && tmpsOnly Try.f75 && decide (1 ≤ Try.f75.ntmps) && (match Try.f75.body with | some c => goodC Try.prog Try.f75.ntmps c | none => false)) = true := by kernel_rfl
theorem good76 : (callable Try.prog 76 && tmpsOnly Try.f76 && decide (2 ≤ Try.f76.ntmps) && (match Try.f76.body with | some c => goodC Try.prog Try.f76.ntmps c | none => false)) = true := by kernel_rfl
theorem good77 : (callable Try.prog 77 && tmpsOnly Try.f77 && decide (2 ≤ Try.f77.ntmps) && (match Try.f77.body with | some c => goodC Try.prog Try.f77.ntmps c | none => false)) = true := by kernel_rfl
theorem good78 : (callable Try.prog 78 && tmpsOnly Try.f78 && decide (2 ≤ Try.f78.ntmps) && (match Try.f78.body with | some c => goodC Try.prog Try.f78.ntmps c | none => false)) = true := by kernel_rfl
theorem good79 : (callable Try.prog 79 && tmpsOnly Try.f79 && decide (2 ≤ Try.f79.ntmps) && (match Try.f79.body with | some c => goodC Try.prog Try.f79.ntmps c | none => false)) = true := by kernel_rfl
theorem good80 : (callable Try.prog 80 && tmpsOnly Try.f80 && decide (2 ≤ Try.f80.ntmps) && (match Try.f80.body with | some c => goodC Try.prog Try.f80.ntmps c | none => false)) = true := by kernel_rfl
theorem good81 : (callable Try.prog 81 && tmpsOnly Try.f81 && decide (1 ≤ Try.f81.ntmps) && (match Try.f81.body with | some c => goodC Try.prog Try.f81.ntmps c | none => false)) = true := by kernel_rfl
theorem good82 : (callable Try.prog 82 && tmpsOnly Try.f82 && decide (1 ≤ Try.f82.ntmps) && (match Try.f82.body with | some c => goodC Try.prog Try.f82.ntmps c | none => false)) = true := by kernel_rfl
theorem good83 : (callable Try.prog 83 && tmpsOnly Try.f83 && decide (2 ≤ Try.f83.ntmps) && (match Try.f83.body with | some c => goodC Try.prog Try.f83.ntmps c | none => false)) = true := by kernel_rfl
theorem good84 : (callable Try.prog 84 && tmpsOnly Try.f84 && decide (1 ≤ Try.f84.ntmps) && (match Try.f84.body with | some c => goodC Try.prog Try.f84.ntmps c | none => false)) = true := by kernel_rfl
theorem good85 : (callable Try.prog 85 && tmpsOnly Try.f85 && decide (1 ≤ Try.f85.ntmps) && (match Try.f85.body with | some c => goodC Try.prog Try.f85.ntmps c | none => false)) = true := by kernel_rfl
theorem good86 : (callable Try.prog 86 && tmpsOnly Try.f86 && decide (2 ≤ Try.f86.ntmps) && (match Try.f86.body with | some c => goodC Try.prog Try.f86.ntmps c | none => false)) = true := by kernel_rfl
theorem good87 : (callable Try.prog 87 && tmpsOnly Try.f87 && decide (2 ≤ Try.f87.ntmps) && (match Try.f87.body with | some c => goodC Try.prog Try.f87.ntmps c | none => false)) = true := by kernel_rfl
theorem good88 : (callable Try.prog 88 && tmpsOnly Try.f88 && decide (2 ≤ Try.f88.ntmps) && (match Try.f88.body with | some c => goodC Try.prog Try.f88.ntmps c | none => false)) = true := by kernel_rfl
theorem good89 : (callable Try.prog 89 && tmpsOnly Try.f89 && decide (2 ≤ Try.f89.ntmps) && (match Try.f89.body with | some c => goodC Try.prog Try.f89.ntmps c | none => false)) = true := by kernel_rfl
theorem good90 : (callable Try.prog 90 && tmpsOnly Try.f90 && decide (4 ≤ Try.f90.ntmps) && (match Try.f90.body with | some c => goodC Try.prog Try.f90.ntmps c | none => false)) = true := by kernel_rfl
theorem good91 : (callable Try.prog 91 && tmpsOnly Try.f91 && decide (1 ≤ Try.f91.ntmps) && (match Try.f91.body with | some c => goodC Try.prog Try.f91.ntmps c | none => false)) = true := by kernel_rfl
theorem good92 : (callable Try.prog 92 && tmpsOnly Try.f92 && decide (2 ≤ Try.f92.ntmps) && (match Try.f92.body with | some c => goodC Try.prog Try.f92.ntmps c | none => false)) = true := by kernel_rfl
theorem good93 : (callable Try.prog 93 && tmpsOnly Try.f93 && decide (2 ≤ Try.f93.ntmps) && (match Try.f93.body with | some c => goodC Try.prog Try.f93.ntmps c | none => false)) = true := by kernel_rfl
theorem good94 : (callable Try.prog 94 && tmpsOnly Try.f94 && decide (2 ≤ Try.f94.ntmps) && (match Try.f94.body with | some c => goodC Try.prog Try.f94.ntmps c | none => false)) = true := by kernel_rfl
theorem good95 : (callable Try.prog 95 && tmpsOnly Try.f95 && decide (2 ≤ Try.f95.ntmps) && (match Try.f95.body with | some c => goodC Try.prog Try.f95.ntmps c | none => false)) = true := by kernel_rfl
theorem good96 : (callable Try.prog 96 && tmpsOnly Try.f96 && decide (3 ≤ Try.f96.ntmps) && (match Try.f96.body with | some c => goodC Try.prog Try.f96.ntmps c | none => false)) = true := by kernel_rfl
theorem good97 : (callable Try.prog 97 && tmpsOnly Try.f97 && decide (3 ≤ Try.f97.ntmps) && (match Try.f97.body with | some c => goodC Try.prog Try.f97.ntmps c | none => false)) = true := by kernel_rfl
theorem good98 : (callable Try.prog 98 && tmpsOnly Try.f98 && decide (3 ≤ Try.f98.ntmps) && (match Try.f98.body with | some c => goodC Try.prog Try.f98.ntmps c | none => false)) = true := by kernel_rfl
theorem good99 : (callable Try.prog 99 && tmpsOnly Try.f99 && decide (3 ≤ Try.f99.ntmps) && (match Try.f99.body with | some c => goodC Try.prog Try.f99.ntmps c | none => false)) = true := by kernel_rfl
theorem good100 : (callable Try.prog 100 && tmpsOnly Try.f100 && decide (3 ≤ Try.f100.ntmps) && (match Try.f100.body with | some c => goodC Try.prog Try.f100.ntmps c | none => false)) = true := by kernel_rfl
theorem good101 : (callable Try.prog 101 && tmpsOnly Try.f101 && decide (3 ≤ Try.f101.ntmps) && (match Try.f101.body with | some c => goodC Try.prog Try.f101.ntmps c | none => false)) = true := by kernel_rfl
theorem good102 : (callable Try.prog 102 && tmpsOnly Try.f102 && decide (2 ≤ Try.f102.ntmps) && (match Try.f102.body with | some c => goodC Try.prog Try.f102.ntmps c | none => false)) = true := by kernel_rfl
theorem good103 : (callable Try.prog 103 && tmpsOnly Try.f103 && decide (4 ≤ Try.f103.ntmps) && (match Try.f103.body with | some c => goodC Try.prog Try.f103.ntmps c | none => false)) = true := by kernel_rfl
theorem good104 : (callable Try.prog 104 && tmpsOnly Try.f104 && decide (4 ≤ Try.f104.ntmps) && (match Try.f104.body with | some c => goodC Try.prog Try.f104.ntmps c | none => false)) = true := by kernel_rfl
theorem good105 : (callable Try.prog 105 && tmpsOnly Try.f105 && decide (1 ≤ Try.f105.ntmps) && (match Try.f105.body with | some c => goodC Try.prog Try.f105.ntmps c | none => false)) = true := by kernel_rfl
theorem good106 : (callable Try.prog 106 && tmpsOnly Try.f106 && decide (1 ≤ Try.f106.ntmps) && (match Try.f106.body with | some c => goodC Try.prog Try.f106.ntmps c | none => false)) = true := by kernel_rfl
theorem good107 : (callable Try.prog 107 && tmpsOnly Try.f107 && decide (3 ≤ Try.f107.ntmps) && (match Try.f107.body with | some c => goodC Try.prog Try.f107.ntmps c | none => false)) = true := by kernel_rfl
theorem good108 : (callable Try.prog 108 && tmpsOnly Try.f108 && decide (2 ≤ Try.f108.ntmps) && (match Try.f108.body with | some c => goodC Try.prog Try.f108.ntmps c | none => false)) = true := by kernel_rfl
theorem good109 : (callable Try.prog 109 && tmpsOnly Try.f109 && decide (4 ≤ Try.f109.ntmps) && (match Try.f109.body with | some c => goodC Try.prog Try.f109.ntmps c | none => false)) = true := by kernel_rfl
theorem good110 : (callable Try.prog 110 && tmpsOnly Try.f110 && decide (1 ≤ Try.f110.ntmps) && (match Try.f110.body with | some c => goodC Try.prog Try.f110.ntmps c | none => false)) = true := by kernel_rfl
theorem good111 : (callable Try.prog 111 && tmpsOnly Try.f111 && decide (1 ≤ Try.f111.ntmps) && (match Try.f111.body with | some c => goodC Try.prog Try.f111.ntmps c | none => false)) = true := by kernel_rfl
theorem good112 : (callable Try.prog 112 && tmpsOnly Try.f112 && decide (3 ≤ Try.f112.ntmps) && (match Try.f112.body with | some c => goodC Try.prog Try.f112.ntmps c | none => false)) = true := by kernel_rfl
theorem good113 : (callable Try.prog 113 && tmpsOnly Try.f113 && decide (5 ≤ Try.f113.ntmps) && (match Try.f113.body with | some c => goodC Try.prog Try.f113.ntmps c | none => false)) = true := by kernel_rfl
theorem good114 : (callable Try.prog 114 && tmpsOnly Try.f114 && decide (1 ≤ Try.f114.ntmps) && (match Try.f114.body with | some c => goodC Try.prog Try.f114.ntmps c | none => false)) = true := by kernel_rfl
theorem good115 : (callable Try.prog 115 && tmpsOnly Try.f115 && decide (4 ≤ Try.f115.ntmps) && (match Try.f115.body with | some c => goodC Try.prog Try.f115.ntmps c | none => false)) = true := by kernel_rfl
theorem good116 : (callable Try.prog 116 && tmpsOnly Try.f116 && decide (5 ≤ Try.f116.ntmps) && (match Try.f116.body with | some c => goodC Try.prog Try.f116.ntmps c | none => false)) = true := by kernel_rfl
theorem good117 : (callable Try.prog 117 && tmpsOnly Try.f117 && decide (4 ≤ Try.f117.ntmps) && (match Try.f117.body with | some c => goodC Try.prog Try.f117.ntmps c | none => false)) = true := by kernel_rfl
theorem good118 : (callable Try.prog 118 && tmpsOnly Try.f118 && decide (5 ≤ Try.f118.ntmps) && (match Try.f118.body with | some c => goodC Try.prog Try.f118.ntmps c | none => false)) = true := by kernel_rfl
theorem good119 : (callable Try.prog 119 && tmpsOnly Try.f119 && decide (5 ≤ Try.f119.ntmps) && (match Try.f119.body with | some c => goodC Try.prog Try.f119.ntmps c | none => false)) = true := by kernel_rfl
abbrev chr (n : Nat) : Char := Char.ofNat n
set_option maxRecDepth 20000 in
theorem initS : Try.prog.initOrder.toList = [chr 104, chr 97, chr 114, chr 110, chr 101, chr 115, chr 115, chr 32, chr 100, chr 102, chr 100, chr 53, chr 53, chr 52, chr 51, chr 56, chr 98, chr 97, chr 100, chr 98, chr 52, chr 99, chr 56, chr 51, chr 57, chr 54, chr 48, chr 50, chr 101, chr 52, chr 51, chr 98, chr 52, chr 48, chr 101, chr 52, chr 98, chr 56, chr 100, chr 48, chr 50, chr 101, chr 100, chr 52, chr 97, chr 53, chr 54, chr 99, chr 50, chr 49, chr 99, chr 49, chr 97, chr 49, chr 97, chr 51, chr 49, chr 97, chr 102, chr 99, chr 100, chr 99, chr 99, chr 50, chr 52, chr 52, chr 100, chr 99, chr 99, chr 101, chr 57, chr 98, chr 32, chr 99, chr 117, chr 116, chr 32, chr 97, chr 116, chr 32, chr 108, chr 111, chr 111, chr 112, chr 46, chr 101, chr 120, chr 97, chr 109, chr 112, chr 108, chr 101, chr 47, chr 99, chr 105, chr 114, chr 99, chr 117, chr 105, chr 116, chr 115, chr 119, chr 105, chr 116, chr 99, chr 104, chr 105, chr 110, chr 103, chr 47, chr 108, chr 97, chr 119, chr 115, chr 46, chr 70, chr 110, chr 68, chr 105, chr 103, chr 105, chr 116, chr 115, chr 79, chr 107, chr 32, chr 108, chr 111, chr 111, chr 112, chr 46, chr 101, chr 120, chr 97, chr 109, chr 112, chr 108, chr 101, chr 47, chr 99, chr 105, chr 114, chr 99, chr 117, chr 105, chr 116, chr 115, chr 119, chr 105, chr 116, chr 99, chr 104, chr 105, chr 110, chr 103, chr 47, chr 108, chr 97, chr 119, chr 115, chr 46, chr 70, chr 110, chr 80, chr 108, chr 97, chr 110, chr 86, chr 97, chr 108, chr 105, chr 100, chr 32, chr 108, chr 111, chr 111, chr 112, chr 46, chr 101, chr 120, chr 97, chr 109, chr 112, chr 108, chr 101, chr 47, chr 99, chr 105, chr 114, chr 99, chr 117, chr 105, chr 116, chr 115, chr 119, chr 105, chr 116, chr 99, chr 104, chr 105, chr 110, chr 103, chr 47, chr 108, chr 97, chr 119, chr 115, chr 46, chr 70, chr 110, chr 76, chr 101, chr 110, chr 103, chr 116, chr 104, chr 115, chr 86, chr 97, chr 108, chr 105, chr 100, chr 32, chr 108, chr 111, chr 111, chr 112, chr 46, chr 101, chr 120, chr 97, chr 109, chr 112, chr 108, chr 101, chr 47, chr 99, chr 105, chr 114, chr 99, chr 117, chr 105, chr 116, chr 115, chr 119, chr 105, chr 116, chr 99, chr 104, chr 105, chr 110, chr 103, chr 47, chr 108, chr 97, chr 119, chr 115, chr 46, chr 70, chr 110, chr 83, chr 104, chr 97, chr 114, chr 101, chr 83, chr 117, chr 109, chr 32, chr 108, chr 111, chr 111, chr 112, chr 46, chr 101, chr 120, chr 97, chr 109, chr 112, chr 108, chr 101, chr 47, chr 99, chr 105, chr 114, chr 99, chr 117, chr 105, chr 116, chr 115, chr 119, chr 105, chr 116, chr 99, chr 104, chr 105, chr 110, chr 103, chr 47, chr 108, chr 97, chr 119, chr 115, chr 46, chr 70, chr 110, chr 80, chr 108, chr 97, chr 110, chr 70, chr 111, chr 114, chr 32, chr 108, chr 111, chr 111, chr 112, chr 46, chr 101, chr 120, chr 97, chr 109, chr 112, chr 108, chr 101, chr 47, chr 99, chr 105, chr 114, chr 99, chr 117, chr 105, chr 116, chr 115, chr 119, chr 105, chr 116, chr 99, chr 104, chr 105, chr 110, chr 103, chr 47, chr 108, chr 97, chr 119, chr 115, chr 46, chr 70, chr 110, chr 80, chr 108, chr 97, chr 110, chr 76, chr 101, chr 110, chr 103, chr 116, chr 104, chr 115, chr 32, chr 108, chr 111, chr 111, chr 112, chr 46, chr 101, chr 120, chr 97, chr 109, chr 112, chr 108, chr 101, chr 47, chr 99, chr 105, chr 114, chr 99, chr 117, chr 105, chr 116, chr 115, chr 119, chr 105, chr 116, chr 99, chr 104, chr 105, chr 110, chr 103, chr 47, chr 108, chr 97, chr 119, chr 115, chr 46, chr 70, chr 110, chr 68, chr 105, chr 97, chr 108, chr 79, chr 110, chr 101, chr 32, chr 108, chr 111, chr 111, chr 112, chr 46, chr 101, chr 120, chr 97, chr 109, chr 112, chr 108, chr 101, chr 47, chr 99, chr 105, chr 114, chr 99, chr 117, chr 105, chr 116, chr 115, chr 119, chr 105, chr 116, chr 99, chr 104, chr 105, chr 110, chr 103, chr 47, chr 108, chr 97, chr 119, chr 115, chr 46, chr 70, chr 110, chr 68, chr 105, chr 97, chr 108, chr 65, chr 108, chr 108, chr 32, chr 108, chr 111, chr 111, chr 112, chr 46, chr 101, chr 120, chr 97, chr 109, chr 112, chr 108, chr 101, chr 47, chr 99, chr 105, chr 114, chr 99, chr 117, chr 105, chr 116, chr 115, chr 119, chr 105, chr 116, chr 99, chr 104, chr 105, chr 110, chr 103, chr 47, chr 108, chr 97, chr 119, chr 115, chr 46, chr 70, chr 110, chr 79, chr 102, chr 116, chr 101, chr 110, chr 86, chr 97, chr 108, chr 105, chr 100, chr 32, chr 108, chr 111, chr 111, chr 112, chr 46, chr 101, chr 120, chr 97, chr 109, chr 112, chr 108, chr 101, chr 47, chr 99, chr 105, chr 114, chr 99, chr 117, chr 105, chr 116, chr 115, chr 119, chr 105, chr 116, chr 99, chr 104, chr 105, chr 110, chr 103, chr 47, chr 108, chr 97, chr 119, chr 115, chr 46, chr 70, chr 110, chr 68, chr 105, chr 97, chr 108, chr 67, chr 111, chr 115, chr 116, chr 32, chr 108, chr 111, chr 111, chr 112, chr 46, chr 101, chr 120, chr 97, chr 109, chr 112, chr 108, chr 101, chr 47, chr 99, chr 105, chr 114, chr 99, chr 117, chr 105, chr 116, chr 115, chr 119, chr 105, chr 116, chr 99, chr 104, chr 105, chr 110, chr 103, chr 47, chr 108, chr 97, chr 119, chr 115, chr 46, chr 70, chr 110, chr 68, chr 105, chr 97, chr 108, chr 76, chr 101, chr 97, chr 115, chr 116, chr 32, chr 108, chr 111, chr 111, chr 112, chr 46, chr 101, chr 120, chr 97, chr 109, chr 112, chr 108, chr 101, chr 47, chr 99, chr 105, chr 114, chr 99, chr 117, chr 105, chr 116, chr 115, chr 119, chr 105, chr 116, chr 99, chr 104, chr 105, chr 110, chr 103, chr 47, chr 108, chr 97, chr 119, chr 115, chr 46, chr 70, chr 110, chr 82, chr 111, chr 117, chr 116, chr 101, chr 115, chr 86, chr 97, chr 108, chr 105, chr 100, chr 32, chr 108, chr 111, chr 111, chr 112, chr 46, chr 101, chr 120, chr 97, chr 109, chr 112, chr 108, chr 101, chr 47, chr 99, chr 105, chr 114, chr 99, chr 117, chr 105, chr 116, chr 115, chr 119, chr 105, chr 116, chr 99, chr 104, chr 105, chr 110, chr 103, chr 47, chr 108, chr 97, chr 119, chr 115, chr 46, chr 70, chr 110, chr 82, chr 111, chr 117, chr 116, chr 101, chr 79, chr 102, chr 32, chr 108, chr 111, chr 111, chr 112, chr 46, chr 101, chr 120, chr 97, chr 109, chr 112, chr 108, chr 101, chr 47, chr 99, chr 105, chr 114, chr 99, chr 117, chr 105, chr 116, chr 115, chr 119, chr 105, chr 116, chr 99, chr 104, chr 105, chr 110, chr 103, chr 47, chr 108, chr 97, chr 119, chr 115, chr 46, chr 70, chr 110, chr 82, chr 111, chr 117, chr 116, chr 101, chr 115, chr 76, chr 101, chr 115, chr 115] := by
  rw [show Try.prog.initOrder = String.ofList [chr 104, chr 97, chr 114, chr 110, chr 101, chr 115, chr 115, chr 32, chr 100, chr 102, chr 100, chr 53, chr 53, chr 52, chr 51, chr 56, chr 98, chr 97, chr 100, chr 98, chr 52, chr 99, chr 56, chr 51, chr 57, chr 54, chr 48, chr 50, chr 101, chr 52, chr 51, chr 98, chr 52, chr 48, chr 101, chr 52, chr 98, chr 56, chr 100, chr 48, chr 50, chr 101, chr 100, chr 52, chr 97, chr 53, chr 54, chr 99, chr 50, chr 49, chr 99, chr 49, chr 97, chr 49, chr 97, chr 51, chr 49, chr 97, chr 102, chr 99, chr 100, chr 99, chr 99, chr 50, chr 52, chr 52, chr 100, chr 99, chr 99, chr 101, chr 57, chr 98, chr 32, chr 99, chr 117, chr 116, chr 32, chr 97, chr 116, chr 32, chr 108, chr 111, chr 111, chr 112, chr 46, chr 101, chr 120, chr 97, chr 109, chr 112, chr 108, chr 101, chr 47, chr 99, chr 105, chr 114, chr 99, chr 117, chr 105, chr 116, chr 115, chr 119, chr 105, chr 116, chr 99, chr 104, chr 105, chr 110, chr 103, chr 47, chr 108, chr 97, chr 119, chr 115, chr 46, chr 70, chr 110, chr 68, chr 105, chr 103, chr 105, chr 116, chr 115, chr 79, chr 107, chr 32, chr 108, chr 111, chr 111, chr 112, chr 46, chr 101, chr 120, chr 97, chr 109, chr 112, chr 108, chr 101, chr 47, chr 99, chr 105, chr 114, chr 99, chr 117, chr 105, chr 116, chr 115, chr 119, chr 105, chr 116, chr 99, chr 104, chr 105, chr 110, chr 103, chr 47, chr 108, chr 97, chr 119, chr 115, chr 46, chr 70, chr 110, chr 80, chr 108, chr 97, chr 110, chr 86, chr 97, chr 108, chr 105, chr 100, chr 32, chr 108, chr 111, chr 111, chr 112, chr 46, chr 101, chr 120, chr 97, chr 109, chr 112, chr 108, chr 101, chr 47, chr 99, chr 105, chr 114, chr 99, chr 117, chr 105, chr 116, chr 115, chr 119, chr 105, chr 116, chr 99, chr 104, chr 105, chr 110, chr 103, chr 47, chr 108, chr 97, chr 119, chr 115, chr 46, chr 70, chr 110, chr 76, chr 101, chr 110, chr 103, chr 116, chr 104, chr 115, chr 86, chr 97, chr 108, chr 105, chr 100, chr 32, chr 108, chr 111, chr 111, chr 112, chr 46, chr 101, chr 120, chr 97, chr 109, chr 112, chr 108, chr 101, chr 47, chr 99, chr 105, chr 114, chr 99, chr 117, chr 105, chr 116, chr 115, chr 119, chr 105, chr 116, chr 99, chr 104, chr 105, chr 110, chr 103, chr 47, chr 108, chr 97, chr 119, chr 115, chr 46, chr 70, chr 110, chr 83, chr 104, chr 97, chr 114, chr 101, chr 83, chr 117, chr 109, chr 32, chr 108, chr 111, chr 111, chr 112, chr 46, chr 101, chr 120, chr 97, chr 109, chr 112, chr 108, chr 101, chr 47, chr 99, chr 105, chr 114, chr 99, chr 117, chr 105, chr 116, chr 115, chr 119, chr 105, chr 116, chr 99, chr 104, chr 105, chr 110, chr 103, chr 47, chr 108, chr 97, chr 119, chr 115, chr 46, chr 70, chr 110, chr 80, chr 108, chr 97, chr 110, chr 70, chr 111, chr 114, chr 32, chr 108, chr 111, chr 111, chr 112, chr 46, chr 101, chr 120, chr 97, chr 109, chr 112, chr 108, chr 101, chr 47, chr 99, chr 105, chr 114, chr 99, chr 117, chr 105, chr 116, chr 115, chr 119, chr 105, chr 116, chr 99, chr 104, chr 105, chr 110, chr 103, chr 47, chr 108, chr 97, chr 119, chr 115, chr 46, chr 70, chr 110, chr 80, chr 108, chr 97, chr 110, chr 76, chr 101, chr 110, chr 103, chr 116, chr 104, chr 115, chr 32, chr 108, chr 111, chr 111, chr 112, chr 46, chr 101, chr 120, chr 97, chr 109, chr 112, chr 108, chr 101, chr 47, chr 99, chr 105, chr 114, chr 99, chr 117, chr 105, chr 116, chr 115, chr 119, chr 105, chr 116, chr 99, chr 104, chr 105, chr 110, chr 103, chr 47, chr 108, chr 97, chr 119, chr 115, chr 46, chr 70, chr 110, chr 68, chr 105, chr 97, chr 108, chr 79, chr 110, chr 101, chr 32, chr 108, chr 111, chr 111, chr 112, chr 46, chr 101, chr 120, chr 97, chr 109, chr 112, chr 108, chr 101, chr 47, chr 99, chr 105, chr 114, chr 99, chr 117, chr 105, chr 116, chr 115, chr 119, chr 105, chr 116, chr 99, chr 104, chr 105, chr 110, chr 103, chr 47, chr 108, chr 97, chr 119, chr 115, chr 46, chr 70, chr 110, chr 68, chr 105, chr 97, chr 108, chr 65, chr 108, chr 108, chr 32, chr 108, chr 111, chr 111, chr 112, chr 46, chr 101, chr 120, chr 97, chr 109, chr 112, chr 108, chr 101, chr 47, chr 99, chr 105, chr 114, chr 99, chr 117, chr 105, chr 116, chr 115, chr 119, chr 105, chr 116, chr 99, chr 104, chr 105, chr 110, chr 103, chr 47, chr 108, chr 97, chr 119, chr 115, chr 46, chr 70, chr 110, chr 79, chr 102, chr 116, chr 101, chr 110, chr 86, chr 97, chr 108, chr 105, chr 100, chr 32, chr 108, chr 111, chr 111, chr 112, chr 46, chr 101, chr 120, chr 97, chr 109, chr 112, chr 108, chr 101, chr 47, chr 99, chr 105, chr 114, chr 99, chr 117, chr 105, chr 116, chr 115, chr 119, chr 105, chr 116, chr 99, chr 104, chr 105, chr 110, chr 103, chr 47, chr 108, chr 97, chr 119, chr 115, chr 46, chr 70, chr 110, chr 68, chr 105, chr 97, chr 108, chr 67, chr 111, chr 115, chr 116, chr 32, chr 108, chr 111, chr 111, chr 112, chr 46, chr 101, chr 120, chr 97, chr 109, chr 112, chr 108, chr 101, chr 47, chr 99, chr 105, chr 114, chr 99, chr 117, chr 105, chr 116, chr 115, chr 119, chr 105, chr 116, chr 99, chr 104, chr 105, chr 110, chr 103, chr 47, chr 108, chr 97, chr 119, chr 115, chr 46, chr 70, chr 110, chr 68, chr 105, chr 97, chr 108, chr 76, chr 101, chr 97, chr 115, chr 116, chr 32, chr 108, chr 111, chr 111, chr 112, chr 46, chr 101, chr 120, chr 97, chr 109, chr 112, chr 108, chr 101, chr 47, chr 99, chr 105, chr 114, chr 99, chr 117, chr 105, chr 116, chr 115, chr 119, chr 105, chr 116, chr 99, chr 104, chr 105, chr 110, chr 103, chr 47, chr 108, chr 97, chr 119, chr 115, chr 46, chr 70, chr 110, chr 82, chr 111, chr 117, chr 116, chr 101, chr 115, chr 86, chr 97, chr 108, chr 105, chr 100, chr 32, chr 108, chr 111, chr 111, chr 112, chr 46, chr 101, chr 120, chr 97, chr 109, chr 112, chr 108, chr 101, chr 47, chr 99, chr 105, chr 114, chr 99, chr 117, chr 105, chr 116, chr 115, chr 119, chr 105, chr 116, chr 99, chr 104, chr 105, chr 110, chr 103, chr 47, chr 108, chr 97, chr 119, chr 115, chr 46, chr 70, chr 110, chr 82, chr 111, chr 117, chr 116, chr 101, chr 79, chr 102, chr 32, chr 108, chr 111, chr 111, chr 112, chr 46, chr 101, chr 120, chr 97, chr 109, chr 112, chr 108, chr 101, chr 47, chr 99, chr 105, chr 114, chr 99, chr 117, chr 105, chr 116, chr 115, chr 119, chr 105, chr 116, chr 99, chr 104, chr 105, chr 110, chr 103, chr 47, chr 108, chr 97, chr 119, chr 115, chr 46, chr 70, chr 110, chr 82, chr 111, chr 117, chr 116, chr 101, chr 115, chr 76, chr 101, chr 115, chr 115] from by kernel_rfl, String.toList_ofList]
set_option maxRecDepth 20000 in
theorem behind : behindMainWord (wordsSigns Try.prog.initOrder.toList) = cutW :: [[chr 97, chr 116], [chr 108, chr 111, chr 111, chr 112, chr 46, chr 101, chr 120, chr 97, chr 109, chr 112, chr 108, chr 101, chr 47, chr 99, chr 105, chr 114, chr 99, chr 117, chr 105, chr 116, chr 115, chr 119, chr 105, chr 116, chr 99, chr 104, chr 105, chr 110, chr 103, chr 47, chr 108, chr 97, chr 119, chr 115, chr 46, chr 70, chr 110, chr 68, chr 105, chr 103, chr 105, chr 116, chr 115, chr 79, chr 107], [chr 108, chr 111, chr 111, chr 112, chr 46, chr 101, chr 120, chr 97, chr 109, chr 112, chr 108, chr 101, chr 47, chr 99, chr 105, chr 114, chr 99, chr 117, chr 105, chr 116, chr 115, chr 119, chr 105, chr 116, chr 99, chr 104, chr 105, chr 110, chr 103, chr 47, chr 108, chr 97, chr 119, chr 115, chr 46, chr 70, chr 110, chr 80, chr 108, chr 97, chr 110, chr 86, chr 97, chr 108, chr 105, chr 100], [chr 108, chr 111, chr 111, chr 112, chr 46, chr 101, chr 120, chr 97, chr 109, chr 112, chr 108, chr 101, chr 47, chr 99, chr 105, chr 114, chr 99, chr 117, chr 105, chr 116, chr 115, chr 119, chr 105, chr 116, chr 99, chr 104, chr 105, chr 110, chr 103, chr 47, chr 108, chr 97, chr 119, chr 115, chr 46, chr 70, chr 110, chr 76, chr 101, chr 110, chr 103, chr 116, chr 104, chr 115, chr 86, chr 97, chr 108, chr 105, chr 100], [chr 108, chr 111, chr 111, chr 112, chr 46, chr 101, chr 120, chr 97, chr 109, chr 112, chr 108, chr 101, chr 47, chr 99, chr 105, chr 114, chr 99, chr 117, chr 105, chr 116, chr 115, chr 119, chr 105, chr 116, chr 99, chr 104, chr 105, chr 110, chr 103, chr 47, chr 108, chr 97, chr 119, chr 115, chr 46, chr 70, chr 110, chr 83, chr 104, chr 97, chr 114, chr 101, chr 83, chr 117, chr 109], [chr 108, chr 111, chr 111, chr 112, chr 46, chr 101, chr 120, chr 97, chr 109, chr 112, chr 108, chr 101, chr 47, chr 99, chr 105, chr 114, chr 99, chr 117, chr 105, chr 116, chr 115, chr 119, chr 105, chr 116, chr 99, chr 104, chr 105, chr 110, chr 103, chr 47, chr 108, chr 97, chr 119, chr 115, chr 46, chr 70, chr 110, chr 80, chr 108, chr 97, chr 110, chr 70, chr 111, chr 114], [chr 108, chr 111, chr 111, chr 112, chr 46, chr 101, chr 120, chr 97, chr 109, chr 112, chr 108, chr 101, chr 47, chr 99, chr 105, chr 114, chr 99, chr 117, chr 105, chr 116, chr 115, chr 119, chr 105, chr 116, chr 99, chr 104, chr 105, chr 110, chr 103, chr 47, chr 108, chr 97, chr 119, chr 115, chr 46, chr 70, chr 110, chr 80, chr 108, chr 97, chr 110, chr 76, chr 101, chr 110, chr 103, chr 116, chr 104, chr 115], [chr 108, chr 111, chr 111, chr 112, chr 46, chr 101, chr 120, chr 97, chr 109, chr 112, chr 108, chr 101, chr 47, chr 99, chr 105, chr 114, chr 99, chr 117, chr 105, chr 116, chr 115, chr 119, chr 105, chr 116, chr 99, chr 104, chr 105, chr 110, chr 103, chr 47, chr 108, chr 97, chr 119, chr 115, chr 46, chr 70, chr 110, chr 68, chr 105, chr 97, chr 108, chr 79, chr 110, chr 101], [chr 108, chr 111, chr 111, chr 112, chr 46, chr 101, chr 120, chr 97, chr 109, chr 112, chr 108, chr 101, chr 47, chr 99, chr 105, chr 114, chr 99, chr 117, chr 105, chr 116, chr 115, chr 119, chr 105, chr 116, chr 99, chr 104, chr 105, chr 110, chr 103, chr 47, chr 108, chr 97, chr 119, chr 115, chr 46, chr 70, chr 110, chr 68, chr 105, chr 97, chr 108, chr 65, chr 108, chr 108], [chr 108, chr 111, chr 111, chr 112, chr 46, chr 101, chr 120, chr 97, chr 109, chr 112, chr 108, chr 101, chr 47, chr 99, chr 105, chr 114, chr 99, chr 117, chr 105, chr 116, chr 115, chr 119, chr 105, chr 116, chr 99, chr 104, chr 105, chr 110, chr 103, chr 47, chr 108, chr 97, chr 119, chr 115, chr 46, chr 70, chr 110, chr 79, chr 102, chr 116, chr 101, chr 110, chr 86, chr 97, chr 108, chr 105, chr 100], [chr 108, chr 111, chr 111, chr 112, chr 46, chr 101, chr 120, chr 97, chr 109, chr 112, chr 108, chr 101, chr 47, chr 99, chr 105, chr 114, chr 99, chr 117, chr 105, chr 116, chr 115, chr 119, chr 105, chr 116, chr 99, chr 104, chr 105, chr 110, chr 103, chr 47, chr 108, chr 97, chr 119, chr 115, chr 46, chr 70, chr 110, chr 68, chr 105, chr 97, chr 108, chr 67, chr 111, chr 115, chr 116], [chr 108, chr 111, chr 111, chr 112, chr 46, chr 101, chr 120, chr 97, chr 109, chr 112, chr 108, chr 101, chr 47, chr 99, chr 105, chr 114, chr 99, chr 117, chr 105, chr 116, chr 115, chr 119, chr 105, chr 116, chr 99, chr 104, chr 105, chr 110, chr 103, chr 47, chr 108, chr 97, chr 119, chr 115, chr 46, chr 70, chr 110, chr 68, chr 105, chr 97, chr 108, chr 76, chr 101, chr 97, chr 115, chr 116], [chr 108, chr 111, chr 111, chr 112, chr 46, chr 101, chr 120, chr 97, chr 109, chr 112, chr 108, chr 101, chr 47, chr 99, chr 105, chr 114, chr 99, chr 117, chr 105, chr 116, chr 115, chr 119, chr 105, chr 116, chr 99, chr 104, chr 105, chr 110, chr 103, chr 47, chr 108, chr 97, chr 119, chr 115, chr 46, chr 70, chr 110, chr 82, chr 111, chr 117, chr 116, chr 101, chr 115, chr 86, chr 97, chr 108, chr 105, chr 100], [chr 108, chr 111, chr 111, chr 112, chr 46, chr 101, chr 120, chr 97, chr 109, chr 112, chr 108, chr 101, chr 47, chr 99, chr 105, chr 114, chr 99, chr 117, chr 105, chr 116, chr 115, chr 119, chr 105, chr 116, chr 99, chr 104, chr 105, chr 110, chr 103, chr 47, chr 108, chr 97, chr 119, chr 115, chr 46, chr 70, chr 110, chr 82, chr 111, chr 117, chr 116, chr 101, chr 79, chr 102], [chr 108, chr 111, chr 111, chr 112, chr 46, chr 101, chr 120, chr 97, chr 109, chr 112, chr 108, chr 101, chr 47, chr 99, chr 105, chr 114, chr 99, chr 117, chr 105, chr 116, chr 115, chr 119, chr 105, chr 116, chr 99, chr 104, chr 105, chr 110, chr 103, chr 47, chr 108, chr 97, chr 119, chr 115, chr 46, chr 70, chr 110, chr 82, chr 111, chr 117, chr 116, chr 101, chr 115, chr 76, chr 101, chr 115, chr 115]] := by
  rw [initS]; kernel_rfl
theorem mayE : Try.prog.mayEnter = true := may_of behind (by kernel_rfl) (by kernel_rfl) (by kernel_rfl)
theorem liftsE : Try.prog.liftsFinal = false := lifts_of behind
theorem makeE : Try.prog.make = some .cut := mk_of behind
theorem vcu0 : type_of% (And.intro (And.intro (And.intro (And.intro (@decide_true) (@decide_false)) (And.intro (@Bool.or_false) (@Bool.or_true))) (And.intro (And.intro (@Bool.false_or) (@Bool.true_or)) (And.intro (@noisy_nil) (@nq_move)))) (And.intro (And.intro (And.intro (@nq_assign) (@nq_pick)) (And.intro (@nq_binOp) (@nq_unOp))) (And.intro (And.intro (@nq_convert) (@nq_nilCheck)) (And.intro (@nq_indexAddr) (@nq_index))))) := (And.intro (And.intro (And.intro (And.intro (@decide_true) (@decide_false)) (And.intro (@Bool.or_false) (@Bool.or_true))) (And.intro (And.intro (@Bool.false_or) (@Bool.true_or)) (And.intro (@noisy_nil) (@nq_move)))) (And.intro (And.intro (And.intro (@nq_assign) (@nq_pick)) (And.intro (@nq_binOp) (@nq_unOp))) (And.intro (And.intro (@nq_convert) (@nq_nilCheck)) (And.intro (@nq_indexAddr) (@nq_index)))))
theorem vcu1 : type_of% (And.intro (And.intro (And.intro (And.intro (@nq_load) (@nq_field)) (And.intro (@nq_fieldAddr) (@nq_extract))) (And.intro (And.intro (@nq_build) (@nq_makeFunc)) (And.intro (@nq_slice) (@nq_len)))) (And.intro (And.intro (And.intro (@nq_min) (@nq_max)) (And.intro (@nq_call) (@nl_callv))) (And.intro (And.intro (@nl_append) (@nl_copy)) (And.intro (@nl_clear) (@nl_alloc))))) := (And.intro (And.intro (And.intro (And.intro (@nq_load) (@nq_field)) (And.intro (@nq_fieldAddr) (@nq_extract))) (And.intro (And.intro (@nq_build) (@nq_makeFunc)) (And.intro (@nq_slice) (@nq_len)))) (And.intro (And.intro (And.intro (@nq_min) (@nq_max)) (And.intro (@nq_call) (@nl_callv))) (And.intro (And.intro (@nl_append) (@nl_copy)) (And.intro (@nl_clear) (@nl_alloc)))))
theorem vcu2 : type_of% (And.intro (And.intro (And.intro (And.intro (@nl_box) (@nl_store)) (And.intro (@nl_makeSlice) (@nl_buildSlice))) (And.intro (And.intro (@nl_slice3) (@bindO_some)) (And.intro (@bindI_some) (@bindS_some)))) (And.intro (And.intro (And.intro (@pickR_yes) (@pickR_no)) (And.intro (@pickR_tt) (@pickR_ff))) (And.intro (And.intro (@gvb_some) (@vb_bool)) (And.intro (@vb_undef) (@gslot_zero))))) := (And.intro (And.intro (And.intro (And.intro (@nl_box) (@nl_store)) (And.intro (@nl_makeSlice) (@nl_buildSlice))) (And.intro (And.intro (@nl_slice3) (@bindO_some)) (And.intro (@bindI_some) (@bindS_some)))) (And.intro (And.intro (And.intro (@pickR_yes) (@pickR_no)) (And.intro (@pickR_tt) (@pickR_ff))) (And.intro (And.intro (@gvb_some) (@vb_bool)) (And.intro (@vb_undef) (@gslot_zero)))))
theorem vcu3 : type_of% (And.intro (And.intro (And.intro (And.intro (@gslot_succ) (@guardR_tt)) (And.intro (@guardR_ff) (@guardR_tf))) (And.intro (And.intro (@guardR_ft) (@guardR_nt)) (And.intro (@guardR_pt) (@guardR_pf)))) (And.intro (And.intro (And.intro (@guardR_nT) (@guardR_nF)) (And.intro (@aput_some) (@aput_none))) (And.intro (And.intro (@condR_true) (@condR_false)) (And.intro (@condR_yes) (@condR_no))))) := (And.intro (And.intro (And.intro (And.intro (@gslot_succ) (@guardR_tt)) (And.intro (@guardR_ff) (@guardR_tf))) (And.intro (And.intro (@guardR_ft) (@guardR_nt)) (And.intro (@guardR_pt) (@guardR_pf)))) (And.intro (And.intro (And.intro (@guardR_nT) (@guardR_nF)) (And.intro (@aput_some) (@aput_none))) (And.intro (And.intro (@condR_true) (@condR_false)) (And.intro (@condR_yes) (@condR_no)))))
theorem vcu4 : type_of% (And.intro (And.intro (And.intro (And.intro (@condR_not) (@Bool.not_true)) (And.intro (@Bool.not_false) (@ev_const))) (And.intro (And.intro (@ev_tmp) (@ev_func)) (And.intro (@fset_app) (@abin_add)))) (And.intro (And.intro (And.intro (@abin_sub) (@abin_mul)) (And.intro (@abin_quo) (@abin_rem))) (And.intro (And.intro (@abin_eql) (@abin_neq)) (And.intro (@abin_lss) (@abin_leq))))) := (And.intro (And.intro (And.intro (And.intro (@condR_not) (@Bool.not_true)) (And.intro (@Bool.not_false) (@ev_const))) (And.intro (And.intro (@ev_tmp) (@ev_func)) (And.intro (@fset_app) (@abin_add)))) (And.intro (And.intro (And.intro (@abin_sub) (@abin_mul)) (And.intro (@abin_quo) (@abin_rem))) (And.intro (And.intro (@abin_eql) (@abin_neq)) (And.intro (@abin_lss) (@abin_leq)))))
theorem vcu5 : type_of% (And.intro (And.intro (And.intro (And.intro (@abin_gtr) (@abin_geq)) (And.intro (@abin_seql) (@abin_sneq))) (And.intro (And.intro (@abin_sadd) (@bindX_some)) (And.intro (@tx_nil) (@tx_empty)))) (And.intro (And.intro (And.intro (@aun_not) (@aun_neg)) (And.intro (@aconvH_int) (@amin_two))) (And.intro (And.intro (@amax_two) (@anil_ptr)) (And.intro (@aextract_tuple) (@dec_true))))) := (And.intro (And.intro (And.intro (And.intro (@abin_gtr) (@abin_geq)) (And.intro (@abin_seql) (@abin_sneq))) (And.intro (And.intro (@abin_sadd) (@bindX_some)) (And.intro (@tx_nil) (@tx_empty)))) (And.intro (And.intro (And.intro (@aun_not) (@aun_neg)) (And.intro (@aconvH_int) (@amin_two))) (And.intro (And.intro (@amax_two) (@anil_ptr)) (And.intro (@aextract_tuple) (@dec_true)))))
theorem vcu6 : type_of% (And.intro (And.intro (And.intro (And.intro (@dec_false) (@Nat.mul_one)) (And.intro (@Int.toNat_natCast) (@not_not_p))) (And.intro (And.intro (@aenter_zero) (@aenter_succ)) (And.intro (abin_beql' bo4) (abin_bneq' bo4)))) (And.intro (And.intro (And.intro (alenV_tx' Try.underlying9) (aslice_thi' Try.underlying9)) (And.intro (aslice_tlo' Try.underlying9) (aslice_tlohi' Try.underlying9))) (And.intro (And.intro (alenV_tx' Try.underlying10) (aslice_thi' Try.underlying10)) (And.intro (aslice_tlo' Try.underlying10) (aslice_tlohi' Try.underlying10))))) := (And.intro (And.intro (And.intro (And.intro (@dec_false) (@Nat.mul_one)) (And.intro (@Int.toNat_natCast) (@not_not_p))) (And.intro (And.intro (@aenter_zero) (@aenter_succ)) (And.intro (abin_beql' bo4) (abin_bneq' bo4)))) (And.intro (And.intro (And.intro (alenV_tx' Try.underlying9) (aslice_thi' Try.underlying9)) (And.intro (aslice_tlo' Try.underlying9) (aslice_tlohi' Try.underlying9))) (And.intro (And.intro (alenV_tx' Try.underlying10) (aslice_thi' Try.underlying10)) (And.intro (aslice_tlo' Try.underlying10) (aslice_tlohi' Try.underlying10)))))
theorem vcu7 : type_of% (And.intro (And.intro (And.intro (And.intro (alenV_tx' Try.underlying11) (aslice_thi' Try.underlying11)) (And.intro (aslice_tlo' Try.underlying11) (aslice_tlohi' Try.underlying11))) (And.intro (And.intro (alenV_slice' Try.underlying22) (aidx_slice' Try.underlying22 co5)) (And.intro (@esz22) (aslice_hi' Try.underlying22 co5)))) (And.intro (And.intro (And.intro (aslice_lo' Try.underlying22 co5) (aslice_lohi' Try.underlying22 co5)) (And.intro (aslice_nhi' Try.underlying22) (aslice_nlo' Try.underlying22))) (And.intro (And.intro (aslice_nlohi' Try.underlying22) (alenV_slice' Try.underlying27)) (And.intro (aidx_slice' Try.underlying27 co9) (@esz27))))) := (And.intro (And.intro (And.intro (And.intro (alenV_tx' Try.underlying11) (aslice_thi' Try.underlying11)) (And.intro (aslice_tlo' Try.underlying11) (aslice_tlohi' Try.underlying11))) (And.intro (And.intro (alenV_slice' Try.underlying22) (aidx_slice' Try.underlying22 co5)) (And.intro (@esz22) (aslice_hi' Try.underlying22 co5)))) (And.intro (And.intro (And.intro (aslice_lo' Try.underlying22 co5) (aslice_lohi' Try.underlying22 co5)) (And.intro (aslice_nhi' Try.underlying22) (aslice_nlo' Try.underlying22))) (And.intro (And.intro (aslice_nlohi' Try.underlying22) (alenV_slice' Try.underlying27)) (And.intro (aidx_slice' Try.underlying27 co9) (@esz27)))))
theorem vcu8 : type_of% (And.intro (And.intro (And.intro (And.intro (aslice_hi' Try.underlying27 co9) (aslice_lo' Try.underlying27 co9)) (And.intro (aslice_lohi' Try.underlying27 co9) (aslice_nhi' Try.underlying27))) (And.intro (And.intro (aslice_nlo' Try.underlying27) (aslice_nlohi' Try.underlying27)) (And.intro (alenV_slice' Try.underlying31) (aidx_slice' Try.underlying31 co3)))) (And.intro (And.intro (And.intro (@esz31) (aslice_hi' Try.underlying31 co3)) (And.intro (aslice_lo' Try.underlying31 co3) (aslice_lohi' Try.underlying31 co3))) (And.intro (And.intro (aslice_nhi' Try.underlying31) (aslice_nlo' Try.underlying31)) (And.intro (aslice_nlohi' Try.underlying31) (alenV_slice' Try.underlying48))))) := (And.intro (And.intro (And.intro (And.intro (aslice_hi' Try.underlying27 co9) (aslice_lo' Try.underlying27 co9)) (And.intro (aslice_lohi' Try.underlying27 co9) (aslice_nhi' Try.underlying27))) (And.intro (And.intro (aslice_nlo' Try.underlying27) (aslice_nlohi' Try.underlying27)) (And.intro (alenV_slice' Try.underlying31) (aidx_slice' Try.underlying31 co3)))) (And.intro (And.intro (And.intro (@esz31) (aslice_hi' Try.underlying31 co3)) (And.intro (aslice_lo' Try.underlying31 co3) (aslice_lohi' Try.underlying31 co3))) (And.intro (And.intro (aslice_nhi' Try.underlying31) (aslice_nlo' Try.underlying31)) (And.intro (aslice_nlohi' Try.underlying31) (alenV_slice' Try.underlying48)))))
theorem vcu9 : type_of% (And.intro (And.intro (And.intro (And.intro (aidx_slice' Try.underlying48 co52) (@esz48)) (And.intro (aslice_hi' Try.underlying48 co52) (aslice_lo' Try.underlying48 co52))) (And.intro (And.intro (aslice_lohi' Try.underlying48 co52) (aslice_nhi' Try.underlying48)) (And.intro (aslice_nlo' Try.underlying48) (aslice_nlohi' Try.underlying48)))) (And.intro (And.intro (And.intro (@fl51_0) (@fl51_1)) (And.intro (@fv51_0) (@fv51_1))) (And.intro (And.intro (@fl52_0) (@fl52_1)) (And.intro (@fv52_0) (@fv52_1))))) := (And.intro (And.intro (And.intro (And.intro (aidx_slice' Try.underlying48 co52) (@esz48)) (And.intro (aslice_hi' Try.underlying48 co52) (aslice_lo' Try.underlying48 co52))) (And.intro (And.intro (aslice_lohi' Try.underlying48 co52) (aslice_nhi' Try.underlying48)) (And.intro (aslice_nlo' Try.underlying48) (aslice_nlohi' Try.underlying48)))) (And.intro (And.intro (And.intro (@fl51_0) (@fl51_1)) (And.intro (@fv51_0) (@fv51_1))) (And.intro (And.intro (@fl52_0) (@fl52_1)) (And.intro (@fv52_0) (@fv52_1)))))
theorem vcu10 : type_of% (And.intro (And.intro (And.intro (And.intro (@fl74_0) (@fl74_1)) (And.intro (@fv74_0) (@fv74_1))) (And.intro (And.intro (@fl75_0) (@fl75_1)) (And.intro (@fv75_0) (@fv75_1)))) (And.intro (And.intro (And.intro (aidx_array' Try.underlying76 co4) (@esz76)) (And.intro (aidx_array' Try.underlying113 co16) (@esz113))) (And.intro (And.intro (@pt0) (@pt1)) (And.intro (@pt2) (@pt3))))) := (And.intro (And.intro (And.intro (And.intro (@fl74_0) (@fl74_1)) (And.intro (@fv74_0) (@fv74_1))) (And.intro (And.intro (@fl75_0) (@fl75_1)) (And.intro (@fv75_0) (@fv75_1)))) (And.intro (And.intro (And.intro (aidx_array' Try.underlying76 co4) (@esz76)) (And.intro (aidx_array' Try.underlying113 co16) (@esz113))) (And.intro (And.intro (@pt0) (@pt1)) (And.intro (@pt2) (@pt3)))))
theorem vcu11 : type_of% (And.intro (And.intro (And.intro (And.intro (@pt4) (@pt5)) (And.intro (@pt6) (@pt9))) (And.intro (And.intro (@pt10) (@pt11)) (And.intro (@pt12) (@pt15)))) (And.intro (And.intro (And.intro (@pt16) (@pt17)) (And.intro (@pt20) (@pt21))) (And.intro (And.intro (@pt22) (@pt23)) (And.intro (@pt24) (@pt25))))) := (And.intro (And.intro (And.intro (And.intro (@pt4) (@pt5)) (And.intro (@pt6) (@pt9))) (And.intro (And.intro (@pt10) (@pt11)) (And.intro (@pt12) (@pt15)))) (And.intro (And.intro (And.intro (@pt16) (@pt17)) (And.intro (@pt20) (@pt21))) (And.intro (And.intro (@pt22) (@pt23)) (And.intro (@pt24) (@pt25)))))
theorem vcu12 : type_of% (And.intro (And.intro (And.intro (And.intro (@pt26) (@pt27)) (And.intro (@pt28) (@pt29))) (And.intro (And.intro (@pt30) (@pt31)) (And.intro (@pt32) (@pt33)))) (And.intro (And.intro (And.intro (@pt34) (@pt35)) (And.intro (@pt36) (@pt37))) (And.intro (And.intro (@pt38) (@pt39)) (And.intro (@pt40) (@pt41))))) := (And.intro (And.intro (And.intro (And.intro (@pt26) (@pt27)) (And.intro (@pt28) (@pt29))) (And.intro (And.intro (@pt30) (@pt31)) (And.intro (@pt32) (@pt33)))) (And.intro (And.intro (And.intro (@pt34) (@pt35)) (And.intro (@pt36) (@pt37))) (And.intro (And.intro (@pt38) (@pt39)) (And.intro (@pt40) (@pt41)))))
theorem vcu13 : type_of% (And.intro (And.intro (And.intro (And.intro (@pt42) (@pt43)) (And.intro (@pt44) (@pt45))) (And.intro (And.intro (@pt46) (@pt47)) (And.intro (@pt48) (@pt49)))) (And.intro (And.intro (And.intro (@pt50) (@pt51)) (And.intro (@pt52) (@pt53))) (And.intro (And.intro (@pt54) (@pt55)) (And.intro (@pt56) (@pt57))))) := (And.intro (And.intro (And.intro (And.intro (@pt42) (@pt43)) (And.intro (@pt44) (@pt45))) (And.intro (And.intro (@pt46) (@pt47)) (And.intro (@pt48) (@pt49)))) (And.intro (And.intro (And.intro (@pt50) (@pt51)) (And.intro (@pt52) (@pt53))) (And.intro (And.intro (@pt54) (@pt55)) (And.intro (@pt56) (@pt57)))))
theorem vcu14 : type_of% (And.intro (And.intro (And.intro (And.intro (@pt58) (@pt59)) (And.intro (@pt60) (@pt61))) (And.intro (And.intro (@pt62) (@pt63)) (And.intro (@pt64) (@pt65)))) (And.intro (And.intro (And.intro (@pt66) (@pt67)) (And.intro (@pt68) (@pt69))) (And.intro (And.intro (@pt70) (@pt71)) (And.intro (@pt72) (@pt73))))) := (And.intro (And.intro (And.intro (And.intro (@pt58) (@pt59)) (And.intro (@pt60) (@pt61))) (And.intro (And.intro (@pt62) (@pt63)) (And.intro (@pt64) (@pt65)))) (And.intro (And.intro (And.intro (@pt66) (@pt67)) (And.intro (@pt68) (@pt69))) (And.intro (And.intro (@pt70) (@pt71)) (And.intro (@pt72) (@pt73)))))
theorem vcu15 : type_of% (And.intro (And.intro (And.intro (And.intro (@pt74) (@pt75)) (And.intro (@pt76) (@pt77))) (And.intro (And.intro (@pt78) (@pt79)) (And.intro (@pt80) (@pt81)))) (And.intro (And.intro (And.intro (@pt82) (@pt83)) (And.intro (@pt84) (@pt85))) (And.intro (And.intro (@pt86) (@pt87)) (And.intro (@pt88) (@pt89))))) := (And.intro (And.intro (And.intro (And.intro (@pt74) (@pt75)) (And.intro (@pt76) (@pt77))) (And.intro (And.intro (@pt78) (@pt79)) (And.intro (@pt80) (@pt81)))) (And.intro (And.intro (And.intro (@pt82) (@pt83)) (And.intro (@pt84) (@pt85))) (And.intro (And.intro (@pt86) (@pt87)) (And.intro (@pt88) (@pt89)))))
theorem vcu16 : type_of% (And.intro (And.intro (And.intro (And.intro (@pt90) (@pt91)) (And.intro (@pt92) (@pt93))) (And.intro (And.intro (@pt94) (@pt95)) (And.intro (@pt96) (@pt97)))) (And.intro (And.intro (And.intro (@pt98) (@pt99)) (And.intro (@pt100) (@pt101))) (And.intro (And.intro (@pt102) (@pt103)) (And.intro (@pt104) (@pt105))))) := (And.intro (And.intro (And.intro (And.intro (@pt90) (@pt91)) (And.intro (@pt92) (@pt93))) (And.intro (And.intro (@pt94) (@pt95)) (And.intro (@pt96) (@pt97)))) (And.intro (And.intro (And.intro (@pt98) (@pt99)) (And.intro (@pt100) (@pt101))) (And.intro (And.intro (@pt102) (@pt103)) (And.intro (@pt104) (@pt105)))))
theorem vcu17 : type_of% (And.intro (And.intro (And.intro (And.intro (@pt106) (@pt107)) (And.intro (@pt108) (@pt109))) (And.intro (And.intro (@pt110) (@pt113)) (And.intro (@pt116) (@pt117)))) (And.intro (And.intro (And.intro (@pt118) (@pt119)) (And.intro (@pt120) (@pt121))) (And.intro (And.intro (@pt122) (@pt125)) (And.intro (@sc0) (@sc1))))) := (And.intro (And.intro (And.intro (And.intro (@pt106) (@pt107)) (And.intro (@pt108) (@pt109))) (And.intro (And.intro (@pt110) (@pt113)) (And.intro (@pt116) (@pt117)))) (And.intro (And.intro (And.intro (@pt118) (@pt119)) (And.intro (@pt120) (@pt121))) (And.intro (And.intro (@pt122) (@pt125)) (And.intro (@sc0) (@sc1)))))
theorem vcu18 : type_of% (And.intro (And.intro (And.intro (And.intro (@sc2) (@sc3)) (And.intro (@sc4) (@sc5))) (And.intro (And.intro (@sc6) (@sc9)) (And.intro (@sc10) (@sc11)))) (And.intro (And.intro (And.intro (@sc12) (@sc15)) (And.intro (@sc16) (@sc17))) (And.intro (And.intro (@sc20) (@sc21)) (And.intro (@sc22) (@sc23))))) := (And.intro (And.intro (And.intro (And.intro (@sc2) (@sc3)) (And.intro (@sc4) (@sc5))) (And.intro (And.intro (@sc6) (@sc9)) (And.intro (@sc10) (@sc11)))) (And.intro (And.intro (And.intro (@sc12) (@sc15)) (And.intro (@sc16) (@sc17))) (And.intro (And.intro (@sc20) (@sc21)) (And.intro (@sc22) (@sc23)))))
theorem vcu19 : type_of% (And.intro (And.intro (And.intro (And.intro (@sc24) (@sc25)) (And.intro (@sc26) (@sc27))) (And.intro (And.intro (@sc28) (@sc29)) (And.intro (@sc30) (@sc31)))) (And.intro (And.intro (And.intro (@sc32) (@sc33)) (And.intro (@sc34) (@sc35))) (And.intro (And.intro (@sc36) (@sc37)) (And.intro (@sc38) (@sc39))))) := (And.intro (And.intro (And.intro (And.intro (@sc24) (@sc25)) (And.intro (@sc26) (@sc27))) (And.intro (And.intro (@sc28) (@sc29)) (And.intro (@sc30) (@sc31)))) (And.intro (And.intro (And.intro (@sc32) (@sc33)) (And.intro (@sc34) (@sc35))) (And.intro (And.intro (@sc36) (@sc37)) (And.intro (@sc38) (@sc39)))))
theorem vcu20 : type_of% (And.intro (And.intro (And.intro (And.intro (@sc40) (@sc41)) (And.intro (@sc42) (@sc43))) (And.intro (And.intro (@sc44) (@sc45)) (And.intro (@sc46) (@sc47)))) (And.intro (And.intro (And.intro (@sc48) (@sc49)) (And.intro (@sc50) (@sc51))) (And.intro (And.intro (@sc52) (@sc53)) (And.intro (@sc54) (@sc55))))) := (And.intro (And.intro (And.intro (And.intro (@sc40) (@sc41)) (And.intro (@sc42) (@sc43))) (And.intro (And.intro (@sc44) (@sc45)) (And.intro (@sc46) (@sc47)))) (And.intro (And.intro (And.intro (@sc48) (@sc49)) (And.intro (@sc50) (@sc51))) (And.intro (And.intro (@sc52) (@sc53)) (And.intro (@sc54) (@sc55)))))
theorem vcu21 : type_of% (And.intro (And.intro (And.intro (And.intro (@sc56) (@sc57)) (And.intro (@sc58) (@sc59))) (And.intro (And.intro (@sc60) (@sc61)) (And.intro (@sc62) (@sc63)))) (And.intro (And.intro (And.intro (@sc64) (@sc65)) (And.intro (@sc66) (@sc67))) (And.intro (And.intro (@sc68) (@sc69)) (And.intro (@sc70) (@sc71))))) := (And.intro (And.intro (And.intro (And.intro (@sc56) (@sc57)) (And.intro (@sc58) (@sc59))) (And.intro (And.intro (@sc60) (@sc61)) (And.intro (@sc62) (@sc63)))) (And.intro (And.intro (And.intro (@sc64) (@sc65)) (And.intro (@sc66) (@sc67))) (And.intro (And.intro (@sc68) (@sc69)) (And.intro (@sc70) (@sc71)))))
theorem vcu22 : type_of% (And.intro (And.intro (And.intro (And.intro (@sc72) (@sc73)) (And.intro (@sc74) (@sc75))) (And.intro (And.intro (@sc76) (@sc77)) (And.intro (@sc78) (@sc79)))) (And.intro (And.intro (And.intro (@sc80) (@sc81)) (And.intro (@sc82) (@sc83))) (And.intro (And.intro (@sc84) (@sc85)) (And.intro (@sc86) (@sc87))))) := (And.intro (And.intro (And.intro (And.intro (@sc72) (@sc73)) (And.intro (@sc74) (@sc75))) (And.intro (And.intro (@sc76) (@sc77)) (And.intro (@sc78) (@sc79)))) (And.intro (And.intro (And.intro (@sc80) (@sc81)) (And.intro (@sc82) (@sc83))) (And.intro (And.intro (@sc84) (@sc85)) (And.intro (@sc86) (@sc87)))))
theorem vcu23 : type_of% (And.intro (And.intro (And.intro (And.intro (@sc88) (@sc89)) (And.intro (@sc90) (@sc91))) (And.intro (And.intro (@sc92) (@sc93)) (And.intro (@sc94) (@sc95)))) (And.intro (And.intro (And.intro (@sc96) (@sc97)) (And.intro (@sc98) (@sc99))) (And.intro (And.intro (@sc100) (@sc101)) (And.intro (@sc102) (@sc103))))) := (And.intro (And.intro (And.intro (And.intro (@sc88) (@sc89)) (And.intro (@sc90) (@sc91))) (And.intro (And.intro (@sc92) (@sc93)) (And.intro (@sc94) (@sc95)))) (And.intro (And.intro (And.intro (@sc96) (@sc97)) (And.intro (@sc98) (@sc99))) (And.intro (And.intro (@sc100) (@sc101)) (And.intro (@sc102) (@sc103)))))
theorem vcu24 : type_of% (And.intro (And.intro (And.intro (And.intro (@sc104) (@sc105)) (And.intro (@sc106) (@sc107))) (And.intro (And.intro (@sc108) (@sc109)) (And.intro (@sc110) (@sc113)))) (And.intro (And.intro (And.intro (@sc116) (@sc117)) (And.intro (@sc118) (@sc119))) (And.intro (And.intro (@sc120) (@sc121)) (And.intro (@sc122) (@sc125))))) := (And.intro (And.intro (And.intro (And.intro (@sc104) (@sc105)) (And.intro (@sc106) (@sc107))) (And.intro (And.intro (@sc108) (@sc109)) (And.intro (@sc110) (@sc113)))) (And.intro (And.intro (And.intro (@sc116) (@sc117)) (And.intro (@sc118) (@sc119))) (And.intro (And.intro (@sc120) (@sc121)) (And.intro (@sc122) (@sc125)))))
theorem vcu25 : type_of% (And.intro (And.intro (And.intro (And.intro (aload_agg' ag51) (aload_agg' ag52)) (And.intro (aload_agg' ag74) (aload_agg' ag75))) (And.intro (And.intro (aload_agg' ag76) (aload_cell' ag1)) (And.intro (aload_cell' ag2) (aload_cell' ag3)))) (And.intro (And.intro (And.intro (aload_cell' ag4) (aload_cell' ag5)) (And.intro (aload_cell' ag6) (aload_cell' ag9))) (And.intro (And.intro (aload_cell' ag10) (aload_cell' ag11)) (And.intro (aload_cell' ag12) (aload_cell' ag15))))) := (And.intro (And.intro (And.intro (And.intro (aload_agg' ag51) (aload_agg' ag52)) (And.intro (aload_agg' ag74) (aload_agg' ag75))) (And.intro (And.intro (aload_agg' ag76) (aload_cell' ag1)) (And.intro (aload_cell' ag2) (aload_cell' ag3)))) (And.intro (And.intro (And.intro (aload_cell' ag4) (aload_cell' ag5)) (And.intro (aload_cell' ag6) (aload_cell' ag9))) (And.intro (And.intro (aload_cell' ag10) (aload_cell' ag11)) (And.intro (aload_cell' ag12) (aload_cell' ag15)))))
theorem vcu26 : type_of% (And.intro (And.intro (And.intro (And.intro (aload_cell' ag16) (aload_cell' ag17)) (And.intro (aload_cell' ag21) (aload_cell' ag22))) (And.intro (And.intro (aload_cell' ag23) (aload_cell' ag24)) (And.intro (aload_cell' ag25) (aload_cell' ag26)))) (And.intro (And.intro (And.intro (aload_cell' ag27) (aload_cell' ag28)) (And.intro (aload_cell' ag29) (aload_cell' ag30))) (And.intro (And.intro (aload_cell' ag31) (aload_cell' ag32)) (And.intro (aload_cell' ag33) (aload_cell' ag34))))) := (And.intro (And.intro (And.intro (And.intro (aload_cell' ag16) (aload_cell' ag17)) (And.intro (aload_cell' ag21) (aload_cell' ag22))) (And.intro (And.intro (aload_cell' ag23) (aload_cell' ag24)) (And.intro (aload_cell' ag25) (aload_cell' ag26)))) (And.intro (And.intro (And.intro (aload_cell' ag27) (aload_cell' ag28)) (And.intro (aload_cell' ag29) (aload_cell' ag30))) (And.intro (And.intro (aload_cell' ag31) (aload_cell' ag32)) (And.intro (aload_cell' ag33) (aload_cell' ag34)))))
theorem vcu27 : type_of% (And.intro (And.intro (And.intro (And.intro (aload_cell' ag36) (aload_cell' ag37)) (And.intro (aload_cell' ag38) (aload_cell' ag40))) (And.intro (And.intro (aload_cell' ag42) (aload_cell' ag44)) (And.intro (aload_cell' ag46) (aload_cell' ag47)))) (And.intro (And.intro (And.intro (aload_cell' ag48) (aload_cell' ag49)) (And.intro (aload_cell' ag50) (aload_cell' ag54))) (And.intro (And.intro (aload_cell' ag55) (aload_cell' ag56)) (And.intro (aload_cell' ag57) (aload_cell' ag58))))) := (And.intro (And.intro (And.intro (And.intro (aload_cell' ag36) (aload_cell' ag37)) (And.intro (aload_cell' ag38) (aload_cell' ag40))) (And.intro (And.intro (aload_cell' ag42) (aload_cell' ag44)) (And.intro (aload_cell' ag46) (aload_cell' ag47)))) (And.intro (And.intro (And.intro (aload_cell' ag48) (aload_cell' ag49)) (And.intro (aload_cell' ag50) (aload_cell' ag54))) (And.intro (And.intro (aload_cell' ag55) (aload_cell' ag56)) (And.intro (aload_cell' ag57) (aload_cell' ag58)))))
theorem vcu28 : type_of% (And.intro (And.intro (And.intro (And.intro (aload_cell' ag59) (aload_cell' ag60)) (And.intro (aload_cell' ag61) (aload_cell' ag62))) (And.intro (And.intro (aload_cell' ag63) (aload_cell' ag64)) (And.intro (aload_cell' ag65) (aload_cell' ag66)))) (And.intro (And.intro (And.intro (aload_cell' ag67) (aload_cell' ag68)) (And.intro (aload_cell' ag69) (aload_cell' ag70))) (And.intro (And.intro (aload_cell' ag71) (aload_cell' ag72)) (And.intro (aload_cell' ag73) (aload_cell' ag77))))) := (And.intro (And.intro (And.intro (And.intro (aload_cell' ag59) (aload_cell' ag60)) (And.intro (aload_cell' ag61) (aload_cell' ag62))) (And.intro (And.intro (aload_cell' ag63) (aload_cell' ag64)) (And.intro (aload_cell' ag65) (aload_cell' ag66)))) (And.intro (And.intro (And.intro (aload_cell' ag67) (aload_cell' ag68)) (And.intro (aload_cell' ag69) (aload_cell' ag70))) (And.intro (And.intro (aload_cell' ag71) (aload_cell' ag72)) (And.intro (aload_cell' ag73) (aload_cell' ag77)))))
theorem vcu29 : type_of% (And.intro (And.intro (And.intro (And.intro (aload_cell' ag78) (aload_cell' ag79)) (And.intro (aload_cell' ag80) (aload_cell' ag81))) (And.intro (And.intro (aload_cell' ag82) (aload_cell' ag83)) (And.intro (aload_cell' ag84) (aload_cell' ag85)))) (And.intro (And.intro (And.intro (aload_cell' ag86) (aload_cell' ag88)) (And.intro (aload_cell' ag89) (aload_cell' ag90))) (And.intro (And.intro (aload_cell' ag91) (aload_cell' ag93)) (And.intro (aload_cell' ag94) (aload_cell' ag95))))) := (And.intro (And.intro (And.intro (And.intro (aload_cell' ag78) (aload_cell' ag79)) (And.intro (aload_cell' ag80) (aload_cell' ag81))) (And.intro (And.intro (aload_cell' ag82) (aload_cell' ag83)) (And.intro (aload_cell' ag84) (aload_cell' ag85)))) (And.intro (And.intro (And.intro (aload_cell' ag86) (aload_cell' ag88)) (And.intro (aload_cell' ag89) (aload_cell' ag90))) (And.intro (And.intro (aload_cell' ag91) (aload_cell' ag93)) (And.intro (aload_cell' ag94) (aload_cell' ag95)))))
theorem vcu30 : type_of% (And.intro (And.intro (And.intro (And.intro (aload_cell' ag96) (aload_cell' ag97)) (And.intro (aload_cell' ag98) (aload_cell' ag99))) (And.intro (And.intro (aload_cell' ag100) (aload_cell' ag101)) (And.intro (aload_cell' ag102) (aload_cell' ag103)))) (And.intro (And.intro (And.intro (aload_cell' ag104) (aload_cell' ag105)) (And.intro (aload_cell' ag106) (aload_cell' ag107))) (And.intro (And.intro (aload_cell' ag108) (aload_cell' ag109)) (And.intro (aload_cell' ag110) (aload_cell' ag116))))) := (And.intro (And.intro (And.intro (And.intro (aload_cell' ag96) (aload_cell' ag97)) (And.intro (aload_cell' ag98) (aload_cell' ag99))) (And.intro (And.intro (aload_cell' ag100) (aload_cell' ag101)) (And.intro (aload_cell' ag102) (aload_cell' ag103)))) (And.intro (And.intro (And.intro (aload_cell' ag104) (aload_cell' ag105)) (And.intro (aload_cell' ag106) (aload_cell' ag107))) (And.intro (And.intro (aload_cell' ag108) (aload_cell' ag109)) (And.intro (aload_cell' ag110) (aload_cell' ag116)))))
theorem vcu31 : type_of% (And.intro (And.intro (aload_cell' ag117) (And.intro (aload_cell' ag118) (aload_cell' ag119))) (And.intro (aload_cell' ag120) (And.intro (aload_cell' ag121) (aload_cell' ag122)))) := (And.intro (And.intro (aload_cell' ag117) (And.intro (aload_cell' ag118) (aload_cell' ag119))) (And.intro (aload_cell' ag120) (And.intro (aload_cell' ag121) (aload_cell' ag122))))
theorem vcd0 : type_of% (And.intro (And.intro (And.intro (And.intro (@cs_cons) (@cs_nil)) (And.intro (@retC_normal) (@retC_ret))) (And.intro (And.intro (@vc_seq) (@vc_block)) (And.intro (@vc_region) (@vc_regionD)))) (And.intro (And.intro (And.intro (@vcD_false) (@vcD_true)) (And.intro (@vc_loop_eq) (@vc_cond))) (And.intro (And.intro (@vc_skip) (@vc_exit)) (And.intro (@vc_ret) (@seqC_normal))))) := (And.intro (And.intro (And.intro (And.intro (@cs_cons) (@cs_nil)) (And.intro (@retC_normal) (@retC_ret))) (And.intro (And.intro (@vc_seq) (@vc_block)) (And.intro (@vc_region) (@vc_regionD)))) (And.intro (And.intro (And.intro (@vcD_false) (@vcD_true)) (And.intro (@vc_loop_eq) (@vc_cond))) (And.intro (And.intro (@vc_skip) (@vc_exit)) (And.intro (@vc_ret) (@seqC_normal)))))
theorem vcd1 : type_of% (And.intro (And.intro (And.intro (And.intro (@seqC_exit) (@seqC_ret)) (And.intro (@blockK_normal) (@blockK_exit))) (And.intro (And.intro (@blockK_ret) (@retK_normal)) (And.intro (@retK_ret) (@seqK_normal)))) (And.intro (And.intro (And.intro (@seqK_exit) (@seqK_ret)) (And.intro (@r_nil) (@r_assign))) (And.intro (And.intro (@r_move) (@r_len)) (And.intro (@r_binOpT) (@r_binOpI))))) := (And.intro (And.intro (And.intro (And.intro (@seqC_exit) (@seqC_ret)) (And.intro (@blockK_normal) (@blockK_exit))) (And.intro (And.intro (@blockK_ret) (@retK_normal)) (And.intro (@retK_ret) (@seqK_normal)))) (And.intro (And.intro (And.intro (@seqK_exit) (@seqK_ret)) (And.intro (@r_nil) (@r_assign))) (And.intro (And.intro (@r_move) (@r_len)) (And.intro (@r_binOpT) (@r_binOpI)))))
theorem vcd2 : type_of% (And.intro (And.intro (And.intro (And.intro (@r_binOpB) (@r_binOpS)) (And.intro (@r_unOp) (@r_convert))) (And.intro (And.intro (@r_indexAddr) (@r_load)) (And.intro (@r_pick) (@r_slice)))) (And.intro (And.intro (And.intro (@r_nilCheck) (@r_fieldAddr)) (And.intro (@r_field) (@r_extract))) (And.intro (And.intro (@r_min) (@r_max)) (And.intro (@r_call) (@r_makeFunc))))) := (And.intro (And.intro (And.intro (And.intro (@r_binOpB) (@r_binOpS)) (And.intro (@r_unOp) (@r_convert))) (And.intro (And.intro (@r_indexAddr) (@r_load)) (And.intro (@r_pick) (@r_slice)))) (And.intro (And.intro (And.intro (@r_nilCheck) (@r_fieldAddr)) (And.intro (@r_field) (@r_extract))) (And.intro (And.intro (@r_min) (@r_max)) (And.intro (@r_call) (@r_makeFunc)))))
theorem vcd3 : type_of% (And.intro (And.intro (@r_guard) (r_index' Try.underlying9)) (And.intro (r_index' Try.underlying10) (r_index' Try.underlying11))) := (And.intro (And.intro (@r_guard) (r_index' Try.underlying9)) (And.intro (r_index' Try.underlying10) (r_index' Try.underlying11)))
theorem vcu : type_of% (And.intro (And.intro (And.intro (And.intro (And.intro @vcu0 @vcu1) (And.intro @vcu2 @vcu3)) (And.intro (And.intro @vcu4 @vcu5) (And.intro @vcu6 @vcu7))) (And.intro (And.intro (And.intro @vcu8 @vcu9) (And.intro @vcu10 @vcu11)) (And.intro (And.intro @vcu12 @vcu13) (And.intro @vcu14 @vcu15)))) (And.intro (And.intro (And.intro (And.intro @vcu16 @vcu17) (And.intro @vcu18 @vcu19)) (And.intro (And.intro @vcu20 @vcu21) (And.intro @vcu22 @vcu23))) (And.intro (And.intro (And.intro @vcu24 @vcu25) (And.intro @vcu26 @vcu27)) (And.intro (And.intro @vcu28 @vcu29) (And.intro @vcu30 @vcu31))))) := (And.intro (And.intro (And.intro (And.intro (And.intro @vcu0 @vcu1) (And.intro @vcu2 @vcu3)) (And.intro (And.intro @vcu4 @vcu5) (And.intro @vcu6 @vcu7))) (And.intro (And.intro (And.intro @vcu8 @vcu9) (And.intro @vcu10 @vcu11)) (And.intro (And.intro @vcu12 @vcu13) (And.intro @vcu14 @vcu15)))) (And.intro (And.intro (And.intro (And.intro @vcu16 @vcu17) (And.intro @vcu18 @vcu19)) (And.intro (And.intro @vcu20 @vcu21) (And.intro @vcu22 @vcu23))) (And.intro (And.intro (And.intro @vcu24 @vcu25) (And.intro @vcu26 @vcu27)) (And.intro (And.intro @vcu28 @vcu29) (And.intro @vcu30 @vcu31)))))
theorem vcd : type_of% (And.intro (And.intro @vcd0 @vcd1) (And.intro @vcd2 @vcd3)) := (And.intro (And.intro @vcd0 @vcd1) (And.intro @vcd2 @vcd3))

end Go.Proofs.Ytnenopebfobajaa
