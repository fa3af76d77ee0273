/- Closed facts on the program of this seat: sizes, kinds, the static look at each body. -/
import Derived.Test.YtdgbaglhhhbbhaaAbs
import Derived.Test.YtdgbaglhhhbbhaaRows
import Derived.KernelRfl
namespace Go.Proofs.Ytdgbaglhhhbbhaa
open Go Go.Abs

theorem mixed : Try.prog.follows .mixedOrders = true := by kernel_rfl
theorem own : ownKnob Try.prog.godebug = none := by kernel_rfl
theorem laidOut : laidOutB Try.prog = true := by kernel_rfl

theorem co1 : Try.prog.cellsOf 1 = 1 := by kernel_rfl
theorem ag1 : aisAgg Try.prog 1 = false := by kernel_rfl
theorem co2 : Try.prog.cellsOf 2 = 1 := by kernel_rfl
theorem ag2 : aisAgg Try.prog 2 = false := by kernel_rfl
theorem ze2 : azero Try.prog 2 = some (Value.int IntKind.i64 0) := by kernel_rfl
theorem co3 : Try.prog.cellsOf 3 = 1 := by kernel_rfl
theorem ag3 : aisAgg Try.prog 3 = false := by kernel_rfl
theorem ze3 : azero Try.prog 3 = some (Value.int IntKind.i64 0) := by kernel_rfl
theorem co4 : Try.prog.cellsOf 4 = 1 := by kernel_rfl
theorem ag4 : aisAgg Try.prog 4 = false := by kernel_rfl
theorem bo4 : isBool Try.prog 4 = true := by kernel_rfl
theorem ze4 : azero Try.prog 4 = some (Value.bool false) := by kernel_rfl
theorem co5 : Try.prog.cellsOf 5 = 1 := by kernel_rfl
theorem ag5 : aisAgg Try.prog 5 = false := by kernel_rfl
theorem ze5 : azero Try.prog 5 = some (Value.int IntKind.u8 0) := by kernel_rfl
theorem co6 : Try.prog.cellsOf 6 = 1 := by kernel_rfl
theorem ag6 : aisAgg Try.prog 6 = false := by kernel_rfl
theorem ze6 : azero Try.prog 6 = some (Value.int IntKind.u8 0) := by kernel_rfl
theorem co7 : Try.prog.cellsOf 7 = 4 := by kernel_rfl
theorem ag7 : aisAgg Try.prog 7 = true := by kernel_rfl
theorem ze7 : azero Try.prog 7 = some (Value.agg #[Value.int IntKind.i64 0, Value.int IntKind.i64 0, Value.bool false, Value.int IntKind.u8 0]) := by kernel_rfl
theorem fl7_0 {h b : Nat} : afield Try.prog 7 0 (.pointer (some ⟨h, b, none⟩)) = some (.pointer (some ⟨h, b + 0, none⟩)) := by simp [afield, Try.underlying7]
theorem fl7_1 {h b : Nat} : afield Try.prog 7 1 (.pointer (some ⟨h, b, none⟩)) = some (.pointer (some ⟨h, b + 1, none⟩)) := by simp [afield, Try.underlying7]
theorem fl7_2 {h b : Nat} : afield Try.prog 7 2 (.pointer (some ⟨h, b, none⟩)) = some (.pointer (some ⟨h, b + 2, none⟩)) := by simp [afield, Try.underlying7]
theorem fl7_3 {h b : Nat} : afield Try.prog 7 3 (.pointer (some ⟨h, b, none⟩)) = some (.pointer (some ⟨h, b + 3, none⟩)) := by simp [afield, Try.underlying7]
theorem co8 : Try.prog.cellsOf 8 = 4 := by kernel_rfl
theorem ag8 : aisAgg Try.prog 8 = true := by kernel_rfl
theorem ze8 : azero Try.prog 8 = some (Value.agg #[Value.int IntKind.i64 0, Value.int IntKind.i64 0, Value.bool false, Value.int IntKind.u8 0]) := by kernel_rfl
theorem fl8_0 {h b : Nat} : afield Try.prog 8 0 (.pointer (some ⟨h, b, none⟩)) = some (.pointer (some ⟨h, b + 0, none⟩)) := by simp [afield, Try.underlying8]
theorem fl8_1 {h b : Nat} : afield Try.prog 8 1 (.pointer (some ⟨h, b, none⟩)) = some (.pointer (some ⟨h, b + 1, none⟩)) := by simp [afield, Try.underlying8]
theorem fl8_2 {h b : Nat} : afield Try.prog 8 2 (.pointer (some ⟨h, b, none⟩)) = some (.pointer (some ⟨h, b + 2, none⟩)) := by simp [afield, Try.underlying8]
theorem fl8_3 {h b : Nat} : afield Try.prog 8 3 (.pointer (some ⟨h, b, none⟩)) = some (.pointer (some ⟨h, b + 3, none⟩)) := by simp [afield, Try.underlying8]
theorem co9 : Try.prog.cellsOf 9 = 1 := by kernel_rfl
theorem ag9 : aisAgg Try.prog 9 = false := by kernel_rfl
theorem co10 : Try.prog.cellsOf 10 = 1 := by kernel_rfl
theorem ag10 : aisAgg Try.prog 10 = false := by kernel_rfl
theorem co11 : Try.prog.cellsOf 11 = 1 := by kernel_rfl
theorem ag11 : aisAgg Try.prog 11 = false := by kernel_rfl
theorem co12 : Try.prog.cellsOf 12 = 1 := by kernel_rfl
theorem ag12 : aisAgg Try.prog 12 = false := by kernel_rfl
theorem ze12 : azero Try.prog 12 = some (Value.int IntKind.u64 0) := by kernel_rfl
theorem co13 : Try.prog.cellsOf 13 = 2 := by kernel_rfl
theorem ag13 : aisAgg Try.prog 13 = true := by kernel_rfl
theorem ze13 : azero Try.prog 13 = some (Value.agg #[Value.string { data := #[] }, Value.int IntKind.u64 0]) := by kernel_rfl
theorem fl13_0 {h b : Nat} : afield Try.prog 13 0 (.pointer (some ⟨h, b, none⟩)) = some (.pointer (some ⟨h, b + 0, none⟩)) := by simp [afield, Try.underlying13]
theorem fl13_1 {h b : Nat} : afield Try.prog 13 1 (.pointer (some ⟨h, b, none⟩)) = some (.pointer (some ⟨h, b + 1, none⟩)) := by simp [afield, Try.underlying13]
theorem co14 : Try.prog.cellsOf 14 = 2 := by kernel_rfl
theorem ag14 : aisAgg Try.prog 14 = true := by kernel_rfl
theorem ze14 : azero Try.prog 14 = some (Value.agg #[Value.string { data := #[] }, Value.int IntKind.u64 0]) := by kernel_rfl
theorem fl14_0 {h b : Nat} : afield Try.prog 14 0 (.pointer (some ⟨h, b, none⟩)) = some (.pointer (some ⟨h, b + 0, none⟩)) := by simp [afield, Try.underlying14]
theorem fl14_1 {h b : Nat} : afield Try.prog 14 1 (.pointer (some ⟨h, b, none⟩)) = some (.pointer (some ⟨h, b + 1, none⟩)) := by simp [afield, Try.underlying14]
theorem co15 : Try.prog.cellsOf 15 = 1 := by kernel_rfl
theorem ag15 : aisAgg Try.prog 15 = false := by kernel_rfl
theorem co16 : Try.prog.cellsOf 16 = 1 := by kernel_rfl
theorem ag16 : aisAgg Try.prog 16 = false := by kernel_rfl
theorem co17 : Try.prog.cellsOf 17 = 1 := by kernel_rfl
theorem ag17 : aisAgg Try.prog 17 = false := by kernel_rfl
theorem co18 : Try.prog.cellsOf 18 = 1 := by kernel_rfl
theorem ag18 : aisAgg Try.prog 18 = true := by kernel_rfl
theorem ze18 : azero Try.prog 18 = some (Value.agg #[Value.pointer none]) := by kernel_rfl
theorem fl18_0 {h b : Nat} : afield Try.prog 18 0 (.pointer (some ⟨h, b, none⟩)) = some (.pointer (some ⟨h, b + 0, none⟩)) := by simp [afield, Try.underlying18]
theorem co19 : Try.prog.cellsOf 19 = 1 := by kernel_rfl
theorem ag19 : aisAgg Try.prog 19 = true := by kernel_rfl
theorem ze19 : azero Try.prog 19 = some (Value.agg #[Value.pointer none]) := by kernel_rfl
theorem fl19_0 {h b : Nat} : afield Try.prog 19 0 (.pointer (some ⟨h, b, none⟩)) = some (.pointer (some ⟨h, b + 0, none⟩)) := by simp [afield, Try.underlying19]
theorem co21 : Try.prog.cellsOf 21 = 1 := by kernel_rfl
theorem ag21 : aisAgg Try.prog 21 = false := by kernel_rfl
theorem ze21 : azero Try.prog 21 = some (Value.int IntKind.i32 0) := by kernel_rfl
theorem co22 : Try.prog.cellsOf 22 = 1 := by kernel_rfl
theorem ag22 : aisAgg Try.prog 22 = false := by kernel_rfl
theorem esz22 : aesz Try.prog 22 = 1 := by kernel_rfl
theorem ze22 : azero Try.prog 22 = some (Value.slice none 0 0) := by kernel_rfl
theorem co23 : Try.prog.cellsOf 23 = 1 := by kernel_rfl
theorem ag23 : aisAgg Try.prog 23 = false := by kernel_rfl
theorem esz23 : aesz Try.prog 23 = 1 := by kernel_rfl
theorem ze23 : azero Try.prog 23 = some (Value.slice none 0 0) := by kernel_rfl
theorem co24 : Try.prog.cellsOf 24 = 1 := by kernel_rfl
theorem ag24 : aisAgg Try.prog 24 = false := by kernel_rfl
theorem co25 : Try.prog.cellsOf 25 = 1 := by kernel_rfl
theorem ag25 : aisAgg Try.prog 25 = false := by kernel_rfl
theorem co26 : Try.prog.cellsOf 26 = 1 := by kernel_rfl
theorem ag26 : aisAgg Try.prog 26 = false := by kernel_rfl
theorem co27 : Try.prog.cellsOf 27 = 1 := by kernel_rfl
theorem ag27 : aisAgg Try.prog 27 = false := by kernel_rfl
theorem co28 : Try.prog.cellsOf 28 = 1 := by kernel_rfl
theorem ag28 : aisAgg Try.prog 28 = false := by kernel_rfl
theorem co29 : Try.prog.cellsOf 29 = 1 := by kernel_rfl
theorem ag29 : aisAgg Try.prog 29 = false := by kernel_rfl
theorem co30 : Try.prog.cellsOf 30 = 1 := by kernel_rfl
theorem ag30 : aisAgg Try.prog 30 = false := by kernel_rfl
theorem co31 : Try.prog.cellsOf 31 = 1 := by kernel_rfl
theorem ag31 : aisAgg Try.prog 31 = false := by kernel_rfl
theorem co33 : Try.prog.cellsOf 33 = 1 := by kernel_rfl
theorem ag33 : aisAgg Try.prog 33 = false := by kernel_rfl
theorem co34 : Try.prog.cellsOf 34 = 1 := by kernel_rfl
theorem ag34 : aisAgg Try.prog 34 = false := by kernel_rfl
theorem co35 : Try.prog.cellsOf 35 = 1 := by kernel_rfl
theorem ag35 : aisAgg Try.prog 35 = false := by kernel_rfl
theorem co37 : Try.prog.cellsOf 37 = 1 := by kernel_rfl
theorem ag37 : aisAgg Try.prog 37 = false := by kernel_rfl
theorem co39 : Try.prog.cellsOf 39 = 1 := by kernel_rfl
theorem ag39 : aisAgg Try.prog 39 = false := by kernel_rfl
theorem co40 : Try.prog.cellsOf 40 = 1 := by kernel_rfl
theorem ag40 : aisAgg Try.prog 40 = false := by kernel_rfl
theorem co41 : Try.prog.cellsOf 41 = 1 := by kernel_rfl
theorem ag41 : aisAgg Try.prog 41 = false := by kernel_rfl
theorem co42 : Try.prog.cellsOf 42 = 1 := by kernel_rfl
theorem ag42 : aisAgg Try.prog 42 = false := by kernel_rfl
theorem co43 : Try.prog.cellsOf 43 = 1 := by kernel_rfl
theorem ag43 : aisAgg Try.prog 43 = false := by kernel_rfl
theorem co44 : Try.prog.cellsOf 44 = 1 := by kernel_rfl
theorem ag44 : aisAgg Try.prog 44 = false := by kernel_rfl
theorem co45 : Try.prog.cellsOf 45 = 6 := by kernel_rfl
theorem ag45 : aisAgg Try.prog 45 = true := by kernel_rfl
theorem esz45 : aesz Try.prog 45 = 1 := by kernel_rfl
theorem ze45 : azero Try.prog 45 = some (Value.agg #[Value.bool false, Value.bool false, Value.bool false, Value.bool false, Value.bool false, Value.bool false]) := by kernel_rfl
theorem co46 : Try.prog.cellsOf 46 = 1 := by kernel_rfl
theorem ag46 : aisAgg Try.prog 46 = false := by kernel_rfl
theorem co47 : Try.prog.cellsOf 47 = 1 := by kernel_rfl
theorem ag47 : aisAgg Try.prog 47 = false := by kernel_rfl
theorem co48 : Try.prog.cellsOf 48 = 1 := by kernel_rfl
theorem ag48 : aisAgg Try.prog 48 = false := by kernel_rfl
theorem co49 : Try.prog.cellsOf 49 = 1 := by kernel_rfl
theorem ag49 : aisAgg Try.prog 49 = false := by kernel_rfl
theorem co50 : Try.prog.cellsOf 50 = 2 := by kernel_rfl
theorem ag50 : aisAgg Try.prog 50 = true := by kernel_rfl
theorem ze50 : azero Try.prog 50 = some (Value.agg #[Value.slice none 0 0, Value.int IntKind.i64 0]) := by kernel_rfl
theorem fl50_0 {h b : Nat} : afield Try.prog 50 0 (.pointer (some ⟨h, b, none⟩)) = some (.pointer (some ⟨h, b + 0, none⟩)) := by simp [afield, Try.underlying50]
theorem fl50_1 {h b : Nat} : afield Try.prog 50 1 (.pointer (some ⟨h, b, none⟩)) = some (.pointer (some ⟨h, b + 1, none⟩)) := by simp [afield, Try.underlying50]
theorem co51 : Try.prog.cellsOf 51 = 2 := by kernel_rfl
theorem ag51 : aisAgg Try.prog 51 = true := by kernel_rfl
theorem ze51 : azero Try.prog 51 = some (Value.agg #[Value.slice none 0 0, Value.int IntKind.i64 0]) := by kernel_rfl
theorem fl51_0 {h b : Nat} : afield Try.prog 51 0 (.pointer (some ⟨h, b, none⟩)) = some (.pointer (some ⟨h, b + 0, none⟩)) := by simp [afield, Try.underlying51]
theorem fl51_1 {h b : Nat} : afield Try.prog 51 1 (.pointer (some ⟨h, b, none⟩)) = some (.pointer (some ⟨h, b + 1, none⟩)) := by simp [afield, Try.underlying51]
theorem co52 : Try.prog.cellsOf 52 = 1 := by kernel_rfl
theorem ag52 : aisAgg Try.prog 52 = false := by kernel_rfl
theorem co53 : Try.prog.cellsOf 53 = 4 := by kernel_rfl
theorem ag53 : aisAgg Try.prog 53 = true := by kernel_rfl
theorem ze53 : azero Try.prog 53 = some (Value.agg #[Value.pointer none, Value.pointer none, Value.pointer none, Value.string { data := #[] }]) := by kernel_rfl
theorem fl53_0 {h b : Nat} : afield Try.prog 53 0 (.pointer (some ⟨h, b, none⟩)) = some (.pointer (some ⟨h, b + 0, none⟩)) := by simp [afield, Try.underlying53]
theorem fl53_1 {h b : Nat} : afield Try.prog 53 1 (.pointer (some ⟨h, b, none⟩)) = some (.pointer (some ⟨h, b + 1, none⟩)) := by simp [afield, Try.underlying53]
theorem fl53_2 {h b : Nat} : afield Try.prog 53 2 (.pointer (some ⟨h, b, none⟩)) = some (.pointer (some ⟨h, b + 2, none⟩)) := by simp [afield, Try.underlying53]
theorem fl53_3 {h b : Nat} : afield Try.prog 53 3 (.pointer (some ⟨h, b, none⟩)) = some (.pointer (some ⟨h, b + 3, none⟩)) := by simp [afield, Try.underlying53]
theorem co54 : Try.prog.cellsOf 54 = 4 := by kernel_rfl
theorem ag54 : aisAgg Try.prog 54 = true := by kernel_rfl
theorem ze54 : azero Try.prog 54 = some (Value.agg #[Value.pointer none, Value.pointer none, Value.pointer none, Value.string { data := #[] }]) := by kernel_rfl
theorem fl54_0 {h b : Nat} : afield Try.prog 54 0 (.pointer (some ⟨h, b, none⟩)) = some (.pointer (some ⟨h, b + 0, none⟩)) := by simp [afield, Try.underlying54]
theorem fl54_1 {h b : Nat} : afield Try.prog 54 1 (.pointer (some ⟨h, b, none⟩)) = some (.pointer (some ⟨h, b + 1, none⟩)) := by simp [afield, Try.underlying54]
theorem fl54_2 {h b : Nat} : afield Try.prog 54 2 (.pointer (some ⟨h, b, none⟩)) = some (.pointer (some ⟨h, b + 2, none⟩)) := by simp [afield, Try.underlying54]
theorem fl54_3 {h b : Nat} : afield Try.prog 54 3 (.pointer (some ⟨h, b, none⟩)) = some (.pointer (some ⟨h, b + 3, none⟩)) := by simp [afield, Try.underlying54]
theorem co55 : Try.prog.cellsOf 55 = 0 := by kernel_rfl
theorem ag55 : aisAgg Try.prog 55 = true := by kernel_rfl
theorem esz55 : aesz Try.prog 55 = 1 := by kernel_rfl
theorem ze55 : azero Try.prog 55 = some (Value.agg #[]) := by kernel_rfl
theorem co56 : Try.prog.cellsOf 56 = 0 := by kernel_rfl
theorem ag56 : aisAgg Try.prog 56 = true := by kernel_rfl
theorem ze56 : azero Try.prog 56 = some (Value.agg #[]) := by kernel_rfl
theorem fl56_0 {h b : Nat} : afield Try.prog 56 0 (.pointer (some ⟨h, b, none⟩)) = some (.pointer (some ⟨h, b + 0, none⟩)) := by simp [afield, Try.underlying56]
theorem co57 : Try.prog.cellsOf 57 = 0 := by kernel_rfl
theorem ag57 : aisAgg Try.prog 57 = true := by kernel_rfl
theorem ze57 : azero Try.prog 57 = some (Value.agg #[]) := by kernel_rfl
theorem fl57_0 {h b : Nat} : afield Try.prog 57 0 (.pointer (some ⟨h, b, none⟩)) = some (.pointer (some ⟨h, b + 0, none⟩)) := by simp [afield, Try.underlying57]
theorem co58 : Try.prog.cellsOf 58 = 1 := by kernel_rfl
theorem ag58 : aisAgg Try.prog 58 = false := by kernel_rfl
theorem co59 : Try.prog.cellsOf 59 = 1 := by kernel_rfl
theorem ag59 : aisAgg Try.prog 59 = false := by kernel_rfl
theorem ze59 : azero Try.prog 59 = some (Value.int IntKind.u32 0) := by kernel_rfl
theorem co60 : Try.prog.cellsOf 60 = 1 := by kernel_rfl
theorem ag60 : aisAgg Try.prog 60 = false := by kernel_rfl
theorem ze60 : azero Try.prog 60 = some (Value.int IntKind.u8 0) := by kernel_rfl
theorem co61 : Try.prog.cellsOf 61 = 1 := by kernel_rfl
theorem ag61 : aisAgg Try.prog 61 = false := by kernel_rfl
theorem ze61 : azero Try.prog 61 = some (Value.int IntKind.u8 0) := by kernel_rfl
theorem co62 : Try.prog.cellsOf 62 = 1 := by kernel_rfl
theorem ag62 : aisAgg Try.prog 62 = false := by kernel_rfl
theorem co63 : Try.prog.cellsOf 63 = 1 := by kernel_rfl
theorem ag63 : aisAgg Try.prog 63 = false := by kernel_rfl
theorem co64 : Try.prog.cellsOf 64 = 1 := by kernel_rfl
theorem ag64 : aisAgg Try.prog 64 = false := by kernel_rfl
theorem ze64 : azero Try.prog 64 = some (Value.int IntKind.i32 0) := by kernel_rfl
theorem co65 : Try.prog.cellsOf 65 = 1 := by kernel_rfl
theorem ag65 : aisAgg Try.prog 65 = false := by kernel_rfl
theorem ze65 : azero Try.prog 65 = some (Value.int IntKind.i32 0) := by kernel_rfl
theorem co66 : Try.prog.cellsOf 66 = 11 := by kernel_rfl
theorem ag66 : aisAgg Try.prog 66 = true := by kernel_rfl
theorem ze66 : azero Try.prog 66 = some (Value.agg #[Value.int IntKind.u64 0, Value.int IntKind.u64 0, Value.int IntKind.u32 0, Value.int IntKind.u8 0, Value.int IntKind.u8 0, Value.int IntKind.u8 0, Value.int IntKind.u8 0, Value.nilFunc, Value.pointer none, Value.int IntKind.i32 0, Value.int IntKind.i32 0]) := by kernel_rfl
theorem fl66_0 {h b : Nat} : afield Try.prog 66 0 (.pointer (some ⟨h, b, none⟩)) = some (.pointer (some ⟨h, b + 0, none⟩)) := by simp [afield, Try.underlying66]
theorem fl66_1 {h b : Nat} : afield Try.prog 66 1 (.pointer (some ⟨h, b, none⟩)) = some (.pointer (some ⟨h, b + 1, none⟩)) := by simp [afield, Try.underlying66]
theorem fl66_2 {h b : Nat} : afield Try.prog 66 2 (.pointer (some ⟨h, b, none⟩)) = some (.pointer (some ⟨h, b + 2, none⟩)) := by simp [afield, Try.underlying66]
theorem fl66_3 {h b : Nat} : afield Try.prog 66 3 (.pointer (some ⟨h, b, none⟩)) = some (.pointer (some ⟨h, b + 3, none⟩)) := by simp [afield, Try.underlying66]
theorem fl66_4 {h b : Nat} : afield Try.prog 66 4 (.pointer (some ⟨h, b, none⟩)) = some (.pointer (some ⟨h, b + 4, none⟩)) := by simp [afield, Try.underlying66]
theorem fl66_5 {h b : Nat} : afield Try.prog 66 5 (.pointer (some ⟨h, b, none⟩)) = some (.pointer (some ⟨h, b + 5, none⟩)) := by simp [afield, Try.underlying66]
theorem fl66_6 {h b : Nat} : afield Try.prog 66 6 (.pointer (some ⟨h, b, none⟩)) = some (.pointer (some ⟨h, b + 6, none⟩)) := by simp [afield, Try.underlying66]
theorem fl66_7 {h b : Nat} : afield Try.prog 66 7 (.pointer (some ⟨h, b, none⟩)) = some (.pointer (some ⟨h, b + 7, none⟩)) := by simp [afield, Try.underlying66]
theorem fl66_8 {h b : Nat} : afield Try.prog 66 8 (.pointer (some ⟨h, b, none⟩)) = some (.pointer (some ⟨h, b + 8, none⟩)) := by simp [afield, Try.underlying66]
theorem fl66_9 {h b : Nat} : afield Try.prog 66 9 (.pointer (some ⟨h, b, none⟩)) = some (.pointer (some ⟨h, b + 9, none⟩)) := by simp [afield, Try.underlying66]
theorem fl66_10 {h b : Nat} : afield Try.prog 66 10 (.pointer (some ⟨h, b, none⟩)) = some (.pointer (some ⟨h, b + 10, none⟩)) := by simp [afield, Try.underlying66]
theorem co67 : Try.prog.cellsOf 67 = 11 := by kernel_rfl
theorem ag67 : aisAgg Try.prog 67 = true := by kernel_rfl
theorem ze67 : azero Try.prog 67 = some (Value.agg #[Value.int IntKind.u64 0, Value.int IntKind.u64 0, Value.int IntKind.u32 0, Value.int IntKind.u8 0, Value.int IntKind.u8 0, Value.int IntKind.u8 0, Value.int IntKind.u8 0, Value.nilFunc, Value.pointer none, Value.int IntKind.i32 0, Value.int IntKind.i32 0]) := by kernel_rfl
theorem fl67_0 {h b : Nat} : afield Try.prog 67 0 (.pointer (some ⟨h, b, none⟩)) = some (.pointer (some ⟨h, b + 0, none⟩)) := by simp [afield, Try.underlying67]
theorem fl67_1 {h b : Nat} : afield Try.prog 67 1 (.pointer (some ⟨h, b, none⟩)) = some (.pointer (some ⟨h, b + 1, none⟩)) := by simp [afield, Try.underlying67]
theorem fl67_2 {h b : Nat} : afield Try.prog 67 2 (.pointer (some ⟨h, b, none⟩)) = some (.pointer (some ⟨h, b + 2, none⟩)) := by simp [afield, Try.underlying67]
theorem fl67_3 {h b : Nat} : afield Try.prog 67 3 (.pointer (some ⟨h, b, none⟩)) = some (.pointer (some ⟨h, b + 3, none⟩)) := by simp [afield, Try.underlying67]
theorem fl67_4 {h b : Nat} : afield Try.prog 67 4 (.pointer (some ⟨h, b, none⟩)) = some (.pointer (some ⟨h, b + 4, none⟩)) := by simp [afield, Try.underlying67]
theorem fl67_5 {h b : Nat} : afield Try.prog 67 5 (.pointer (some ⟨h, b, none⟩)) = some (.pointer (some ⟨h, b + 5, none⟩)) := by simp [afield, Try.underlying67]
theorem fl67_6 {h b : Nat} : afield Try.prog 67 6 (.pointer (some ⟨h, b, none⟩)) = some (.pointer (some ⟨h, b + 6, none⟩)) := by simp [afield, Try.underlying67]
theorem fl67_7 {h b : Nat} : afield Try.prog 67 7 (.pointer (some ⟨h, b, none⟩)) = some (.pointer (some ⟨h, b + 7, none⟩)) := by simp [afield, Try.underlying67]
theorem fl67_8 {h b : Nat} : afield Try.prog 67 8 (.pointer (some ⟨h, b, none⟩)) = some (.pointer (some ⟨h, b + 8, none⟩)) := by simp [afield, Try.underlying67]
theorem fl67_9 {h b : Nat} : afield Try.prog 67 9 (.pointer (some ⟨h, b, none⟩)) = some (.pointer (some ⟨h, b + 9, none⟩)) := by simp [afield, Try.underlying67]
theorem fl67_10 {h b : Nat} : afield Try.prog 67 10 (.pointer (some ⟨h, b, none⟩)) = some (.pointer (some ⟨h, b + 10, none⟩)) := by simp [afield, Try.underlying67]
theorem good3 : (callable Try.prog 3 && tmpsOnly Try.f3 && decide (1 ≤ Try.f3.ntmps) && (match Try.f3.body with | some c => goodC Try.prog Try.f3.ntmps c | none => false)) = true := by kernel_rfl
theorem good4 : (callable Try.prog 4 && tmpsOnly Try.f4 && decide (1 ≤ Try.f4.ntmps) && (match Try.f4.body with | some c => goodC Try.prog Try.f4.ntmps c | none => false)) = true := by kernel_rfl
theorem good5 : (callable Try.prog 5 && tmpsOnly Try.f5 && decide (2 ≤ Try.f5.ntmps) && (match Try.f5.body with | some c => goodC Try.prog Try.f5.ntmps c | none => false)) = true := by kernel_rfl
theorem good6 : (callable Try.prog 6 && tmpsOnly Try.f6 && decide (1 ≤ Try.f6.ntmps) && (match Try.f6.body with | some c => goodC Try.prog Try.f6.ntmps c | none => false)) = true := by kernel_rfl
theorem good7 : (callable Try.prog 7 && tmpsOnly Try.f7 && decide (1 ≤ Try.f7.ntmps) && (match Try.f7.body with | some c => goodC Try.prog Try.f7.ntmps c | none => false)) = true := by kernel_rfl
theorem good8 : (callable Try.prog 8 && tmpsOnly Try.f8 && decide (1 ≤ Try.f8.ntmps) && (match Try.f8.body with | some c => goodC Try.prog Try.f8.ntmps c | none => false)) = true := by kernel_rfl
theorem good9 : (callable Try.prog 9 && tmpsOnly Try.f9 && decide (1 ≤ Try.f9.ntmps) && (match Try.f9.body with | some c => goodC Try.prog Try.f9.ntmps c | none => false)) = true := by kernel_rfl
theorem good10 : (callable Try.prog 10 && tmpsOnly Try.f10 && decide (1 ≤ Try.f10.ntmps) && (match Try.f10.body with | some c => goodC Try.prog Try.f10.ntmps c | none => false)) = true := by kernel_rfl
theorem good11 : (callable Try.prog 11 && tmpsOnly Try.f11 && decide (1 ≤ Try.f11.ntmps) && (match Try.f11.body with | some c => goodC Try.prog Try.f11.ntmps c | none => false)) = true := by kernel_rfl
theorem good12 : (callable Try.prog 12 && tmpsOnly Try.f12 && decide (1 ≤ Try.f12.ntmps) && (match Try.f12.body with | some c => goodC Try.prog Try.f12.ntmps c | none => false)) = true := by kernel_rfl
theorem good13 : (callable Try.prog 13 && tmpsOnly Try.f13 && decide (2 ≤ Try.f13.ntmps) && (match Try.f13.body with | some c => goodC Try.prog Try.f13.ntmps c | none => false)) = true := by kernel_rfl
theorem good14 : (callable Try.prog 14 && tmpsOnly Try.f14 && decide (1 ≤ Try.f14.ntmps) && (match Try.f14.body with | some c => goodC Try.prog Try.f14.ntmps c | none => false)) = true := by kernel_rfl
theorem good15 : (callable Try.prog 15 && tmpsOnly Try.f15 && decide (1 ≤ Try.f15.ntmps) && (match Try.f15.body with | some c => goodC Try.prog Try.f15.ntmps c | none => false)) = true := by kernel_rfl
theorem good16 : (callable Try.prog 16 && tmpsOnly Try.f16 && decide (1 ≤ Try.f16.ntmps) && (match Try.f16.body with | some c => goodC Try.prog Try.f16.ntmps c | none => false)) = true := by kernel_rfl
theorem good17 : (callable Try.prog 17 && tmpsOnly Try.f17 && decide (1 ≤ Try.f17.ntmps) && (match Try.f17.body with | some c => goodC Try.prog Try.f17.ntmps c | none => false)) = true := by kernel_rfl
theorem good18 : (callable Try.prog 18 && tmpsOnly Try.f18 && decide (2 ≤ Try.f18.ntmps) && (match Try.f18.body with | some c => goodC Try.prog Try.f18.ntmps c | none => false)) = true := by kernel_rfl
theorem good19 : (callable Try.prog 19 && tmpsOnly Try.f19 && decide (1 ≤ Try.f19.ntmps) && (match Try.f19.body with | some c => goodC Try.prog Try.f19.ntmps c | none => false)) = true := by kernel_rfl
theorem good20 : (callable Try.prog 20 && tmpsOnly Try.f20 && decide (1 ≤ Try.f20.ntmps) && (match Try.f20.body with | some c => goodC Try.prog Try.f20.ntmps c | none => false)) = true := by kernel_rfl
theorem good21 : (callable Try.prog 21 && tmpsOnly Try.f21 && decide (1 ≤ Try.f21.ntmps) && (match Try.f21.body with | some c => goodC Try.prog Try.f21.ntmps c | none => false)) = true := by kernel_rfl
theorem good22 : (callable Try.prog 22 && tmpsOnly Try.f22 && decide (0 ≤ Try.f22.ntmps) && (match Try.f22.body with | some c => goodC Try.prog Try.f22.ntmps c | none => false)) = true := by kernel_rfl
theorem good23 : (callable Try.prog 23 && tmpsOnly Try.f23 && decide (3 ≤ Try.f23.ntmps) && (match Try.f23.body with | some c => goodC Try.prog Try.f23.ntmps c | none => false)) = true := by kernel_rfl
theorem good24 : (callable Try.prog 24 && tmpsOnly Try.f24 && decide (1 ≤ Try.f24.ntmps) && (match Try.f24.body with | some c => goodC Try.prog Try.f24.ntmps c | none => false)) = true := by kernel_rfl
theorem good25 : (callable Try.prog 25 && tmpsOnly Try.f25 && decide (1 ≤ Try.f25.ntmps) && (match Try.f25.body with | some c => goodC Try.prog Try.f25.ntmps c | none => false)) = true := by kernel_rfl
theorem good26 : (callable Try.prog 26 && tmpsOnly Try.f26 && decide (2 ≤ Try.f26.ntmps) && (match Try.f26.body with | some c => goodC Try.prog Try.f26.ntmps c | none => false)) = true := by kernel_rfl
theorem good27 : (callable Try.prog 27 && tmpsOnly Try.f27 && decide (1 ≤ Try.f27.ntmps) && (match Try.f27.body with | some c => goodC Try.prog Try.f27.ntmps c | none => false)) = true := by kernel_rfl
theorem good28 : (callable Try.prog 28 && tmpsOnly Try.f28 && decide (2 ≤ Try.f28.ntmps) && (match Try.f28.body with | some c => goodC Try.prog Try.f28.ntmps c | none => false)) = true := by kernel_rfl
theorem good29 : (callable Try.prog 29 && tmpsOnly Try.f29 && decide (1 ≤ Try.f29.ntmps) && (match Try.f29.body with | some c => goodC Try.prog Try.f29.ntmps c | none => false)) = true := by kernel_rfl
theorem good30 : (callable Try.prog 30 && tmpsOnly Try.f30 && decide (2 ≤ Try.f30.ntmps) && (match Try.f30.body with | some c => goodC Try.prog Try.f30.ntmps c | none => false)) = true := by kernel_rfl
theorem good31 : (callable Try.prog 31 && tmpsOnly Try.f31 && decide (1 ≤ Try.f31.ntmps) && (match Try.f31.body with | some c => goodC Try.prog Try.f31.ntmps c | none => false)) = true := by kernel_rfl
theorem good32 : (callable Try.prog 32 && tmpsOnly Try.f32 && decide (1 ≤ Try.f32.ntmps) && (match Try.f32.body with | some c => goodC Try.prog Try.f32.ntmps c | none => false)) = true := by kernel_rfl
theorem good33 : (callable Try.prog 33 && tmpsOnly Try.f33 && decide (1 ≤ Try.f33.ntmps) && (match Try.f33.body with | some c => goodC Try.prog Try.f33.ntmps c | none => false)) = true := by kernel_rfl
theorem good34 : (callable Try.prog 34 && tmpsOnly Try.f34 && decide (1 ≤ Try.f34.ntmps) && (match Try.f34.body with | some c => goodC Try.prog Try.f34.ntmps c | none => false)) = true := by kernel_rfl
theorem good35 : (callable Try.prog 35 && tmpsOnly Try.f35 && decide (1 ≤ Try.f35.ntmps) && (match Try.f35.body with | some c => goodC Try.prog Try.f35.ntmps c | none => false)) = true := by kernel_rfl
theorem good36 : (callable Try.prog 36 && tmpsOnly Try.f36 && decide (1 ≤ Try.f36.ntmps) && (match Try.f36.body with | some c => goodC Try.prog Try.f36.ntmps c | none => false)) = true := by kernel_rfl
theorem good37 : (callable Try.prog 37 && tmpsOnly Try.f37 && decide (1 ≤ Try.f37.ntmps) && (match Try.f37.body with | some c => goodC Try.prog Try.f37.ntmps c | none => false)) = true := by kernel_rfl
theorem good38 : (callable Try.prog 38 && tmpsOnly Try.f38 && decide (1 ≤ Try.f38.ntmps) && (match Try.f38.body with | some c => goodC Try.prog Try.f38.ntmps c | none => false)) = true := by kernel_rfl
theorem good39 : (callable Try.prog 39 && tmpsOnly Try.f39 && decide (1 ≤ Try.f39.ntmps) && (match Try.f39.body with | some c => goodC Try.prog Try.f39.ntmps c | none => false)) = true := by kernel_rfl
theorem good40 : (callable Try.prog 40 && tmpsOnly Try.f40 && decide (1 ≤ Try.f40.ntmps) && (match Try.f40.body with | some c => goodC Try.prog Try.f40.ntmps c | none => false)) = true := by kernel_rfl
theorem good41 : (callable Try.prog 41 && tmpsOnly Try.f41 && decide (1 ≤ Try.f41.ntmps) && (match Try.f41.body with | some c => goodC Try.prog Try.f41.ntmps c | none => false)) = true := by kernel_rfl
theorem good42 : (callable Try.prog 42 && tmpsOnly Try.f42 && decide (1 ≤ Try.f42.ntmps) && (match Try.f42.body with | some c => goodC Try.prog Try.f42.ntmps c | none => false)) = true := by kernel_rfl
theorem good43 : (callable Try.prog 43 && tmpsOnly Try.f43 && decide (2 ≤ Try.f43.ntmps) && (match Try.f43.body with | some c => goodC Try.prog Try.f43.ntmps c | none => false)) = true := by kernel_rfl
theorem good44 : (callable Try.prog 44 && tmpsOnly Try.f44 && decide (1 ≤ Try.f44.ntmps) && (match Try.f44.body with | some c => goodC Try.prog Try.f44.ntmps c | none => false)) = true := by kernel_rfl
theorem good45 : (callable Try.prog 45 && tmpsOnly Try.f45 && decide (2 ≤ Try.f45.ntmps) && (match Try.f45.body with | some c => goodC Try.prog Try.f45.ntmps c | none => false)) = true := by kernel_rfl
theorem good46 : (callable Try.prog 46 && tmpsOnly Try.f46 && decide (1 ≤ Try.f46.ntmps) && (match Try.f46.body with | some c => goodC Try.prog Try.f46.ntmps c | none => false)) = true := by kernel_rfl
theorem good47 : (callable Try.prog 47 && tmpsOnly Try.f47 && decide (2 ≤ Try.f47.ntmps) && (match Try.f47.body with | some c => goodC Try.prog Try.f47.ntmps c | none => false)) = true := by kernel_rfl
theorem good48 : (callable Try.prog 48 && tmpsOnly Try.f48 && decide (2 ≤ Try.f48.ntmps) && (match Try.f48.body with | some c => goodC Try.prog Try.f48.ntmps c | none => false)) = true := by kernel_rfl
theorem good49 : (callable Try.prog 49 && tmpsOnly Try.f49 && decide (2 ≤ Try.f49.ntmps) && (match Try.f49.body with | some c => goodC Try.prog Try.f49.ntmps c | none => false)) = true := by kernel_rfl
theorem good50 : (callable Try.prog 50 && tmpsOnly Try.f50 && decide (2 ≤ Try.f50.ntmps) && (match Try.f50.body with | some c => goodC Try.prog Try.f50.ntmps c | none => false)) = true := by kernel_rfl
theorem good51 : (callable Try.prog 51 && tmpsOnly Try.f51 && decide (1 ≤ Try.f51.ntmps) && (match Try.f51.body with | some c => goodC Try.prog Try.f51.ntmps c | none => false)) = true := by kernel_rfl
theorem good52 : (callable Try.prog 52 && tmpsOnly Try.f52 && decide (1 ≤ Try.f52.ntmps) && (match Try.f52.body with | some c => goodC Try.prog Try.f52.ntmps c | none => false)) = true := by kernel_rfl
theorem good53 : (callable Try.prog 53 && tmpsOnly Try.f53 && decide (2 ≤ Try.f53.ntmps) && (match Try.f53.body with | some c => goodC Try.prog Try.f53.ntmps c | none => false)) = true := by kernel_rfl
theorem good54 : (callable Try.prog 54 && tmpsOnly Try.f54 && decide (2 ≤ Try.f54.ntmps) && (match Try.f54.body with | some c => goodC Try.prog Try.f54.ntmps c | none => false)) = true := by kernel_rfl
theorem good55 : (callable Try.prog 55 && tmpsOnly Try.f55 && decide (2 ≤ Try.f55.ntmps) && (match Try.f55.body with | some c => goodC Try.prog Try.f55.ntmps c | none => false)) = true := by kernel_rfl
theorem good56 : (callable Try.prog 56 && tmpsOnly Try.f56 && decide (2 ≤ Try.f56.ntmps) && (match Try.f56.body with | some c => goodC Try.prog Try.f56.ntmps c | none => false)) = true := by kernel_rfl
theorem good57 : (callable Try.prog 57 && tmpsOnly Try.f57 && decide (1 ≤ Try.f57.ntmps) && (match Try.f57.body with | some c => goodC Try.prog Try.f57.ntmps c | none => false)) = true := by kernel_rfl
theorem good58 : (callable Try.prog 58 && tmpsOnly Try.f58 && decide (1 ≤ Try.f58.ntmps) && (match Try.f58.body with | some c => goodC Try.prog Try.f58.ntmps c | none => false)) = true := by kernel_rfl
theorem good59 : (callable Try.prog 59 && tmpsOnly Try.f59 && decide (3 ≤ Try.f59.ntmps) && (match Try.f59.body with | some c => goodC Try.prog Try.f59.ntmps c | none => false)) = true := by kernel_rfl
theorem good60 : (callable Try.prog 60 && tmpsOnly Try.f60 && decide (2 ≤ Try.f60.ntmps) && (match Try.f60.body with | some c => goodC Try.prog Try.f60.ntmps c | none => false)) = true := by kernel_rfl
theorem good61 : (callable Try.prog 61 && tmpsOnly Try.f61 && decide (3 ≤ Try.f61.ntmps) && (match Try.f61.body with | some c => goodC Try.prog Try.f61.ntmps c | none => false)) = true := by kernel_rfl
abbrev chr (n : Nat) : Char := Char.ofNat n
set_option maxRecDepth 20000 in
theorem initS : Try.prog.initOrder.toList = [chr 104, chr 97, chr 114, chr 110, chr 101, chr 115, chr 115, chr 32, chr 98, chr 57, chr 51, chr 100, chr 97, chr 100, chr 101, chr 98, chr 99, chr 52, chr 99, chr 49, chr 56, chr 100, chr 99, chr 50, chr 55, chr 101, chr 55, chr 101, chr 100, chr 101, chr 49, chr 51, chr 56, chr 52, chr 100, chr 99, chr 98, chr 97, chr 49, chr 53, chr 100, chr 56, chr 55, chr 50, chr 99, chr 53, chr 48, chr 101, chr 53, chr 97, chr 49, chr 101, chr 53, chr 54, chr 50, chr 98, chr 57, chr 57, chr 97, chr 54, chr 56, chr 53, chr 100, chr 101, chr 52, chr 50, chr 101, chr 102, chr 55, chr 100, chr 102, chr 48, chr 32, chr 99, chr 117, chr 116, chr 32, chr 97, chr 116, chr 32, chr 108, chr 111, chr 111, chr 112, chr 46, chr 101, chr 120, chr 97, chr 109, chr 112, chr 108, chr 101, chr 47, chr 99, chr 105, chr 114, chr 99, chr 117, chr 105, chr 116, chr 115, chr 119, chr 105, chr 116, chr 99, chr 104, chr 105, chr 110, chr 103, chr 47, chr 108, chr 97, chr 119, chr 115, chr 46, chr 70, chr 110, chr 80, chr 101, chr 114, chr 109, chr 86, chr 97, chr 108, chr 105, chr 100, chr 32, chr 108, chr 111, chr 111, chr 112, chr 46, chr 101, chr 120, chr 97, chr 109, chr 112, chr 108, chr 101, chr 47, chr 99, chr 105, chr 114, chr 99, chr 117, chr 105, chr 116, chr 115, chr 119, chr 105, chr 116, chr 99, chr 104, chr 105, chr 110, chr 103, chr 47, chr 108, chr 97, chr 119, chr 115, chr 46, chr 70, chr 110, chr 80, chr 101, chr 114, chr 109, chr 66, chr 97, chr 99, chr 107, chr 32, chr 108, chr 111, chr 111, chr 112, chr 46, chr 101, chr 120, chr 97, chr 109, chr 112, chr 108, chr 101, chr 47, chr 99, chr 105, chr 114, chr 99, chr 117, chr 105, chr 116, chr 115, chr 119, chr 105, chr 116, chr 99, chr 104, chr 105, chr 110, chr 103, chr 47, chr 108, chr 97, chr 119, chr 115, chr 46, chr 70, chr 110, chr 80, chr 101, chr 114, chr 109, chr 84, chr 104, chr 101, chr 110, chr 32, chr 108, chr 111, chr 111, chr 112, chr 46, chr 101, chr 120, chr 97, chr 109, chr 112, chr 108, chr 101, chr 47, chr 99, chr 105, chr 114, chr 99, chr 117, chr 105, chr 116, chr 115, chr 119, chr 105, chr 116, chr 99, chr 104, chr 105, chr 110, chr 103, chr 47, chr 108, chr 97, chr 119, chr 115, chr 46, chr 70, chr 110, chr 80, chr 101, chr 114, chr 109, chr 67, chr 121, chr 99, chr 108, chr 101, chr 115, chr 32, chr 108, chr 111, chr 111, chr 112, chr 46, chr 101, chr 120, chr 97, chr 109, chr 112, chr 108, chr 101, chr 47, chr 99, chr 105, chr 114, chr 99, chr 117, chr 105, chr 116, chr 115, chr 119, chr 105, chr 116, chr 99, chr 104, chr 105, chr 110, chr 103, chr 47, chr 108, chr 97, chr 119, chr 115, chr 46, chr 70, chr 110, chr 80, chr 101, chr 114, chr 109, chr 83, chr 119, chr 97, chr 112, chr 115, chr 32, chr 108, chr 111, chr 111, chr 112, chr 46, chr 101, chr 120, chr 97, chr 109, chr 112, chr 108, chr 101, chr 47, chr 99, chr 105, chr 114, chr 99, chr 117, chr 105, chr 116, chr 115, chr 119, chr 105, chr 116, chr 99, chr 104, chr 105, chr 110, chr 103, chr 47, chr 108, chr 97, chr 119, chr 115, chr 46, chr 70, chr 110, chr 80, chr 101, chr 114, chr 109, chr 67, chr 114, chr 111, chr 115, chr 115, chr 101, chr 115, chr 32, chr 108, chr 111, chr 111, chr 112, chr 46, chr 101, chr 120, chr 97, chr 109, chr 112, chr 108, chr 101, chr 47, chr 99, chr 105, chr 114, chr 99, chr 117, chr 105, chr 116, chr 115, chr 119, chr 105, chr 116, chr 99, chr 104, chr 105, chr 110, chr 103, chr 47, chr 108, chr 97, chr 119, chr 115, chr 46, chr 70, chr 110, chr 80, chr 101, chr 114, chr 109, chr 82, chr 97, chr 110, chr 107, chr 32, chr 108, chr 111, chr 111, chr 112, chr 46, chr 101, chr 120, chr 97, chr 109, chr 112, chr 108, chr 101, chr 47, chr 99, chr 105, chr 114, chr 99, chr 117, chr 105, chr 116, chr 115, chr 119, chr 105, chr 116, chr 99, chr 104, chr 105, chr 110, chr 103, chr 47, chr 108, chr 97, chr 119, chr 115, chr 46, chr 70, chr 110, chr 80, chr 101, chr 114, chr 109, chr 79, chr 102, chr 32, chr 108, chr 111, chr 111, chr 112, chr 46, chr 101, chr 120, chr 97, chr 109, chr 112, chr 108, chr 101, chr 47, chr 99, chr 105, chr 114, chr 99, chr 117, chr 105, chr 116, chr 115, chr 119, chr 105, chr 116, chr 99, chr 104, chr 105, chr 110, chr 103, chr 47, chr 108, chr 97, chr 119, chr 115, chr 46, chr 70, chr 110, chr 69, chr 120, chr 97, chr 99, chr 116, chr 80, chr 101, chr 114, chr 109, chr 86, chr 97, chr 108, chr 105, chr 100, chr 32, chr 108, chr 111, chr 111, chr 112, chr 46, chr 101, chr 120, chr 97, chr 109, chr 112, chr 108, chr 101, chr 47, chr 99, chr 105, chr 114, chr 99, chr 117, chr 105, chr 116, chr 115, chr 119, chr 105, chr 116, chr 99, chr 104, chr 105, chr 110, chr 103, chr 47, chr 108, chr 97, chr 119, chr 115, chr 46, chr 70, chr 110, chr 69, chr 120, chr 97, chr 99, chr 116, chr 80, chr 101, chr 114, chr 109, chr 66, chr 97, chr 99, chr 107, chr 32, chr 108, chr 111, chr 111, chr 112, chr 46, chr 101, chr 120, chr 97, chr 109, chr 112, chr 108, chr 101, chr 47, chr 99, chr 105, chr 114, chr 99, chr 117, chr 105, chr 116, chr 115, chr 119, chr 105, chr 116, chr 99, chr 104, chr 105, chr 110, chr 103, chr 47, chr 108, chr 97, chr 119, chr 115, chr 46, chr 70, chr 110, chr 69, chr 120, chr 97, chr 99, chr 116, chr 80, chr 101, chr 114, chr 109, chr 84, chr 104, chr 101, chr 110, chr 32, chr 108, chr 111, chr 111, chr 112, chr 46, chr 101, chr 120, chr 97, chr 109, chr 112, chr 108, chr 101, chr 47, chr 99, chr 105, chr 114, chr 99, chr 117, chr 105, chr 116, chr 115, chr 119, chr 105, chr 116, chr 99, chr 104, chr 105, chr 110, chr 103, chr 47, chr 108, chr 97, chr 119, chr 115, chr 46, chr 70, chr 110, chr 69, chr 120, chr 97, chr 99, chr 116, chr 80, chr 101, chr 114, chr 109, chr 67, chr 121, chr 99, chr 108, chr 101, chr 115, chr 32, chr 108, chr 111, chr 111, chr 112, chr 46, chr 101, chr 120, chr 97, chr 109, chr 112, chr 108, chr 101, chr 47, chr 99, chr 105, chr 114, chr 99, chr 117, chr 105, chr 116, chr 115, chr 119, chr 105, chr 116, chr 99, chr 104, chr 105, chr 110, chr 103, chr 47, chr 108, chr 97, chr 119, chr 115, chr 46, chr 70, chr 110, chr 69, chr 120, chr 97, chr 99, chr 116, chr 80, chr 101, chr 114, chr 109, chr 83, chr 119, chr 97, chr 112, chr 115, chr 32, chr 108, chr 111, chr 111, chr 112, chr 46, chr 101, chr 120, chr 97, chr 109, chr 112, chr 108, chr 101, chr 47, chr 99, chr 105, chr 114, chr 99, chr 117, chr 105, chr 116, chr 115, chr 119, chr 105, chr 116, chr 99, chr 104, chr 105, chr 110, chr 103, chr 47, chr 108, chr 97, chr 119, chr 115, chr 46, chr 70, chr 110, chr 69, chr 120, chr 97, chr 99, chr 116, chr 80, chr 101, chr 114, chr 109, chr 67, chr 114, chr 111, chr 115, chr 115, chr 101, chr 115, chr 32, chr 108, chr 111, chr 111, chr 112, chr 46, chr 101, chr 120, chr 97, chr 109, chr 112, chr 108, chr 101, chr 47, chr 99, chr 105, chr 114, chr 99, chr 117, chr 105, chr 116, chr 115, chr 119, chr 105, chr 116, chr 99, chr 104, chr 105, chr 110, chr 103, chr 47, chr 108, chr 97, chr 119, chr 115, chr 46, chr 70, chr 110, chr 69, chr 120, chr 97, chr 99, chr 116, chr 80, chr 101, chr 114, chr 109, chr 82, chr 97, chr 110, chr 107, chr 32, chr 108, chr 111, chr 111, chr 112, chr 46, chr 101, chr 120, chr 97, chr 109, chr 112, chr 108, chr 101, chr 47, chr 99, chr 105, chr 114, chr 99, chr 117, chr 105, chr 116, chr 115, chr 119, chr 105, chr 116, chr 99, chr 104, chr 105, chr 110, chr 103, chr 47, chr 108, chr 97, chr 119, chr 115, chr 46, chr 70, chr 110, chr 69, chr 120, chr 97, chr 99, chr 116, chr 80, chr 101, chr 114, chr 109, chr 79, chr 102] := by
  rw [show Try.prog.initOrder = String.ofList [chr 104, chr 97, chr 114, chr 110, chr 101, chr 115, chr 115, chr 32, chr 98, chr 57, chr 51, chr 100, chr 97, chr 100, chr 101, chr 98, chr 99, chr 52, chr 99, chr 49, chr 56, chr 100, chr 99, chr 50, chr 55, chr 101, chr 55, chr 101, chr 100, chr 101, chr 49, chr 51, chr 56, chr 52, chr 100, chr 99, chr 98, chr 97, chr 49, chr 53, chr 100, chr 56, chr 55, chr 50, chr 99, chr 53, chr 48, chr 101, chr 53, chr 97, chr 49, chr 101, chr 53, chr 54, chr 50, chr 98, chr 57, chr 57, chr 97, chr 54, chr 56, chr 53, chr 100, chr 101, chr 52, chr 50, chr 101, chr 102, chr 55, chr 100, chr 102, chr 48, chr 32, chr 99, chr 117, chr 116, chr 32, chr 97, chr 116, chr 32, chr 108, chr 111, chr 111, chr 112, chr 46, chr 101, chr 120, chr 97, chr 109, chr 112, chr 108, chr 101, chr 47, chr 99, chr 105, chr 114, chr 99, chr 117, chr 105, chr 116, chr 115, chr 119, chr 105, chr 116, chr 99, chr 104, chr 105, chr 110, chr 103, chr 47, chr 108, chr 97, chr 119, chr 115, chr 46, chr 70, chr 110, chr 80, chr 101, chr 114, chr 109, chr 86, chr 97, chr 108, chr 105, chr 100, chr 32, chr 108, chr 111, chr 111, chr 112, chr 46, chr 101, chr 120, chr 97, chr 109, chr 112, chr 108, chr 101, chr 47, chr 99, chr 105, chr 114, chr 99, chr 117, chr 105, chr 116, chr 115, chr 119, chr 105, chr 116, chr 99, chr 104, chr 105, chr 110, chr 103, chr 47, chr 108, chr 97, chr 119, chr 115, chr 46, chr 70, chr 110, chr 80, chr 101, chr 114, chr 109, chr 66, chr 97, chr 99, chr 107, chr 32, chr 108, chr 111, chr 111, chr 112, chr 46, chr 101, chr 120, chr 97, chr 109, chr 112, chr 108, chr 101, chr 47, chr 99, chr 105, chr 114, chr 99, chr 117, chr 105, chr 116, chr 115, chr 119, chr 105, chr 116, chr 99, chr 104, chr 105, chr 110, chr 103, chr 47, chr 108, chr 97, chr 119, chr 115, chr 46, chr 70, chr 110, chr 80, chr 101, chr 114, chr 109, chr 84, chr 104, chr 101, chr 110, chr 32, chr 108, chr 111, chr 111, chr 112, chr 46, chr 101, chr 120, chr 97, chr 109, chr 112, chr 108, chr 101, chr 47, chr 99, chr 105, chr 114, chr 99, chr 117, chr 105, chr 116, chr 115, chr 119, chr 105, chr 116, chr 99, chr 104, chr 105, chr 110, chr 103, chr 47, chr 108, chr 97, chr 119, chr 115, chr 46, chr 70, chr 110, chr 80, chr 101, chr 114, chr 109, chr 67, chr 121, chr 99, chr 108, chr 101, chr 115, chr 32, chr 108, chr 111, chr 111, chr 112, chr 46, chr 101, chr 120, chr 97, chr 109, chr 112, chr 108, chr 101, chr 47, chr 99, chr 105, chr 114, chr 99, chr 117, chr 105, chr 116, chr 115, chr 119, chr 105, chr 116, chr 99, chr 104, chr 105, chr 110, chr 103, chr 47, chr 108, chr 97, chr 119, chr 115, chr 46, chr 70, chr 110, chr 80, chr 101, chr 114, chr 109, chr 83, chr 119, chr 97, chr 112, chr 115, chr 32, chr 108, chr 111, chr 111, chr 112, chr 46, chr 101, chr 120, chr 97, chr 109, chr 112, chr 108, chr 101, chr 47, chr 99, chr 105, chr 114, chr 99, chr 117, chr 105, chr 116, chr 115, chr 119, chr 105, chr 116, chr 99, chr 104, chr 105, chr 110, chr 103, chr 47, chr 108, chr 97, chr 119, chr 115, chr 46, chr 70, chr 110, chr 80, chr 101, chr 114, chr 109, chr 67, chr 114, chr 111, chr 115, chr 115, chr 101, chr 115, chr 32, chr 108, chr 111, chr 111, chr 112, chr 46, chr 101, chr 120, chr 97, chr 109, chr 112, chr 108, chr 101, chr 47, chr 99, chr 105, chr 114, chr 99, chr 117, chr 105, chr 116, chr 115, chr 119, chr 105, chr 116, chr 99, chr 104, chr 105, chr 110, chr 103, chr 47, chr 108, chr 97, chr 119, chr 115, chr 46, chr 70, chr 110, chr 80, chr 101, chr 114, chr 109, chr 82, chr 97, chr 110, chr 107, chr 32, chr 108, chr 111, chr 111, chr 112, chr 46, chr 101, chr 120, chr 97, chr 109, chr 112, chr 108, chr 101, chr 47, chr 99, chr 105, chr 114, chr 99, chr 117, chr 105, chr 116, chr 115, chr 119, chr 105, chr 116, chr 99, chr 104, chr 105, chr 110, chr 103, chr 47, chr 108, chr 97, chr 119, chr 115, chr 46, chr 70, chr 110, chr 80, chr 101, chr 114, chr 109, chr 79, chr 102, chr 32, chr 108, chr 111, chr 111, chr 112, chr 46, chr 101, chr 120, chr 97, chr 109, chr 112, chr 108, chr 101, chr 47, chr 99, chr 105, chr 114, chr 99, chr 117, chr 105, chr 116, chr 115, chr 119, chr 105, chr 116, chr 99, chr 104, chr 105, chr 110, chr 103, chr 47, chr 108, chr 97, chr 119, chr 115, chr 46, chr 70, chr 110, chr 69, chr 120, chr 97, chr 99, chr 116, chr 80, chr 101, chr 114, chr 109, chr 86, chr 97, chr 108, chr 105, chr 100, chr 32, chr 108, chr 111, chr 111, chr 112, chr 46, chr 101, chr 120, chr 97, chr 109, chr 112, chr 108, chr 101, chr 47, chr 99, chr 105, chr 114, chr 99, chr 117, chr 105, chr 116, chr 115, chr 119, chr 105, chr 116, chr 99, chr 104, chr 105, chr 110, chr 103, chr 47, chr 108, chr 97, chr 119, chr 115, chr 46, chr 70, chr 110, chr 69, chr 120, chr 97, chr 99, chr 116, chr 80, chr 101, chr 114, chr 109, chr 66, chr 97, chr 99, chr 107, chr 32, chr 108, chr 111, chr 111, chr 112, chr 46, chr 101, chr 120, chr 97, chr 109, chr 112, chr 108, chr 101, chr 47, chr 99, chr 105, chr 114, chr 99, chr 117, chr 105, chr 116, chr 115, chr 119, chr 105, chr 116, chr 99, chr 104, chr 105, chr 110, chr 103, chr 47, chr 108, chr 97, chr 119, chr 115, chr 46, chr 70, chr 110, chr 69, chr 120, chr 97, chr 99, chr 116, chr 80, chr 101, chr 114, chr 109, chr 84, chr 104, chr 101, chr 110, chr 32, chr 108, chr 111, chr 111, chr 112, chr 46, chr 101, chr 120, chr 97, chr 109, chr 112, chr 108, chr 101, chr 47, chr 99, chr 105, chr 114, chr 99, chr 117, chr 105, chr 116, chr 115, chr 119, chr 105, chr 116, chr 99, chr 104, chr 105, chr 110, chr 103, chr 47, chr 108, chr 97, chr 119, chr 115, chr 46, chr 70, chr 110, chr 69, chr 120, chr 97, chr 99, chr 116, chr 80, chr 101, chr 114, chr 109, chr 67, chr 121, chr 99, chr 108, chr 101, chr 115, chr 32, chr 108, chr 111, chr 111, chr 112, chr 46, chr 101, chr 120, chr 97, chr 109, chr 112, chr 108, chr 101, chr 47, chr 99, chr 105, chr 114, chr 99, chr 117, chr 105, chr 116, chr 115, chr 119, chr 105, chr 116, chr 99, chr 104, chr 105, chr 110, chr 103, chr 47, chr 108, chr 97, chr 119, chr 115, chr 46, chr 70, chr 110, chr 69, chr 120, chr 97, chr 99, chr 116, chr 80, chr 101, chr 114, chr 109, chr 83, chr 119, chr 97, chr 112, chr 115, chr 32, chr 108, chr 111, chr 111, chr 112, chr 46, chr 101, chr 120, chr 97, chr 109, chr 112, chr 108, chr 101, chr 47, chr 99, chr 105, chr 114, chr 99, chr 117, chr 105, chr 116, chr 115, chr 119, chr 105, chr 116, chr 99, chr 104, chr 105, chr 110, chr 103, chr 47, chr 108, chr 97, chr 119, chr 115, chr 46, chr 70, chr 110, chr 69, chr 120, chr 97, chr 99, chr 116, chr 80, chr 101, chr 114, chr 109, chr 67, chr 114, chr 111, chr 115, chr 115, chr 101, chr 115, chr 32, chr 108, chr 111, chr 111, chr 112, chr 46, chr 101, chr 120, chr 97, chr 109, chr 112, chr 108, chr 101, chr 47, chr 99, chr 105, chr 114, chr 99, chr 117, chr 105, chr 116, chr 115, chr 119, chr 105, chr 116, chr 99, chr 104, chr 105, chr 110, chr 103, chr 47, chr 108, chr 97, chr 119, chr 115, chr 46, chr 70, chr 110, chr 69, chr 120, chr 97, chr 99, chr 116, chr 80, chr 101, chr 114, chr 109, chr 82, chr 97, chr 110, chr 107, chr 32, chr 108, chr 111, chr 111, chr 112, chr 46, chr 101, chr 120, chr 97, chr 109, chr 112, chr 108, chr 101, chr 47, chr 99, chr 105, chr 114, chr 99, chr 117, chr 105, chr 116, chr 115, chr 119, chr 105, chr 116, chr 99, chr 104, chr 105, chr 110, chr 103, chr 47, chr 108, chr 97, chr 119, chr 115, chr 46, chr 70, chr 110, chr 69, chr 120, chr 97, chr 99, chr 116, chr 80, chr 101, chr 114, chr 109, chr 79, chr 102] from by kernel_rfl, String.toList_ofList]
set_option maxRecDepth 20000 in
theorem behind : behindMainWord (wordsSigns Try.prog.initOrder.toList) = cutW :: [[chr 97, chr 116], [chr 108, chr 111, chr 111, chr 112, chr 46, chr 101, chr 120, chr 97, chr 109, chr 112, chr 108, chr 101, chr 47, chr 99, chr 105, chr 114, chr 99, chr 117, chr 105, chr 116, chr 115, chr 119, chr 105, chr 116, chr 99, chr 104, chr 105, chr 110, chr 103, chr 47, chr 108, chr 97, chr 119, chr 115, chr 46, chr 70, chr 110, chr 80, chr 101, chr 114, chr 109, chr 86, chr 97, chr 108, chr 105, chr 100], [chr 108, chr 111, chr 111, chr 112, chr 46, chr 101, chr 120, chr 97, chr 109, chr 112, chr 108, chr 101, chr 47, chr 99, chr 105, chr 114, chr 99, chr 117, chr 105, chr 116, chr 115, chr 119, chr 105, chr 116, chr 99, chr 104, chr 105, chr 110, chr 103, chr 47, chr 108, chr 97, chr 119, chr 115, chr 46, chr 70, chr 110, chr 80, chr 101, chr 114, chr 109, chr 66, chr 97, chr 99, chr 107], [chr 108, chr 111, chr 111, chr 112, chr 46, chr 101, chr 120, chr 97, chr 109, chr 112, chr 108, chr 101, chr 47, chr 99, chr 105, chr 114, chr 99, chr 117, chr 105, chr 116, chr 115, chr 119, chr 105, chr 116, chr 99, chr 104, chr 105, chr 110, chr 103, chr 47, chr 108, chr 97, chr 119, chr 115, chr 46, chr 70, chr 110, chr 80, chr 101, chr 114, chr 109, chr 84, chr 104, chr 101, chr 110], [chr 108, chr 111, chr 111, chr 112, chr 46, chr 101, chr 120, chr 97, chr 109, chr 112, chr 108, chr 101, chr 47, chr 99, chr 105, chr 114, chr 99, chr 117, chr 105, chr 116, chr 115, chr 119, chr 105, chr 116, chr 99, chr 104, chr 105, chr 110, chr 103, chr 47, chr 108, chr 97, chr 119, chr 115, chr 46, chr 70, chr 110, chr 80, chr 101, chr 114, chr 109, chr 67, chr 121, chr 99, chr 108, chr 101, chr 115], [chr 108, chr 111, chr 111, chr 112, chr 46, chr 101, chr 120, chr 97, chr 109, chr 112, chr 108, chr 101, chr 47, chr 99, chr 105, chr 114, chr 99, chr 117, chr 105, chr 116, chr 115, chr 119, chr 105, chr 116, chr 99, chr 104, chr 105, chr 110, chr 103, chr 47, chr 108, chr 97, chr 119, chr 115, chr 46, chr 70, chr 110, chr 80, chr 101, chr 114, chr 109, chr 83, chr 119, chr 97, chr 112, chr 115], [chr 108, chr 111, chr 111, chr 112, chr 46, chr 101, chr 120, chr 97, chr 109, chr 112, chr 108, chr 101, chr 47, chr 99, chr 105, chr 114, chr 99, chr 117, chr 105, chr 116, chr 115, chr 119, chr 105, chr 116, chr 99, chr 104, chr 105, chr 110, chr 103, chr 47, chr 108, chr 97, chr 119, chr 115, chr 46, chr 70, chr 110, chr 80, chr 101, chr 114, chr 109, chr 67, chr 114, chr 111, chr 115, chr 115, chr 101, chr 115], [chr 108, chr 111, chr 111, chr 112, chr 46, chr 101, chr 120, chr 97, chr 109, chr 112, chr 108, chr 101, chr 47, chr 99, chr 105, chr 114, chr 99, chr 117, chr 105, chr 116, chr 115, chr 119, chr 105, chr 116, chr 99, chr 104, chr 105, chr 110, chr 103, chr 47, chr 108, chr 97, chr 119, chr 115, chr 46, chr 70, chr 110, chr 80, chr 101, chr 114, chr 109, chr 82, chr 97, chr 110, chr 107], [chr 108, chr 111, chr 111, chr 112, chr 46, chr 101, chr 120, chr 97, chr 109, chr 112, chr 108, chr 101, chr 47, chr 99, chr 105, chr 114, chr 99, chr 117, chr 105, chr 116, chr 115, chr 119, chr 105, chr 116, chr 99, chr 104, chr 105, chr 110, chr 103, chr 47, chr 108, chr 97, chr 119, chr 115, chr 46, chr 70, chr 110, chr 80, chr 101, chr 114, chr 109, chr 79, chr 102], [chr 108, chr 111, chr 111, chr 112, chr 46, chr 101, chr 120, chr 97, chr 109, chr 112, chr 108, chr 101, chr 47, chr 99, chr 105, chr 114, chr 99, chr 117, chr 105, chr 116, chr 115, chr 119, chr 105, chr 116, chr 99, chr 104, chr 105, chr 110, chr 103, chr 47, chr 108, chr 97, chr 119, chr 115, chr 46, chr 70, chr 110, chr 69, chr 120, chr 97, chr 99, chr 116, chr 80, chr 101, chr 114, chr 109, chr 86, chr 97, chr 108, chr 105, chr 100], [chr 108, chr 111, chr 111, chr 112, chr 46, chr 101, chr 120, chr 97, chr 109, chr 112, chr 108, chr 101, chr 47, chr 99, chr 105, chr 114, chr 99, chr 117, chr 105, chr 116, chr 115, chr 119, chr 105, chr 116, chr 99, chr 104, chr 105, chr 110, chr 103, chr 47, chr 108, chr 97, chr 119, chr 115, chr 46, chr 70, chr 110, chr 69, chr 120, chr 97, chr 99, chr 116, chr 80, chr 101, chr 114, chr 109, chr 66, chr 97, chr 99, chr 107], [chr 108, chr 111, chr 111, chr 112, chr 46, chr 101, chr 120, chr 97, chr 109, chr 112, chr 108, chr 101, chr 47, chr 99, chr 105, chr 114, chr 99, chr 117, chr 105, chr 116, chr 115, chr 119, chr 105, chr 116, chr 99, chr 104, chr 105, chr 110, chr 103, chr 47, chr 108, chr 97, chr 119, chr 115, chr 46, chr 70, chr 110, chr 69, chr 120, chr 97, chr 99, chr 116, chr 80, chr 101, chr 114, chr 109, chr 84, chr 104, chr 101, chr 110], [chr 108, chr 111, chr 111, chr 112, chr 46, chr 101, chr 120, chr 97, chr 109, chr 112, chr 108, chr 101, chr 47, chr 99, chr 105, chr 114, chr 99, chr 117, chr 105, chr 116, chr 115, chr 119, chr 105, chr 116, chr 99, chr 104, chr 105, chr 110, chr 103, chr 47, chr 108, chr 97, chr 119, chr 115, chr 46, chr 70, chr 110, chr 69, chr 120, chr 97, chr 99, chr 116, chr 80, chr 101, chr 114, chr 109, chr 67, chr 121, chr 99, chr 108, chr 101, chr 115], [chr 108, chr 111, chr 111, chr 112, chr 46, chr 101, chr 120, chr 97, chr 109, chr 112, chr 108, chr 101, chr 47, chr 99, chr 105, chr 114, chr 99, chr 117, chr 105, chr 116, chr 115, chr 119, chr 105, chr 116, chr 99, chr 104, chr 105, chr 110, chr 103, chr 47, chr 108, chr 97, chr 119, chr 115, chr 46, chr 70, chr 110, chr 69, chr 120, chr 97, chr 99, chr 116, chr 80, chr 101, chr 114, chr 109, chr 83, chr 119, chr 97, chr 112, chr 115], [chr 108, chr 111, chr 111, chr 112, chr 46, chr 101, chr 120, chr 97, chr 109, chr 112, chr 108, chr 101, chr 47, chr 99, chr 105, chr 114, chr 99, chr 117, chr 105, chr 116, chr 115, chr 119, chr 105, chr 116, chr 99, chr 104, chr 105, chr 110, chr 103, chr 47, chr 108, chr 97, chr 119, chr 115, chr 46, chr 70, chr 110, chr 69, chr 120, chr 97, chr 99, chr 116, chr 80, chr 101, chr 114, chr 109, chr 67, chr 114, chr 111, chr 115, chr 115, chr 101, chr 115], [chr 108, chr 111, chr 111, chr 112, chr 46, chr 101, chr 120, chr 97, chr 109, chr 112, chr 108, chr 101, chr 47, chr 99, chr 105, chr 114, chr 99, chr 117, chr 105, chr 116, chr 115, chr 119, chr 105, chr 116, chr 99, chr 104, chr 105, chr 110, chr 103, chr 47, chr 108, chr 97, chr 119, chr 115, chr 46, chr 70, chr 110, chr 69, chr 120, chr 97, chr 99, chr 116, chr 80, chr 101, chr 114, chr 109, chr 82, chr 97, chr 110, chr 107], [chr 108, chr 111, chr 111, chr 112, chr 46, chr 101, chr 120, chr 97, chr 109, chr 112, chr 108, chr 101, chr 47, chr 99, chr 105, chr 114, chr 99, chr 117, chr 105, chr 116, chr 115, chr 119, chr 105, chr 116, chr 99, chr 104, chr 105, chr 110, chr 103, chr 47, chr 108, chr 97, chr 119, chr 115, chr 46, chr 70, chr 110, chr 69, chr 120, chr 97, chr 99, chr 116, chr 80, chr 101, chr 114, chr 109, chr 79, chr 102]] := by
  rw [initS]; kernel_rfl
theorem mayE : Try.prog.mayEnter = true := may_of behind (by kernel_rfl) (by kernel_rfl) (by kernel_rfl)
theorem liftsE : Try.prog.liftsFinal = false := lifts_of behind
theorem makeE : Try.prog.make = some .cut := mk_of behind

end Go.Proofs.Ytdgbaglhhhbbhaa
