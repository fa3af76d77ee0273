/- Parts. -/
import Derived.Test.YtofdnmlpfagibaaGreatDoorSFc
import Derived.Test.YtofdnmlpfagibaaGreatDoorRows
import Derived.KernelRfl
set_option linter.unusedSimpArgs false
set_option linter.unusedVariables false
set_option linter.unusedSectionVars false
namespace Go.Proofs.YtofdnmlpfagibaaGreatDoor
open Go Go.Abs
theorem mixed:Tryz.prog.follows .mixedOrders=true:=by kernel_rfl
theorem own:ownKnob Tryz.prog.godebug=none:=by kernel_rfl
theorem laidOut:laidOutB Tryz.prog=true:=by kernel_rfl
theorem pt0:isPtr Tryz.prog 0=false:=by kernel_rfl
theorem sc0:isSlc Tryz.prog 0=false:=by kernel_rfl
theorem ag1:aisAgg Tryz.prog 1=false:=by kernel_rfl
theorem pt1:isPtr Tryz.prog 1=false:=by kernel_rfl
theorem sc1:isSlc Tryz.prog 1=false:=by kernel_rfl
theorem ag2:aisAgg Tryz.prog 2=false:=by kernel_rfl
theorem pt2:isPtr Tryz.prog 2=false:=by kernel_rfl
theorem sc2:isSlc Tryz.prog 2=false:=by kernel_rfl
theorem co3:Tryz.prog.cellsOf 3=1:=by kernel_rfl
theorem ag3:aisAgg Tryz.prog 3=false:=by kernel_rfl
theorem pt3:isPtr Tryz.prog 3=false:=by kernel_rfl
theorem sc3:isSlc Tryz.prog 3=false:=by kernel_rfl
theorem ze3:azero Tryz.prog 3=some (Value.int IntKind.i64 0):=by kernel_rfl
theorem co4:Tryz.prog.cellsOf 4=1:=by kernel_rfl
theorem ag4:aisAgg Tryz.prog 4=false:=by kernel_rfl
theorem pt4:isPtr Tryz.prog 4=false:=by kernel_rfl
theorem sc4:isSlc Tryz.prog 4=false:=by kernel_rfl
theorem bo4:isBool Tryz.prog 4=true:=by kernel_rfl
theorem co5:Tryz.prog.cellsOf 5=1:=by kernel_rfl
theorem ag5:aisAgg Tryz.prog 5=false:=by kernel_rfl
theorem pt5:isPtr Tryz.prog 5=false:=by kernel_rfl
theorem sc5:isSlc Tryz.prog 5=false:=by kernel_rfl
theorem ag6:aisAgg Tryz.prog 6=false:=by kernel_rfl
theorem pt6:isPtr Tryz.prog 6=false:=by kernel_rfl
theorem sc6:isSlc Tryz.prog 6=false:=by kernel_rfl
theorem co9:Tryz.prog.cellsOf 9=1:=by kernel_rfl
theorem ag9:aisAgg Tryz.prog 9=false:=by kernel_rfl
theorem pt9:isPtr Tryz.prog 9=false:=by kernel_rfl
theorem sc9:isSlc Tryz.prog 9=false:=by kernel_rfl
theorem ag10:aisAgg Tryz.prog 10=false:=by kernel_rfl
theorem pt10:isPtr Tryz.prog 10=false:=by kernel_rfl
theorem sc10:isSlc Tryz.prog 10=false:=by kernel_rfl
theorem ag11:aisAgg Tryz.prog 11=false:=by kernel_rfl
theorem pt11:isPtr Tryz.prog 11=false:=by kernel_rfl
theorem sc11:isSlc Tryz.prog 11=false:=by kernel_rfl
theorem ag12:aisAgg Tryz.prog 12=false:=by kernel_rfl
theorem pt12:isPtr Tryz.prog 12=false:=by kernel_rfl
theorem sc12:isSlc Tryz.prog 12=false:=by kernel_rfl
theorem co16:Tryz.prog.cellsOf 16=1:=by kernel_rfl
theorem ag16:aisAgg Tryz.prog 16=false:=by kernel_rfl
theorem pt16:isPtr Tryz.prog 16=true:=by kernel_rfl
theorem sc16:isSlc Tryz.prog 16=false:=by kernel_rfl
theorem ag17:aisAgg Tryz.prog 17=false:=by kernel_rfl
theorem pt17:isPtr Tryz.prog 17=true:=by kernel_rfl
theorem sc17:isSlc Tryz.prog 17=false:=by kernel_rfl
theorem pt20:isPtr Tryz.prog 20=false:=by kernel_rfl
theorem sc20:isSlc Tryz.prog 20=false:=by kernel_rfl
theorem ag21:aisAgg Tryz.prog 21=false:=by kernel_rfl
theorem pt21:isPtr Tryz.prog 21=false:=by kernel_rfl
theorem sc21:isSlc Tryz.prog 21=false:=by kernel_rfl
theorem co22:Tryz.prog.cellsOf 22=1:=by kernel_rfl
theorem ag22:aisAgg Tryz.prog 22=false:=by kernel_rfl
theorem pt22:isPtr Tryz.prog 22=false:=by kernel_rfl
theorem sc22:isSlc Tryz.prog 22=true:=by kernel_rfl
theorem esz22:aesz Tryz.prog 22=1:=by kernel_rfl
theorem el22:Elems Tryz.prog 22 1 (Value.int IntKind.u8 0) 1:=⟨⟨5,Tryz.t5,Tryz.underlying22,by kernel_rfl,rfl,rfl,rfl⟩,⟨5,Tryz.underlying22,by kernel_rfl,by kernel_rfl⟩⟩
theorem ag23:aisAgg Tryz.prog 23=false:=by kernel_rfl
theorem pt23:isPtr Tryz.prog 23=false:=by kernel_rfl
theorem sc23:isSlc Tryz.prog 23=false:=by kernel_rfl
theorem ag24:aisAgg Tryz.prog 24=false:=by kernel_rfl
theorem pt24:isPtr Tryz.prog 24=false:=by kernel_rfl
theorem sc24:isSlc Tryz.prog 24=true:=by kernel_rfl
theorem esz24:aesz Tryz.prog 24=3:=by kernel_rfl
theorem el24:Elems Tryz.prog 24 3 (Value.agg #[Value.int IntKind.i64 0,Value.int IntKind.i64 0,Value.string { data:=#[] }]) 32:=⟨⟨41,Tryz.t41,Tryz.underlying24,by kernel_rfl,rfl,rfl,rfl⟩,⟨41,Tryz.underlying24,by kernel_rfl,by kernel_rfl⟩⟩
theorem sl24:∃e,Tryz.prog.underlying 24=some (.slice e):=⟨41,Tryz.underlying24⟩
theorem pt25:isPtr Tryz.prog 25=false:=by kernel_rfl
theorem sc25:isSlc Tryz.prog 25=true:=by kernel_rfl
theorem ag26:aisAgg Tryz.prog 26=false:=by kernel_rfl
theorem pt26:isPtr Tryz.prog 26=false:=by kernel_rfl
theorem sc26:isSlc Tryz.prog 26=false:=by kernel_rfl
theorem ag28:aisAgg Tryz.prog 28=true:=by kernel_rfl
theorem pt28:isPtr Tryz.prog 28=false:=by kernel_rfl
theorem sc28:isSlc Tryz.prog 28=false:=by kernel_rfl
theorem fv28_0 {x0 x1 x2:Value}:afieldV Tryz.prog 28 0 (.agg #[x0,x1,x2])=some x0:=by simp [afieldV,Tryz.underlying28,apart,Tryz.underlying3,ag3,co3,aisAgg]
theorem fl28_0 {h b:Nat}:afield Tryz.prog 28 0 (.pointer (some ⟨h,b,none⟩))=some (.pointer (some ⟨h,b+0,none⟩)):=by simp [afield,Tryz.underlying28]
theorem fv28_1 {x0 x1 x2:Value}:afieldV Tryz.prog 28 1 (.agg #[x0,x1,x2])=some x1:=by simp [afieldV,Tryz.underlying28,apart,Tryz.underlying3,ag3,co3,aisAgg]
theorem fl28_1 {h b:Nat}:afield Tryz.prog 28 1 (.pointer (some ⟨h,b,none⟩))=some (.pointer (some ⟨h,b+1,none⟩)):=by simp [afield,Tryz.underlying28]
theorem fv28_2 {x0 x1 x2:Value}:afieldV Tryz.prog 28 2 (.agg #[x0,x1,x2])=some x2:=by simp [afieldV,Tryz.underlying28,apart,Tryz.underlying3,ag3,co3,aisAgg]
theorem fl28_2 {h b:Nat}:afield Tryz.prog 28 2 (.pointer (some ⟨h,b,none⟩))=some (.pointer (some ⟨h,b+2,none⟩)):=by simp [afield,Tryz.underlying28]
theorem co29:Tryz.prog.cellsOf 29=3:=by kernel_rfl
theorem ag29:aisAgg Tryz.prog 29=true:=by kernel_rfl
theorem pt29:isPtr Tryz.prog 29=false:=by kernel_rfl
theorem sc29:isSlc Tryz.prog 29=false:=by kernel_rfl
theorem ze29:azero Tryz.prog 29=some (Value.agg #[Value.int IntKind.i64 0,Value.int IntKind.i64 0,Value.int IntKind.i64 0]):=by kernel_rfl
theorem fv29_0 {x0 x1 x2:Value}:afieldV Tryz.prog 29 0 (.agg #[x0,x1,x2])=some x0:=by simp [afieldV,Tryz.underlying29,apart,Tryz.underlying3,ag3,co3,aisAgg]
theorem fl29_0 {h b:Nat}:afield Tryz.prog 29 0 (.pointer (some ⟨h,b,none⟩))=some (.pointer (some ⟨h,b+0,none⟩)):=by simp [afield,Tryz.underlying29]
theorem fv29_1 {x0 x1 x2:Value}:afieldV Tryz.prog 29 1 (.agg #[x0,x1,x2])=some x1:=by simp [afieldV,Tryz.underlying29,apart,Tryz.underlying3,ag3,co3,aisAgg]
theorem fl29_1 {h b:Nat}:afield Tryz.prog 29 1 (.pointer (some ⟨h,b,none⟩))=some (.pointer (some ⟨h,b+1,none⟩)):=by simp [afield,Tryz.underlying29]
theorem fv29_2 {x0 x1 x2:Value}:afieldV Tryz.prog 29 2 (.agg #[x0,x1,x2])=some x2:=by simp [afieldV,Tryz.underlying29,apart,Tryz.underlying3,ag3,co3,aisAgg]
theorem fl29_2 {h b:Nat}:afield Tryz.prog 29 2 (.pointer (some ⟨h,b,none⟩))=some (.pointer (some ⟨h,b+2,none⟩)):=by simp [afield,Tryz.underlying29]
theorem co30:Tryz.prog.cellsOf 30=1:=by kernel_rfl
theorem ag30:aisAgg Tryz.prog 30=false:=by kernel_rfl
theorem pt30:isPtr Tryz.prog 30=false:=by kernel_rfl
theorem sc30:isSlc Tryz.prog 30=true:=by kernel_rfl
theorem esz30:aesz Tryz.prog 30=1:=by kernel_rfl
theorem el30:Elems Tryz.prog 30 1 (Value.string { data:=#[] }) 16:=⟨⟨9,Tryz.t9,Tryz.underlying30,by kernel_rfl,rfl,rfl,rfl⟩,⟨9,Tryz.underlying30,by kernel_rfl,by kernel_rfl⟩⟩
theorem sl30:∃e,Tryz.prog.underlying 30=some (.slice e):=⟨9,Tryz.underlying30⟩
theorem co31:Tryz.prog.cellsOf 31=1:=by kernel_rfl
theorem ag31:aisAgg Tryz.prog 31=false:=by kernel_rfl
theorem pt31:isPtr Tryz.prog 31=false:=by kernel_rfl
theorem sc31:isSlc Tryz.prog 31=true:=by kernel_rfl
theorem esz31:aesz Tryz.prog 31=3:=by kernel_rfl
theorem el31:Elems Tryz.prog 31 3 (Value.agg #[Value.int IntKind.i64 0,Value.int IntKind.i64 0,Value.int IntKind.i64 0]) 24:=⟨⟨70,Tryz.t70,Tryz.underlying31,by kernel_rfl,rfl,rfl,rfl⟩,⟨70,Tryz.underlying31,by kernel_rfl,by kernel_rfl⟩⟩
theorem sl31:∃e,Tryz.prog.underlying 31=some (.slice e):=⟨70,Tryz.underlying31⟩
theorem ag32:aisAgg Tryz.prog 32=true:=by kernel_rfl
theorem pt32:isPtr Tryz.prog 32=false:=by kernel_rfl
theorem sc32:isSlc Tryz.prog 32=true:=by kernel_rfl
theorem fl32_0 {h b:Nat}:afield Tryz.prog 32 0 (.pointer (some ⟨h,b,none⟩))=some (.pointer (some ⟨h,b+0,none⟩)):=by simp [afield,Tryz.underlying32]
theorem fv32_1 {x0 x1 x2 x3 x4:Value}:afieldV Tryz.prog 32 1 (.agg #[x0,x1,x2,x3,x4])=some x3:=by simp [afieldV,Tryz.underlying32,apart,Tryz.underlying30,ag30,co30,aisAgg]
theorem fl32_1 {h b:Nat}:afield Tryz.prog 32 1 (.pointer (some ⟨h,b,none⟩))=some (.pointer (some ⟨h,b+3,none⟩)):=by simp [afield,Tryz.underlying32]
theorem fv32_2 {x0 x1 x2 x3 x4:Value}:afieldV Tryz.prog 32 2 (.agg #[x0,x1,x2,x3,x4])=some x4:=by simp [afieldV,Tryz.underlying32,apart,Tryz.underlying31,ag31,co31,aisAgg]
theorem fl32_2 {h b:Nat}:afield Tryz.prog 32 2 (.pointer (some ⟨h,b,none⟩))=some (.pointer (some ⟨h,b+4,none⟩)):=by simp [afield,Tryz.underlying32]
theorem co33:Tryz.prog.cellsOf 33=5:=by kernel_rfl
theorem ag33:aisAgg Tryz.prog 33=true:=by kernel_rfl
theorem pt33:isPtr Tryz.prog 33=false:=by kernel_rfl
theorem sc33:isSlc Tryz.prog 33=true:=by kernel_rfl
theorem ze33:azero Tryz.prog 33=some (Value.agg #[Value.int IntKind.i64 0,Value.int IntKind.i64 0,Value.int IntKind.i64 0,Value.slice none 0 0,Value.slice none 0 0]):=by kernel_rfl
theorem fl33_0 {h b:Nat}:afield Tryz.prog 33 0 (.pointer (some ⟨h,b,none⟩))=some (.pointer (some ⟨h,b+0,none⟩)):=by simp [afield,Tryz.underlying33]
theorem fv33_1 {x0 x1 x2 x3 x4:Value}:afieldV Tryz.prog 33 1 (.agg #[x0,x1,x2,x3,x4])=some x3:=by simp [afieldV,Tryz.underlying33,apart,Tryz.underlying30,ag30,co30,aisAgg]
theorem fl33_1 {h b:Nat}:afield Tryz.prog 33 1 (.pointer (some ⟨h,b,none⟩))=some (.pointer (some ⟨h,b+3,none⟩)):=by simp [afield,Tryz.underlying33]
theorem fv33_2 {x0 x1 x2 x3 x4:Value}:afieldV Tryz.prog 33 2 (.agg #[x0,x1,x2,x3,x4])=some x4:=by simp [afieldV,Tryz.underlying33,apart,Tryz.underlying31,ag31,co31,aisAgg]
theorem fl33_2 {h b:Nat}:afield Tryz.prog 33 2 (.pointer (some ⟨h,b,none⟩))=some (.pointer (some ⟨h,b+4,none⟩)):=by simp [afield,Tryz.underlying33]
theorem ag36:aisAgg Tryz.prog 36=false:=by kernel_rfl
theorem pt36:isPtr Tryz.prog 36=false:=by kernel_rfl
theorem sc36:isSlc Tryz.prog 36=false:=by kernel_rfl
theorem pt37:isPtr Tryz.prog 37=false:=by kernel_rfl
theorem sc37:isSlc Tryz.prog 37=true:=by kernel_rfl
theorem ag38:aisAgg Tryz.prog 38=false:=by kernel_rfl
theorem pt38:isPtr Tryz.prog 38=false:=by kernel_rfl
theorem sc38:isSlc Tryz.prog 38=false:=by kernel_rfl
theorem ag39:aisAgg Tryz.prog 39=false:=by kernel_rfl
theorem pt39:isPtr Tryz.prog 39=false:=by kernel_rfl
theorem sc39:isSlc Tryz.prog 39=false:=by kernel_rfl
theorem ag40:aisAgg Tryz.prog 40=true:=by kernel_rfl
theorem pt40:isPtr Tryz.prog 40=false:=by kernel_rfl
theorem sc40:isSlc Tryz.prog 40=false:=by kernel_rfl
theorem fv40_0 {x0 x1 x2:Value}:afieldV Tryz.prog 40 0 (.agg #[x0,x1,x2])=some x0:=by simp [afieldV,Tryz.underlying40,apart,Tryz.underlying3,ag3,co3,aisAgg]
theorem fl40_0 {h b:Nat}:afield Tryz.prog 40 0 (.pointer (some ⟨h,b,none⟩))=some (.pointer (some ⟨h,b+0,none⟩)):=by simp [afield,Tryz.underlying40]
theorem fv40_1 {x0 x1 x2:Value}:afieldV Tryz.prog 40 1 (.agg #[x0,x1,x2])=some x1:=by simp [afieldV,Tryz.underlying40,apart,Tryz.underlying3,ag3,co3,aisAgg]
theorem fl40_1 {h b:Nat}:afield Tryz.prog 40 1 (.pointer (some ⟨h,b,none⟩))=some (.pointer (some ⟨h,b+1,none⟩)):=by simp [afield,Tryz.underlying40]
theorem fv40_2 {x0 x1 x2:Value}:afieldV Tryz.prog 40 2 (.agg #[x0,x1,x2])=some x2:=by simp [afieldV,Tryz.underlying40,apart,Tryz.underlying9,ag9,co9,aisAgg]
theorem fl40_2 {h b:Nat}:afield Tryz.prog 40 2 (.pointer (some ⟨h,b,none⟩))=some (.pointer (some ⟨h,b+2,none⟩)):=by simp [afield,Tryz.underlying40]
theorem co41:Tryz.prog.cellsOf 41=3:=by kernel_rfl
theorem ag41:aisAgg Tryz.prog 41=true:=by kernel_rfl
theorem pt41:isPtr Tryz.prog 41=false:=by kernel_rfl
theorem sc41:isSlc Tryz.prog 41=false:=by kernel_rfl
theorem ze41:azero Tryz.prog 41=some (Value.agg #[Value.int IntKind.i64 0,Value.int IntKind.i64 0,Value.string { data:=#[] }]):=by kernel_rfl
theorem fv41_0 {x0 x1 x2:Value}:afieldV Tryz.prog 41 0 (.agg #[x0,x1,x2])=some x0:=by simp [afieldV,Tryz.underlying41,apart,Tryz.underlying3,ag3,co3,aisAgg]
theorem fl41_0 {h b:Nat}:afield Tryz.prog 41 0 (.pointer (some ⟨h,b,none⟩))=some (.pointer (some ⟨h,b+0,none⟩)):=by simp [afield,Tryz.underlying41]
theorem fv41_1 {x0 x1 x2:Value}:afieldV Tryz.prog 41 1 (.agg #[x0,x1,x2])=some x1:=by simp [afieldV,Tryz.underlying41,apart,Tryz.underlying3,ag3,co3,aisAgg]
theorem fl41_1 {h b:Nat}:afield Tryz.prog 41 1 (.pointer (some ⟨h,b,none⟩))=some (.pointer (some ⟨h,b+1,none⟩)):=by simp [afield,Tryz.underlying41]
theorem fv41_2 {x0 x1 x2:Value}:afieldV Tryz.prog 41 2 (.agg #[x0,x1,x2])=some x2:=by simp [afieldV,Tryz.underlying41,apart,Tryz.underlying9,ag9,co9,aisAgg]
theorem fl41_2 {h b:Nat}:afield Tryz.prog 41 2 (.pointer (some ⟨h,b,none⟩))=some (.pointer (some ⟨h,b+2,none⟩)):=by simp [afield,Tryz.underlying41]
theorem pt42:isPtr Tryz.prog 42=false:=by kernel_rfl
theorem sc42:isSlc Tryz.prog 42=true:=by kernel_rfl
theorem ag43:aisAgg Tryz.prog 43=false:=by kernel_rfl
theorem pt43:isPtr Tryz.prog 43=false:=by kernel_rfl
theorem sc43:isSlc Tryz.prog 43=false:=by kernel_rfl
theorem ag44:aisAgg Tryz.prog 44=false:=by kernel_rfl
theorem pt44:isPtr Tryz.prog 44=false:=by kernel_rfl
theorem sc44:isSlc Tryz.prog 44=false:=by kernel_rfl
theorem ag45:aisAgg Tryz.prog 45=false:=by kernel_rfl
theorem pt45:isPtr Tryz.prog 45=false:=by kernel_rfl
theorem sc45:isSlc Tryz.prog 45=false:=by kernel_rfl
theorem ag48:aisAgg Tryz.prog 48=false:=by kernel_rfl
theorem pt48:isPtr Tryz.prog 48=false:=by kernel_rfl
theorem sc48:isSlc Tryz.prog 48=false:=by kernel_rfl
theorem ag49:aisAgg Tryz.prog 49=false:=by kernel_rfl
theorem pt49:isPtr Tryz.prog 49=false:=by kernel_rfl
theorem sc49:isSlc Tryz.prog 49=false:=by kernel_rfl
theorem pt50:isPtr Tryz.prog 50=false:=by kernel_rfl
theorem sc50:isSlc Tryz.prog 50=true:=by kernel_rfl
theorem ag51:aisAgg Tryz.prog 51=false:=by kernel_rfl
theorem pt51:isPtr Tryz.prog 51=false:=by kernel_rfl
theorem sc51:isSlc Tryz.prog 51=false:=by kernel_rfl
theorem ag52:aisAgg Tryz.prog 52=false:=by kernel_rfl
theorem pt52:isPtr Tryz.prog 52=false:=by kernel_rfl
theorem sc52:isSlc Tryz.prog 52=false:=by kernel_rfl
theorem ag53:aisAgg Tryz.prog 53=false:=by kernel_rfl
theorem pt53:isPtr Tryz.prog 53=false:=by kernel_rfl
theorem sc53:isSlc Tryz.prog 53=false:=by kernel_rfl
theorem ag54:aisAgg Tryz.prog 54=false:=by kernel_rfl
theorem pt54:isPtr Tryz.prog 54=true:=by kernel_rfl
theorem sc54:isSlc Tryz.prog 54=false:=by kernel_rfl
theorem ag55:aisAgg Tryz.prog 55=false:=by kernel_rfl
theorem pt55:isPtr Tryz.prog 55=false:=by kernel_rfl
theorem sc55:isSlc Tryz.prog 55=false:=by kernel_rfl
theorem ag56:aisAgg Tryz.prog 56=false:=by kernel_rfl
theorem pt56:isPtr Tryz.prog 56=false:=by kernel_rfl
theorem sc56:isSlc Tryz.prog 56=false:=by kernel_rfl
theorem ag57:aisAgg Tryz.prog 57=false:=by kernel_rfl
theorem pt57:isPtr Tryz.prog 57=false:=by kernel_rfl
theorem sc57:isSlc Tryz.prog 57=false:=by kernel_rfl
theorem ag58:aisAgg Tryz.prog 58=false:=by kernel_rfl
theorem pt58:isPtr Tryz.prog 58=false:=by kernel_rfl
theorem sc58:isSlc Tryz.prog 58=false:=by kernel_rfl
theorem pt59:isPtr Tryz.prog 59=false:=by kernel_rfl
theorem sc59:isSlc Tryz.prog 59=false:=by kernel_rfl
theorem ag60:aisAgg Tryz.prog 60=false:=by kernel_rfl
theorem pt60:isPtr Tryz.prog 60=false:=by kernel_rfl
theorem sc60:isSlc Tryz.prog 60=false:=by kernel_rfl
theorem pt61:isPtr Tryz.prog 61=false:=by kernel_rfl
theorem sc61:isSlc Tryz.prog 61=false:=by kernel_rfl
theorem ag62:aisAgg Tryz.prog 62=false:=by kernel_rfl
theorem pt62:isPtr Tryz.prog 62=false:=by kernel_rfl
theorem sc62:isSlc Tryz.prog 62=false:=by kernel_rfl
theorem ag63:aisAgg Tryz.prog 63=false:=by kernel_rfl
theorem pt63:isPtr Tryz.prog 63=false:=by kernel_rfl
theorem sc63:isSlc Tryz.prog 63=false:=by kernel_rfl
theorem ag64:aisAgg Tryz.prog 64=false:=by kernel_rfl
theorem pt64:isPtr Tryz.prog 64=false:=by kernel_rfl
theorem sc64:isSlc Tryz.prog 64=false:=by kernel_rfl
theorem ag65:aisAgg Tryz.prog 65=false:=by kernel_rfl
theorem pt65:isPtr Tryz.prog 65=false:=by kernel_rfl
theorem sc65:isSlc Tryz.prog 65=false:=by kernel_rfl
theorem ag66:aisAgg Tryz.prog 66=false:=by kernel_rfl
theorem pt66:isPtr Tryz.prog 66=false:=by kernel_rfl
theorem sc66:isSlc Tryz.prog 66=false:=by kernel_rfl
theorem ag67:aisAgg Tryz.prog 67=false:=by kernel_rfl
theorem pt67:isPtr Tryz.prog 67=false:=by kernel_rfl
theorem sc67:isSlc Tryz.prog 67=false:=by kernel_rfl
theorem ag69:aisAgg Tryz.prog 69=true:=by kernel_rfl
theorem pt69:isPtr Tryz.prog 69=false:=by kernel_rfl
theorem sc69:isSlc Tryz.prog 69=false:=by kernel_rfl
theorem fv69_0 {x0 x1 x2:Value}:afieldV Tryz.prog 69 0 (.agg #[x0,x1,x2])=some x0:=by simp [afieldV,Tryz.underlying69,apart,Tryz.underlying3,ag3,co3,aisAgg]
theorem fl69_0 {h b:Nat}:afield Tryz.prog 69 0 (.pointer (some ⟨h,b,none⟩))=some (.pointer (some ⟨h,b+0,none⟩)):=by simp [afield,Tryz.underlying69]
theorem fv69_1 {x0 x1 x2:Value}:afieldV Tryz.prog 69 1 (.agg #[x0,x1,x2])=some x1:=by simp [afieldV,Tryz.underlying69,apart,Tryz.underlying3,ag3,co3,aisAgg]
theorem fl69_1 {h b:Nat}:afield Tryz.prog 69 1 (.pointer (some ⟨h,b,none⟩))=some (.pointer (some ⟨h,b+1,none⟩)):=by simp [afield,Tryz.underlying69]
theorem fv69_2 {x0 x1 x2:Value}:afieldV Tryz.prog 69 2 (.agg #[x0,x1,x2])=some x2:=by simp [afieldV,Tryz.underlying69,apart,Tryz.underlying3,ag3,co3,aisAgg]
theorem fl69_2 {h b:Nat}:afield Tryz.prog 69 2 (.pointer (some ⟨h,b,none⟩))=some (.pointer (some ⟨h,b+2,none⟩)):=by simp [afield,Tryz.underlying69]
theorem co70:Tryz.prog.cellsOf 70=3:=by kernel_rfl
theorem ag70:aisAgg Tryz.prog 70=true:=by kernel_rfl
theorem pt70:isPtr Tryz.prog 70=false:=by kernel_rfl
theorem sc70:isSlc Tryz.prog 70=false:=by kernel_rfl
theorem ze70:azero Tryz.prog 70=some (Value.agg #[Value.int IntKind.i64 0,Value.int IntKind.i64 0,Value.int IntKind.i64 0]):=by kernel_rfl
theorem fv70_0 {x0 x1 x2:Value}:afieldV Tryz.prog 70 0 (.agg #[x0,x1,x2])=some x0:=by simp [afieldV,Tryz.underlying70,apart,Tryz.underlying3,ag3,co3,aisAgg]
theorem fl70_0 {h b:Nat}:afield Tryz.prog 70 0 (.pointer (some ⟨h,b,none⟩))=some (.pointer (some ⟨h,b+0,none⟩)):=by simp [afield,Tryz.underlying70]
theorem fv70_1 {x0 x1 x2:Value}:afieldV Tryz.prog 70 1 (.agg #[x0,x1,x2])=some x1:=by simp [afieldV,Tryz.underlying70,apart,Tryz.underlying3,ag3,co3,aisAgg]
theorem fl70_1 {h b:Nat}:afield Tryz.prog 70 1 (.pointer (some ⟨h,b,none⟩))=some (.pointer (some ⟨h,b+1,none⟩)):=by simp [afield,Tryz.underlying70]
theorem fv70_2 {x0 x1 x2:Value}:afieldV Tryz.prog 70 2 (.agg #[x0,x1,x2])=some x2:=by simp [afieldV,Tryz.underlying70,apart,Tryz.underlying3,ag3,co3,aisAgg]
theorem fl70_2 {h b:Nat}:afield Tryz.prog 70 2 (.pointer (some ⟨h,b,none⟩))=some (.pointer (some ⟨h,b+2,none⟩)):=by simp [afield,Tryz.underlying70]
theorem ag71:aisAgg Tryz.prog 71=false:=by kernel_rfl
theorem pt71:isPtr Tryz.prog 71=true:=by kernel_rfl
theorem sc71:isSlc Tryz.prog 71=false:=by kernel_rfl
theorem ag73:aisAgg Tryz.prog 73=false:=by kernel_rfl
theorem pt73:isPtr Tryz.prog 73=false:=by kernel_rfl
theorem sc73:isSlc Tryz.prog 73=false:=by kernel_rfl
theorem ag74:aisAgg Tryz.prog 74=false:=by kernel_rfl
theorem pt74:isPtr Tryz.prog 74=false:=by kernel_rfl
theorem sc74:isSlc Tryz.prog 74=false:=by kernel_rfl
theorem ag75:aisAgg Tryz.prog 75=false:=by kernel_rfl
theorem pt75:isPtr Tryz.prog 75=false:=by kernel_rfl
theorem sc75:isSlc Tryz.prog 75=false:=by kernel_rfl
theorem ag76:aisAgg Tryz.prog 76=false:=by kernel_rfl
theorem pt76:isPtr Tryz.prog 76=false:=by kernel_rfl
theorem sc76:isSlc Tryz.prog 76=false:=by kernel_rfl
theorem ag77:aisAgg Tryz.prog 77=false:=by kernel_rfl
theorem pt77:isPtr Tryz.prog 77=false:=by kernel_rfl
theorem sc77:isSlc Tryz.prog 77=false:=by kernel_rfl
theorem ag78:aisAgg Tryz.prog 78=false:=by kernel_rfl
theorem pt78:isPtr Tryz.prog 78=true:=by kernel_rfl
theorem sc78:isSlc Tryz.prog 78=false:=by kernel_rfl
theorem pt81:isPtr Tryz.prog 81=false:=by kernel_rfl
theorem sc81:isSlc Tryz.prog 81=false:=by kernel_rfl
theorem pt82:isPtr Tryz.prog 82=false:=by kernel_rfl
theorem sc82:isSlc Tryz.prog 82=false:=by kernel_rfl
theorem pt83:isPtr Tryz.prog 83=false:=by kernel_rfl
theorem sc83:isSlc Tryz.prog 83=false:=by kernel_rfl
theorem ag84:aisAgg Tryz.prog 84=false:=by kernel_rfl
theorem pt84:isPtr Tryz.prog 84=false:=by kernel_rfl
theorem sc84:isSlc Tryz.prog 84=false:=by kernel_rfl
theorem ag85:aisAgg Tryz.prog 85=false:=by kernel_rfl
theorem pt85:isPtr Tryz.prog 85=false:=by kernel_rfl
theorem sc85:isSlc Tryz.prog 85=false:=by kernel_rfl
theorem ag86:aisAgg Tryz.prog 86=false:=by kernel_rfl
theorem pt86:isPtr Tryz.prog 86=false:=by kernel_rfl
theorem sc86:isSlc Tryz.prog 86=false:=by kernel_rfl
theorem ag88:aisAgg Tryz.prog 88=false:=by kernel_rfl
theorem pt88:isPtr Tryz.prog 88=false:=by kernel_rfl
theorem sc88:isSlc Tryz.prog 88=true:=by kernel_rfl
theorem esz88:aesz Tryz.prog 88=1:=by kernel_rfl
theorem el88:Elems Tryz.prog 88 1 (Value.int IntKind.i64 0) 8:=⟨⟨3,Tryz.t3,Tryz.underlying88,by kernel_rfl,rfl,rfl,rfl⟩,⟨3,Tryz.underlying88,by kernel_rfl,by kernel_rfl⟩⟩
theorem sl88:∃e,Tryz.prog.underlying 88=some (.slice e):=⟨3,Tryz.underlying88⟩
theorem ag89:aisAgg Tryz.prog 89=false:=by kernel_rfl
theorem pt89:isPtr Tryz.prog 89=false:=by kernel_rfl
theorem sc89:isSlc Tryz.prog 89=false:=by kernel_rfl
theorem ag90:aisAgg Tryz.prog 90=false:=by kernel_rfl
theorem pt90:isPtr Tryz.prog 90=false:=by kernel_rfl
theorem sc90:isSlc Tryz.prog 90=false:=by kernel_rfl
theorem ag91:aisAgg Tryz.prog 91=false:=by kernel_rfl
theorem pt91:isPtr Tryz.prog 91=false:=by kernel_rfl
theorem sc91:isSlc Tryz.prog 91=false:=by kernel_rfl
theorem ag92:aisAgg Tryz.prog 92=false:=by kernel_rfl
theorem pt92:isPtr Tryz.prog 92=false:=by kernel_rfl
theorem sc92:isSlc Tryz.prog 92=false:=by kernel_rfl
theorem pt93:isPtr Tryz.prog 93=false:=by kernel_rfl
theorem sc93:isSlc Tryz.prog 93=true:=by kernel_rfl
theorem ag95:aisAgg Tryz.prog 95=false:=by kernel_rfl
theorem pt95:isPtr Tryz.prog 95=false:=by kernel_rfl
theorem sc95:isSlc Tryz.prog 95=false:=by kernel_rfl
theorem ag96:aisAgg Tryz.prog 96=false:=by kernel_rfl
theorem pt96:isPtr Tryz.prog 96=false:=by kernel_rfl
theorem sc96:isSlc Tryz.prog 96=false:=by kernel_rfl
theorem ag97:aisAgg Tryz.prog 97=false:=by kernel_rfl
theorem pt97:isPtr Tryz.prog 97=false:=by kernel_rfl
theorem sc97:isSlc Tryz.prog 97=false:=by kernel_rfl
theorem ag98:aisAgg Tryz.prog 98=false:=by kernel_rfl
theorem pt98:isPtr Tryz.prog 98=false:=by kernel_rfl
theorem sc98:isSlc Tryz.prog 98=false:=by kernel_rfl
theorem ag99:aisAgg Tryz.prog 99=false:=by kernel_rfl
theorem pt99:isPtr Tryz.prog 99=false:=by kernel_rfl
theorem sc99:isSlc Tryz.prog 99=false:=by kernel_rfl
theorem ag100:aisAgg Tryz.prog 100=false:=by kernel_rfl
theorem pt100:isPtr Tryz.prog 100=false:=by kernel_rfl
theorem sc100:isSlc Tryz.prog 100=false:=by kernel_rfl
theorem ag101:aisAgg Tryz.prog 101=true:=by kernel_rfl
theorem pt101:isPtr Tryz.prog 101=false:=by kernel_rfl
theorem sc101:isSlc Tryz.prog 101=true:=by kernel_rfl
theorem fv101_0 {x0 x1:Value}:afieldV Tryz.prog 101 0 (.agg #[x0,x1])=some x0:=by simp [afieldV,Tryz.underlying101,apart,Tryz.underlying22,ag22,co22,aisAgg]
theorem fl101_0 {h b:Nat}:afield Tryz.prog 101 0 (.pointer (some ⟨h,b,none⟩))=some (.pointer (some ⟨h,b+0,none⟩)):=by simp [afield,Tryz.underlying101]
theorem fv101_1 {x0 x1:Value}:afieldV Tryz.prog 101 1 (.agg #[x0,x1])=some x1:=by simp [afieldV,Tryz.underlying101,apart,Tryz.underlying3,ag3,co3,aisAgg]
theorem fl101_1 {h b:Nat}:afield Tryz.prog 101 1 (.pointer (some ⟨h,b,none⟩))=some (.pointer (some ⟨h,b+1,none⟩)):=by simp [afield,Tryz.underlying101]
theorem ag102:aisAgg Tryz.prog 102=true:=by kernel_rfl
theorem pt102:isPtr Tryz.prog 102=false:=by kernel_rfl
theorem sc102:isSlc Tryz.prog 102=true:=by kernel_rfl
theorem ze102:azero Tryz.prog 102=some (Value.agg #[Value.slice none 0 0,Value.int IntKind.i64 0]):=by kernel_rfl
theorem fv102_0 {x0 x1:Value}:afieldV Tryz.prog 102 0 (.agg #[x0,x1])=some x0:=by simp [afieldV,Tryz.underlying102,apart,Tryz.underlying22,ag22,co22,aisAgg]
theorem fl102_0 {h b:Nat}:afield Tryz.prog 102 0 (.pointer (some ⟨h,b,none⟩))=some (.pointer (some ⟨h,b+0,none⟩)):=by simp [afield,Tryz.underlying102]
theorem fv102_1 {x0 x1:Value}:afieldV Tryz.prog 102 1 (.agg #[x0,x1])=some x1:=by simp [afieldV,Tryz.underlying102,apart,Tryz.underlying3,ag3,co3,aisAgg]
theorem fl102_1 {h b:Nat}:afield Tryz.prog 102 1 (.pointer (some ⟨h,b,none⟩))=some (.pointer (some ⟨h,b+1,none⟩)):=by simp [afield,Tryz.underlying102]
theorem ag104:aisAgg Tryz.prog 104=false:=by kernel_rfl
theorem pt104:isPtr Tryz.prog 104=false:=by kernel_rfl
theorem sc104:isSlc Tryz.prog 104=false:=by kernel_rfl
theorem ag105:aisAgg Tryz.prog 105=false:=by kernel_rfl
theorem pt105:isPtr Tryz.prog 105=false:=by kernel_rfl
theorem sc105:isSlc Tryz.prog 105=false:=by kernel_rfl
theorem ag106:aisAgg Tryz.prog 106=false:=by kernel_rfl
theorem pt106:isPtr Tryz.prog 106=false:=by kernel_rfl
theorem sc106:isSlc Tryz.prog 106=false:=by kernel_rfl
theorem ag107:aisAgg Tryz.prog 107=false:=by kernel_rfl
theorem pt107:isPtr Tryz.prog 107=false:=by kernel_rfl
theorem sc107:isSlc Tryz.prog 107=false:=by kernel_rfl
theorem ag108:aisAgg Tryz.prog 108=false:=by kernel_rfl
theorem pt108:isPtr Tryz.prog 108=false:=by kernel_rfl
theorem sc108:isSlc Tryz.prog 108=false:=by kernel_rfl
theorem ag110:aisAgg Tryz.prog 110=false:=by kernel_rfl
theorem pt110:isPtr Tryz.prog 110=false:=by kernel_rfl
theorem sc110:isSlc Tryz.prog 110=false:=by kernel_rfl
theorem ag111:aisAgg Tryz.prog 111=true:=by kernel_rfl
theorem pt111:isPtr Tryz.prog 111=false:=by kernel_rfl
theorem sc111:isSlc Tryz.prog 111=true:=by kernel_rfl
theorem fl111_0 {h b:Nat}:afield Tryz.prog 111 0 (.pointer (some ⟨h,b,none⟩))=some (.pointer (some ⟨h,b+0,none⟩)):=by simp [afield,Tryz.underlying111]
theorem fv111_1 {x0 x1 x2 x3:Value}:afieldV Tryz.prog 111 1 (.agg #[x0,x1,x2,x3])=some x3:=by simp [afieldV,Tryz.underlying111,apart,Tryz.underlying31,ag31,co31,aisAgg]
theorem fl111_1 {h b:Nat}:afield Tryz.prog 111 1 (.pointer (some ⟨h,b,none⟩))=some (.pointer (some ⟨h,b+3,none⟩)):=by simp [afield,Tryz.underlying111]
theorem ag112:aisAgg Tryz.prog 112=true:=by kernel_rfl
theorem pt112:isPtr Tryz.prog 112=false:=by kernel_rfl
theorem sc112:isSlc Tryz.prog 112=true:=by kernel_rfl
theorem ze112:azero Tryz.prog 112=some (Value.agg #[Value.int IntKind.i64 0,Value.int IntKind.i64 0,Value.int IntKind.i64 0,Value.slice none 0 0]):=by kernel_rfl
theorem fl112_0 {h b:Nat}:afield Tryz.prog 112 0 (.pointer (some ⟨h,b,none⟩))=some (.pointer (some ⟨h,b+0,none⟩)):=by simp [afield,Tryz.underlying112]
theorem fv112_1 {x0 x1 x2 x3:Value}:afieldV Tryz.prog 112 1 (.agg #[x0,x1,x2,x3])=some x3:=by simp [afieldV,Tryz.underlying112,apart,Tryz.underlying31,ag31,co31,aisAgg]
theorem fl112_1 {h b:Nat}:afield Tryz.prog 112 1 (.pointer (some ⟨h,b,none⟩))=some (.pointer (some ⟨h,b+3,none⟩)):=by simp [afield,Tryz.underlying112]
theorem ag113:aisAgg Tryz.prog 113=false:=by kernel_rfl
theorem pt113:isPtr Tryz.prog 113=false:=by kernel_rfl
theorem sc113:isSlc Tryz.prog 113=false:=by kernel_rfl
theorem co114:Tryz.prog.cellsOf 114=1:=by kernel_rfl
theorem ag114:aisAgg Tryz.prog 114=false:=by kernel_rfl
theorem pt114:isPtr Tryz.prog 114=true:=by kernel_rfl
theorem sc114:isSlc Tryz.prog 114=true:=by kernel_rfl
theorem esz114:aesz Tryz.prog 114=1:=by kernel_rfl
theorem ag115:aisAgg Tryz.prog 115=true:=by kernel_rfl
theorem pt115:isPtr Tryz.prog 115=false:=by kernel_rfl
theorem sc115:isSlc Tryz.prog 115=true:=by kernel_rfl
theorem fl115_0 {h b:Nat}:afield Tryz.prog 115 0 (.pointer (some ⟨h,b,none⟩))=some (.pointer (some ⟨h,b+0,none⟩)):=by simp [afield,Tryz.underlying115]
theorem fv115_1 {x0 x1 x2 x3 x4:Value}:afieldV Tryz.prog 115 1 (.agg #[x0,x1,x2,x3,x4])=some x4:=by simp [afieldV,Tryz.underlying115,apart,Tryz.underlying114,ag114,co114,aisAgg]
theorem fl115_1 {h b:Nat}:afield Tryz.prog 115 1 (.pointer (some ⟨h,b,none⟩))=some (.pointer (some ⟨h,b+4,none⟩)):=by simp [afield,Tryz.underlying115]
theorem ag116:aisAgg Tryz.prog 116=true:=by kernel_rfl
theorem pt116:isPtr Tryz.prog 116=false:=by kernel_rfl
theorem sc116:isSlc Tryz.prog 116=true:=by kernel_rfl
theorem ze116:azero Tryz.prog 116=some (Value.agg #[Value.int IntKind.i64 0,Value.int IntKind.i64 0,Value.int IntKind.i64 0,Value.slice none 0 0,Value.slice none 0 0]):=by kernel_rfl
theorem fl116_0 {h b:Nat}:afield Tryz.prog 116 0 (.pointer (some ⟨h,b,none⟩))=some (.pointer (some ⟨h,b+0,none⟩)):=by simp [afield,Tryz.underlying116]
theorem fv116_1 {x0 x1 x2 x3 x4:Value}:afieldV Tryz.prog 116 1 (.agg #[x0,x1,x2,x3,x4])=some x4:=by simp [afieldV,Tryz.underlying116,apart,Tryz.underlying114,ag114,co114,aisAgg]
theorem fl116_1 {h b:Nat}:afield Tryz.prog 116 1 (.pointer (some ⟨h,b,none⟩))=some (.pointer (some ⟨h,b+4,none⟩)):=by simp [afield,Tryz.underlying116]
theorem ag117:aisAgg Tryz.prog 117=false:=by kernel_rfl
theorem pt117:isPtr Tryz.prog 117=false:=by kernel_rfl
theorem sc117:isSlc Tryz.prog 117=false:=by kernel_rfl
theorem pt118:isPtr Tryz.prog 118=false:=by kernel_rfl
theorem sc118:isSlc Tryz.prog 118=false:=by kernel_rfl
theorem ag119:aisAgg Tryz.prog 119=false:=by kernel_rfl
theorem pt119:isPtr Tryz.prog 119=false:=by kernel_rfl
theorem sc119:isSlc Tryz.prog 119=false:=by kernel_rfl
theorem ag120:aisAgg Tryz.prog 120=false:=by kernel_rfl
theorem pt120:isPtr Tryz.prog 120=false:=by kernel_rfl
theorem sc120:isSlc Tryz.prog 120=false:=by kernel_rfl
theorem ag121:aisAgg Tryz.prog 121=false:=by kernel_rfl
theorem pt121:isPtr Tryz.prog 121=false:=by kernel_rfl
theorem sc121:isSlc Tryz.prog 121=false:=by kernel_rfl
theorem ag122:aisAgg Tryz.prog 122=false:=by kernel_rfl
theorem pt122:isPtr Tryz.prog 122=false:=by kernel_rfl
theorem sc122:isSlc Tryz.prog 122=false:=by kernel_rfl
theorem ag123:aisAgg Tryz.prog 123=false:=by kernel_rfl
theorem pt123:isPtr Tryz.prog 123=true:=by kernel_rfl
theorem sc123:isSlc Tryz.prog 123=false:=by kernel_rfl
theorem ag124:aisAgg Tryz.prog 124=true:=by kernel_rfl
theorem pt124:isPtr Tryz.prog 124=false:=by kernel_rfl
theorem sc124:isSlc Tryz.prog 124=false:=by kernel_rfl
theorem esz124:aesz Tryz.prog 124=1:=by kernel_rfl
theorem ze124:azero Tryz.prog 124=some (Value.agg #[Value.bool false,Value.bool false,Value.bool false,Value.bool false,Value.bool false,Value.bool false]):=by kernel_rfl
theorem pt125:isPtr Tryz.prog 125=false:=by kernel_rfl
theorem sc125:isSlc Tryz.prog 125=true:=by kernel_rfl
theorem ag135:aisAgg Tryz.prog 135=false:=by kernel_rfl
theorem pt135:isPtr Tryz.prog 135=false:=by kernel_rfl
theorem sc135:isSlc Tryz.prog 135=false:=by kernel_rfl
theorem ag136:aisAgg Tryz.prog 136=false:=by kernel_rfl
theorem pt136:isPtr Tryz.prog 136=true:=by kernel_rfl
theorem sc136:isSlc Tryz.prog 136=false:=by kernel_rfl
theorem pt139:isPtr Tryz.prog 139=false:=by kernel_rfl
theorem sc139:isSlc Tryz.prog 139=false:=by kernel_rfl
theorem ag140:aisAgg Tryz.prog 140=false:=by kernel_rfl
theorem pt140:isPtr Tryz.prog 140=false:=by kernel_rfl
theorem sc140:isSlc Tryz.prog 140=false:=by kernel_rfl
theorem ag141:aisAgg Tryz.prog 141=false:=by kernel_rfl
theorem pt141:isPtr Tryz.prog 141=false:=by kernel_rfl
theorem sc141:isSlc Tryz.prog 141=false:=by kernel_rfl
theorem ag142:aisAgg Tryz.prog 142=false:=by kernel_rfl
theorem pt142:isPtr Tryz.prog 142=false:=by kernel_rfl
theorem sc142:isSlc Tryz.prog 142=false:=by kernel_rfl
theorem ag143:aisAgg Tryz.prog 143=false:=by kernel_rfl
theorem pt143:isPtr Tryz.prog 143=false:=by kernel_rfl
theorem sc143:isSlc Tryz.prog 143=false:=by kernel_rfl
theorem ag144:aisAgg Tryz.prog 144=false:=by kernel_rfl
theorem pt144:isPtr Tryz.prog 144=false:=by kernel_rfl
theorem sc144:isSlc Tryz.prog 144=false:=by kernel_rfl
theorem ag145:aisAgg Tryz.prog 145=false:=by kernel_rfl
theorem pt145:isPtr Tryz.prog 145=false:=by kernel_rfl
theorem sc145:isSlc Tryz.prog 145=false:=by kernel_rfl
theorem ag146:aisAgg Tryz.prog 146=false:=by kernel_rfl
theorem pt146:isPtr Tryz.prog 146=false:=by kernel_rfl
theorem sc146:isSlc Tryz.prog 146=false:=by kernel_rfl
theorem ag147:aisAgg Tryz.prog 147=false:=by kernel_rfl
theorem pt147:isPtr Tryz.prog 147=false:=by kernel_rfl
theorem sc147:isSlc Tryz.prog 147=false:=by kernel_rfl
theorem esz154:aesz Tryz.prog 154=1:=by kernel_rfl
theorem co155:Tryz.prog.cellsOf 155=1:=by kernel_rfl
theorem ag155:aisAgg Tryz.prog 155=false:=by kernel_rfl
theorem pt155:isPtr Tryz.prog 155=false:=by kernel_rfl
theorem sc155:isSlc Tryz.prog 155=false:=by kernel_rfl
theorem ag159:aisAgg Tryz.prog 159=false:=by kernel_rfl
theorem pt159:isPtr Tryz.prog 159=false:=by kernel_rfl
theorem sc159:isSlc Tryz.prog 159=false:=by kernel_rfl
theorem ag160:aisAgg Tryz.prog 160=false:=by kernel_rfl
theorem pt160:isPtr Tryz.prog 160=false:=by kernel_rfl
theorem sc160:isSlc Tryz.prog 160=false:=by kernel_rfl
theorem ag161:aisAgg Tryz.prog 161=false:=by kernel_rfl
theorem pt161:isPtr Tryz.prog 161=false:=by kernel_rfl
theorem sc161:isSlc Tryz.prog 161=false:=by kernel_rfl
theorem ag163:aisAgg Tryz.prog 163=false:=by kernel_rfl
theorem pt163:isPtr Tryz.prog 163=false:=by kernel_rfl
theorem sc163:isSlc Tryz.prog 163=false:=by kernel_rfl
theorem esz173:aesz Tryz.prog 173=1:=by kernel_rfl
theorem esz174:aesz Tryz.prog 174=1:=by kernel_rfl
theorem esz181:aesz Tryz.prog 181=1:=by kernel_rfl
theorem esz182:aesz Tryz.prog 182=1:=by kernel_rfl
theorem pt185:isPtr Tryz.prog 185=false:=by kernel_rfl
theorem sc185:isSlc Tryz.prog 185=false:=by kernel_rfl
theorem esz185:aesz Tryz.prog 185=1:=by kernel_rfl
theorem ag189:aisAgg Tryz.prog 189=false:=by kernel_rfl
theorem pt189:isPtr Tryz.prog 189=false:=by kernel_rfl
theorem sc189:isSlc Tryz.prog 189=false:=by kernel_rfl
theorem ag190:aisAgg Tryz.prog 190=false:=by kernel_rfl
theorem pt190:isPtr Tryz.prog 190=false:=by kernel_rfl
theorem sc190:isSlc Tryz.prog 190=false:=by kernel_rfl
theorem ag191:aisAgg Tryz.prog 191=false:=by kernel_rfl
theorem pt191:isPtr Tryz.prog 191=false:=by kernel_rfl
theorem sc191:isSlc Tryz.prog 191=false:=by kernel_rfl
theorem ag192:aisAgg Tryz.prog 192=false:=by kernel_rfl
theorem pt192:isPtr Tryz.prog 192=false:=by kernel_rfl
theorem sc192:isSlc Tryz.prog 192=false:=by kernel_rfl
theorem ag193:aisAgg Tryz.prog 193=false:=by kernel_rfl
theorem pt193:isPtr Tryz.prog 193=false:=by kernel_rfl
theorem sc193:isSlc Tryz.prog 193=false:=by kernel_rfl
theorem nf3:noisyF Tryz.prog 3=false:=by kernel_rfl
theorem nf4:noisyF Tryz.prog 4=false:=by kernel_rfl
theorem nf5:noisyF Tryz.prog 5=false:=by kernel_rfl
theorem nf6:noisyF Tryz.prog 6=false:=by kernel_rfl
theorem nf7:noisyF Tryz.prog 7=false:=by kernel_rfl
theorem nf8:noisyF Tryz.prog 8=false:=by kernel_rfl
theorem nf9:noisyF Tryz.prog 9=false:=by kernel_rfl
theorem nf10:noisyF Tryz.prog 10=false:=by kernel_rfl
theorem nf11:noisyF Tryz.prog 11=false:=by kernel_rfl
theorem nf12:noisyF Tryz.prog 12=false:=by kernel_rfl
theorem nf13:noisyF Tryz.prog 13=false:=by kernel_rfl
theorem nf14:noisyF Tryz.prog 14=false:=by kernel_rfl
theorem nf16:noisyF Tryz.prog 16=false:=by kernel_rfl
theorem nf17:noisyF Tryz.prog 17=false:=by kernel_rfl
theorem nf18:noisyF Tryz.prog 18=false:=by kernel_rfl
theorem nf19:noisyF Tryz.prog 19=false:=by kernel_rfl
theorem nf20:noisyF Tryz.prog 20=false:=by kernel_rfl
theorem nf21:noisyF Tryz.prog 21=false:=by kernel_rfl
theorem nf22:noisyF Tryz.prog 22=false:=by kernel_rfl
theorem nf23:noisyF Tryz.prog 23=false:=by kernel_rfl
theorem nf24:noisyF Tryz.prog 24=false:=by kernel_rfl
theorem nf25:noisyF Tryz.prog 25=false:=by kernel_rfl
theorem nf26:noisyF Tryz.prog 26=false:=by kernel_rfl
theorem nf28:noisyF Tryz.prog 28=true:=by kernel_rfl
theorem nf29:noisyF Tryz.prog 29=true:=by kernel_rfl
theorem nf30:noisyF Tryz.prog 30=true:=by kernel_rfl
theorem nf31:noisyF Tryz.prog 31=false:=by kernel_rfl
theorem nf32:noisyF Tryz.prog 32=false:=by kernel_rfl
theorem nf33:noisyF Tryz.prog 33=false:=by kernel_rfl
theorem nf36:noisyF Tryz.prog 36=false:=by kernel_rfl
theorem nf37:noisyF Tryz.prog 37=false:=by kernel_rfl
theorem nf38:noisyF Tryz.prog 38=false:=by kernel_rfl
theorem nf39:noisyF Tryz.prog 39=false:=by kernel_rfl
theorem nf40:noisyF Tryz.prog 40=false:=by kernel_rfl
theorem nf41:noisyF Tryz.prog 41=true:=by kernel_rfl
theorem nf42:noisyF Tryz.prog 42=true:=by kernel_rfl
theorem nf43:noisyF Tryz.prog 43=false:=by kernel_rfl
theorem nf44:noisyF Tryz.prog 44=false:=by kernel_rfl
theorem nf45:noisyF Tryz.prog 45=true:=by kernel_rfl
theorem nf48:noisyF Tryz.prog 48=false:=by kernel_rfl
theorem nf49:noisyF Tryz.prog 49=false:=by kernel_rfl
theorem nf50:noisyF Tryz.prog 50=true:=by kernel_rfl
theorem nf51:noisyF Tryz.prog 51=false:=by kernel_rfl
theorem nf52:noisyF Tryz.prog 52=false:=by kernel_rfl
theorem nf53:noisyF Tryz.prog 53=false:=by kernel_rfl
theorem nf54:noisyF Tryz.prog 54=false:=by kernel_rfl
theorem nf55:noisyF Tryz.prog 55=false:=by kernel_rfl
theorem nf56:noisyF Tryz.prog 56=false:=by kernel_rfl
theorem nf57:noisyF Tryz.prog 57=false:=by kernel_rfl
theorem nf58:noisyF Tryz.prog 58=false:=by kernel_rfl
theorem nf59:noisyF Tryz.prog 59=false:=by kernel_rfl
theorem nf60:noisyF Tryz.prog 60=false:=by kernel_rfl
theorem nf61:noisyF Tryz.prog 61=false:=by kernel_rfl
theorem nf62:noisyF Tryz.prog 62=false:=by kernel_rfl
theorem nf63:noisyF Tryz.prog 63=false:=by kernel_rfl
theorem nf64:noisyF Tryz.prog 64=false:=by kernel_rfl
theorem nf65:noisyF Tryz.prog 65=false:=by kernel_rfl
theorem nf66:noisyF Tryz.prog 66=true:=by kernel_rfl
theorem nf67:noisyF Tryz.prog 67=false:=by kernel_rfl
theorem nf69:noisyF Tryz.prog 69=false:=by kernel_rfl
theorem nf70:noisyF Tryz.prog 70=false:=by kernel_rfl
theorem nf71:noisyF Tryz.prog 71=true:=by kernel_rfl
theorem nf73:noisyF Tryz.prog 73=true:=by kernel_rfl
theorem nf74:noisyF Tryz.prog 74=false:=by kernel_rfl
theorem nf75:noisyF Tryz.prog 75=false:=by kernel_rfl
theorem nf76:noisyF Tryz.prog 76=false:=by kernel_rfl
theorem nf77:noisyF Tryz.prog 77=false:=by kernel_rfl
theorem nf78:noisyF Tryz.prog 78=false:=by kernel_rfl
theorem nf79:noisyF Tryz.prog 79=false:=by kernel_rfl
theorem nf80:noisyF Tryz.prog 80=true:=by kernel_rfl
theorem nf81:noisyF Tryz.prog 81=false:=by kernel_rfl
theorem nf82:noisyF Tryz.prog 82=false:=by kernel_rfl
theorem nf83:noisyF Tryz.prog 83=false:=by kernel_rfl
theorem nf84:noisyF Tryz.prog 84=false:=by kernel_rfl
theorem nf85:noisyF Tryz.prog 85=true:=by kernel_rfl
theorem nf86:noisyF Tryz.prog 86=true:=by kernel_rfl
theorem nf88:noisyF Tryz.prog 88=false:=by kernel_rfl
theorem nf89:noisyF Tryz.prog 89=false:=by kernel_rfl
theorem nf90:noisyF Tryz.prog 90=true:=by kernel_rfl
theorem nf91:noisyF Tryz.prog 91=true:=by kernel_rfl
theorem nf92:noisyF Tryz.prog 92=true:=by kernel_rfl
theorem nf93:noisyF Tryz.prog 93=true:=by kernel_rfl
theorem nf95:noisyF Tryz.prog 95=false:=by kernel_rfl
theorem nf96:noisyF Tryz.prog 96=false:=by kernel_rfl
theorem nf97:noisyF Tryz.prog 97=false:=by kernel_rfl
theorem nf98:noisyF Tryz.prog 98=false:=by kernel_rfl
theorem nf99:noisyF Tryz.prog 99=false:=by kernel_rfl
theorem nf100:noisyF Tryz.prog 100=false:=by kernel_rfl
theorem nf101:noisyF Tryz.prog 101=false:=by kernel_rfl
theorem nf102:noisyF Tryz.prog 102=false:=by kernel_rfl
theorem nf104:noisyF Tryz.prog 104=false:=by kernel_rfl
theorem nf105:noisyF Tryz.prog 105=false:=by kernel_rfl
theorem nf106:noisyF Tryz.prog 106=false:=by kernel_rfl
theorem nf107:noisyF Tryz.prog 107=false:=by kernel_rfl
theorem nf108:noisyF Tryz.prog 108=true:=by kernel_rfl
theorem nf110:noisyF Tryz.prog 110=true:=by kernel_rfl
theorem nf111:noisyF Tryz.prog 111=false:=by kernel_rfl
theorem nf112:noisyF Tryz.prog 112=false:=by kernel_rfl
theorem nf113:noisyF Tryz.prog 113=true:=by kernel_rfl
theorem nf114:noisyF Tryz.prog 114=false:=by kernel_rfl
theorem nf116:noisyF Tryz.prog 116=false:=by kernel_rfl
theorem nf117:noisyF Tryz.prog 117=false:=by kernel_rfl
theorem nf118:noisyF Tryz.prog 118=false:=by kernel_rfl
theorem nf119:noisyF Tryz.prog 119=false:=by kernel_rfl
theorem nf120:noisyF Tryz.prog 120=false:=by kernel_rfl
theorem nf121:noisyF Tryz.prog 121=false:=by kernel_rfl
theorem nf122:noisyF Tryz.prog 122=false:=by kernel_rfl
theorem nf123:noisyF Tryz.prog 123=false:=by kernel_rfl
theorem nf124:noisyF Tryz.prog 124=false:=by kernel_rfl
theorem nf125:noisyF Tryz.prog 125=false:=by kernel_rfl
theorem nf135:noisyF Tryz.prog 135=false:=by kernel_rfl
theorem nf136:noisyF Tryz.prog 136=false:=by kernel_rfl
theorem nf139:noisyF Tryz.prog 139=false:=by kernel_rfl
theorem nf140:noisyF Tryz.prog 140=false:=by kernel_rfl
theorem nf141:noisyF Tryz.prog 141=false:=by kernel_rfl
theorem nf142:noisyF Tryz.prog 142=false:=by kernel_rfl
theorem nf143:noisyF Tryz.prog 143=false:=by kernel_rfl
theorem nf144:noisyF Tryz.prog 144=false:=by kernel_rfl
theorem nf145:noisyF Tryz.prog 145=false:=by kernel_rfl
theorem nf146:noisyF Tryz.prog 146=false:=by kernel_rfl
theorem nf147:noisyF Tryz.prog 147=false:=by kernel_rfl
theorem nf155:noisyF Tryz.prog 155=false:=by kernel_rfl
theorem nf159:noisyF Tryz.prog 159=false:=by kernel_rfl
theorem nf160:noisyF Tryz.prog 160=false:=by kernel_rfl
theorem nf161:noisyF Tryz.prog 161=false:=by kernel_rfl
theorem nf163:noisyF Tryz.prog 163=false:=by kernel_rfl
theorem nf187:noisyF Tryz.prog 187=false:=by kernel_rfl
theorem nf189:noisyF Tryz.prog 189=false:=by kernel_rfl
theorem nf190:noisyF Tryz.prog 190=false:=by kernel_rfl
theorem nf191:noisyF Tryz.prog 191=false:=by kernel_rfl
theorem good5:(callable Tryz.prog 5 && tmpsOnly Tryz.f5 && decide (1≤Tryz.f5.ntmps) && (match Tryz.f5.body with|some c=>goodC Tryz.prog Tryz.f5.ntmps c|none=>false))=true:=by kernel_rfl
theorem good11:(callable Tryz.prog 11 && tmpsOnly Tryz.f11 && decide (1≤Tryz.f11.ntmps) && (match Tryz.f11.body with|some c=>goodC Tryz.prog Tryz.f11.ntmps c|none=>false))=true:=by kernel_rfl
theorem goodc12:(callable Tryz.prog 12 && Tryz.f12.results.toList.all (rok Tryz.prog) && decide (2≤Tryz.f12.ntmps) && (match Tryz.f12.body with|some c=>goodC Tryz.prog Tryz.f12.ntmps c|none=>false))=true:=by kernel_rfl
theorem good13:(callable Tryz.prog 13 && tmpsOnly Tryz.f13 && decide (1≤Tryz.f13.ntmps) && (match Tryz.f13.body with|some c=>goodC Tryz.prog Tryz.f13.ntmps c|none=>false))=true:=by kernel_rfl
theorem good16:(callable Tryz.prog 16 && tmpsOnly Tryz.f16 && decide (2≤Tryz.f16.ntmps) && (match Tryz.f16.body with|some c=>goodC Tryz.prog Tryz.f16.ntmps c|none=>false))=true:=by kernel_rfl
theorem good17:(callable Tryz.prog 17 && tmpsOnly Tryz.f17 && decide (0≤Tryz.f17.ntmps) && (match Tryz.f17.body with|some c=>goodC Tryz.prog Tryz.f17.ntmps c|none=>false))=true:=by kernel_rfl
theorem goodc19:(callable Tryz.prog 19 && Tryz.f19.results.toList.all (rok Tryz.prog) && decide (2≤Tryz.f19.ntmps) && (match Tryz.f19.body with|some c=>goodC Tryz.prog Tryz.f19.ntmps c|none=>false))=true:=by kernel_rfl
theorem good20:(callable Tryz.prog 20 && tmpsOnly Tryz.f20 && decide (1≤Tryz.f20.ntmps) && (match Tryz.f20.body with|some c=>goodC Tryz.prog Tryz.f20.ntmps c|none=>false))=true:=by kernel_rfl
theorem good21:(callable Tryz.prog 21 && tmpsOnly Tryz.f21 && decide (1≤Tryz.f21.ntmps) && (match Tryz.f21.body with|some c=>goodC Tryz.prog Tryz.f21.ntmps c|none=>false))=true:=by kernel_rfl
theorem goodc22:(callable Tryz.prog 22 && Tryz.f22.results.toList.all (rok Tryz.prog) && decide (1≤Tryz.f22.ntmps) && (match Tryz.f22.body with|some c=>goodC Tryz.prog Tryz.f22.ntmps c|none=>false))=true:=by kernel_rfl
theorem goodc23:(callable Tryz.prog 23 && Tryz.f23.results.toList.all (rok Tryz.prog) && decide (2≤Tryz.f23.ntmps) && (match Tryz.f23.body with|some c=>goodC Tryz.prog Tryz.f23.ntmps c|none=>false))=true:=by kernel_rfl
theorem goodc24:(callable Tryz.prog 24 && Tryz.f24.results.toList.all (rok Tryz.prog) && decide (2≤Tryz.f24.ntmps) && (match Tryz.f24.body with|some c=>goodC Tryz.prog Tryz.f24.ntmps c|none=>false))=true:=by kernel_rfl
theorem good25:(callable Tryz.prog 25 && tmpsOnly Tryz.f25 && decide (2≤Tryz.f25.ntmps) && (match Tryz.f25.body with|some c=>goodC Tryz.prog Tryz.f25.ntmps c|none=>false))=true:=by kernel_rfl
theorem good26:(callable Tryz.prog 26 && tmpsOnly Tryz.f26 && decide (1≤Tryz.f26.ntmps) && (match Tryz.f26.body with|some c=>goodC Tryz.prog Tryz.f26.ntmps c|none=>false))=true:=by kernel_rfl
theorem good29:(callable Tryz.prog 29 && tmpsOnly Tryz.f29 && decide (2≤Tryz.f29.ntmps) && (match Tryz.f29.body with|some c=>goodC Tryz.prog Tryz.f29.ntmps c|none=>false))=true:=by kernel_rfl
theorem goodc32:(callable Tryz.prog 32 && Tryz.f32.results.toList.all (rok Tryz.prog) && decide (1≤Tryz.f32.ntmps) && (match Tryz.f32.body with|some c=>goodC Tryz.prog Tryz.f32.ntmps c|none=>false))=true:=by kernel_rfl
theorem goodc33:(callable Tryz.prog 33 && Tryz.f33.results.toList.all (rok Tryz.prog) && decide (1≤Tryz.f33.ntmps) && (match Tryz.f33.body with|some c=>goodC Tryz.prog Tryz.f33.ntmps c|none=>false))=true:=by kernel_rfl
theorem goodc34:(callable Tryz.prog 34 && Tryz.f34.results.toList.all (rok Tryz.prog) && decide (2≤Tryz.f34.ntmps) && (match Tryz.f34.body with|some c=>goodC Tryz.prog Tryz.f34.ntmps c|none=>false))=true:=by kernel_rfl
theorem good36:(callable Tryz.prog 36 && tmpsOnly Tryz.f36 && decide (1≤Tryz.f36.ntmps) && (match Tryz.f36.body with|some c=>goodC Tryz.prog Tryz.f36.ntmps c|none=>false))=true:=by kernel_rfl
theorem good37:(callable Tryz.prog 37 && tmpsOnly Tryz.f37 && decide (1≤Tryz.f37.ntmps) && (match Tryz.f37.body with|some c=>goodC Tryz.prog Tryz.f37.ntmps c|none=>false))=true:=by kernel_rfl
theorem good38:(callable Tryz.prog 38 && tmpsOnly Tryz.f38 && decide (1≤Tryz.f38.ntmps) && (match Tryz.f38.body with|some c=>goodC Tryz.prog Tryz.f38.ntmps c|none=>false))=true:=by kernel_rfl
theorem good39:(callable Tryz.prog 39 && tmpsOnly Tryz.f39 && decide (2≤Tryz.f39.ntmps) && (match Tryz.f39.body with|some c=>goodC Tryz.prog Tryz.f39.ntmps c|none=>false))=true:=by kernel_rfl
theorem good40:(callable Tryz.prog 40 && tmpsOnly Tryz.f40 && decide (1≤Tryz.f40.ntmps) && (match Tryz.f40.body with|some c=>goodC Tryz.prog Tryz.f40.ntmps c|none=>false))=true:=by kernel_rfl
theorem good41:(callable Tryz.prog 41 && tmpsOnly Tryz.f41 && decide (2≤Tryz.f41.ntmps) && (match Tryz.f41.body with|some c=>goodC Tryz.prog Tryz.f41.ntmps c|none=>false))=true:=by kernel_rfl
theorem goodc42:(callable Tryz.prog 42 && Tryz.f42.results.toList.all (rok Tryz.prog) && decide (1≤Tryz.f42.ntmps) && (match Tryz.f42.body with|some c=>goodC Tryz.prog Tryz.f42.ntmps c|none=>false))=true:=by kernel_rfl
theorem good44:(callable Tryz.prog 44 && tmpsOnly Tryz.f44 && decide (1≤Tryz.f44.ntmps) && (match Tryz.f44.body with|some c=>goodC Tryz.prog Tryz.f44.ntmps c|none=>false))=true:=by kernel_rfl
theorem good45:(callable Tryz.prog 45 && tmpsOnly Tryz.f45 && decide (2≤Tryz.f45.ntmps) && (match Tryz.f45.body with|some c=>goodC Tryz.prog Tryz.f45.ntmps c|none=>false))=true:=by kernel_rfl
theorem good48:(callable Tryz.prog 48 && tmpsOnly Tryz.f48 && decide (2≤Tryz.f48.ntmps) && (match Tryz.f48.body with|some c=>goodC Tryz.prog Tryz.f48.ntmps c|none=>false))=true:=by kernel_rfl
theorem good49:(callable Tryz.prog 49 && tmpsOnly Tryz.f49 && decide (1≤Tryz.f49.ntmps) && (match Tryz.f49.body with|some c=>goodC Tryz.prog Tryz.f49.ntmps c|none=>false))=true:=by kernel_rfl
theorem good50:(callable Tryz.prog 50 && tmpsOnly Tryz.f50 && decide (2≤Tryz.f50.ntmps) && (match Tryz.f50.body with|some c=>goodC Tryz.prog Tryz.f50.ntmps c|none=>false))=true:=by kernel_rfl
theorem good51:(callable Tryz.prog 51 && tmpsOnly Tryz.f51 && decide (2≤Tryz.f51.ntmps) && (match Tryz.f51.body with|some c=>goodC Tryz.prog Tryz.f51.ntmps c|none=>false))=true:=by kernel_rfl
theorem goodc52:(callable Tryz.prog 52 && Tryz.f52.results.toList.all (rok Tryz.prog) && decide (1≤Tryz.f52.ntmps) && (match Tryz.f52.body with|some c=>goodC Tryz.prog Tryz.f52.ntmps c|none=>false))=true:=by kernel_rfl
theorem good53:(callable Tryz.prog 53 && tmpsOnly Tryz.f53 && decide (1≤Tryz.f53.ntmps) && (match Tryz.f53.body with|some c=>goodC Tryz.prog Tryz.f53.ntmps c|none=>false))=true:=by kernel_rfl
theorem goodc54:(callable Tryz.prog 54 && Tryz.f54.results.toList.all (rok Tryz.prog) && decide (2≤Tryz.f54.ntmps) && (match Tryz.f54.body with|some c=>goodC Tryz.prog Tryz.f54.ntmps c|none=>false))=true:=by kernel_rfl
theorem good55:(callable Tryz.prog 55 && tmpsOnly Tryz.f55 && decide (2≤Tryz.f55.ntmps) && (match Tryz.f55.body with|some c=>goodC Tryz.prog Tryz.f55.ntmps c|none=>false))=true:=by kernel_rfl
theorem goodc56:(callable Tryz.prog 56 && Tryz.f56.results.toList.all (rok Tryz.prog) && decide (2≤Tryz.f56.ntmps) && (match Tryz.f56.body with|some c=>goodC Tryz.prog Tryz.f56.ntmps c|none=>false))=true:=by kernel_rfl
theorem good57:(callable Tryz.prog 57 && tmpsOnly Tryz.f57 && decide (1≤Tryz.f57.ntmps) && (match Tryz.f57.body with|some c=>goodC Tryz.prog Tryz.f57.ntmps c|none=>false))=true:=by kernel_rfl
theorem good58:(callable Tryz.prog 58 && tmpsOnly Tryz.f58 && decide (1≤Tryz.f58.ntmps) && (match Tryz.f58.body with|some c=>goodC Tryz.prog Tryz.f58.ntmps c|none=>false))=true:=by kernel_rfl
theorem good59:(callable Tryz.prog 59 && tmpsOnly Tryz.f59 && decide (2≤Tryz.f59.ntmps) && (match Tryz.f59.body with|some c=>goodC Tryz.prog Tryz.f59.ntmps c|none=>false))=true:=by kernel_rfl
theorem good60:(callable Tryz.prog 60 && tmpsOnly Tryz.f60 && decide (2≤Tryz.f60.ntmps) && (match Tryz.f60.body with|some c=>goodC Tryz.prog Tryz.f60.ntmps c|none=>false))=true:=by kernel_rfl
theorem good61:(callable Tryz.prog 61 && tmpsOnly Tryz.f61 && decide (1≤Tryz.f61.ntmps) && (match Tryz.f61.body with|some c=>goodC Tryz.prog Tryz.f61.ntmps c|none=>false))=true:=by kernel_rfl
theorem good62:(callable Tryz.prog 62 && tmpsOnly Tryz.f62 && decide (1≤Tryz.f62.ntmps) && (match Tryz.f62.body with|some c=>goodC Tryz.prog Tryz.f62.ntmps c|none=>false))=true:=by kernel_rfl
theorem good63:(callable Tryz.prog 63 && tmpsOnly Tryz.f63 && decide (2≤Tryz.f63.ntmps) && (match Tryz.f63.body with|some c=>goodC Tryz.prog Tryz.f63.ntmps c|none=>false))=true:=by kernel_rfl
theorem good64:(callable Tryz.prog 64 && tmpsOnly Tryz.f64 && decide (2≤Tryz.f64.ntmps) && (match Tryz.f64.body with|some c=>goodC Tryz.prog Tryz.f64.ntmps c|none=>false))=true:=by kernel_rfl
theorem good65:(callable Tryz.prog 65 && tmpsOnly Tryz.f65 && decide (2≤Tryz.f65.ntmps) && (match Tryz.f65.body with|some c=>goodC Tryz.prog Tryz.f65.ntmps c|none=>false))=true:=by kernel_rfl
theorem good66:(callable Tryz.prog 66 && tmpsOnly Tryz.f66 && decide (2≤Tryz.f66.ntmps) && (match Tryz.f66.body with|some c=>goodC Tryz.prog Tryz.f66.ntmps c|none=>false))=true:=by kernel_rfl
theorem good67:(callable Tryz.prog 67 && tmpsOnly Tryz.f67 && decide (1≤Tryz.f67.ntmps) && (match Tryz.f67.body with|some c=>goodC Tryz.prog Tryz.f67.ntmps c|none=>false))=true:=by kernel_rfl
theorem good70:(callable Tryz.prog 70 && tmpsOnly Tryz.f70 && decide (1≤Tryz.f70.ntmps) && (match Tryz.f70.body with|some c=>goodC Tryz.prog Tryz.f70.ntmps c|none=>false))=true:=by kernel_rfl
theorem good71:(callable Tryz.prog 71 && tmpsOnly Tryz.f71 && decide (2≤Tryz.f71.ntmps) && (match Tryz.f71.body with|some c=>goodC Tryz.prog Tryz.f71.ntmps c|none=>false))=true:=by kernel_rfl
theorem goodc72:(callable Tryz.prog 72 && Tryz.f72.results.toList.all (rok Tryz.prog) && decide (2≤Tryz.f72.ntmps) && (match Tryz.f72.body with|some c=>goodC Tryz.prog Tryz.f72.ntmps c|none=>false))=true:=by kernel_rfl
theorem goodc73:(callable Tryz.prog 73 && Tryz.f73.results.toList.all (rok Tryz.prog) && decide (2≤Tryz.f73.ntmps) && (match Tryz.f73.body with|some c=>goodC Tryz.prog Tryz.f73.ntmps c|none=>false))=true:=by kernel_rfl
theorem good74:(callable Tryz.prog 74 && tmpsOnly Tryz.f74 && decide (1≤Tryz.f74.ntmps) && (match Tryz.f74.body with|some c=>goodC Tryz.prog Tryz.f74.ntmps c|none=>false))=true:=by kernel_rfl
theorem good75:(callable Tryz.prog 75 && tmpsOnly Tryz.f75 && decide (1≤Tryz.f75.ntmps) && (match Tryz.f75.body with|some c=>goodC Tryz.prog Tryz.f75.ntmps c|none=>false))=true:=by kernel_rfl
theorem good76:(callable Tryz.prog 76 && tmpsOnly Tryz.f76 && decide (3≤Tryz.f76.ntmps) && (match Tryz.f76.body with|some c=>goodC Tryz.prog Tryz.f76.ntmps c|none=>false))=true:=by kernel_rfl
theorem good77:(callable Tryz.prog 77 && tmpsOnly Tryz.f77 && decide (2≤Tryz.f77.ntmps) && (match Tryz.f77.body with|some c=>goodC Tryz.prog Tryz.f77.ntmps c|none=>false))=true:=by kernel_rfl
theorem good78:(callable Tryz.prog 78 && tmpsOnly Tryz.f78 && decide (1≤Tryz.f78.ntmps) && (match Tryz.f78.body with|some c=>goodC Tryz.prog Tryz.f78.ntmps c|none=>false))=true:=by kernel_rfl
theorem good79:(callable Tryz.prog 79 && tmpsOnly Tryz.f79 && decide (1≤Tryz.f79.ntmps) && (match Tryz.f79.body with|some c=>goodC Tryz.prog Tryz.f79.ntmps c|none=>false))=true:=by kernel_rfl
theorem good80:(callable Tryz.prog 80 && tmpsOnly Tryz.f80 && decide (2≤Tryz.f80.ntmps) && (match Tryz.f80.body with|some c=>goodC Tryz.prog Tryz.f80.ntmps c|none=>false))=true:=by kernel_rfl
theorem good81:(callable Tryz.prog 81 && tmpsOnly Tryz.f81 && decide (1≤Tryz.f81.ntmps) && (match Tryz.f81.body with|some c=>goodC Tryz.prog Tryz.f81.ntmps c|none=>false))=true:=by kernel_rfl
theorem good83:(callable Tryz.prog 83 && tmpsOnly Tryz.f83 && decide (1≤Tryz.f83.ntmps) && (match Tryz.f83.body with|some c=>goodC Tryz.prog Tryz.f83.ntmps c|none=>false))=true:=by kernel_rfl
theorem good84:(callable Tryz.prog 84 && tmpsOnly Tryz.f84 && decide (1≤Tryz.f84.ntmps) && (match Tryz.f84.body with|some c=>goodC Tryz.prog Tryz.f84.ntmps c|none=>false))=true:=by kernel_rfl
theorem good85:(callable Tryz.prog 85 && tmpsOnly Tryz.f85 && decide (2≤Tryz.f85.ntmps) && (match Tryz.f85.body with|some c=>goodC Tryz.prog Tryz.f85.ntmps c|none=>false))=true:=by kernel_rfl
theorem good86:(callable Tryz.prog 86 && tmpsOnly Tryz.f86 && decide (2≤Tryz.f86.ntmps) && (match Tryz.f86.body with|some c=>goodC Tryz.prog Tryz.f86.ntmps c|none=>false))=true:=by kernel_rfl
theorem good88:(callable Tryz.prog 88 && tmpsOnly Tryz.f88 && decide (1≤Tryz.f88.ntmps) && (match Tryz.f88.body with|some c=>goodC Tryz.prog Tryz.f88.ntmps c|none=>false))=true:=by kernel_rfl
theorem good89:(callable Tryz.prog 89 && tmpsOnly Tryz.f89 && decide (2≤Tryz.f89.ntmps) && (match Tryz.f89.body with|some c=>goodC Tryz.prog Tryz.f89.ntmps c|none=>false))=true:=by kernel_rfl
theorem good90:(callable Tryz.prog 90 && tmpsOnly Tryz.f90 && decide (3≤Tryz.f90.ntmps) && (match Tryz.f90.body with|some c=>goodC Tryz.prog Tryz.f90.ntmps c|none=>false))=true:=by kernel_rfl
theorem good91:(callable Tryz.prog 91 && tmpsOnly Tryz.f91 && decide (2≤Tryz.f91.ntmps) && (match Tryz.f91.body with|some c=>goodC Tryz.prog Tryz.f91.ntmps c|none=>false))=true:=by kernel_rfl
theorem good92:(callable Tryz.prog 92 && tmpsOnly Tryz.f92 && decide (2≤Tryz.f92.ntmps) && (match Tryz.f92.body with|some c=>goodC Tryz.prog Tryz.f92.ntmps c|none=>false))=true:=by kernel_rfl
theorem good93:(callable Tryz.prog 93 && tmpsOnly Tryz.f93 && decide (3≤Tryz.f93.ntmps) && (match Tryz.f93.body with|some c=>goodC Tryz.prog Tryz.f93.ntmps c|none=>false))=true:=by kernel_rfl
theorem good95:(callable Tryz.prog 95 && tmpsOnly Tryz.f95 && decide (4≤Tryz.f95.ntmps) && (match Tryz.f95.body with|some c=>goodC Tryz.prog Tryz.f95.ntmps c|none=>false))=true:=by kernel_rfl
theorem good96:(callable Tryz.prog 96 && tmpsOnly Tryz.f96 && decide (3≤Tryz.f96.ntmps) && (match Tryz.f96.body with|some c=>goodC Tryz.prog Tryz.f96.ntmps c|none=>false))=true:=by kernel_rfl
theorem good97:(callable Tryz.prog 97 && tmpsOnly Tryz.f97 && decide (1≤Tryz.f97.ntmps) && (match Tryz.f97.body with|some c=>goodC Tryz.prog Tryz.f97.ntmps c|none=>false))=true:=by kernel_rfl
theorem good98:(callable Tryz.prog 98 && tmpsOnly Tryz.f98 && decide (2≤Tryz.f98.ntmps) && (match Tryz.f98.body with|some c=>goodC Tryz.prog Tryz.f98.ntmps c|none=>false))=true:=by kernel_rfl
theorem good99:(callable Tryz.prog 99 && tmpsOnly Tryz.f99 && decide (3≤Tryz.f99.ntmps) && (match Tryz.f99.body with|some c=>goodC Tryz.prog Tryz.f99.ntmps c|none=>false))=true:=by kernel_rfl
theorem good100:(callable Tryz.prog 100 && tmpsOnly Tryz.f100 && decide (2≤Tryz.f100.ntmps) && (match Tryz.f100.body with|some c=>goodC Tryz.prog Tryz.f100.ntmps c|none=>false))=true:=by kernel_rfl
theorem good104:(callable Tryz.prog 104 && tmpsOnly Tryz.f104 && decide (1≤Tryz.f104.ntmps) && (match Tryz.f104.body with|some c=>goodC Tryz.prog Tryz.f104.ntmps c|none=>false))=true:=by kernel_rfl
theorem good105:(callable Tryz.prog 105 && tmpsOnly Tryz.f105 && decide (1≤Tryz.f105.ntmps) && (match Tryz.f105.body with|some c=>goodC Tryz.prog Tryz.f105.ntmps c|none=>false))=true:=by kernel_rfl
theorem good106:(callable Tryz.prog 106 && tmpsOnly Tryz.f106 && decide (1≤Tryz.f106.ntmps) && (match Tryz.f106.body with|some c=>goodC Tryz.prog Tryz.f106.ntmps c|none=>false))=true:=by kernel_rfl
theorem good107:(callable Tryz.prog 107 && tmpsOnly Tryz.f107 && decide (2≤Tryz.f107.ntmps) && (match Tryz.f107.body with|some c=>goodC Tryz.prog Tryz.f107.ntmps c|none=>false))=true:=by kernel_rfl
theorem good108:(callable Tryz.prog 108 && tmpsOnly Tryz.f108 && decide (2≤Tryz.f108.ntmps) && (match Tryz.f108.body with|some c=>goodC Tryz.prog Tryz.f108.ntmps c|none=>false))=true:=by kernel_rfl
theorem good110:(callable Tryz.prog 110 && tmpsOnly Tryz.f110 && decide (2≤Tryz.f110.ntmps) && (match Tryz.f110.body with|some c=>goodC Tryz.prog Tryz.f110.ntmps c|none=>false))=true:=by kernel_rfl
theorem good112:(callable Tryz.prog 112 && tmpsOnly Tryz.f112 && decide (4≤Tryz.f112.ntmps) && (match Tryz.f112.body with|some c=>goodC Tryz.prog Tryz.f112.ntmps c|none=>false))=true:=by kernel_rfl
theorem good113:(callable Tryz.prog 113 && tmpsOnly Tryz.f113 && decide (2≤Tryz.f113.ntmps) && (match Tryz.f113.body with|some c=>goodC Tryz.prog Tryz.f113.ntmps c|none=>false))=true:=by kernel_rfl
theorem good114:(callable Tryz.prog 114 && tmpsOnly Tryz.f114 && decide (3≤Tryz.f114.ntmps) && (match Tryz.f114.body with|some c=>goodC Tryz.prog Tryz.f114.ntmps c|none=>false))=true:=by kernel_rfl
theorem good116:(callable Tryz.prog 116 && tmpsOnly Tryz.f116 && decide (3≤Tryz.f116.ntmps) && (match Tryz.f116.body with|some c=>goodC Tryz.prog Tryz.f116.ntmps c|none=>false))=true:=by kernel_rfl
theorem good117:(callable Tryz.prog 117 && tmpsOnly Tryz.f117 && decide (4≤Tryz.f117.ntmps) && (match Tryz.f117.body with|some c=>goodC Tryz.prog Tryz.f117.ntmps c|none=>false))=true:=by kernel_rfl
theorem good118:(callable Tryz.prog 118 && tmpsOnly Tryz.f118 && decide (2≤Tryz.f118.ntmps) && (match Tryz.f118.body with|some c=>goodC Tryz.prog Tryz.f118.ntmps c|none=>false))=true:=by kernel_rfl
theorem good119:(callable Tryz.prog 119 && tmpsOnly Tryz.f119 && decide (4≤Tryz.f119.ntmps) && (match Tryz.f119.body with|some c=>goodC Tryz.prog Tryz.f119.ntmps c|none=>false))=true:=by kernel_rfl
theorem good120:(callable Tryz.prog 120 && tmpsOnly Tryz.f120 && decide (2≤Tryz.f120.ntmps) && (match Tryz.f120.body with|some c=>goodC Tryz.prog Tryz.f120.ntmps c|none=>false))=true:=by kernel_rfl
theorem good121:(callable Tryz.prog 121 && tmpsOnly Tryz.f121 && decide (2≤Tryz.f121.ntmps) && (match Tryz.f121.body with|some c=>goodC Tryz.prog Tryz.f121.ntmps c|none=>false))=true:=by kernel_rfl
theorem good122:(callable Tryz.prog 122 && tmpsOnly Tryz.f122 && decide (2≤Tryz.f122.ntmps) && (match Tryz.f122.body with|some c=>goodC Tryz.prog Tryz.f122.ntmps c|none=>false))=true:=by kernel_rfl
theorem good123:(callable Tryz.prog 123 && tmpsOnly Tryz.f123 && decide (3≤Tryz.f123.ntmps) && (match Tryz.f123.body with|some c=>goodC Tryz.prog Tryz.f123.ntmps c|none=>false))=true:=by kernel_rfl
theorem good124:(callable Tryz.prog 124 && tmpsOnly Tryz.f124 && decide (3≤Tryz.f124.ntmps) && (match Tryz.f124.body with|some c=>goodC Tryz.prog Tryz.f124.ntmps c|none=>false))=true:=by kernel_rfl
theorem good135:(callable Tryz.prog 135 && tmpsOnly Tryz.f135 && decide (2≤Tryz.f135.ntmps) && (match Tryz.f135.body with|some c=>goodC Tryz.prog Tryz.f135.ntmps c|none=>false))=true:=by kernel_rfl
theorem good140:(callable Tryz.prog 140 && tmpsOnly Tryz.f140 && decide (4≤Tryz.f140.ntmps) && (match Tryz.f140.body with|some c=>goodC Tryz.prog Tryz.f140.ntmps c|none=>false))=true:=by kernel_rfl
theorem good141:(callable Tryz.prog 141 && tmpsOnly Tryz.f141 && decide (4≤Tryz.f141.ntmps) && (match Tryz.f141.body with|some c=>goodC Tryz.prog Tryz.f141.ntmps c|none=>false))=true:=by kernel_rfl
theorem good142:(callable Tryz.prog 142 && tmpsOnly Tryz.f142 && decide (2≤Tryz.f142.ntmps) && (match Tryz.f142.body with|some c=>goodC Tryz.prog Tryz.f142.ntmps c|none=>false))=true:=by kernel_rfl
theorem good143:(callable Tryz.prog 143 && tmpsOnly Tryz.f143 && decide (3≤Tryz.f143.ntmps) && (match Tryz.f143.body with|some c=>goodC Tryz.prog Tryz.f143.ntmps c|none=>false))=true:=by kernel_rfl
theorem good144:(callable Tryz.prog 144 && tmpsOnly Tryz.f144 && decide (3≤Tryz.f144.ntmps) && (match Tryz.f144.body with|some c=>goodC Tryz.prog Tryz.f144.ntmps c|none=>false))=true:=by kernel_rfl
theorem good145:(callable Tryz.prog 145 && tmpsOnly Tryz.f145 && decide (3≤Tryz.f145.ntmps) && (match Tryz.f145.body with|some c=>goodC Tryz.prog Tryz.f145.ntmps c|none=>false))=true:=by kernel_rfl
theorem good146:(callable Tryz.prog 146 && tmpsOnly Tryz.f146 && decide (2≤Tryz.f146.ntmps) && (match Tryz.f146.body with|some c=>goodC Tryz.prog Tryz.f146.ntmps c|none=>false))=true:=by kernel_rfl
theorem good147:(callable Tryz.prog 147 && tmpsOnly Tryz.f147 && decide (2≤Tryz.f147.ntmps) && (match Tryz.f147.body with|some c=>goodC Tryz.prog Tryz.f147.ntmps c|none=>false))=true:=by kernel_rfl
theorem good159:(callable Tryz.prog 159 && tmpsOnly Tryz.f159 && decide (4≤Tryz.f159.ntmps) && (match Tryz.f159.body with|some c=>goodC Tryz.prog Tryz.f159.ntmps c|none=>false))=true:=by kernel_rfl
theorem good160:(callable Tryz.prog 160 && tmpsOnly Tryz.f160 && decide (3≤Tryz.f160.ntmps) && (match Tryz.f160.body with|some c=>goodC Tryz.prog Tryz.f160.ntmps c|none=>false))=true:=by kernel_rfl
theorem good161:(callable Tryz.prog 161 && tmpsOnly Tryz.f161 && decide (3≤Tryz.f161.ntmps) && (match Tryz.f161.body with|some c=>goodC Tryz.prog Tryz.f161.ntmps c|none=>false))=true:=by kernel_rfl
abbrev chr (n:Nat):Char:=Char.ofNat n
set_option maxRecDepth 20000 in
theorem initS:Tryz.prog.initOrder.toList=[chr 104,chr 97,chr 114,chr 110,chr 101,chr 115,chr 115,chr 32,chr 102,chr 49,chr 48,chr 48,chr 52,chr 54,chr 52,chr 101,chr 55,chr 99,chr 51,chr 97,chr 56,chr 49,chr 50,chr 57,chr 48,chr 50,chr 102,chr 97,chr 98,chr 51,chr 56,chr 48,chr 48,chr 56,chr 55,chr 57,chr 56,chr 55,chr 100,chr 50,chr 99,chr 54,chr 100,chr 57,chr 48,chr 55,chr 57,chr 57,chr 102,chr 57,chr 57,chr 53,chr 55,chr 51,chr 52,chr 51,chr 101,chr 101,chr 51,chr 97,chr 50,chr 102,chr 48,chr 102,chr 52,chr 102,chr 53,chr 99,chr 54,chr 49,chr 50,chr 56,chr 32,chr 99,chr 117,chr 116,chr 32,chr 97,chr 116,chr 32,chr 108,chr 111,chr 111,chr 112,chr 46,chr 101,chr 120,chr 97,chr 109,chr 112,chr 108,chr 101,chr 47,chr 99,chr 105,chr 114,chr 99,chr 117,chr 105,chr 116,chr 115,chr 119,chr 105,chr 116,chr 99,chr 104,chr 105,chr 110,chr 103,chr 47,chr 108,chr 97,chr 119,chr 115,chr 46,chr 70,chr 110,chr 82,chr 101,chr 97,chr 100,chr 74,chr 111,chr 117,chr 114,chr 110,chr 97,chr 108,chr 32,chr 108,chr 111,chr 111,chr 112,chr 46,chr 101,chr 120,chr 97,chr 109,chr 112,chr 108,chr 101,chr 47,chr 99,chr 105,chr 114,chr 99,chr 117,chr 105,chr 116,chr 115,chr 119,chr 105,chr 116,chr 99,chr 104,chr 105,chr 110,chr 103,chr 47,chr 108,chr 97,chr 119,chr 115,chr 46,chr 70,chr 110,chr 69,chr 120,chr 76,chr 105,chr 110,chr 101,chr 32,chr 108,chr 111,chr 111,chr 112,chr 46,chr 101,chr 120,chr 97,chr 109,chr 112,chr 108,chr 101,chr 47,chr 99,chr 105,chr 114,chr 99,chr 117,chr 105,chr 116,chr 115,chr 119,chr 105,chr 116,chr 99,chr 104,chr 105,chr 110,chr 103,chr 47,chr 108,chr 97,chr 119,chr 115,chr 46,chr 70,chr 110,chr 69,chr 120,chr 76,chr 105,chr 110,chr 101,chr 115]:=by
 rw[show Tryz.prog.initOrder=String.ofList [chr 104,chr 97,chr 114,chr 110,chr 101,chr 115,chr 115,chr 32,chr 102,chr 49,chr 48,chr 48,chr 52,chr 54,chr 52,chr 101,chr 55,chr 99,chr 51,chr 97,chr 56,chr 49,chr 50,chr 57,chr 48,chr 50,chr 102,chr 97,chr 98,chr 51,chr 56,chr 48,chr 48,chr 56,chr 55,chr 57,chr 56,chr 55,chr 100,chr 50,chr 99,chr 54,chr 100,chr 57,chr 48,chr 55,chr 57,chr 57,chr 102,chr 57,chr 57,chr 53,chr 55,chr 51,chr 52,chr 51,chr 101,chr 101,chr 51,chr 97,chr 50,chr 102,chr 48,chr 102,chr 52,chr 102,chr 53,chr 99,chr 54,chr 49,chr 50,chr 56,chr 32,chr 99,chr 117,chr 116,chr 32,chr 97,chr 116,chr 32,chr 108,chr 111,chr 111,chr 112,chr 46,chr 101,chr 120,chr 97,chr 109,chr 112,chr 108,chr 101,chr 47,chr 99,chr 105,chr 114,chr 99,chr 117,chr 105,chr 116,chr 115,chr 119,chr 105,chr 116,chr 99,chr 104,chr 105,chr 110,chr 103,chr 47,chr 108,chr 97,chr 119,chr 115,chr 46,chr 70,chr 110,chr 82,chr 101,chr 97,chr 100,chr 74,chr 111,chr 117,chr 114,chr 110,chr 97,chr 108,chr 32,chr 108,chr 111,chr 111,chr 112,chr 46,chr 101,chr 120,chr 97,chr 109,chr 112,chr 108,chr 101,chr 47,chr 99,chr 105,chr 114,chr 99,chr 117,chr 105,chr 116,chr 115,chr 119,chr 105,chr 116,chr 99,chr 104,chr 105,chr 110,chr 103,chr 47,chr 108,chr 97,chr 119,chr 115,chr 46,chr 70,chr 110,chr 69,chr 120,chr 76,chr 105,chr 110,chr 101,chr 32,chr 108,chr 111,chr 111,chr 112,chr 46,chr 101,chr 120,chr 97,chr 109,chr 112,chr 108,chr 101,chr 47,chr 99,chr 105,chr 114,chr 99,chr 117,chr 105,chr 116,chr 115,chr 119,chr 105,chr 116,chr 99,chr 104,chr 105,chr 110,chr 103,chr 47,chr 108,chr 97,chr 119,chr 115,chr 46,chr 70,chr 110,chr 69,chr 120,chr 76,chr 105,chr 110,chr 101,chr 115] from by kernel_rfl,String.toList_ofList]
set_option maxRecDepth 20000 in
theorem behind:behindMainWord (wordsSigns Tryz.prog.initOrder.toList)=cutW :: [[chr 97,chr 116],[chr 108,chr 111,chr 111,chr 112,chr 46,chr 101,chr 120,chr 97,chr 109,chr 112,chr 108,chr 101,chr 47,chr 99,chr 105,chr 114,chr 99,chr 117,chr 105,chr 116,chr 115,chr 119,chr 105,chr 116,chr 99,chr 104,chr 105,chr 110,chr 103,chr 47,chr 108,chr 97,chr 119,chr 115,chr 46,chr 70,chr 110,chr 82,chr 101,chr 97,chr 100,chr 74,chr 111,chr 117,chr 114,chr 110,chr 97,chr 108],[chr 108,chr 111,chr 111,chr 112,chr 46,chr 101,chr 120,chr 97,chr 109,chr 112,chr 108,chr 101,chr 47,chr 99,chr 105,chr 114,chr 99,chr 117,chr 105,chr 116,chr 115,chr 119,chr 105,chr 116,chr 99,chr 104,chr 105,chr 110,chr 103,chr 47,chr 108,chr 97,chr 119,chr 115,chr 46,chr 70,chr 110,chr 69,chr 120,chr 76,chr 105,chr 110,chr 101],[chr 108,chr 111,chr 111,chr 112,chr 46,chr 101,chr 120,chr 97,chr 109,chr 112,chr 108,chr 101,chr 47,chr 99,chr 105,chr 114,chr 99,chr 117,chr 105,chr 116,chr 115,chr 119,chr 105,chr 116,chr 99,chr 104,chr 105,chr 110,chr 103,chr 47,chr 108,chr 97,chr 119,chr 115,chr 46,chr 70,chr 110,chr 69,chr 120,chr 76,chr 105,chr 110,chr 101,chr 115]]:=by
 rw[initS];kernel_rfl
theorem mayE:Tryz.prog.mayEnter=true:=may_of behind (by kernel_rfl) (by kernel_rfl) (by kernel_rfl)
theorem liftsE:Tryz.prog.liftsFinal=false:=lifts_of behind
theorem makeE:Tryz.prog.make=some .cut:=mk_of behind
theorem vcu0:type_of% (And.intro @decide_true (And.intro @decide_false (And.intro @Bool.or_false (And.intro @Bool.or_true (And.intro @Bool.false_or (And.intro @Bool.true_or (And.intro @noisy_nil (And.intro @nq_move (And.intro @nq_assign (And.intro @nq_pick (And.intro @nq_binOp (And.intro @nq_unOp (And.intro @nq_convert (And.intro @nq_nilCheck (And.intro @nq_indexAddr @nq_index))))))))))))))):=⟨@decide_true,@decide_false,@Bool.or_false,@Bool.or_true,@Bool.false_or,@Bool.true_or,@noisy_nil,@nq_move,@nq_assign,@nq_pick,@nq_binOp,@nq_unOp,@nq_convert,@nq_nilCheck,@nq_indexAddr,@nq_index⟩
theorem vcu1:type_of% (And.intro @nq_load (And.intro @nq_field (And.intro @nq_fieldAddr (And.intro @nq_extract (And.intro @nq_build (And.intro @nq_makeFunc (And.intro @nq_slice (And.intro @nq_len (And.intro @nq_min (And.intro @nq_max (And.intro @nq_call (And.intro @nl_callv (And.intro @nl_append (And.intro @nl_copy (And.intro @nl_clear @nl_alloc))))))))))))))):=⟨@nq_load,@nq_field,@nq_fieldAddr,@nq_extract,@nq_build,@nq_makeFunc,@nq_slice,@nq_len,@nq_min,@nq_max,@nq_call,@nl_callv,@nl_append,@nl_copy,@nl_clear,@nl_alloc⟩
theorem vcu2:type_of% (And.intro @nl_box (And.intro @nl_store (And.intro @nl_makeSlice (And.intro @nl_buildSlice (And.intro @nl_slice3 (And.intro @bindO_some (And.intro @bindI_some (And.intro @bindS_some (And.intro @pickR_yes (And.intro @pickR_no (And.intro @pickR_tt (And.intro @pickR_ff (And.intro @gvb_some (And.intro @vb_bool (And.intro @vb_undef @gslot_zero))))))))))))))):=⟨@nl_box,@nl_store,@nl_makeSlice,@nl_buildSlice,@nl_slice3,@bindO_some,@bindI_some,@bindS_some,@pickR_yes,@pickR_no,@pickR_tt,@pickR_ff,@gvb_some,@vb_bool,@vb_undef,@gslot_zero⟩
theorem vcu3:type_of% (And.intro @gslot_succ (And.intro @guardR_tt (And.intro @guardR_ff (And.intro @guardR_tf (And.intro @guardR_ft (And.intro @guardR_nt (And.intro @guardR_pt (And.intro @guardR_pf (And.intro @guardR_nT (And.intro @guardR_nF (And.intro @aput_some (And.intro @aput_none (And.intro @condR_true (And.intro @condR_false (And.intro @condR_yes @condR_no))))))))))))))):=⟨@gslot_succ,@guardR_tt,@guardR_ff,@guardR_tf,@guardR_ft,@guardR_nt,@guardR_pt,@guardR_pf,@guardR_nT,@guardR_nF,@aput_some,@aput_none,@condR_true,@condR_false,@condR_yes,@condR_no⟩
theorem vcu4:type_of% (And.intro @condR_not (And.intro @Bool.not_true (And.intro @Bool.not_false (And.intro @ev_const (And.intro @ev_tmp (And.intro @ev_func (And.intro @fset_app (And.intro @abin_add (And.intro @abin_sub (And.intro @abin_mul (And.intro @abin_quo (And.intro @abin_rem (And.intro @abin_eql (And.intro @abin_neq (And.intro @abin_lss @abin_leq))))))))))))))):=⟨@condR_not,@Bool.not_true,@Bool.not_false,@ev_const,@ev_tmp,@ev_func,@fset_app,@abin_add,@abin_sub,@abin_mul,@abin_quo,@abin_rem,@abin_eql,@abin_neq,@abin_lss,@abin_leq⟩
theorem vcu5:type_of% (And.intro @abin_gtr (And.intro @abin_geq (And.intro @abin_seql (And.intro @abin_sneq (And.intro @abin_sadd (And.intro @bindX_some (And.intro @tx_nil (And.intro @tx_empty (And.intro @aun_not (And.intro @aun_neg (And.intro @aconvH_int (And.intro @amin_two (And.intro @amax_two (And.intro @anil_ptr (And.intro @aextract_tuple @dec_true))))))))))))))):=⟨@abin_gtr,@abin_geq,@abin_seql,@abin_sneq,@abin_sadd,@bindX_some,@tx_nil,@tx_empty,@aun_not,@aun_neg,@aconvH_int,@amin_two,@amax_two,@anil_ptr,@aextract_tuple,@dec_true⟩
theorem vcu6:type_of% (And.intro @dec_false (And.intro @Nat.mul_one (And.intro @Int.toNat_natCast (And.intro @not_not_p (And.intro @aenter_zero (And.intro @aenter_succ (And.intro (abin_beql' bo4) (And.intro (abin_bneq' bo4) (And.intro (alenV_tx' Tryz.underlying9) (And.intro (aslice_thi' Tryz.underlying9) (And.intro (aslice_tlo' Tryz.underlying9) (And.intro (aslice_tlohi' Tryz.underlying9) (And.intro (alenV_tx' Tryz.underlying10) (And.intro (aslice_thi' Tryz.underlying10) (And.intro (aslice_tlo' Tryz.underlying10) (aslice_tlohi' Tryz.underlying10)))))))))))))))):=⟨@dec_false,@Nat.mul_one,@Int.toNat_natCast,@not_not_p,@aenter_zero,@aenter_succ,(abin_beql' bo4),(abin_bneq' bo4),(alenV_tx' Tryz.underlying9),(aslice_thi' Tryz.underlying9),(aslice_tlo' Tryz.underlying9),(aslice_tlohi' Tryz.underlying9),(alenV_tx' Tryz.underlying10),(aslice_thi' Tryz.underlying10),(aslice_tlo' Tryz.underlying10),(aslice_tlohi' Tryz.underlying10)⟩
theorem vcu7:type_of% (And.intro (alenV_tx' Tryz.underlying11) (And.intro (aslice_thi' Tryz.underlying11) (And.intro (aslice_tlo' Tryz.underlying11) (And.intro (aslice_tlohi' Tryz.underlying11) (And.intro (alenV_slice' Tryz.underlying22) (And.intro (aidx_slice' Tryz.underlying22 co5) (And.intro @esz22 (And.intro (aslice_hi' Tryz.underlying22 co5) (And.intro (aslice_lo' Tryz.underlying22 co5) (And.intro (aslice_lohi' Tryz.underlying22 co5) (And.intro (aslice_nhi' Tryz.underlying22) (And.intro (aslice_nlo' Tryz.underlying22) (And.intro (aslice_nlohi' Tryz.underlying22) (And.intro (alenV_slice' Tryz.underlying24) (And.intro (aidx_slice' Tryz.underlying24 co41) @esz24))))))))))))))):=⟨(alenV_tx' Tryz.underlying11),(aslice_thi' Tryz.underlying11),(aslice_tlo' Tryz.underlying11),(aslice_tlohi' Tryz.underlying11),(alenV_slice' Tryz.underlying22),(aidx_slice' Tryz.underlying22 co5),@esz22,(aslice_hi' Tryz.underlying22 co5),(aslice_lo' Tryz.underlying22 co5),(aslice_lohi' Tryz.underlying22 co5),(aslice_nhi' Tryz.underlying22),(aslice_nlo' Tryz.underlying22),(aslice_nlohi' Tryz.underlying22),(alenV_slice' Tryz.underlying24),(aidx_slice' Tryz.underlying24 co41),@esz24⟩
theorem vcu8:type_of% (And.intro (aslice_hi' Tryz.underlying24 co41) (And.intro (aslice_lo' Tryz.underlying24 co41) (And.intro (aslice_lohi' Tryz.underlying24 co41) (And.intro (aslice_nhi' Tryz.underlying24) (And.intro (aslice_nlo' Tryz.underlying24) (And.intro (aslice_nlohi' Tryz.underlying24) (And.intro @fl28_0 (And.intro @fl28_1 (And.intro @fl28_2 (And.intro @fv28_0 (And.intro @fv28_1 (And.intro @fv28_2 (And.intro @fl29_0 (And.intro @fl29_1 (And.intro @fl29_2 @fv29_0))))))))))))))):=⟨(aslice_hi' Tryz.underlying24 co41),(aslice_lo' Tryz.underlying24 co41),(aslice_lohi' Tryz.underlying24 co41),(aslice_nhi' Tryz.underlying24),(aslice_nlo' Tryz.underlying24),(aslice_nlohi' Tryz.underlying24),@fl28_0,@fl28_1,@fl28_2,@fv28_0,@fv28_1,@fv28_2,@fl29_0,@fl29_1,@fl29_2,@fv29_0⟩
theorem vcu9:type_of% (And.intro @fv29_1 (And.intro @fv29_2 (And.intro (alenV_slice' Tryz.underlying30) (And.intro (aidx_slice' Tryz.underlying30 co9) (And.intro @esz30 (And.intro (aslice_hi' Tryz.underlying30 co9) (And.intro (aslice_lo' Tryz.underlying30 co9) (And.intro (aslice_lohi' Tryz.underlying30 co9) (And.intro (aslice_nhi' Tryz.underlying30) (And.intro (aslice_nlo' Tryz.underlying30) (And.intro (aslice_nlohi' Tryz.underlying30) (And.intro (alenV_slice' Tryz.underlying31) (And.intro (aidx_slice' Tryz.underlying31 co70) (And.intro @esz31 (And.intro (aslice_hi' Tryz.underlying31 co70) (aslice_lo' Tryz.underlying31 co70)))))))))))))))):=⟨@fv29_1,@fv29_2,(alenV_slice' Tryz.underlying30),(aidx_slice' Tryz.underlying30 co9),@esz30,(aslice_hi' Tryz.underlying30 co9),(aslice_lo' Tryz.underlying30 co9),(aslice_lohi' Tryz.underlying30 co9),(aslice_nhi' Tryz.underlying30),(aslice_nlo' Tryz.underlying30),(aslice_nlohi' Tryz.underlying30),(alenV_slice' Tryz.underlying31),(aidx_slice' Tryz.underlying31 co70),@esz31,(aslice_hi' Tryz.underlying31 co70),(aslice_lo' Tryz.underlying31 co70)⟩
theorem vcu10:type_of% (And.intro (aslice_lohi' Tryz.underlying31 co70) (And.intro (aslice_nhi' Tryz.underlying31) (And.intro (aslice_nlo' Tryz.underlying31) (And.intro (aslice_nlohi' Tryz.underlying31) (And.intro @fl32_0 (And.intro @fl32_1 (And.intro @fl32_2 (And.intro @fv32_1 (And.intro @fv32_2 (And.intro @fl33_0 (And.intro @fl33_1 (And.intro @fl33_2 (And.intro @fv33_1 (And.intro @fv33_2 (And.intro @fl40_0 @fl40_1))))))))))))))):=⟨(aslice_lohi' Tryz.underlying31 co70),(aslice_nhi' Tryz.underlying31),(aslice_nlo' Tryz.underlying31),(aslice_nlohi' Tryz.underlying31),@fl32_0,@fl32_1,@fl32_2,@fv32_1,@fv32_2,@fl33_0,@fl33_1,@fl33_2,@fv33_1,@fv33_2,@fl40_0,@fl40_1⟩
theorem vcu11:type_of% (And.intro @fl40_2 (And.intro @fv40_0 (And.intro @fv40_1 (And.intro @fv40_2 (And.intro @fl41_0 (And.intro @fl41_1 (And.intro @fl41_2 (And.intro @fv41_0 (And.intro @fv41_1 (And.intro @fv41_2 (And.intro @fl69_0 (And.intro @fl69_1 (And.intro @fl69_2 (And.intro @fv69_0 (And.intro @fv69_1 @fv69_2))))))))))))))):=⟨@fl40_2,@fv40_0,@fv40_1,@fv40_2,@fl41_0,@fl41_1,@fl41_2,@fv41_0,@fv41_1,@fv41_2,@fl69_0,@fl69_1,@fl69_2,@fv69_0,@fv69_1,@fv69_2⟩
theorem vcu12:type_of% (And.intro @fl70_0 (And.intro @fl70_1 (And.intro @fl70_2 (And.intro @fv70_0 (And.intro @fv70_1 (And.intro @fv70_2 (And.intro (alenV_slice' Tryz.underlying88) (And.intro (aidx_slice' Tryz.underlying88 co3) (And.intro @esz88 (And.intro (aslice_hi' Tryz.underlying88 co3) (And.intro (aslice_lo' Tryz.underlying88 co3) (And.intro (aslice_lohi' Tryz.underlying88 co3) (And.intro (aslice_nhi' Tryz.underlying88) (And.intro (aslice_nlo' Tryz.underlying88) (And.intro (aslice_nlohi' Tryz.underlying88) @fl101_0))))))))))))))):=⟨@fl70_0,@fl70_1,@fl70_2,@fv70_0,@fv70_1,@fv70_2,(alenV_slice' Tryz.underlying88),(aidx_slice' Tryz.underlying88 co3),@esz88,(aslice_hi' Tryz.underlying88 co3),(aslice_lo' Tryz.underlying88 co3),(aslice_lohi' Tryz.underlying88 co3),(aslice_nhi' Tryz.underlying88),(aslice_nlo' Tryz.underlying88),(aslice_nlohi' Tryz.underlying88),@fl101_0⟩
theorem vcu13:type_of% (And.intro @fl101_1 (And.intro @fv101_0 (And.intro @fv101_1 (And.intro @fl102_0 (And.intro @fl102_1 (And.intro @fv102_0 (And.intro @fv102_1 (And.intro @fl111_0 (And.intro @fl111_1 (And.intro @fv111_1 (And.intro @fl112_0 (And.intro @fl112_1 (And.intro @fv112_1 (And.intro (alenV_slice' Tryz.underlying114) (And.intro (aidx_slice' Tryz.underlying114 co9) @esz114))))))))))))))):=⟨@fl101_1,@fv101_0,@fv101_1,@fl102_0,@fl102_1,@fv102_0,@fv102_1,@fl111_0,@fl111_1,@fv111_1,@fl112_0,@fl112_1,@fv112_1,(alenV_slice' Tryz.underlying114),(aidx_slice' Tryz.underlying114 co9),@esz114⟩
theorem vcu14:type_of% (And.intro (aslice_hi' Tryz.underlying114 co9) (And.intro (aslice_lo' Tryz.underlying114 co9) (And.intro (aslice_lohi' Tryz.underlying114 co9) (And.intro (aslice_nhi' Tryz.underlying114) (And.intro (aslice_nlo' Tryz.underlying114) (And.intro (aslice_nlohi' Tryz.underlying114) (And.intro @fl115_0 (And.intro @fl115_1 (And.intro @fv115_1 (And.intro @fl116_0 (And.intro @fl116_1 (And.intro @fv116_1 (And.intro (aidx_array' Tryz.underlying124 co4) (And.intro @esz124 (And.intro (aidx_array' Tryz.underlying154 co5) @esz154))))))))))))))):=⟨(aslice_hi' Tryz.underlying114 co9),(aslice_lo' Tryz.underlying114 co9),(aslice_lohi' Tryz.underlying114 co9),(aslice_nhi' Tryz.underlying114),(aslice_nlo' Tryz.underlying114),(aslice_nlohi' Tryz.underlying114),@fl115_0,@fl115_1,@fv115_1,@fl116_0,@fl116_1,@fv116_1,(aidx_array' Tryz.underlying124 co4),@esz124,(aidx_array' Tryz.underlying154 co5),@esz154⟩
theorem vcu15:type_of% (And.intro (aidx_array' Tryz.underlying173 co155) (And.intro @esz173 (And.intro (aidx_array' Tryz.underlying174 co5) (And.intro @esz174 (And.intro (aidx_array' Tryz.underlying181 co5) (And.intro @esz181 (And.intro (aidx_array' Tryz.underlying182 co5) (And.intro @esz182 (And.intro (aidx_array' Tryz.underlying185 co16) (And.intro @esz185 (And.intro @pt0 (And.intro @pt1 (And.intro @pt2 (And.intro @pt3 (And.intro @pt4 @pt5))))))))))))))):=⟨(aidx_array' Tryz.underlying173 co155),@esz173,(aidx_array' Tryz.underlying174 co5),@esz174,(aidx_array' Tryz.underlying181 co5),@esz181,(aidx_array' Tryz.underlying182 co5),@esz182,(aidx_array' Tryz.underlying185 co16),@esz185,@pt0,@pt1,@pt2,@pt3,@pt4,@pt5⟩
theorem vcu16:type_of% (And.intro @pt6 (And.intro @pt9 (And.intro @pt10 (And.intro @pt11 (And.intro @pt12 (And.intro @pt16 (And.intro @pt17 (And.intro @pt20 (And.intro @pt21 (And.intro @pt22 (And.intro @pt23 (And.intro @pt24 (And.intro @pt25 @pt26))))))))))))):=⟨@pt6,@pt9,@pt10,@pt11,@pt12,@pt16,@pt17,@pt20,@pt21,@pt22,@pt23,@pt24,@pt25,@pt26⟩
theorem vcu17:type_of% (And.intro @pt28 (And.intro @pt29 (And.intro @pt30 (And.intro @pt31 (And.intro @pt32 (And.intro @pt33 (And.intro @pt36 (And.intro @pt37 (And.intro @pt38 (And.intro @pt39 (And.intro @pt40 (And.intro @pt41 (And.intro @pt42 @pt43))))))))))))):=⟨@pt28,@pt29,@pt30,@pt31,@pt32,@pt33,@pt36,@pt37,@pt38,@pt39,@pt40,@pt41,@pt42,@pt43⟩
theorem vcu18:type_of% (And.intro @pt44 (And.intro @pt45 (And.intro @pt48 (And.intro @pt49 (And.intro @pt50 (And.intro @pt51 (And.intro @pt52 (And.intro @pt53 (And.intro @pt54 (And.intro @pt55 (And.intro @pt56 (And.intro @pt57 (And.intro @pt58 @pt59))))))))))))):=⟨@pt44,@pt45,@pt48,@pt49,@pt50,@pt51,@pt52,@pt53,@pt54,@pt55,@pt56,@pt57,@pt58,@pt59⟩
theorem vcu19:type_of% (And.intro @pt60 (And.intro @pt61 (And.intro @pt62 (And.intro @pt63 (And.intro @pt64 (And.intro @pt65 (And.intro @pt66 (And.intro @pt67 (And.intro @pt69 (And.intro @pt70 (And.intro @pt71 (And.intro @pt73 (And.intro @pt74 @pt75))))))))))))):=⟨@pt60,@pt61,@pt62,@pt63,@pt64,@pt65,@pt66,@pt67,@pt69,@pt70,@pt71,@pt73,@pt74,@pt75⟩
theorem vcu20:type_of% (And.intro @pt76 (And.intro @pt77 (And.intro @pt78 (And.intro @pt81 (And.intro @pt82 (And.intro @pt83 (And.intro @pt84 (And.intro @pt85 (And.intro @pt86 (And.intro @pt88 (And.intro @pt89 (And.intro @pt90 (And.intro @pt91 (And.intro @pt92 @pt93)))))))))))))):=⟨@pt76,@pt77,@pt78,@pt81,@pt82,@pt83,@pt84,@pt85,@pt86,@pt88,@pt89,@pt90,@pt91,@pt92,@pt93⟩
theorem vcu21:type_of% (And.intro @pt95 (And.intro @pt96 (And.intro @pt97 (And.intro @pt98 (And.intro @pt99 (And.intro @pt100 (And.intro @pt101 (And.intro @pt102 (And.intro @pt104 (And.intro @pt105 (And.intro @pt106 (And.intro @pt107 @pt108)))))))))))):=⟨@pt95,@pt96,@pt97,@pt98,@pt99,@pt100,@pt101,@pt102,@pt104,@pt105,@pt106,@pt107,@pt108⟩
theorem vcu22:type_of% (And.intro @pt110 (And.intro @pt111 (And.intro @pt112 (And.intro @pt113 (And.intro @pt114 (And.intro @pt115 (And.intro @pt116 (And.intro @pt117 (And.intro @pt118 (And.intro @pt119 (And.intro @pt120 (And.intro @pt121 (And.intro @pt122 (And.intro @pt123 (And.intro @pt124 @pt125))))))))))))))):=⟨@pt110,@pt111,@pt112,@pt113,@pt114,@pt115,@pt116,@pt117,@pt118,@pt119,@pt120,@pt121,@pt122,@pt123,@pt124,@pt125⟩
theorem vcu23:type_of% (And.intro @pt135 (And.intro @pt136 (And.intro @pt139 (And.intro @pt140 @pt141)))):=⟨@pt135,@pt136,@pt139,@pt140,@pt141⟩
theorem vcu24:type_of% (And.intro @pt142 (And.intro @pt143 (And.intro @pt144 (And.intro @pt145 (And.intro @pt146 (And.intro @pt147 @pt155)))))):=⟨@pt142,@pt143,@pt144,@pt145,@pt146,@pt147,@pt155⟩
theorem vcu25:type_of% (And.intro @pt159 (And.intro @pt160 (And.intro @pt161 @pt163))):=⟨@pt159,@pt160,@pt161,@pt163⟩
theorem vcu26:type_of% (And.intro @pt185 (And.intro @pt189 (And.intro @pt190 (And.intro @pt191 (And.intro @pt192 (And.intro @pt193 (And.intro @sc0 (And.intro @sc1 (And.intro @sc2 @sc3))))))))):=⟨@pt185,@pt189,@pt190,@pt191,@pt192,@pt193,@sc0,@sc1,@sc2,@sc3⟩
theorem vcu27:type_of% (And.intro @sc4 (And.intro @sc5 (And.intro @sc6 (And.intro @sc9 (And.intro @sc10 (And.intro @sc11 (And.intro @sc12 (And.intro @sc16 (And.intro @sc17 (And.intro @sc20 (And.intro @sc21 (And.intro @sc22 (And.intro @sc23 (And.intro @sc24 @sc25)))))))))))))):=⟨@sc4,@sc5,@sc6,@sc9,@sc10,@sc11,@sc12,@sc16,@sc17,@sc20,@sc21,@sc22,@sc23,@sc24,@sc25⟩
theorem vcu28:type_of% (And.intro @sc26 (And.intro @sc28 (And.intro @sc29 (And.intro @sc30 (And.intro @sc31 (And.intro @sc32 (And.intro @sc33 (And.intro @sc36 (And.intro @sc37 (And.intro @sc38 (And.intro @sc39 (And.intro @sc40 @sc41)))))))))))):=⟨@sc26,@sc28,@sc29,@sc30,@sc31,@sc32,@sc33,@sc36,@sc37,@sc38,@sc39,@sc40,@sc41⟩
theorem vcu29:type_of% (And.intro @sc42 (And.intro @sc43 (And.intro @sc44 (And.intro @sc45 (And.intro @sc48 (And.intro @sc49 (And.intro @sc50 (And.intro @sc51 (And.intro @sc52 (And.intro @sc53 (And.intro @sc54 (And.intro @sc55 (And.intro @sc56 @sc57))))))))))))):=⟨@sc42,@sc43,@sc44,@sc45,@sc48,@sc49,@sc50,@sc51,@sc52,@sc53,@sc54,@sc55,@sc56,@sc57⟩
theorem vcu30:type_of% (And.intro @sc58 (And.intro @sc59 (And.intro @sc60 (And.intro @sc61 (And.intro @sc62 (And.intro @sc63 (And.intro @sc64 (And.intro @sc65 (And.intro @sc66 (And.intro @sc67 (And.intro @sc69 (And.intro @sc70 (And.intro @sc71 @sc73))))))))))))):=⟨@sc58,@sc59,@sc60,@sc61,@sc62,@sc63,@sc64,@sc65,@sc66,@sc67,@sc69,@sc70,@sc71,@sc73⟩
theorem vcu31:type_of% (And.intro @sc74 (And.intro @sc75 (And.intro @sc76 (And.intro @sc77 (And.intro @sc78 (And.intro @sc81 (And.intro @sc82 (And.intro @sc83 (And.intro @sc84 (And.intro @sc85 (And.intro @sc86 (And.intro @sc88 (And.intro @sc89 (And.intro @sc90 @sc91)))))))))))))):=⟨@sc74,@sc75,@sc76,@sc77,@sc78,@sc81,@sc82,@sc83,@sc84,@sc85,@sc86,@sc88,@sc89,@sc90,@sc91⟩
theorem vcu32:type_of% (And.intro @sc92 (And.intro @sc93 (And.intro @sc95 (And.intro @sc96 (And.intro @sc97 (And.intro @sc98 (And.intro @sc99 (And.intro @sc100 (And.intro @sc101 (And.intro @sc102 (And.intro @sc104 (And.intro @sc105 (And.intro @sc106 @sc107))))))))))))):=⟨@sc92,@sc93,@sc95,@sc96,@sc97,@sc98,@sc99,@sc100,@sc101,@sc102,@sc104,@sc105,@sc106,@sc107⟩
theorem vcu33:type_of% (And.intro @sc108 (And.intro @sc110 (And.intro @sc111 (And.intro @sc112 (And.intro @sc113 (And.intro @sc114 (And.intro @sc115 (And.intro @sc116 (And.intro @sc117 (And.intro @sc118 (And.intro @sc119 (And.intro @sc120 (And.intro @sc121 (And.intro @sc122 @sc123)))))))))))))):=⟨@sc108,@sc110,@sc111,@sc112,@sc113,@sc114,@sc115,@sc116,@sc117,@sc118,@sc119,@sc120,@sc121,@sc122,@sc123⟩
theorem vcu34:type_of% (And.intro @sc124 (And.intro @sc125 (And.intro @sc135 (And.intro @sc136 @sc139)))):=⟨@sc124,@sc125,@sc135,@sc136,@sc139⟩
theorem vcu35:type_of% (And.intro @sc140 (And.intro @sc141 (And.intro @sc142 (And.intro @sc143 (And.intro @sc144 (And.intro @sc145 (And.intro @sc146 (And.intro @sc147 @sc155)))))))):=⟨@sc140,@sc141,@sc142,@sc143,@sc144,@sc145,@sc146,@sc147,@sc155⟩
theorem vcu36:type_of% (And.intro @sc159 (And.intro @sc160 (And.intro @sc161 @sc163))):=⟨@sc159,@sc160,@sc161,@sc163⟩
theorem vcu37:type_of% (And.intro @sc185 (And.intro @sc189 (And.intro @sc190 (And.intro @sc191 (And.intro @sc192 (And.intro @sc193 (And.intro @nf3 @nf4))))))):=⟨@sc185,@sc189,@sc190,@sc191,@sc192,@sc193,@nf3,@nf4⟩
theorem vcu38:type_of% (And.intro @nf5 (And.intro @nf6 (And.intro @nf7 (And.intro @nf8 (And.intro @nf9 (And.intro @nf10 (And.intro @nf11 (And.intro @nf12 (And.intro @nf13 (And.intro @nf14 (And.intro @nf16 (And.intro @nf17 (And.intro @nf18 (And.intro @nf19 @nf20)))))))))))))):=⟨@nf5,@nf6,@nf7,@nf8,@nf9,@nf10,@nf11,@nf12,@nf13,@nf14,@nf16,@nf17,@nf18,@nf19,@nf20⟩
theorem vcu39:type_of% (And.intro @nf21 (And.intro @nf22 (And.intro @nf23 (And.intro @nf24 (And.intro @nf25 (And.intro @nf26 (And.intro @nf28 (And.intro @nf29 (And.intro @nf30 (And.intro @nf31 (And.intro @nf32 (And.intro @nf33 @nf36)))))))))))):=⟨@nf21,@nf22,@nf23,@nf24,@nf25,@nf26,@nf28,@nf29,@nf30,@nf31,@nf32,@nf33,@nf36⟩
theorem vcu40:type_of% (And.intro @nf37 (And.intro @nf38 (And.intro @nf39 (And.intro @nf40 (And.intro @nf41 (And.intro @nf42 (And.intro @nf43 (And.intro @nf44 (And.intro @nf45 (And.intro @nf48 (And.intro @nf49 (And.intro @nf50 (And.intro @nf51 @nf52))))))))))))):=⟨@nf37,@nf38,@nf39,@nf40,@nf41,@nf42,@nf43,@nf44,@nf45,@nf48,@nf49,@nf50,@nf51,@nf52⟩
theorem vcu41:type_of% (And.intro @nf53 (And.intro @nf54 (And.intro @nf55 (And.intro @nf56 (And.intro @nf57 (And.intro @nf58 (And.intro @nf59 (And.intro @nf60 (And.intro @nf61 (And.intro @nf62 (And.intro @nf63 (And.intro @nf64 (And.intro @nf65 (And.intro @nf66 @nf67)))))))))))))):=⟨@nf53,@nf54,@nf55,@nf56,@nf57,@nf58,@nf59,@nf60,@nf61,@nf62,@nf63,@nf64,@nf65,@nf66,@nf67⟩
theorem vcu42:type_of% (And.intro @nf69 (And.intro @nf70 (And.intro @nf71 (And.intro @nf73 (And.intro @nf74 (And.intro @nf75 (And.intro @nf76 (And.intro @nf77 (And.intro @nf78 (And.intro @nf79 (And.intro @nf80 (And.intro @nf81 (And.intro @nf82 (And.intro @nf83 @nf84)))))))))))))):=⟨@nf69,@nf70,@nf71,@nf73,@nf74,@nf75,@nf76,@nf77,@nf78,@nf79,@nf80,@nf81,@nf82,@nf83,@nf84⟩
theorem vcu43:type_of% (And.intro @nf85 (And.intro @nf86 (And.intro @nf88 (And.intro @nf89 (And.intro @nf90 (And.intro @nf91 (And.intro @nf92 (And.intro @nf93 (And.intro @nf95 (And.intro @nf96 (And.intro @nf97 (And.intro @nf98 (And.intro @nf99 @nf100))))))))))))):=⟨@nf85,@nf86,@nf88,@nf89,@nf90,@nf91,@nf92,@nf93,@nf95,@nf96,@nf97,@nf98,@nf99,@nf100⟩
theorem vcu44:type_of% (And.intro @nf101 (And.intro @nf102 (And.intro @nf104 (And.intro @nf105 (And.intro @nf106 (And.intro @nf107 (And.intro @nf108 (And.intro @nf110 (And.intro @nf111 (And.intro @nf112 (And.intro @nf113 (And.intro @nf114 (And.intro @nf116 @nf117))))))))))))):=⟨@nf101,@nf102,@nf104,@nf105,@nf106,@nf107,@nf108,@nf110,@nf111,@nf112,@nf113,@nf114,@nf116,@nf117⟩
theorem vcu45:type_of% (And.intro @nf118 (And.intro @nf119 (And.intro @nf120 (And.intro @nf121 (And.intro @nf122 (And.intro @nf123 (And.intro @nf124 (And.intro @nf125 (And.intro @nf135 @nf136))))))))):=⟨@nf118,@nf119,@nf120,@nf121,@nf122,@nf123,@nf124,@nf125,@nf135,@nf136⟩
theorem vcu46:type_of% (And.intro @nf139 (And.intro @nf140 (And.intro @nf141 (And.intro @nf142 (And.intro @nf143 (And.intro @nf144 (And.intro @nf145 (And.intro @nf146 (And.intro @nf147 @nf155))))))))):=⟨@nf139,@nf140,@nf141,@nf142,@nf143,@nf144,@nf145,@nf146,@nf147,@nf155⟩
theorem vcu47:type_of% (And.intro @nf159 (And.intro @nf160 (And.intro @nf161 (And.intro @nf163 (And.intro @nf187 (And.intro @nf189 @nf190)))))):=⟨@nf159,@nf160,@nf161,@nf163,@nf187,@nf189,@nf190⟩
theorem vcu48:type_of% (And.intro @nf191 (And.intro (aload_agg' ag28) (And.intro (aload_agg' ag29) (And.intro (aload_agg' ag32) (And.intro (aload_agg' ag33) (And.intro (aload_agg' ag40) (And.intro (aload_agg' ag41) (And.intro (aload_agg' ag69) (And.intro (aload_agg' ag70) (And.intro (aload_agg' ag101) (And.intro (aload_agg' ag102) (And.intro (aload_agg' ag111) (And.intro (aload_agg' ag112) (And.intro (aload_agg' ag115) (And.intro (aload_agg' ag116) (aload_agg' ag124)))))))))))))))):=⟨@nf191,(aload_agg' ag28),(aload_agg' ag29),(aload_agg' ag32),(aload_agg' ag33),(aload_agg' ag40),(aload_agg' ag41),(aload_agg' ag69),(aload_agg' ag70),(aload_agg' ag101),(aload_agg' ag102),(aload_agg' ag111),(aload_agg' ag112),(aload_agg' ag115),(aload_agg' ag116),(aload_agg' ag124)⟩
theorem vcu49:type_of% (And.intro (aload_cell' ag1) (And.intro (aload_cell' ag2) (And.intro (aload_cell' ag3) (And.intro (aload_cell' ag4) (And.intro (aload_cell' ag5) (And.intro (aload_cell' ag6) (And.intro (aload_cell' ag9) (And.intro (aload_cell' ag10) (And.intro (aload_cell' ag11) (aload_cell' ag12)))))))))):=⟨(aload_cell' ag1),(aload_cell' ag2),(aload_cell' ag3),(aload_cell' ag4),(aload_cell' ag5),(aload_cell' ag6),(aload_cell' ag9),(aload_cell' ag10),(aload_cell' ag11),(aload_cell' ag12)⟩
theorem vcu50:type_of% (And.intro (aload_cell' ag16) (And.intro (aload_cell' ag17) (And.intro (aload_cell' ag21) (And.intro (aload_cell' ag22) (And.intro (aload_cell' ag23) (And.intro (aload_cell' ag24) (And.intro (aload_cell' ag26) (And.intro (aload_cell' ag30) (And.intro (aload_cell' ag31) (And.intro (aload_cell' ag36) (And.intro (aload_cell' ag38) (And.intro (aload_cell' ag39) (And.intro (aload_cell' ag43) (aload_cell' ag44)))))))))))))):=⟨(aload_cell' ag16),(aload_cell' ag17),(aload_cell' ag21),(aload_cell' ag22),(aload_cell' ag23),(aload_cell' ag24),(aload_cell' ag26),(aload_cell' ag30),(aload_cell' ag31),(aload_cell' ag36),(aload_cell' ag38),(aload_cell' ag39),(aload_cell' ag43),(aload_cell' ag44)⟩
theorem vcu51:type_of% (And.intro (aload_cell' ag45) (And.intro (aload_cell' ag48) (And.intro (aload_cell' ag49) (And.intro (aload_cell' ag51) (And.intro (aload_cell' ag52) (And.intro (aload_cell' ag53) (And.intro (aload_cell' ag54) (And.intro (aload_cell' ag55) (And.intro (aload_cell' ag56) (And.intro (aload_cell' ag57) (And.intro (aload_cell' ag58) (And.intro (aload_cell' ag60) (And.intro (aload_cell' ag62) (aload_cell' ag63)))))))))))))):=⟨(aload_cell' ag45),(aload_cell' ag48),(aload_cell' ag49),(aload_cell' ag51),(aload_cell' ag52),(aload_cell' ag53),(aload_cell' ag54),(aload_cell' ag55),(aload_cell' ag56),(aload_cell' ag57),(aload_cell' ag58),(aload_cell' ag60),(aload_cell' ag62),(aload_cell' ag63)⟩
theorem vcu52:type_of% (And.intro (aload_cell' ag64) (And.intro (aload_cell' ag65) (And.intro (aload_cell' ag66) (And.intro (aload_cell' ag67) (And.intro (aload_cell' ag71) (And.intro (aload_cell' ag73) (And.intro (aload_cell' ag74) (And.intro (aload_cell' ag75) (And.intro (aload_cell' ag76) (And.intro (aload_cell' ag77) (And.intro (aload_cell' ag78) (And.intro (aload_cell' ag84) (And.intro (aload_cell' ag85) (aload_cell' ag86)))))))))))))):=⟨(aload_cell' ag64),(aload_cell' ag65),(aload_cell' ag66),(aload_cell' ag67),(aload_cell' ag71),(aload_cell' ag73),(aload_cell' ag74),(aload_cell' ag75),(aload_cell' ag76),(aload_cell' ag77),(aload_cell' ag78),(aload_cell' ag84),(aload_cell' ag85),(aload_cell' ag86)⟩
theorem vcu53:type_of% (And.intro (aload_cell' ag88) (And.intro (aload_cell' ag89) (And.intro (aload_cell' ag90) (And.intro (aload_cell' ag91) (And.intro (aload_cell' ag92) (And.intro (aload_cell' ag95) (And.intro (aload_cell' ag96) (And.intro (aload_cell' ag97) (And.intro (aload_cell' ag98) (And.intro (aload_cell' ag99) (And.intro (aload_cell' ag100) (And.intro (aload_cell' ag104) (And.intro (aload_cell' ag105) (aload_cell' ag106)))))))))))))):=⟨(aload_cell' ag88),(aload_cell' ag89),(aload_cell' ag90),(aload_cell' ag91),(aload_cell' ag92),(aload_cell' ag95),(aload_cell' ag96),(aload_cell' ag97),(aload_cell' ag98),(aload_cell' ag99),(aload_cell' ag100),(aload_cell' ag104),(aload_cell' ag105),(aload_cell' ag106)⟩
theorem vcu54:type_of% (And.intro (aload_cell' ag107) (And.intro (aload_cell' ag108) (And.intro (aload_cell' ag110) (And.intro (aload_cell' ag113) (And.intro (aload_cell' ag114) (And.intro (aload_cell' ag117) (And.intro (aload_cell' ag119) (And.intro (aload_cell' ag120) (And.intro (aload_cell' ag121) (And.intro (aload_cell' ag122) (aload_cell' ag123))))))))))):=⟨(aload_cell' ag107),(aload_cell' ag108),(aload_cell' ag110),(aload_cell' ag113),(aload_cell' ag114),(aload_cell' ag117),(aload_cell' ag119),(aload_cell' ag120),(aload_cell' ag121),(aload_cell' ag122),(aload_cell' ag123)⟩
theorem vcu55:type_of% (And.intro (aload_cell' ag135) (And.intro (aload_cell' ag136) (And.intro (aload_cell' ag140) (And.intro (aload_cell' ag141) (And.intro (aload_cell' ag142) (And.intro (aload_cell' ag143) (And.intro (aload_cell' ag144) (And.intro (aload_cell' ag145) (aload_cell' ag146))))))))):=⟨(aload_cell' ag135),(aload_cell' ag136),(aload_cell' ag140),(aload_cell' ag141),(aload_cell' ag142),(aload_cell' ag143),(aload_cell' ag144),(aload_cell' ag145),(aload_cell' ag146)⟩
theorem vcu56:type_of% (And.intro (aload_cell' ag147) (And.intro (aload_cell' ag155) (And.intro (aload_cell' ag159) (And.intro (aload_cell' ag160) (And.intro (aload_cell' ag161) (aload_cell' ag163)))))):=⟨(aload_cell' ag147),(aload_cell' ag155),(aload_cell' ag159),(aload_cell' ag160),(aload_cell' ag161),(aload_cell' ag163)⟩
theorem vcu57:type_of% (And.intro (aload_cell' ag189) (And.intro (aload_cell' ag190) (And.intro (aload_cell' ag191) (And.intro (aload_cell' ag192) (And.intro (aload_cell' ag193) (And.intro (@List.any_cons.{0}) (And.intro (@List.any_nil.{0}) (@List.map_cons.{0,0})))))))):=⟨(aload_cell' ag189),(aload_cell' ag190),(aload_cell' ag191),(aload_cell' ag192),(aload_cell' ag193),(@List.any_cons.{0}),(@List.any_nil.{0}),(@List.map_cons.{0,0})⟩
theorem vcu58:type_of% (And.intro (@List.map_nil.{0,0}) (And.intro (@Option.map_some.{0,0}) (And.intro (@Option.map_none.{0,0}) (@List.nil_append.{0})))):=⟨(@List.map_nil.{0,0}),(@Option.map_some.{0,0}),(@Option.map_none.{0,0}),(@List.nil_append.{0})⟩
theorem vcd0:type_of% (And.intro @cs_cons (And.intro @cs_nil (And.intro @retC_normal (And.intro @retC_ret (And.intro @vc_seq (And.intro @vc_block (And.intro @vc_region (And.intro @vc_regionD (And.intro @vcD_false (And.intro @vcD_true (And.intro @vc_loop_eq (And.intro @vc_cond (And.intro @vc_skip (And.intro @vc_exit (And.intro @vc_ret @seqC_normal))))))))))))))):=⟨@cs_cons,@cs_nil,@retC_normal,@retC_ret,@vc_seq,@vc_block,@vc_region,@vc_regionD,@vcD_false,@vcD_true,@vc_loop_eq,@vc_cond,@vc_skip,@vc_exit,@vc_ret,@seqC_normal⟩
theorem vcd1:type_of% (And.intro @seqC_exit (And.intro @seqC_ret (And.intro @blockK_normal (And.intro @blockK_exit (And.intro @blockK_ret (And.intro @retK_normal (And.intro @retK_ret (And.intro @seqK_normal (And.intro @seqK_exit (And.intro @seqK_ret (And.intro @r_nil (And.intro @r_assign (And.intro @r_move (And.intro @r_len (And.intro @r_binOpT @r_binOpI))))))))))))))):=⟨@seqC_exit,@seqC_ret,@blockK_normal,@blockK_exit,@blockK_ret,@retK_normal,@retK_ret,@seqK_normal,@seqK_exit,@seqK_ret,@r_nil,@r_assign,@r_move,@r_len,@r_binOpT,@r_binOpI⟩
theorem vcd2:type_of% (And.intro @r_binOpB (And.intro @r_binOpS (And.intro @r_unOp (And.intro @r_convert (And.intro @r_indexAddr (And.intro @r_load (And.intro @r_pick (And.intro @r_slice (And.intro @r_nilCheck (And.intro @r_fieldAddr (And.intro @r_field (And.intro @r_extract (And.intro @r_min (And.intro @r_max (And.intro @r_call @r_makeFunc))))))))))))))):=⟨@r_binOpB,@r_binOpS,@r_unOp,@r_convert,@r_indexAddr,@r_load,@r_pick,@r_slice,@r_nilCheck,@r_fieldAddr,@r_field,@r_extract,@r_min,@r_max,@r_call,@r_makeFunc⟩
theorem vcd3:type_of% (And.intro @r_guard (And.intro (r_index' Tryz.underlying9) (And.intro (r_index' Tryz.underlying10) (r_index' Tryz.underlying11)))):=⟨@r_guard,(r_index' Tryz.underlying9),(r_index' Tryz.underlying10),(r_index' Tryz.underlying11)⟩
theorem vcu:type_of% (And.intro (And.intro (And.intro (And.intro (And.intro @vcu0 (And.intro @vcu1 @vcu2)) (And.intro (And.intro @vcu3 @vcu4) (And.intro @vcu5 @vcu6))) (And.intro (And.intro @vcu7 (And.intro @vcu8 @vcu9)) (And.intro (And.intro @vcu10 @vcu11) (And.intro @vcu12 @vcu13)))) (And.intro (And.intro (And.intro @vcu14 (And.intro @vcu15 @vcu16)) (And.intro (And.intro @vcu17 @vcu18) (And.intro @vcu19 @vcu20))) (And.intro (And.intro (And.intro @vcu21 @vcu22) (And.intro @vcu23 @vcu24)) (And.intro (And.intro @vcu25 @vcu26) (And.intro @vcu27 @vcu28))))) (And.intro (And.intro (And.intro (And.intro @vcu29 (And.intro @vcu30 @vcu31)) (And.intro (And.intro @vcu32 @vcu33) (And.intro @vcu34 @vcu35))) (And.intro (And.intro (And.intro @vcu36 @vcu37) (And.intro @vcu38 @vcu39)) (And.intro (And.intro @vcu40 @vcu41) (And.intro @vcu42 @vcu43)))) (And.intro (And.intro (And.intro @vcu44 (And.intro @vcu45 @vcu46)) (And.intro (And.intro @vcu47 @vcu48) (And.intro @vcu49 @vcu50))) (And.intro (And.intro (And.intro @vcu51 @vcu52) (And.intro @vcu53 @vcu54)) (And.intro (And.intro @vcu55 @vcu56) (And.intro @vcu57 @vcu58)))))):=⟨⟨⟨⟨⟨@vcu0,⟨@vcu1,@vcu2⟩⟩,⟨⟨@vcu3,@vcu4⟩,⟨@vcu5,@vcu6⟩⟩⟩,⟨⟨@vcu7,⟨@vcu8,@vcu9⟩⟩,⟨⟨@vcu10,@vcu11⟩,⟨@vcu12,@vcu13⟩⟩⟩⟩,⟨⟨⟨@vcu14,⟨@vcu15,@vcu16⟩⟩,⟨⟨@vcu17,@vcu18⟩,⟨@vcu19,@vcu20⟩⟩⟩,⟨⟨⟨@vcu21,@vcu22⟩,⟨@vcu23,@vcu24⟩⟩,⟨⟨@vcu25,@vcu26⟩,⟨@vcu27,@vcu28⟩⟩⟩⟩⟩,⟨⟨⟨⟨@vcu29,⟨@vcu30,@vcu31⟩⟩,⟨⟨@vcu32,@vcu33⟩,⟨@vcu34,@vcu35⟩⟩⟩,⟨⟨⟨@vcu36,@vcu37⟩,⟨@vcu38,@vcu39⟩⟩,⟨⟨@vcu40,@vcu41⟩,⟨@vcu42,@vcu43⟩⟩⟩⟩,⟨⟨⟨@vcu44,⟨@vcu45,@vcu46⟩⟩,⟨⟨@vcu47,@vcu48⟩,⟨@vcu49,@vcu50⟩⟩⟩,⟨⟨⟨@vcu51,@vcu52⟩,⟨@vcu53,@vcu54⟩⟩,⟨⟨@vcu55,@vcu56⟩,⟨@vcu57,@vcu58⟩⟩⟩⟩⟩⟩
theorem vcd:type_of% (And.intro (And.intro @vcd0 @vcd1) (And.intro @vcd2 @vcd3)):=⟨⟨@vcd0,@vcd1⟩,⟨@vcd2,@vcd3⟩⟩
theorem vcp:type_of% (And.intro @pickOps_nil (And.intro @pickOps_cons (And.intro @pickO_some (And.intro @List.getElem?_cons_succ.{0} @List.getElem?_cons_zero.{0})))):=⟨@pickOps_nil,@pickOps_cons,@pickO_some,@List.getElem?_cons_succ.{0},@List.getElem?_cons_zero.{0}⟩
theorem _root_.Go.kr9{p:Prop}(h:p:=by kernel_rfl):p:=h
theorem _root_.Go.om9{p:Prop}(h:p:=by omega):p:=h
theorem _root_.Go.tr9{p:Prop}(h:p:=by first | trivial | rfl | exact Eq.symm (by assumption)):p:=h
theorem z9q {p:Prop} (h:p:=by simp -implicitDefEqProofs(disch:=omega)only[Nat.reduceEqDiff,↓reduceIte,vcu,↓vcd]):p:=h
theorem z9r {p:Prop} (h:p:=by simp -implicitDefEqProofs(disch:=omega)only[Nat.reduceEqDiff,↓reduceIte,vcu,↓vcd];rfl):p:=h
theorem z9z {p:Prop} (h:p:=by simp -implicitDefEqProofs(disch:=omega)only[Nat.reduceEqDiff,↓reduceIte,vcu,↓vcd];exact Nat.zero_lt_succ _):p:=h
theorem z9l {p:Prop} (h:p:=by simp -implicitDefEqProofs(disch:=omega)only[Nat.reduceEqDiff,↓reduceIte,vcu,↓vcd];exact Nat.le_refl _):p:=h
theorem z9co3 {p:Prop} (h:p:=by simp -implicitDefEqProofs(disch:=omega)only[Nat.reduceEqDiff,↓reduceIte,vcu,↓vcd,co3];rfl):p:=h
theorem z9co33 {p:Prop} (h:p:=by simp -implicitDefEqProofs(disch:=omega)only[Nat.reduceEqDiff,↓reduceIte,vcu,↓vcd,co33];rfl):p:=h
theorem z9co41 {p:Prop} (h:p:=by simp -implicitDefEqProofs(disch:=omega)only[Nat.reduceEqDiff,↓reduceIte,vcu,↓vcd,co41];rfl):p:=h
theorem z9co70 {p:Prop} (h:p:=by simp -implicitDefEqProofs(disch:=omega)only[Nat.reduceEqDiff,↓reduceIte,vcu,↓vcd,co70];rfl):p:=h
end Go.Proofs.YtofdnmlpfagibaaGreatDoor
namespace Go.Proofs.YtofdnmlpfagibaaGreatDoor
open Go Go.Abs Go.RowKit
variable {w0:World}
theorem in_calls (σ:AHeap) (n lo hi:Int):ACall Tryz.prog w0 76 [.int .i64 n,.int .i64 lo,.int .i64 hi] σ fun r σ'=>r=.bool (decide (lo≤n∧n≤hi))∧σ'=σ:=by
 refine acall_go mixed Tryz.func76 rfl good76 fun pr=>?_
 by_cases h:lo≤n
 ·simp -implicitDefEqProofs(disch:=omega)only[Nat.reduceEqDiff,↓reduceIte,vcu,↓vcd]
  refine fin_one Tryz.results76 ⟨?_,rfl⟩
  simp -implicitDefEqProofs(disch:=omega)only[Nat.reduceEqDiff,↓reduceIte,vcu,↓vcd]
  simp [h]
 ·simp -implicitDefEqProofs(disch:=omega)only[Nat.reduceEqDiff,↓reduceIte,vcu,↓vcd]
  refine fin_one Tryz.results76 ⟨?_,rfl⟩
  simp -implicitDefEqProofs(disch:=omega)only[Nat.reduceEqDiff,↓reduceIte,vcu,↓vcd]
  simp [h]
theorem has_at (σ:AHeap) (h o:Nat) (xs:List Int) (n:Int) (hv:IntsAt .i64 σ h o xs) (hl:xs.length≤1048576) :
  ACall Tryz.prog w0 120 [.slice (some ⟨h,o,none⟩) xs.length 1,.int .i64 n] σ fun r σ'=>r=.bool (decide (n∈xs))∧σ'=σ:=by
 refine acall_go mixed Tryz.func120 rfl good120 fun pr=>?_
 simp -implicitDefEqProofs(disch:=omega)only[Nat.reduceEqDiff,↓reduceIte,vcu,↓vcd]
 refine vc_loop mixed kr9 (fun m a σ'=>∃k:Nat,m+k=xs.length∧a 0=.slice (some ⟨h,o,none⟩) xs.length 1∧a 1=.int .i64 n∧a 5=.int .i64 k∧σ'=σ∧∀j,j < k→xs.getD j 0≠n) xs.length ⟨0,by simp,rfl,rfl,rfl,rfl,by simp⟩ ?_
 rintro m a σ' ⟨k,hk,h0,h1,h5,rfl,hne⟩
 by_cases hlt:k < xs.length
 ·have hx:=hv k hlt
  simp -implicitDefEqProofs(disch:=omega)only[Nat.reduceEqDiff,↓reduceIte,vcu,↓vcd,h0,h1,h5,hx]
  rw[condR_dec]
  refine⟨fun heq=>?_,fun hneq=>?_⟩
  ·rw[vcH_eq]
   simp -implicitDefEqProofs(disch:=omega)only[Nat.reduceEqDiff,↓reduceIte,vcu,↓vcd]
   refine fin_one Tryz.results120 ⟨?_,rfl⟩
   simp -implicitDefEqProofs(disch:=omega)only[Nat.reduceEqDiff,↓reduceIte,vcu,↓vcd]
   have:n∈xs:=by rw[←heq];simp [List.getD,hlt]
   simp [this]
  ·rw[vcH_eq]
   simp -implicitDefEqProofs(disch:=omega)only[Nat.reduceEqDiff,↓reduceIte,vcu,↓vcd,h0,h1,h5]
   refine⟨m - 1,by omega,k+1,by omega,trivial,trivial,by simp,trivial,fun j hj=>?_⟩
   by_cases e:j=k
   ·subst e;exact hneq
   ·exact hne j om9
 ·simp -implicitDefEqProofs(disch:=omega)only[Nat.reduceEqDiff,↓reduceIte,vcu,↓vcd,h0,h1,h5]
  refine fin_one Tryz.results120 ⟨?_,rfl⟩
  simp -implicitDefEqProofs(disch:=omega)only[Nat.reduceEqDiff,↓reduceIte,vcu,↓vcd]
  have:n ∉ xs:=by
   intro hm
   obtain⟨i,hi,rfl⟩:=List.getElem_of_mem hm
   exact hne i om9 (by simp [List.getD,hi])
  simp [this]
def Perm (xs:List Int):Prop:=(∀x∈xs,0≤x∧x < xs.length)∧xs.Nodup
instance (xs:List Int):Decidable (Perm xs):=by unfold Perm;infer_instance
theorem nodup_take {xs:List Int}:xs.Nodup ↔ ∀j,j < xs.length→xs.getD j 0 ∉ xs.take j:=by
 constructor
 ·intro h j hj hm
  obtain⟨i,hi,he⟩:=List.getElem_of_mem hm
  simp at hi
  have e1:xs.getD j 0=xs[j]:=by simp [List.getD,hj]
  rw[e1,List.getElem_take] at he
  exact absurd ((List.getElem_inj h).1 he) om9
 ·intro h
  rw[List.nodup_iff_pairwise_ne,List.pairwise_iff_getElem]
  intro i j hi hj hij he
  refine h j hj ?_
  have e1:xs.getD j 0=xs[j]:=by simp [List.getD,hj]
  rw[e1,←he]
  rw[List.mem_take_iff_getElem]
  exact⟨i,by omega,rfl⟩
def seq (k:Int) (n:Nat):List Int:=(List.range n).map fun (i:Nat)=>k+i
def DgT (xs:List UInt8):Prop:=∀b∈xs,48≤b.toNat∧b.toNat≤51
instance (xs:List UInt8):Decidable (DgT xs):=inferInstanceAs (Decidable (∀b∈xs,48≤b.toNat∧b.toNat≤51))
theorem DgT.at {xs:List UInt8} (h:DgT xs) {k:Nat} (hk:k < xs.length):48≤(xs.getD k 0).toNat∧(xs.getD k 0).toNat≤51:=h _ (by simp [List.getD,hk])
theorem dgT_of {xs:List UInt8} (h:∀k,k < xs.length→48≤(xs.getD k 0).toNat∧(xs.getD k 0).toNat≤51):DgT xs:=by
 intro b hb
 obtain⟨k,hk,rfl⟩:=List.mem_iff_getElem.1 hb
 have:=h k hk
 simpa [List.getD,hk] using this
theorem conv_u8 {b:Int} (h:0≤b∧b≤255):aconv Tryz.prog 5 3 (.int .u8 b)=some (.int .i64 b):=by
 simp only[aconv,Tryz.underlying5,Tryz.underlying3]
 rw[wrap_i64_ok om9]
set_option maxRecDepth 8000 in
theorem abin_usub {t:TypeId} {a b:Int}:abin Tryz.prog t .sub (.int .u8 a) (.int .u8 b)=some (.int .u8 ((a - b) % 256)):=by
 simp only[abin,if_true];congr 2
set_option maxRecDepth 8000 in
theorem abin_ulss {t:TypeId} {a b:Int}:abin Tryz.prog t .lss (.int .u8 a) (.int .u8 b)=some (.bool (decide (a < b))):=by simp [abin]
theorem u8_le (b:UInt8):b.toNat≤255:=by have:=b.toNat_lt;omega
set_option maxRecDepth 8000 in
theorem digits_calls (σ:AHeap) (xs:List UInt8) (hl:xs.length≤1048576):ACall Tryz.prog w0 75 [.string (tx xs)] σ fun r σ'=>r=.bool (decide (DgT xs))∧σ'=σ:=by
 refine acall_go mixed Tryz.func75 rfl good75 fun pr=>?_
 simp -implicitDefEqProofs(disch:=omega)only[Nat.reduceEqDiff,↓reduceIte,vcu,↓vcd]
 refine vc_loop_c mixed kr9 [0] (fun m a σ'=>∃k:Nat,m+k=xs.length∧a 3=.int .i64 k∧(∀j,j < k→48≤(xs.getD j 0).toNat∧(xs.getD j 0).toNat≤51)∧σ'=σ) xs.length ⟨0,by simp,rfl,fun j hj=>absurd hj om9,rfl⟩ ?_
 rintro m a σ' hc ⟨k,hk,h3,hd,rfl⟩
 simp -implicitDefEqProofs(disch:=omega)only[Nat.reduceEqDiff,↓reduceIte,vcu,↓vcd] at hc
 obtain⟨h0,-⟩:=hc
 by_cases hlt:k < xs.length
 ·have hb:=u8_le (xs.getD k 0)
  by_cases hdg:48≤(xs.getD k 0).toNat∧(xs.getD k 0).toNat≤51
  ·have hd1:decide (0≤(((xs.getD k 0).toNat:Int) - 48) % 256∧(((xs.getD k 0).toNat:Int) - 48) % 256≤3)=true:=decide_eq_true om9
   simp -implicitDefEqProofs(disch:=omega)only[Nat.reduceEqDiff,↓reduceIte,vcu,↓vcd,h0,h3,abin_usub,conv_u8]
   refine (in_calls _ _ 0 3).mono ?_
   rintro r τ ⟨rfl,rfl⟩
   simp -implicitDefEqProofs(disch:=omega)only[Nat.reduceEqDiff,↓reduceIte,vcu,↓vcd,opK_some,h0,h3,abin_ulss,hd1]
   refine⟨⟨trivial,trivial⟩,m - 1,by omega,k+1,by omega,by simp,fun j hj=>?_,trivial⟩
   by_cases hjk:j=k
   ·subst hjk;exact hdg
   ·exact hd j om9
  ·have hn:¬DgT xs:=fun h=>hdg (h.at hlt)
   have hd1:decide (0≤(((xs.getD k 0).toNat:Int) - 48) % 256∧(((xs.getD k 0).toNat:Int) - 48) % 256≤3)=false:=decide_eq_false om9
   simp -implicitDefEqProofs(disch:=omega)only[Nat.reduceEqDiff,↓reduceIte,vcu,↓vcd,h0,h3,abin_usub,conv_u8]
   refine (in_calls _ _ 0 3).mono ?_
   rintro r τ ⟨rfl,rfl⟩
   simp -implicitDefEqProofs(disch:=omega)only[Nat.reduceEqDiff,↓reduceIte,vcu,↓vcd,opK_some,h0,h3,abin_ulss,hd1]
   refine fin_one Tryz.results75 ⟨?_,rfl⟩
   simp -implicitDefEqProofs(disch:=omega)only[Nat.reduceEqDiff,↓reduceIte,vcu,↓vcd]
   simp [hn]
 ·simp -implicitDefEqProofs(disch:=omega)only[Nat.reduceEqDiff,↓reduceIte,vcu,↓vcd,h0,h3]
  have e:k=xs.length:=by omega
  refine fin_one Tryz.results75 ⟨?_,rfl⟩
  simp -implicitDefEqProofs(disch:=omega)only[Nat.reduceEqDiff,↓reduceIte,vcu,↓vcd]
  subst e
  simp [dgT_of hd]
def Beg (s t:List UInt8):Prop:=t.length≤s.length∧s.take t.length=t
instance (s t:List UInt8):Decidable (Beg s t):=inferInstanceAs (Decidable (_∧_))
set_option maxRecDepth 8000 in
theorem begins_calls (σ:AHeap) (s t:List UInt8):ACall Tryz.prog w0 77 [.string (tx s),.string (tx t)] σ fun r σ'=>r=.bool (decide (Beg s t))∧σ'=σ:=by
 refine acall_go mixed Tryz.func77 rfl good77 fun pr=>?_
 by_cases h:t.length≤s.length
 ·simp -implicitDefEqProofs(disch:=omega)only[Nat.reduceEqDiff,↓reduceIte,vcu,↓vcd]
  refine fin_one Tryz.results77 ⟨?_,rfl⟩
  simp -implicitDefEqProofs(disch:=omega)only[Nat.reduceEqDiff,↓reduceIte,vcu,↓vcd]
  simp [Beg,h]
 ·simp -implicitDefEqProofs(disch:=omega)only[Nat.reduceEqDiff,↓reduceIte,vcu,↓vcd]
  refine fin_one Tryz.results77 ⟨?_,rfl⟩
  simp -implicitDefEqProofs(disch:=omega)only[Nat.reduceEqDiff,↓reduceIte,vcu,↓vcd]
  simp [Beg,h]
def pw (n:Nat):Int:=4 ^ n
theorem pw_pos (n:Nat):1≤pw n:=by unfold pw;exact Int.le_of_lt_add_one (by have:=Int.pow_pos (n:=4) (m:=n) om9;omega)
theorem pw_succ (n:Nat):pw (n+1)=pw n * 4:=rfl
theorem pw_mono {m n:Nat} (h:m≤n):pw m≤pw n:=by
 induction h with
 | refl=>exact Int.le_refl _
 | step _ ih=>rw[pw_succ];have:=pw_pos m;omega
set_option maxRecDepth 8000 in
theorem power_calls (σ:AHeap) (n:Nat) (hn:n≤3):ACall Tryz.prog w0 106 [.int .i64 n] σ fun r σ'=>r=.int .i64 (pw n)∧σ'=σ:=by
 refine acall_go mixed Tryz.func106 rfl good106 fun pr=>?_
 simp -implicitDefEqProofs(disch:=omega)only[Nat.reduceEqDiff,↓reduceIte,vcu,↓vcd]
 refine vc_loop_c mixed kr9 [0] (fun m a σ'=>∃k:Nat,m+k=n∧a 4=.int .i64 k∧a 3=.int .i64 (pw k)∧σ'=σ) n ⟨0,by simp,rfl,rfl,rfl⟩ ?_
 rintro m a σ' hc ⟨k,hk,h4,h3,rfl⟩
 simp -implicitDefEqProofs(disch:=omega)only[Nat.reduceEqDiff,↓reduceIte,vcu,↓vcd] at hc
 obtain⟨h0,-⟩:=hc
 have hb:=pw_pos k
 have hb2:pw k≤64:=pw_mono (n:=3) om9
 by_cases hlt:k < n
 ·simp -implicitDefEqProofs(disch:=omega)only[Nat.reduceEqDiff,↓reduceIte,vcu,↓vcd,h0,h3,h4]
  exact⟨⟨trivial,trivial⟩,m - 1,by omega,k+1,by omega,by simp,by rw[pw_succ],trivial⟩
 ·simp -implicitDefEqProofs(disch:=omega)only[Nat.reduceEqDiff,↓reduceIte,vcu,↓vcd,h0,h3,h4]
  have e:k=n:=by omega
  refine fin_one Tryz.results106 ⟨?_,rfl⟩
  simp -implicitDefEqProofs(disch:=omega)only[Nat.reduceEqDiff,↓reduceIte,vcu,↓vcd,h3]
  rw[e]
def txV:Nat→Nat→List UInt8
 | _,0=>[]
 | v,n+1=>txV (v / 4) n++[UInt8.ofNat (48+v % 4)]
theorem txV_len:∀(n v:Nat),(txV v n).length=n
 | 0,_=>rfl
 | n+1,v=>by simp [txV,txV_len n]
theorem conv_to_u8 {b:Int} (h:0≤b∧b≤255):aconv Tryz.prog 3 5 (.int .i64 b)=some (.int .u8 b):=by
 simp only[aconv,Tryz.underlying5,Tryz.underlying3]
 congr 2
 show b % 256=b
 omega
set_option maxRecDepth 8000 in
theorem text_calls (σ:AHeap) (v n:Nat) (hn:n≤3) (hv:v≤4096):ACall Tryz.prog w0 107 [.int .i64 v,.int .i64 n] σ fun r σ'=>r=.string (tx (txV v n))∧σ'=σ:=by
 refine acall_go mixed Tryz.func107 rfl good107 fun pr=>?_
 simp -implicitDefEqProofs(disch:=omega)only[Nat.reduceEqDiff,↓reduceIte,vcu,↓vcd]
 refine vc_loop_c mixed kr9 [1] (fun m a σ'=>∃(k w:Nat) (xs:List UInt8),m+k=n∧a 6=.int .i64 k∧a 0=.int .i64 w∧w≤4096∧a 5=.string (tx xs)∧xs.length=k∧txV w m++xs=txV v n∧Sub σ σ') n ⟨0,v,[],by simp,rfl,rfl,hv,rfl,rfl,by simp,Sub.refl _⟩ ?_
 rintro m a σ' hc ⟨k,w,xs,hk,h6,h0,hw,h5,hx,he,hs⟩
 simp -implicitDefEqProofs(disch:=omega)only[Nat.reduceEqDiff,↓reduceIte,vcu,↓vcd] at hc
 obtain⟨h1,-⟩:=hc
 by_cases hlt:k < n
 ·obtain⟨m',rfl⟩:∃m',m=m'+1:=⟨m - 1,by omega⟩
  simp -implicitDefEqProofs(disch:=omega)only[Nat.reduceEqDiff,↓reduceIte,vcu,↓vcd,h0,h1,h5,h6,conv_to_u8]
  refine r_lit el22 (out:=#[.int .u8 (48+(w % 4:Nat))]) (by first|kernel_rfl | (simp -implicitDefEqProofs(disch:=omega)only[Nat.reduceEqDiff,↓reduceIte,vcu,↓vcd];kernel_rfl)) (by rfl) fun g τ n1 s1 v1=>?_
  have l1:lds τ g 0 1=some ([((48+(w % 4:Nat):Nat):Int)].map (.int .u8)):=by
   rw[lds_of v1 (by simp)];simp
  have hcv:=aconvH_bytes (z:=1) Tryz.underlying22 Tryz.underlying5 Tryz.underlying9 l1
  have ha:=abin_sadd (P:=Tryz.prog) (t:=9) (xs:=[UInt8.ofNat (48+w % 4)]) (ys:=xs) (by rw[List.length_singleton];omega)
  simp -implicitDefEqProofs(disch:=omega)only[Nat.reduceEqDiff,↓reduceIte,vcu,↓vcd,h0,h1,h5,h6,hcv,ha]
  refine⟨⟨trivial,trivial⟩,m',by omega,k+1,w / 4,_,by omega,by simp,by simp,by omega,rfl,by simp [hx],?_,hs.trans s1⟩
  rw[←he,txV]
  simp
 ·simp -implicitDefEqProofs(disch:=omega)only[Nat.reduceEqDiff,↓reduceIte,vcu,↓vcd,h0,h1,h5,h6]
  have e:m=0:=by omega
  subst e
  refine fin_drop Tryz.results107 σ hs ⟨?_,rfl⟩
  simp -implicitDefEqProofs(disch:=omega)only[Nat.reduceEqDiff,↓reduceIte,vcu,↓vcd,h5]
  rw[←he];rfl
end Go.Proofs.YtofdnmlpfagibaaGreatDoor
namespace Go.Proofs.YtofdnmlpfagibaaGreatDoor
open Go Go.Abs Go.RowKit Go.Dial
def decN (n:Nat):List UInt8:=if h:n < 10 then [UInt8.ofNat (48+n)] else decN (n / 10)++[UInt8.ofNat (48+n % 10)]
def rdS (s:List UInt8):Nat→Option Int
 | 0=>some 0
 | k+1=>(rdS s k).bind fun n=>if 48≤(s.getD k 0).toNat∧(s.getD k 0).toNat≤57 then some (10 * n+((s.getD k 0).toNat - 48:Nat)) else none
def rdN (s:List UInt8):Int:=if (1≤s.length∧s.length≤4)∧¬ (1 < s.length∧s.getD 0 0=48) then (rdS s s.length).getD (-1) else -1
def cutF (c:UInt8):List UInt8→List UInt8→List (List UInt8)
 | w,[]=>[w]
 | w,b :: s=>if b=c then w :: cutF c [] s else cutF c (w++[b]) s
def cutT (c:UInt8) (s:List UInt8):List (List UInt8):=cutF c [] s
theorem cutF_plain {c:UInt8}:∀{s w:List UInt8},(∀b∈s,b≠c)→cutF c w s=[w++s]
 | [],w,_=>by simp [cutF]
 | b :: s,w,h=>by
  rw[cutF,if_neg (h b (by simp)),cutF_plain fun x hx=>h x (by simp [hx])];simp
theorem cutF_app {c:UInt8}:∀{s w t:List UInt8},(∀b∈s,b≠c)→cutF c w (s++c :: t)=(w++s) :: cutF c [] t
 | [],w,t,_=>by simp [cutF]
 | b :: s,w,t,h=>by
  rw[List.cons_append,cutF,if_neg (h b (by simp)),cutF_app fun x hx=>h x (by simp [hx])];simp
theorem cutF_ne (c:UInt8):∀(s w:List UInt8),cutF c w s≠[]
 | [],w=>by simp [cutF]
 | b :: s,w=>by
  rw[cutF]
  split
  ·simp
  ·exact cutF_ne c s _
def kwT (k:Int):List UInt8:=if k=0 then [99,97,108,108] else if k=1 then [100,114,111,112] else [110,117,109,98,101,114]
def DdOk (d:Dd):Prop:=(0≤d.k∧d.k≤2)∧(0≤d.l∧d.l≤99)∧((d.k=1∧d.t=[])∨(d.k≠1∧DgT d.t∧1≤d.t.length∧d.t.length≤3))
instance (d:Dd):Decidable (DdOk d):=inferInstanceAs (Decidable (_∧_∧_))
def deedT (d:Dd):List UInt8:=if DdOk d then kwT d.k++32 :: (decN d.l.toNat++(if d.k=1 then [] else 32 :: d.t)) else []
theorem deedT_ok {d:Dd} (h:deedT d≠[]):DdOk d:=Classical.byContradiction fun hn=>h (by rw[deedT,if_neg hn])
def kdV (w:List UInt8):Int:=if w=kwT 2 then 2 else if w=kwT 1 then 1 else if w=kwT 0 then 0 else -1
def ddW (ws:List (List UInt8)):Dd:=⟨kdV (ws.getD 0 []),if 1 < ws.length then rdN (ws.getD 1 []) else 0,if 2 < ws.length then ws.getD 2 [] else []⟩
def readO (s:List UInt8):Option Dd:=if s=[]∨deedT (ddW (cutT 32 s))≠s then none else some (ddW (cutT 32 s))
theorem readO_some {s:List UInt8} {d:Dd} (h:readO s=some d):deedT d=s∧s≠[]:=by
 unfold readO at h
 split at h
 ·cases h
 ·rename_i hn
  cases h
  exact⟨Classical.byContradiction fun e=>hn (.inr e),fun e=>hn (.inl e)⟩
theorem decN_ok:∀n,n < 100→rdN (decN n)=n∧(decN n≠[])∧∀b∈decN n,48≤b.toNat∧b.toNat≤57:=by decide +kernel
theorem kdV_kw:∀k:Int,0≤k→k≤2→kdV (kwT k)=k:=by
 intro k h0 h2
 have:k=0∨k=1∨k=2:=by omega
 rcases this with rfl|rfl|rfl<;>decide
theorem kw_b (k:Int):∀b∈kwT k,97≤b.toNat:=by
 unfold kwT
 split
 ·decide
 ·split<;>decide
theorem ne_of_nat {b c:UInt8} (h:b.toNat≠c.toNat):b≠c:=fun e=>h (by rw[e])
theorem readO_deed {d:Dd} (h:deedT d≠[]):readO (deedT d)=some d:=by
 have hk:=deedT_ok h
 have e:ddW (cutT 32 (deedT d))=d:=by
  obtain⟨h1,h2,h3⟩:=id hk
  obtain⟨n,hn,hl⟩:∃n:Nat,n < 100∧d.l=n:=⟨d.l.toNat,by omega,by omega⟩
  obtain⟨q1,q2,q3⟩:=decN_ok n hn
  have p1:∀b∈kwT d.k,b≠32:=fun b hb=>ne_of_nat (by have:=kw_b d.k b hb;show _≠32;omega)
  have p2:∀b∈decN n,b≠32:=fun b hb=>ne_of_nat (by have:=q3 b hb;show _≠32;omega)
  have hln:d.l.toNat=n:=by omega
  rw[deedT,if_pos hk,hln,cutT,cutF_app p1]
  rcases h3 with ⟨e1,e2⟩ |⟨e1,e2,e3,e4⟩
  ·rw[if_pos e1,List.append_nil,cutF_plain p2]
   obtain⟨k,l,t⟩:=d
   simp only at *
   subst hl e2
   simp [ddW,kdV_kw k h1.1 h1.2,q1]
  ·have p3:∀b∈d.t,b≠32:=fun b hb=>ne_of_nat (by have:=e2 b hb;show _≠32;omega)
   rw[if_neg e1,cutF_app p2,cutF_plain p3]
   obtain⟨k,l,t⟩:=d
   simp only at *
   subst hl
   simp [ddW,kdV_kw k h1.1 h1.2,q1]
 unfold readO
 rw[e,if_neg fun hh=>hh.elim h fun hh=>hh rfl]
theorem readO_iff {s:List UInt8} {d:Dd}:readO s=some d ↔ deedT d=s∧s≠[] :=
 ⟨readO_some,fun⟨e,hne⟩=>by rw[←e] at hne ⊢;exact readO_deed hne⟩
end Go.Proofs.YtofdnmlpfagibaaGreatDoor
namespace Go.Proofs.YtofdnmlpfagibaaGreatDoor
open Go Go.Abs Go.RowKit Go.Dial
variable {w0:World}
theorem decN_len:∀n,(decN n).length≤n+1:=fun n=>by
 induction n using Nat.strongRecOn with
 | ind n ih =>
  unfold decN
  split
  ·simp
  ·rw[List.length_append,List.length_singleton]
   have:=ih (n / 10) om9
   omega
set_option maxRecDepth 8000 in
theorem number_calls (n:Nat) (hn:n≤10000):∀σ:AHeap,ACall Tryz.prog w0 58 [.int .i64 n] σ fun r σ'=>r=.string (tx (decN n))∧σ'=σ:=by
 induction n using Nat.strongRecOn with
 | ind n ih =>
  intro σ
  have hg:decN n=if h:n < 10 then [UInt8.ofNat (48+n)] else decN (n / 10)++[UInt8.ofNat (48+n % 10)]:=by rw[decN]
  refine acall_go mixed Tryz.func58 rfl good58 fun pr=>?_
  by_cases h10:n < 10
  ·rw[dif_pos h10] at hg
   simp -implicitDefEqProofs(disch:=omega)only[Nat.reduceEqDiff,↓reduceIte,vcu,↓vcd,conv_to_u8]
   refine r_lit el22 (out:=#[.int .u8 (48+(n:Int))]) (by first|kernel_rfl | (simp -implicitDefEqProofs(disch:=omega)only[Nat.reduceEqDiff,↓reduceIte,vcu,↓vcd];kernel_rfl)) (by rfl) fun g τ n1 s1 v1=>?_
   have l1:lds τ g 0 1=some ([((48+n:Nat):Int)].map (.int .u8)):=by
    rw[lds_of v1 (by simp)];simp
   have hcv:=aconvH_bytes (z:=1) Tryz.underlying22 Tryz.underlying5 Tryz.underlying9 l1
   simp -implicitDefEqProofs(disch:=omega)only[Nat.reduceEqDiff,↓reduceIte,vcu,↓vcd,hcv]
   refine fin_drop Tryz.results58 σ s1 ⟨?_,rfl⟩
   simp -implicitDefEqProofs(disch:=omega)only[Nat.reduceEqDiff,↓reduceIte,vcu,↓vcd,hg]
  ·rw[dif_neg h10] at hg
   have hl:=decN_len (n / 10)
   have c1:=ih (n / 10) om9 om9
   have ha:=abin_sadd (P:=Tryz.prog) (t:=9) (xs:=decN (n / 10)) (ys:=[UInt8.ofNat (48+n % 10)]) (by rw[List.length_singleton];omega)
   have e10:((n:Int) / 10)=((n / 10:Nat):Int):=by omega
   have e1:((n:Int) % 10)=((n % 10:Nat):Int):=by omega
   simp -implicitDefEqProofs(disch:=omega)only[Nat.reduceEqDiff,↓reduceIte,vcu,↓vcd]
   refine region_tree mixed (quiets [0,1,3,4,5,6] (.two 2 (.one 7 (.one 8 (.one 9 (quiets [10] .stop)))) 7 (.two 2 (.one 8 (.one 9 (quiets [10] .stop))) 8 (.one 2 (.one 9 (quiets [10] .stop)))))) [] kr9 kr9 (fun p hp=>by cases hp) ?_
   refine tree_quiets _ _ _ _ sf0 kr9 kr9 ?_
   simp -implicitDefEqProofs(disch:=omega)only[Nat.reduceEqDiff,↓reduceIte,vcu,↓vcd,vcp,e10,e1,conv_to_u8]
   refine tree_two rfl rfl ?_ ?_
   ·simp -implicitDefEqProofs(disch:=omega)only[Nat.reduceEqDiff,↓reduceIte,vcu,↓vcd]
    refine (c1 _).mono ?_
    rintro _ _ ⟨rfl,rfl⟩
    rename_i σ
    simp -implicitDefEqProofs(disch:=omega)only[Nat.reduceEqDiff,↓reduceIte,vcu,↓vcd,opK_some]
    refine⟨keep_of rfl (fun p hp=>by cases hp),?_⟩
    refine tree_one rfl ?_
    refine r_lit el22 (out:=#[.int .u8 (48+(n % 10:Nat))]) (by first|kernel_rfl | (simp -implicitDefEqProofs(disch:=omega)only[Nat.reduceEqDiff,↓reduceIte,vcu,↓vcd];kernel_rfl)) (by rfl) fun g τ n1 s1 v1=>?_
    have l1:lds τ g 0 1=some ([((48+(n % 10:Nat):Nat):Int)].map (.int .u8)):=by
     rw[lds_of v1 (by simp)];simp
    have hcv:=aconvH_bytes (z:=1) Tryz.underlying22 Tryz.underlying5 Tryz.underlying9 l1
    simp -implicitDefEqProofs(disch:=omega)only[Nat.reduceEqDiff,↓reduceIte,vcu,↓vcd]
    refine⟨keep_of rfl (fun p hp=>by cases hp),?_⟩
    refine tree_one rfl ?_
    simp -implicitDefEqProofs(disch:=omega)only[Nat.reduceEqDiff,↓reduceIte,vcu,↓vcd,hcv]
    refine⟨keep_of rfl (fun p hp=>by cases hp),?_⟩
    refine tree_one rfl ?_
    simp -implicitDefEqProofs(disch:=omega)only[Nat.reduceEqDiff,↓reduceIte,vcu,↓vcd,ha]
    refine⟨keep_of rfl (fun p hp=>by cases hp),?_⟩
    refine tree_quiets _ _ _ _ sf0 kr9 kr9 ?_
    simp -implicitDefEqProofs(disch:=omega)only[Nat.reduceEqDiff,↓reduceIte,vcu,↓vcd,vcp]
    refine tree_stop ?_
    simp -implicitDefEqProofs(disch:=omega)only[Nat.reduceEqDiff,↓reduceIte,vcu,↓vcd]
    refine fin_drop Tryz.results58 σ s1 ⟨?_,rfl⟩
    simp -implicitDefEqProofs(disch:=omega)only[Nat.reduceEqDiff,↓reduceIte,vcu,↓vcd,hg]
   ·refine r_lit el22 (out:=#[.int .u8 (48+(n % 10:Nat))]) (by first|kernel_rfl | (simp -implicitDefEqProofs(disch:=omega)only[Nat.reduceEqDiff,↓reduceIte,vcu,↓vcd];kernel_rfl)) (by rfl) fun g τ n1 s1 v1=>?_
    have l1:lds τ g 0 1=some ([((48+(n % 10:Nat):Nat):Int)].map (.int .u8)):=by
     rw[lds_of v1 (by simp)];simp
    have hcv:=aconvH_bytes (z:=1) Tryz.underlying22 Tryz.underlying5 Tryz.underlying9 l1
    simp -implicitDefEqProofs(disch:=omega)only[Nat.reduceEqDiff,↓reduceIte,vcu,↓vcd]
    refine⟨keep_of rfl (fun p hp=>by cases hp),?_⟩
    refine tree_two rfl rfl ?_ ?_
    ·simp -implicitDefEqProofs(disch:=omega)only[Nat.reduceEqDiff,↓reduceIte,vcu,↓vcd]
     refine (c1 _).mono ?_
     rintro _ _ ⟨rfl,rfl⟩
     simp -implicitDefEqProofs(disch:=omega)only[Nat.reduceEqDiff,↓reduceIte,vcu,↓vcd,opK_some]
     refine⟨keep_of rfl (fun p hp=>by cases hp),?_⟩
     refine tree_one rfl ?_
     simp -implicitDefEqProofs(disch:=omega)only[Nat.reduceEqDiff,↓reduceIte,vcu,↓vcd,hcv]
     refine⟨keep_of rfl (fun p hp=>by cases hp),?_⟩
     refine tree_one rfl ?_
     simp -implicitDefEqProofs(disch:=omega)only[Nat.reduceEqDiff,↓reduceIte,vcu,↓vcd,ha]
     refine⟨keep_of rfl (fun p hp=>by cases hp),?_⟩
     refine tree_quiets _ _ _ _ sf0 kr9 kr9 ?_
     simp -implicitDefEqProofs(disch:=omega)only[Nat.reduceEqDiff,↓reduceIte,vcu,↓vcd,vcp]
     refine tree_stop ?_
     simp -implicitDefEqProofs(disch:=omega)only[Nat.reduceEqDiff,↓reduceIte,vcu,↓vcd]
     refine fin_drop Tryz.results58 σ s1 ⟨?_,rfl⟩
     simp -implicitDefEqProofs(disch:=omega)only[Nat.reduceEqDiff,↓reduceIte,vcu,↓vcd,hg]
    ·simp -implicitDefEqProofs(disch:=omega)only[Nat.reduceEqDiff,↓reduceIte,vcu,↓vcd,hcv]
     refine⟨keep_of rfl (fun p hp=>by cases hp),?_⟩
     refine tree_one rfl ?_
     simp -implicitDefEqProofs(disch:=omega)only[Nat.reduceEqDiff,↓reduceIte,vcu,↓vcd]
     refine (c1 _).mono ?_
     rintro _ _ ⟨rfl,rfl⟩
     simp -implicitDefEqProofs(disch:=omega)only[Nat.reduceEqDiff,↓reduceIte,vcu,↓vcd,opK_some]
     refine⟨keep_of rfl (fun p hp=>by cases hp),?_⟩
     refine tree_one rfl ?_
     simp -implicitDefEqProofs(disch:=omega)only[Nat.reduceEqDiff,↓reduceIte,vcu,↓vcd,ha]
     refine⟨keep_of rfl (fun p hp=>by cases hp),?_⟩
     refine tree_quiets _ _ _ _ sf0 kr9 kr9 ?_
     simp -implicitDefEqProofs(disch:=omega)only[Nat.reduceEqDiff,↓reduceIte,vcu,↓vcd,vcp]
     refine tree_stop ?_
     simp -implicitDefEqProofs(disch:=omega)only[Nat.reduceEqDiff,↓reduceIte,vcu,↓vcd]
     refine fin_drop Tryz.results58 σ s1 ⟨?_,rfl⟩
     simp -implicitDefEqProofs(disch:=omega)only[Nat.reduceEqDiff,↓reduceIte,vcu,↓vcd,hg]
theorem rdS_le {s:List UInt8}:∀{k:Nat} {n:Int},rdS s k=some n→0≤n∧n < 10 ^ k
 | 0,n,h=>by cases h;decide
 | k+1,n,h=>by
  unfold rdS at h
  cases h1:rdS s k with
  | none=>rw[h1] at h;cases h
  | some m =>
   rw[h1] at h
   simp only[Option.bind_some] at h
   split at h
   ·cases h
    have:=rdS_le h1
    rw[Int.pow_succ]
    omega
   ·cases h
theorem pow4 {k:Nat} (h:k≤4):(10:Int) ^ k≤10000:=by
 have:k=0∨k=1∨k=2∨k=3∨k=4:=by omega
 rcases this with rfl|rfl|rfl|rfl|rfl<;>decide
theorem rdS_none {s:List UInt8} {k:Nat} (h:rdS s k=none):∀j,rdS s (k+j)=none
 | 0=>h
 | j+1=>by rw[←Nat.add_assoc,rdS,rdS_none h j];rfl
set_option maxRecDepth 8000 in
theorem abin_ugtr {t:TypeId} {a b:Int}:abin Tryz.prog t .gtr (.int .u8 a) (.int .u8 b)=some (.bool (decide (b < a))):=by simp [abin]
set_option maxRecDepth 8000 in
theorem read_calls (σ:AHeap) (s:List UInt8) (hl:s.length≤1048576):ACall Tryz.prog w0 53 [.string (tx s)] σ fun r σ'=>r=.int .i64 (rdN s)∧σ'=σ:=by
 refine acall_go mixed Tryz.func53 rfl good53 fun pr=>?_
 by_cases hlen:1≤s.length∧s.length≤4
 case neg =>
  have e:rdN s=-1:=if_neg fun h=>hlen h.1
  have d1:decide ((1:Int)≤(s.length:Int)∧(s.length:Int)≤4)=false:=decide_eq_false om9
  simp -implicitDefEqProofs(disch:=omega)only[Nat.reduceEqDiff,↓reduceIte,vcu,↓vcd]
  refine (in_calls σ s.length 1 4).mono ?_
  rintro _ _ ⟨rfl,rfl⟩
  rw[d1]
  simp -implicitDefEqProofs(disch:=omega)only[Nat.reduceEqDiff,↓reduceIte,vcu,↓vcd,opK_some,Bool.not_false]
  refine fin_one Tryz.results53 ⟨?_,rfl⟩
  simp -implicitDefEqProofs(disch:=omega)only[Nat.reduceEqDiff,↓reduceIte,vcu,↓vcd,e]
 have d1:decide ((1:Int)≤(s.length:Int)∧(s.length:Int)≤4)=true:=decide_eq_true om9
 have hb0:=u8_le (s.getD 0 0)
 by_cases hz:1 < s.length∧s.getD 0 0=48
 case pos =>
  have e:rdN s=-1:=if_neg fun h=>h.2 hz
  have d2:decide (((s.getD 0 0).toNat:Int)=48)=true:=decide_eq_true (by rw[hz.2];rfl)
  have h1:=hz.1
  simp -implicitDefEqProofs(disch:=omega)only[Nat.reduceEqDiff,↓reduceIte,vcu,↓vcd]
  refine (in_calls σ s.length 1 4).mono ?_
  rintro _ _ ⟨rfl,rfl⟩
  rw[d1]
  simp -implicitDefEqProofs(disch:=omega)only[Nat.reduceEqDiff,↓reduceIte,vcu,↓vcd,opK_some,Bool.not_true,Int.toNat_zero,d2]
  refine fin_one Tryz.results53 ⟨?_,rfl⟩
  simp -implicitDefEqProofs(disch:=omega)only[Nat.reduceEqDiff,↓reduceIte,vcu,↓vcd,e]
 have eR:rdN s=(rdS s s.length).getD (-1):=if_pos ⟨hlen,hz⟩
 have start:∀b:Bool,(decide (1 < (s.length:Int))=b)→(b=true→decide (((s.getD 0 0).toNat:Int)=48)=false):=fun b hb hb2=>by
  have h1:1 < s.length:=by
   rw[hb2] at hb
   have:=of_decide_eq_true hb
   omega
  exact decide_eq_false fun h=>hz ⟨h1,UInt8.toNat_inj.1 (by show _=48;omega)⟩
 simp -implicitDefEqProofs(disch:=omega)only[Nat.reduceEqDiff,↓reduceIte,vcu,↓vcd]
 refine (in_calls σ s.length 1 4).mono ?_
 rintro _ _ ⟨rfl,rfl⟩
 rename_i σ
 rw[d1]
 by_cases h1:1 < s.length
 case pos =>
  have d2:=start true (decide_eq_true om9) rfl
  simp -implicitDefEqProofs(disch:=omega)only[Nat.reduceEqDiff,↓reduceIte,vcu,↓vcd,opK_some,Bool.not_true,Int.toNat_zero,d2]
  refine vc_loop_c mixed kr9 [0] (fun m a σ'=>∃(k:Nat) (n:Int),m+k=s.length∧a 4=.int .i64 k∧a 3=.int .i64 n∧rdS s k=some n∧σ'=σ) s.length ⟨0,0,by simp,rfl,rfl,rfl,rfl⟩ ?_
  rintro m a σ' hc ⟨k,n,hk,h4,h3,hr,rfl⟩
  simp -implicitDefEqProofs(disch:=omega)only[Nat.reduceEqDiff,↓reduceIte,vcu,↓vcd] at hc
  obtain⟨h0,-⟩:=hc
  by_cases hlt:k < s.length
  ·have hb:=u8_le (s.getD k 0)
   have hbd:=rdS_le hr
   have hp:=pow4 (k:=k) om9
   have hst:rdS s (k+1)=if 48≤(s.getD k 0).toNat∧(s.getD k 0).toNat≤57 then some (10 * n+((s.getD k 0).toNat - 48:Nat)) else none:=by rw[rdS,hr];rfl
   by_cases hdg:48≤(s.getD k 0).toNat∧(s.getD k 0).toNat≤57
   ·rw[if_pos hdg] at hst
    have q1:decide (((s.getD k 0).toNat:Int) < 48)=false:=decide_eq_false om9
    have q2:decide ((57:Int) < ((s.getD k 0).toNat:Int))=false:=decide_eq_false om9
    have q3:(((s.getD k 0).toNat:Int) - 48) % 256=(((s.getD k 0).toNat - 48:Nat):Int):=by omega
    simp -implicitDefEqProofs(disch:=omega)only[Nat.reduceEqDiff,↓reduceIte,vcu,↓vcd,h0,h3,h4,abin_usub,abin_ulss,abin_ugtr,conv_u8,q1,q2,q3]
    exact⟨by simp [h0],m - 1,by omega,k+1,_,by omega,by simp,rfl,hst,trivial⟩
   ·rw[if_neg hdg] at hst
    have e:rdN s=-1:=by
     have hn:=rdS_none hst (s.length - (k+1))
     rw[show k+1+(s.length - (k+1))=s.length by omega] at hn
     rw[eR,hn];rfl
    by_cases hlo:(s.getD k 0).toNat < 48
    ·have q1:decide (((s.getD k 0).toNat:Int) < 48)=true:=decide_eq_true om9
     simp -implicitDefEqProofs(disch:=omega)only[Nat.reduceEqDiff,↓reduceIte,vcu,↓vcd,h0,h3,h4,abin_ulss,abin_ugtr,q1]
     refine fin_one Tryz.results53 ⟨?_,rfl⟩
     simp -implicitDefEqProofs(disch:=omega)only[Nat.reduceEqDiff,↓reduceIte,vcu,↓vcd,e]
    ·have q1:decide (((s.getD k 0).toNat:Int) < 48)=false:=decide_eq_false om9
     have q2:decide ((57:Int) < ((s.getD k 0).toNat:Int))=true:=decide_eq_true om9
     simp -implicitDefEqProofs(disch:=omega)only[Nat.reduceEqDiff,↓reduceIte,vcu,↓vcd,h0,h3,h4,abin_ulss,abin_ugtr,q1,q2]
     refine fin_one Tryz.results53 ⟨?_,rfl⟩
     simp -implicitDefEqProofs(disch:=omega)only[Nat.reduceEqDiff,↓reduceIte,vcu,↓vcd,e]
  ·obtain rfl:k=s.length:=by omega
   simp -implicitDefEqProofs(disch:=omega)only[Nat.reduceEqDiff,↓reduceIte,vcu,↓vcd,h0,h3,h4]
   refine fin_one Tryz.results53 ⟨?_,rfl⟩
   simp -implicitDefEqProofs(disch:=omega)only[Nat.reduceEqDiff,↓reduceIte,vcu,↓vcd,h3]
   rw[eR,hr];rfl
 case neg =>
  simp -implicitDefEqProofs(disch:=omega)only[Nat.reduceEqDiff,↓reduceIte,vcu,↓vcd,opK_some,Bool.not_true]
  refine vc_loop_c mixed kr9 [0] (fun m a σ'=>∃(k:Nat) (n:Int),m+k=s.length∧a 4=.int .i64 k∧a 3=.int .i64 n∧rdS s k=some n∧σ'=σ) s.length ⟨0,0,by simp,rfl,rfl,rfl,rfl⟩ ?_
  rintro m a σ' hc ⟨k,n,hk,h4,h3,hr,rfl⟩
  simp -implicitDefEqProofs(disch:=omega)only[Nat.reduceEqDiff,↓reduceIte,vcu,↓vcd] at hc
  obtain⟨h0,-⟩:=hc
  by_cases hlt:k < s.length
  ·have hb:=u8_le (s.getD k 0)
   have hbd:=rdS_le hr
   have hp:=pow4 (k:=k) om9
   have hst:rdS s (k+1)=if 48≤(s.getD k 0).toNat∧(s.getD k 0).toNat≤57 then some (10 * n+((s.getD k 0).toNat - 48:Nat)) else none:=by rw[rdS,hr];rfl
   by_cases hdg:48≤(s.getD k 0).toNat∧(s.getD k 0).toNat≤57
   ·rw[if_pos hdg] at hst
    have q1:decide (((s.getD k 0).toNat:Int) < 48)=false:=decide_eq_false om9
    have q2:decide ((57:Int) < ((s.getD k 0).toNat:Int))=false:=decide_eq_false om9
    have q3:(((s.getD k 0).toNat:Int) - 48) % 256=(((s.getD k 0).toNat - 48:Nat):Int):=by omega
    simp -implicitDefEqProofs(disch:=omega)only[Nat.reduceEqDiff,↓reduceIte,vcu,↓vcd,h0,h3,h4,abin_usub,abin_ulss,abin_ugtr,conv_u8,q1,q2,q3]
    exact⟨by simp [h0],m - 1,by omega,k+1,_,by omega,by simp,rfl,hst,trivial⟩
   ·rw[if_neg hdg] at hst
    have e:rdN s=-1:=by
     have hn:=rdS_none hst (s.length - (k+1))
     rw[show k+1+(s.length - (k+1))=s.length by omega] at hn
     rw[eR,hn];rfl
    by_cases hlo:(s.getD k 0).toNat < 48
    ·have q1:decide (((s.getD k 0).toNat:Int) < 48)=true:=decide_eq_true om9
     simp -implicitDefEqProofs(disch:=omega)only[Nat.reduceEqDiff,↓reduceIte,vcu,↓vcd,h0,h3,h4,abin_ulss,abin_ugtr,q1]
     refine fin_one Tryz.results53 ⟨?_,rfl⟩
     simp -implicitDefEqProofs(disch:=omega)only[Nat.reduceEqDiff,↓reduceIte,vcu,↓vcd,e]
    ·have q1:decide (((s.getD k 0).toNat:Int) < 48)=false:=decide_eq_false om9
     have q2:decide ((57:Int) < ((s.getD k 0).toNat:Int))=true:=decide_eq_true om9
     simp -implicitDefEqProofs(disch:=omega)only[Nat.reduceEqDiff,↓reduceIte,vcu,↓vcd,h0,h3,h4,abin_ulss,abin_ugtr,q1,q2]
     refine fin_one Tryz.results53 ⟨?_,rfl⟩
     simp -implicitDefEqProofs(disch:=omega)only[Nat.reduceEqDiff,↓reduceIte,vcu,↓vcd,e]
  ·obtain rfl:k=s.length:=by omega
   simp -implicitDefEqProofs(disch:=omega)only[Nat.reduceEqDiff,↓reduceIte,vcu,↓vcd,h0,h3,h4]
   refine fin_one Tryz.results53 ⟨?_,rfl⟩
   simp -implicitDefEqProofs(disch:=omega)only[Nat.reduceEqDiff,↓reduceIte,vcu,↓vcd,h3]
   rw[eR,hr];rfl
theorem cutF_step {c:UInt8} {s w:List UInt8} {k:Nat} (h:k < s.length):cutF c w (s.drop k)=if s.getD k 0=c then w :: cutF c [] (s.drop (k+1)) else cutF c (w++[s.getD k 0]) (s.drop (k+1)):=by
 rw[List.drop_eq_getElem_cons h,cutF]
 have e:s.getD k 0=s[k]:=by simp [List.getD,h]
 rw[e]
set_option maxRecDepth 8000 in
theorem cut_calls (σ:AHeap) (s:List UInt8) (c:UInt8) (hl:s.length≤1048576):ACall Tryz.prog w0 51 [.string (tx s),.int .u8 c.toNat] σ fun r σ'=>∃g,r=.slice (some ⟨g,0,none⟩) (cutT c s).length 1∧Sub σ σ'∧σ' g=some ⟨texts (cutT c s),false⟩∧σ g=none:=by
 refine acall_go mixed Tryz.func51 rfl good51 fun pr=>?_
 simp -implicitDefEqProofs(disch:=omega)only[Nat.reduceEqDiff,↓reduceIte,vcu,↓vcd]
 refine r_lit el30 (out:=#[]) kr9 kr9 fun g0 τ0 n0 s0 v0=>?_
 replace v0:τ0 g0=some ⟨texts [],false⟩:=v0
 simp -implicitDefEqProofs(disch:=omega)only[Nat.reduceEqDiff,↓reduceIte,vcu,↓vcd]
 refine vc_loop_c mixed kr9 [0,1] (fun m a σ'=>∃(k f g:Nat) (xs:List (List UInt8)),m+k=s.length∧f≤k∧a 7=.int .i64 k∧a 6=.int .i64 f∧a 5=.slice (some ⟨g,0,none⟩) xs.length 1∧xs.length≤k∧Sub σ σ'∧σ' g=some ⟨texts xs,false⟩∧σ g=none∧cutT c s=xs++cutF c ((s.drop f).take (k - f)) (s.drop k)) s.length ⟨0,0,g0,[],by simp,by omega,rfl,rfl,rfl,by simp,s0,v0,n0,by simp [cutT]⟩ ?_
 rintro m a σ' hc ⟨k,f,g,xs,hk,hf,h7,h6,h5,hxl,hs,hg,hn,he⟩
 simp -implicitDefEqProofs(disch:=omega)only[Nat.reduceEqDiff,↓reduceIte,vcu,↓vcd] at hc
 obtain⟨h0,h1,-⟩:=hc
 by_cases hlt:k < s.length
 ·have hb:=u8_le (s.getD k 0)
  rw[cutF_step hlt] at he
  by_cases hq:s.getD k 0=c
  ·rw[if_pos hq] at he
   have q1:decide (((s.getD k 0).toNat:Int)=(c.toNat:Int))=true:=decide_eq_true (by rw[hq])
   simp -implicitDefEqProofs(disch:=omega)only[Nat.reduceEqDiff,↓reduceIte,vcu,↓vcd,h0,h1,h5,h6,h7,q1,Int.toNat_natCast]
   refine r_lit el30 (out:=#[.string (tx ((s.drop f).take (k - f)))]) (by simp -implicitDefEqProofs(disch:=omega)only[Nat.reduceEqDiff,↓reduceIte,vcu,↓vcd];kernel_rfl) kr9 fun g3 τ3 n3 s3 v3=>?_
   replace v3:τ3 g3=some ⟨texts [(s.drop f).take (k - f)],false⟩:=v3
   refine r_pushX (g:=g) (e:=g3) (o:=0) (xs:=xs) (ys:=[(s.drop f).take (k - f)]) (m:=1) (len:=xs.length) el30 om9 sl30 (by simp -implicitDefEqProofs(disch:=omega)only[Nat.reduceEqDiff,↓reduceIte,vcu,↓vcd,h5]) (s3 _ _ hg) rfl z9q (textsAt_own v3) rfl om9 fun g4 τ4 n4 k4 v4=>?_
   have hs4:Sub σ τ4:=k4.sub (hs.trans s3) hn
   have hn4:=free_sub (hs.trans s3) n4
   simp -implicitDefEqProofs(disch:=omega)only[Nat.reduceEqDiff,↓reduceIte,vcu,↓vcd,h7]
   refine⟨by simp [h0,h1],m - 1,by omega,k+1,k+1,g4,xs++[(s.drop f).take (k - f)],by omega,by omega,by simp,by simp,by simp,by simp;omega,hs4,v4,hn4,?_⟩
   rw[he];simp
  ·rw[if_neg hq] at he
   have q1:decide (((s.getD k 0).toNat:Int)=(c.toNat:Int))=false:=decide_eq_false fun h=>hq (UInt8.toNat_inj.1 om9)
   simp -implicitDefEqProofs(disch:=omega)only[Nat.reduceEqDiff,↓reduceIte,vcu,↓vcd,h0,h1,h5,h6,h7,q1]
   refine⟨by simp [h0,h1],m - 1,by omega,k+1,f,g,xs,by omega,by omega,by simp,rfl,rfl,by omega,hs,hg,hn,?_⟩
   have e2:(s.drop f).take (k+1 - f)=(s.drop f).take (k - f)++[s.getD k 0]:=by
    rw[show k+1 - f=(k - f)+1 by omega,List.take_succ_eq_append_getElem (by rw[List.length_drop];omega)]
    congr 2
    have:s.getD k 0=s[k]:=by simp [List.getD,hlt]
    rw[this,List.getElem_drop]
    congr 1;omega
   rw[he,e2]
 ·obtain rfl:k=s.length:=by omega
  have e3:cutT c s=xs++[s.drop f]:=by
   rw[he,List.drop_length,cutF,List.take_of_length_le (by rw[List.length_drop];omega)]
  simp -implicitDefEqProofs(disch:=omega)only[Nat.reduceEqDiff,↓reduceIte,vcu,↓vcd,h0,h1,h5,h6,h7,Int.toNat_natCast]
  refine r_lit el30 (out:=#[.string (tx (s.drop f))]) (by simp -implicitDefEqProofs(disch:=omega)only[Nat.reduceEqDiff,↓reduceIte,vcu,↓vcd];kernel_rfl) kr9 fun g3 τ3 n3 s3 v3=>?_
  replace v3:τ3 g3=some ⟨texts [s.drop f],false⟩:=v3
  refine r_pushX (g:=g) (e:=g3) (o:=0) (xs:=xs) (ys:=[s.drop f]) (m:=1) (len:=xs.length) el30 om9 sl30 (by simp -implicitDefEqProofs(disch:=omega)only[Nat.reduceEqDiff,↓reduceIte,vcu,↓vcd,h5]) (s3 _ _ hg) rfl z9q (textsAt_own v3) rfl om9 fun g4 τ4 n4 k4 v4=>?_
  have hs4:Sub σ τ4:=k4.sub (hs.trans s3) hn
  have hn4:=free_sub (hs.trans s3) n4
  simp -implicitDefEqProofs(disch:=omega)only[Nat.reduceEqDiff,↓reduceIte,vcu,↓vcd]
  refine fin_one Tryz.results51 ⟨g4,?_,hs4,by rw[e3];exact v4,hn4⟩
  simp -implicitDefEqProofs(disch:=omega)only[Nat.reduceEqDiff,↓reduceIte,vcu,↓vcd]
  rw[e3];simp
theorem acodeB_monoW {P:Program} {b:Base} {n:NR} {c:Code} {a:AFrame} {σ:AHeap} {Q Q':AQ} (h:ACodeB P b n c a σ Q') (hq:∀e a σ,Q' e a σ→Q e a σ):ACodeB P b n c a σ Q:=ACode.mono h hq
def kws:List (List UInt8):=[[99,97,108,108],[100,114,111,112],[110,117,109,98,101,114]]
theorem kws_at {k:Nat} (h:k < 3):kws.getD k []=kwT k:=by
 have:k=0∨k=1∨k=2:=by omega
 rcases this with rfl|rfl|rfl<;>decide
theorem kwT_len (k:Int):(kwT k).length≤6:=by
 unfold kwT
 split
 ·decide
 ·split<;>decide
set_option maxRecDepth 8000 in
theorem deedText_calls (σ:AHeap) (d:Dd) (ht:d.t.length≤1048576):ACall Tryz.prog w0 67 [.agg #[.int .i64 d.k,.int .i64 d.l,.string (tx d.t)]] σ fun r σ'=>r=.string (tx (deedT d))∧σ'=σ:=by
 obtain⟨K,L,t⟩:=d
 refine acall_go mixed Tryz.func67 rfl good67 fun pr=>?_
 simp -implicitDefEqProofs(disch:=omega)only[Nat.reduceEqDiff,↓reduceIte,vcu,↓vcd]
 refine r_boxed fun b τ nb s1 e1=>?_
 replace e1:τ b=some ⟨[.int .i64 K,.int .i64 L,.string (tx t)],false⟩:=e1
 have x0:ld τ b 0=some (.int .i64 K):=ld_of e1 rfl
 have x1:ld τ b 1=some (.int .i64 L):=ld_of e1 rfl
 have x2:ld τ b 2=some (.string (tx t)):=ld_of e1 rfl
 simp -implicitDefEqProofs(disch:=omega)only[Nat.reduceEqDiff,↓reduceIte,vcu,↓vcd,x0]
 refine (in_calls τ K 0 2).mono ?_
 rintro _ _ ⟨rfl,rfl⟩
 rename_i τ
 by_cases hk:0≤K∧K≤2
 case neg =>
  rw[decide_eq_false hk]
  simp -implicitDefEqProofs(disch:=omega)only[Nat.reduceEqDiff,↓reduceIte,vcu,↓vcd,opK_some,Bool.not_false]
  refine fin_drop Tryz.results67 σ s1 ⟨?_,rfl⟩
  simp -implicitDefEqProofs(disch:=omega)only[Nat.reduceEqDiff,↓reduceIte,vcu,↓vcd]
  rw[deedT,if_neg fun h=>hk h.1]
 rw[decide_eq_true hk]
 simp -implicitDefEqProofs(disch:=omega)only[Nat.reduceEqDiff,↓reduceIte,vcu,↓vcd,opK_some,Bool.not_true,x1]
 refine (in_calls τ L 0 99).mono ?_
 rintro _ _ ⟨rfl,rfl⟩
 rename_i τ
 by_cases hl:0≤L∧L≤99
 case neg =>
  rw[decide_eq_false hl]
  simp -implicitDefEqProofs(disch:=omega)only[Nat.reduceEqDiff,↓reduceIte,vcu,↓vcd,opK_some,Bool.not_false]
  refine fin_drop Tryz.results67 σ s1 ⟨?_,rfl⟩
  simp -implicitDefEqProofs(disch:=omega)only[Nat.reduceEqDiff,↓reduceIte,vcu,↓vcd]
  rw[deedT,if_neg fun h=>hl h.2.1]
 rw[decide_eq_true hl]
 simp -implicitDefEqProofs(disch:=omega)only[Nat.reduceEqDiff,↓reduceIte,vcu,↓vcd,opK_some,Bool.not_true]
 obtain⟨kn,hkn,rfl⟩:∃kn:Nat,kn < 3∧K=kn:=⟨K.toNat,by omega,by omega⟩
 obtain⟨n,hn,rfl⟩:∃n:Nat,n < 100∧L=n:=⟨L.toNat,by omega,by omega⟩
 have hkw:=kws_at hkn
 have hkl:=kwT_len kn
 have hnl:=decN_len n
 have ha1:abin Tryz.prog 9 .add (.string (tx (kwT kn))) (.string { data:=#[32] })=some (.string (tx (kwT kn++[32]))):=abin_sadd (by simp;omega)
 have ha2:=abin_sadd (P:=Tryz.prog) (t:=9) (xs:=kwT kn++[32]) (ys:=decN n) (by rw[List.length_append,List.length_singleton];omega)
 refine acodeB_monoW (Q':=fun e a' τ'=>e=.normal∧a' 1=.pointer (some ⟨b,0,none⟩)∧a' 3=.string (tx ((kwT kn++[32])++decN n))∧Sub τ τ')
  (region_tree mixed (quiets [1,6] (quiets [2,7] (.two 0 (quiets [3] (.two 4 (quiets [5] (.one 8 (.one 9 (quiets [10] .stop)))) 8 (.one 4 (quiets [5] (.one 9 (quiets [10] .stop)))))) 8 (.one 0 (quiets [3] (.one 4 (quiets [5] (.one 9 (quiets [10] .stop))))))))) [([2,7],Sub τ)] kr9 kr9 (fun p hp=>by simp only[List.mem_singleton] at hp;subst hp;exact Sub.refl _) ?_) ?_
 ·refine tree_quiets _ _ _ _ sf0 kr9 kr9 ?_
  simp -implicitDefEqProofs(disch:=omega)only[Nat.reduceEqDiff,↓reduceIte,vcu,↓vcd,vcp]
  refine tree_quiets τ _ _ _ sf1 kr9 kr9 ?_
  simp -implicitDefEqProofs(disch:=omega)only[Nat.reduceEqDiff,↓reduceIte,vcu,↓vcd,vcp,x0,x1]
  refine tree_two rfl rfl ?_ ?_
  ·refine r_lit el30 (out:=#[.string (tx [99,97,108,108]),.string (tx [100,114,111,112]),.string (tx [110,117,109,98,101,114])]) (by first|kernel_rfl | (simp -implicitDefEqProofs(disch:=omega)only[Nat.reduceEqDiff,↓reduceIte,vcu,↓vcd];kernel_rfl)) (by rfl) fun g τ3 n3 s3 v3=>?_
   replace v3:τ3 g=some ⟨texts kws,false⟩:=v3
   have y3:ld τ3 g (0+kn)=some (.string (tx (kwT kn))):=by rw[←hkw];exact textsAt_own v3 kn (by show kn < 3;omega)
   simp -implicitDefEqProofs(disch:=omega)only[Nat.reduceEqDiff,↓reduceIte,vcu,↓vcd]
   refine⟨keep_of rfl (fun p hp=>by simp only[List.mem_singleton] at hp;subst hp;exact .inr (s3)),?_⟩
   refine tree_quiets _ _ _ _ sf0 kr9 kr9 ?_
   simp -implicitDefEqProofs(disch:=omega)only[Nat.reduceEqDiff,↓reduceIte,vcu,↓vcd,vcp,Int.toNat_natCast]
   refine tree_two rfl rfl ?_ ?_
   ·simp -implicitDefEqProofs(disch:=omega)only[Nat.reduceEqDiff,↓reduceIte,vcu,↓vcd,y3]
    refine⟨keep_of rfl (fun p hp=>by simp only[List.mem_singleton] at hp;subst hp;exact .inr (s3)),?_⟩
    refine tree_quiets _ _ _ _ sf0 kr9 kr9 ?_
    simp -implicitDefEqProofs(disch:=omega)only[Nat.reduceEqDiff,↓reduceIte,vcu,↓vcd,vcp,ha1]
    refine tree_one rfl ?_
    simp -implicitDefEqProofs(disch:=omega)only[Nat.reduceEqDiff,↓reduceIte,vcu,↓vcd]
    refine (number_calls n om9 _).mono ?_
    rintro _ τ9 ⟨rfl,e9⟩
    subst τ9
    simp -implicitDefEqProofs(disch:=omega)only[Nat.reduceEqDiff,↓reduceIte,vcu,↓vcd,opK_some]
    refine⟨keep_of rfl (fun p hp=>by simp only[List.mem_singleton] at hp;subst hp;exact .inr (s3)),?_⟩
    refine tree_one rfl ?_
    simp -implicitDefEqProofs(disch:=omega)only[Nat.reduceEqDiff,↓reduceIte,vcu,↓vcd,ha2]
    refine⟨keep_of rfl (fun p hp=>by simp only[List.mem_singleton] at hp;subst hp;exact .inr (s3)),?_⟩
    refine tree_quiets _ _ _ _ sf0 kr9 kr9 ?_
    simp -implicitDefEqProofs(disch:=omega)only[Nat.reduceEqDiff,↓reduceIte,vcu,↓vcd,vcp]
    refine tree_stop ?_
    refine⟨trivial,?_,?_,s3⟩
    ·simp -implicitDefEqProofs(disch:=omega)only[Nat.reduceEqDiff,↓reduceIte,vcu,↓vcd]
    ·simp -implicitDefEqProofs(disch:=omega)only[Nat.reduceEqDiff,↓reduceIte,vcu,↓vcd]
   ·simp -implicitDefEqProofs(disch:=omega)only[Nat.reduceEqDiff,↓reduceIte,vcu,↓vcd]
    refine (number_calls n om9 _).mono ?_
    rintro _ τ9 ⟨rfl,e9⟩
    subst τ9
    simp -implicitDefEqProofs(disch:=omega)only[Nat.reduceEqDiff,↓reduceIte,vcu,↓vcd,opK_some]
    refine⟨keep_of rfl (fun p hp=>by simp only[List.mem_singleton] at hp;subst hp;exact .inr (s3)),?_⟩
    refine tree_one rfl ?_
    simp -implicitDefEqProofs(disch:=omega)only[Nat.reduceEqDiff,↓reduceIte,vcu,↓vcd,y3]
    refine⟨keep_of rfl (fun p hp=>by simp only[List.mem_singleton] at hp;subst hp;exact .inr (s3)),?_⟩
    refine tree_quiets _ _ _ _ sf0 kr9 kr9 ?_
    simp -implicitDefEqProofs(disch:=omega)only[Nat.reduceEqDiff,↓reduceIte,vcu,↓vcd,vcp,ha1]
    refine tree_one rfl ?_
    simp -implicitDefEqProofs(disch:=omega)only[Nat.reduceEqDiff,↓reduceIte,vcu,↓vcd,ha2]
    refine⟨keep_of rfl (fun p hp=>by simp only[List.mem_singleton] at hp;subst hp;exact .inr (s3)),?_⟩
    refine tree_quiets _ _ _ _ sf0 kr9 kr9 ?_
    simp -implicitDefEqProofs(disch:=omega)only[Nat.reduceEqDiff,↓reduceIte,vcu,↓vcd,vcp]
    refine tree_stop ?_
    refine⟨trivial,?_,?_,s3⟩
    ·simp -implicitDefEqProofs(disch:=omega)only[Nat.reduceEqDiff,↓reduceIte,vcu,↓vcd]
    ·simp -implicitDefEqProofs(disch:=omega)only[Nat.reduceEqDiff,↓reduceIte,vcu,↓vcd]
  ·simp -implicitDefEqProofs(disch:=omega)only[Nat.reduceEqDiff,↓reduceIte,vcu,↓vcd]
   refine (number_calls n om9 _).mono ?_
   rintro _ τ9 ⟨rfl,e9⟩
   subst τ9
   simp -implicitDefEqProofs(disch:=omega)only[Nat.reduceEqDiff,↓reduceIte,vcu,↓vcd,opK_some]
   refine⟨keep_of rfl (fun p hp=>by simp only[List.mem_singleton] at hp;subst hp;exact .inr (Sub.refl _)),?_⟩
   refine tree_one rfl ?_
   refine r_lit el30 (out:=#[.string (tx [99,97,108,108]),.string (tx [100,114,111,112]),.string (tx [110,117,109,98,101,114])]) (by first|kernel_rfl | (simp -implicitDefEqProofs(disch:=omega)only[Nat.reduceEqDiff,↓reduceIte,vcu,↓vcd];kernel_rfl)) (by rfl) fun g τ3 n3 s3 v3=>?_
   replace v3:τ3 g=some ⟨texts kws,false⟩:=v3
   have y3:ld τ3 g (0+kn)=some (.string (tx (kwT kn))):=by rw[←hkw];exact textsAt_own v3 kn (by show kn < 3;omega)
   simp -implicitDefEqProofs(disch:=omega)only[Nat.reduceEqDiff,↓reduceIte,vcu,↓vcd]
   refine⟨keep_of rfl (fun p hp=>by simp only[List.mem_singleton] at hp;subst hp;exact .inr (s3)),?_⟩
   refine tree_quiets _ _ _ _ sf0 kr9 kr9 ?_
   simp -implicitDefEqProofs(disch:=omega)only[Nat.reduceEqDiff,↓reduceIte,vcu,↓vcd,vcp,Int.toNat_natCast]
   refine tree_one rfl ?_
   simp -implicitDefEqProofs(disch:=omega)only[Nat.reduceEqDiff,↓reduceIte,vcu,↓vcd,y3]
   refine⟨keep_of rfl (fun p hp=>by simp only[List.mem_singleton] at hp;subst hp;exact .inr (s3)),?_⟩
   refine tree_quiets _ _ _ _ sf0 kr9 kr9 ?_
   simp -implicitDefEqProofs(disch:=omega)only[Nat.reduceEqDiff,↓reduceIte,vcu,↓vcd,vcp,ha1]
   refine tree_one rfl ?_
   simp -implicitDefEqProofs(disch:=omega)only[Nat.reduceEqDiff,↓reduceIte,vcu,↓vcd,ha2]
   refine⟨keep_of rfl (fun p hp=>by simp only[List.mem_singleton] at hp;subst hp;exact .inr (s3)),?_⟩
   refine tree_quiets _ _ _ _ sf0 kr9 kr9 ?_
   simp -implicitDefEqProofs(disch:=omega)only[Nat.reduceEqDiff,↓reduceIte,vcu,↓vcd,vcp]
   refine tree_stop ?_
   refine⟨trivial,?_,?_,s3⟩
   ·simp -implicitDefEqProofs(disch:=omega)only[Nat.reduceEqDiff,↓reduceIte,vcu,↓vcd]
   ·simp -implicitDefEqProofs(disch:=omega)only[Nat.reduceEqDiff,↓reduceIte,vcu,↓vcd]
 ·rintro e a' τ' ⟨rfl,p1,p3,s2⟩
  have z0:=ld_sub s2 x0
  have z2:=ld_sub s2 x2
  have s12:=s1.trans s2
  have aq:abin Tryz.prog 9 .eql (.string (tx t)) (.string { data:=#[] })=some (.bool (decide (t=[]))):=abin_seql (ys:=[])
  have a3:abin Tryz.prog 9 .add (.string (tx ((kwT kn++[32])++decN n))) (.string { data:=#[32] })=some (.string (tx ((kwT kn++[32])++decN n++[32]))):=abin_sadd (by simp;omega)
  have ht':t.length≤1048576:=ht
  have a4:=abin_sadd (P:=Tryz.prog) (t:=9) (xs:=(kwT kn++[32])++decN n++[32]) (ys:=t) (by simp;omega)
  have hN:(n:Int).toNat=n:=Int.toNat_natCast n
  by_cases h1:kn=1
  ·have d1:decide ((kn:Int)=1)=true:=decide_eq_true om9
   by_cases he:t=[]
   ·simp -implicitDefEqProofs(disch:=omega)only[Nat.reduceEqDiff,↓reduceIte,vcu,↓vcd,p1,p3,z0,z2,d1,aq,decide_eq_true he]
    refine fin_drop Tryz.results67 σ s12 ⟨?_,rfl⟩
    simp -implicitDefEqProofs(disch:=omega)only[Nat.reduceEqDiff,↓reduceIte,vcu,↓vcd,p3]
    rw[deedT,if_pos ⟨hk,hl,.inl ⟨by show (kn:Int)=1;omega,he⟩⟩]
    simp [h1,hN]
   ·have no:¬ DdOk ⟨kn,n,t⟩:=fun h=>h.2.2.elim (fun h=>he h.2) fun h=>h.1 (by show (kn:Int)=1;omega)
    simp -implicitDefEqProofs(disch:=omega)only[Nat.reduceEqDiff,↓reduceIte,vcu,↓vcd,p1,p3,z0,z2,d1,aq,decide_eq_false he]
    refine fin_drop Tryz.results67 σ s12 ⟨?_,rfl⟩
    simp -implicitDefEqProofs(disch:=omega)only[Nat.reduceEqDiff,↓reduceIte,vcu,↓vcd,p3]
    rw[deedT,if_neg no]
  ·have d1:decide ((kn:Int)=1)=false:=decide_eq_false om9
   simp -implicitDefEqProofs(disch:=omega)only[Nat.reduceEqDiff,↓reduceIte,vcu,↓vcd,p1,p3,z0,z2,d1]
   refine (digits_calls τ' t ht').mono ?_
   rintro _ _ ⟨rfl,rfl⟩
   rename_i τ'
   by_cases hdg:DgT t
   case neg =>
    have no:¬ DdOk ⟨kn,n,t⟩:=fun h=>h.2.2.elim (fun h=>h1 (by have:(kn:Int)=1:=h.1;omega)) fun h=>hdg h.2.1
    rw[decide_eq_false hdg]
    simp -implicitDefEqProofs(disch:=omega)only[Nat.reduceEqDiff,↓reduceIte,vcu,↓vcd,opK_some,p1,p3,z0,z2,Bool.not_false]
    refine fin_drop Tryz.results67 σ s12 ⟨?_,rfl⟩
    simp -implicitDefEqProofs(disch:=omega)only[Nat.reduceEqDiff,↓reduceIte,vcu,↓vcd,p3]
    rw[deedT,if_neg no]
   rw[decide_eq_true hdg]
   simp -implicitDefEqProofs(disch:=omega)only[Nat.reduceEqDiff,↓reduceIte,vcu,↓vcd,opK_some,p1,p3,z0,z2,Bool.not_true]
   refine (in_calls τ' t.length 1 3).mono ?_
   rintro _ _ ⟨rfl,rfl⟩
   by_cases h13:(1:Int)≤t.length∧(t.length:Int)≤3
   case neg =>
    have no:¬ DdOk ⟨kn,n,t⟩:=fun h=>h.2.2.elim (fun h=>h1 (by have:(kn:Int)=1:=h.1;omega)) fun h=>h13 (by have h2:1≤t.length:=h.2.2.1;have h3:t.length≤3:=h.2.2.2;omega)
    rw[decide_eq_false h13]
    simp -implicitDefEqProofs(disch:=omega)only[Nat.reduceEqDiff,↓reduceIte,vcu,↓vcd,opK_some,p1,p3,z0,z2,Bool.not_false]
    refine fin_drop Tryz.results67 σ s12 ⟨?_,rfl⟩
    simp -implicitDefEqProofs(disch:=omega)only[Nat.reduceEqDiff,↓reduceIte,vcu,↓vcd,p3]
    rw[deedT,if_neg no]
   rw[decide_eq_true h13]
   simp -implicitDefEqProofs(disch:=omega)only[Nat.reduceEqDiff,↓reduceIte,vcu,↓vcd,opK_some,p1,p3,z0,z2,Bool.not_true,a3,a4]
   refine fin_drop Tryz.results67 σ s12 ⟨?_,rfl⟩
   simp -implicitDefEqProofs(disch:=omega)only[Nat.reduceEqDiff,↓reduceIte,vcu,↓vcd,p3]
   rw[deedT,if_pos ⟨hk,hl,.inr ⟨by show (kn:Int)≠1;omega,hdg,by show 1≤t.length;omega,by show t.length≤3;omega⟩⟩]
   have:¬ (kn:Int)=1:=by omega
   simp [this,hN]
def ddA (d:Dd):Value:=.agg #[.int .i64 d.k,.int .i64 d.l,.string (tx d.t)]
def rdP (s:List UInt8):Dd × Bool:=match readO s with|some d=>(d,true)|none=>(⟨0,0,[]⟩,false)
def kdN (w:List UInt8):Nat→Int
 | 0=>-1
 | k+1=>if w=kwT k then k else kdN w k
theorem kdN_3 (w:List UInt8):kdN w 3=kdV w:=rfl
theorem cutF_len {c:UInt8}:∀(s w x:List UInt8),x∈cutF c w s→x.length≤w.length+s.length
 | [],w,x,h=>by
  simp only[cutF,List.mem_singleton] at h
  subst h;simp
 | b :: s,w,x,h=>by
  unfold cutF at h
  split at h
  ·rcases List.mem_cons.1 h with rfl|h
   ·simp
   ·have:=cutF_len s [] x h;simp at this ⊢;omega
  ·have:=cutF_len s _ x h;simp at this ⊢;omega
theorem fin_ct8 {P:Program} {fn:Func} {R:Value→AHeap→Prop} {a:AFrame} {σ:AHeap} {t u:Nat} {ty:TypeId} {v:Value} (h:fn.results=#[.cell t ty,.tmp u]) (σ'':AHeap) (hs:Sub σ'' σ) (hv:aload P σ ty (a t)=some v) (hr:R (.tuple #[v,a u]) σ''):finC P fn R a σ :=
 ⟨[v,a u],σ'',by simp [h,rvals,hv],hs,hr⟩
set_option maxRecDepth 8000 in
theorem readDeed_calls (σ:AHeap) (s:List UInt8) (hl:s.length≤1048576):ACall Tryz.prog w0 33 [.string (tx s)] σ fun r σ'=>r=.tuple #[ddA (rdP s).1,.bool (rdP s).2]∧σ'=σ:=by
 refine acall_goc mixed Tryz.func33 rfl goodc33 fun pr=>?_
 simp -implicitDefEqProofs(disch:=omega)only[Nat.reduceEqDiff,↓reduceIte,vcu,↓vcd]
 refine r_new ze41 fun c2 τ1 n2 s1 e2=>?_
 replace e2:τ1 c2=some ⟨[.int .i64 0,.int .i64 0,.string (tx [])],false⟩:=e2
 simp -implicitDefEqProofs(disch:=omega)only[Nat.reduceEqDiff,↓reduceIte,vcu,↓vcd]
 refine (cut_calls τ1 s 32 hl).mono ?_
 rintro _ τ2 ⟨gw,rfl,s2,vw,nw⟩
 simp -implicitDefEqProofs(disch:=omega)only[Nat.reduceEqDiff,↓reduceIte,vcu,↓vcd,opK_some]
 rw[r_build]
 refine⟨(_,#[.int .i64 (-1),.int .i64 0,.string (tx [])]),⟨ze41,by first|kernel_rfl | (simp -implicitDefEqProofs(disch:=omega)only[Nat.reduceEqDiff,↓reduceIte,vcu,↓vcd];kernel_rfl)⟩,?_⟩
 simp -implicitDefEqProofs(disch:=omega)only[Nat.reduceEqDiff,↓reduceIte,vcu,↓vcd]
 refine r_local (cs:=#[.int .i64 (-1),.int .i64 0,.string (tx [])]) ze41 (by decide) z9q (by rw[co41];rfl) rfl rfl (Nat.zero_lt_succ _) fun c5 τ3 n5 s3 e5=>?_
 replace e5:τ3 c5=some ⟨[.int .i64 (-1),.int .i64 0,.string (tx [])],false⟩:=e5
 have w0p:0 < (cutT 32 s).length:=List.length_pos_iff.2 (cutF_ne 32 s [])
 have d52:c2≠c5:=ne_of' n5 (s2 _ _ e2)
 have d5w:gw≠c5:=ne_of' n5 vw
 have e2':=s3 _ _ (s2 _ _ e2)
 have vw':=s3 _ _ vw
 have s13:=s1.trans (s2.trans s3)
 have nc5:σ c5=none:=free_sub (s1.trans s2) n5
 simp -implicitDefEqProofs(disch:=omega)only[Nat.reduceEqDiff,↓reduceIte,vcu,↓vcd]
 refine vc_loop_c mixed kr9 [0,2,4,5] (fun m a σ'=>∃k:Nat,m+k=3∧a 6=.int .i64 k∧Sub σ σ'∧σ' c2=some ⟨[.int .i64 0,.int .i64 0,.string (tx [])],false⟩∧σ' gw=some ⟨texts (cutT 32 s),false⟩∧σ' c5=some ⟨[.int .i64 (kdN ((cutT 32 s).getD 0 []) k),.int .i64 0,.string (tx [])],false⟩) 3 ⟨0,by simp,rfl,s13,e2',vw',e5⟩ ?_
 rintro m a σ' hc ⟨k,hk,h6,hs,q2,qw,q5⟩
 simp -implicitDefEqProofs(disch:=omega)only[Nat.reduceEqDiff,↓reduceIte,vcu,↓vcd] at hc
 obtain⟨h0,h2,h4,h5,-⟩:=hc
 have lw0:ld σ' gw 0=some (.string (tx ((cutT 32 s).getD 0 []))):=by have:=textsAt_own qw 0 w0p;simpa using this
 generalize hW:(cutT 32 s).getD 0 []=w at *
 by_cases hlt:k < 3
 ·have hkw:=kws_at hlt
  have hst:kdN w (k+1)=if w=kwT k then (k:Int) else kdN w k:=rfl
  simp -implicitDefEqProofs(disch:=omega)only[Nat.reduceEqDiff,↓reduceIte,vcu,↓vcd,h0,h2,h4,h5,h6]
  refine region_tree mixed (quiets [0,1,4] (quiets [2] (.one 3 (quiets [5] (.one 6 (quiets [7] .stop)))))) [([2],Sub σ')] kr9 kr9 (fun p hp=>by simp only[List.mem_singleton] at hp;subst hp;exact Sub.refl _) ?_
  refine tree_quiets _ _ _ _ sf0 kr9 kr9 ?_
  simp -implicitDefEqProofs(disch:=omega)only[Nat.reduceEqDiff,↓reduceIte,vcu,↓vcd,vcp,h4,h6,Int.toNat_zero]
  refine tree_quiets σ' _ _ _ sf1 kr9 kr9 ?_
  simp -implicitDefEqProofs(disch:=omega)only[Nat.reduceEqDiff,↓reduceIte,vcu,↓vcd,vcp,lw0]
  refine tree_one rfl ?_
  refine r_lit el30 (out:=#[.string (tx [99,97,108,108]),.string (tx [100,114,111,112]),.string (tx [110,117,109,98,101,114])]) (by first|kernel_rfl | (simp -implicitDefEqProofs(disch:=omega)only[Nat.reduceEqDiff,↓reduceIte,vcu,↓vcd];kernel_rfl)) (by rfl) fun g τ5 n6 s5 v5=>?_
  replace v5:τ5 g=some ⟨texts kws,false⟩:=v5
  have y5:ld τ5 g (0+k)=some (.string (tx (kwT k))):=by rw[←hkw];exact textsAt_own v5 k (by show k < 3;omega)
  simp -implicitDefEqProofs(disch:=omega)only[Nat.reduceEqDiff,↓reduceIte,vcu,↓vcd]
  refine⟨keep_of rfl (fun p hp=>by simp only[List.mem_singleton] at hp;subst hp;exact .inr s5),?_⟩
  refine tree_quiets _ _ _ _ sf0 kr9 kr9 ?_
  simp -implicitDefEqProofs(disch:=omega)only[Nat.reduceEqDiff,↓reduceIte,vcu,↓vcd,vcp,Int.toNat_natCast]
  refine tree_one rfl ?_
  simp -implicitDefEqProofs(disch:=omega)only[Nat.reduceEqDiff,↓reduceIte,vcu,↓vcd,y5]
  refine⟨keep_of rfl (fun p hp=>by simp only[List.mem_singleton] at hp;subst hp;exact .inr s5),?_⟩
  refine tree_quiets _ _ _ _ sf0 kr9 kr9 ?_
  simp -implicitDefEqProofs(disch:=omega)only[Nat.reduceEqDiff,↓reduceIte,vcu,↓vcd,vcp]
  refine tree_stop ?_
  by_cases hq:w=kwT k
  ·rw[if_pos hq] at hst
   have dq:decide (w=kwT k)=true:=decide_eq_true hq
   simp -implicitDefEqProofs(disch:=omega)only[Nat.reduceEqDiff,↓reduceIte,vcu,↓vcd,h0,h2,h4,h5,h6,dq]
   refine r_set (g:=c5) (i:=0) z9q z9r co3 z9r (s5 _ _ q5) (by show 0 < 3;omega) fun τ6 k6 e6=>?_
   replace e6:τ6 c5=some ⟨[.int .i64 k,.int .i64 0,.string (tx [])],false⟩:=by rw[e6];simp -implicitDefEqProofs(disch:=omega)only[Nat.reduceEqDiff,↓reduceIte,vcu,↓vcd];rfl
   simp -implicitDefEqProofs(disch:=omega)only[Nat.reduceEqDiff,↓reduceIte,vcu,↓vcd,h0,h2,h4,h5,h6]
   exact⟨by simp [h0,h2,h4,h5],m - 1,by omega,k+1,by omega,by simp [h6],k6.sub (hs.trans s5) nc5,k6.at (s5 _ _ q2) d52,k6.at (s5 _ _ qw) d5w,by rw[hst];exact e6⟩
  ·rw[if_neg hq] at hst
   have dq:decide (w=kwT k)=false:=decide_eq_false hq
   simp -implicitDefEqProofs(disch:=omega)only[Nat.reduceEqDiff,↓reduceIte,vcu,↓vcd,h0,h2,h4,h5,h6,dq]
   exact⟨by simp [h0,h2,h4,h5],m - 1,by omega,k+1,by omega,by simp,hs.trans s5,s5 _ _ q2,s5 _ _ qw,by rw[hst];exact s5 _ _ q5⟩
 ·have e3:k=3:=by omega
  subst e3
  rw[kdN_3] at q5
  generalize hD:ddW (cutT 32 s)=D
  have hDt:D.t.length≤1048576:=by
   rw[←hD]
   unfold ddW
   simp only
   split
   ·rename_i h
    have:=cutF_len (c:=32) s [] ((cutT 32 s).getD 2 []) (by simp only[List.getD,h,List.getElem?_eq_getElem,Option.getD_some];exact List.getElem_mem h)
    simp only[List.length_nil] at this
    omega
   ·simp
  by_cases l1:1 < (cutT 32 s).length
  case neg =>
   have eD:D=⟨kdV w,0,[]⟩:=by rw[←hD,ddW,hW,if_neg l1,if_neg om9]
   replace q5:σ' c5=some ⟨[.int .i64 D.k,.int .i64 D.l,.string (tx D.t)],false⟩:=by rw[q5,eD]
   clear eD
   simp -implicitDefEqProofs(disch:=omega)only[Nat.reduceEqDiff,↓reduceIte,vcu,↓vcd,h0,h2,h4,h5,h6]
   have l5:lds _ c5 0 3=some [.int .i64 D.k,.int .i64 D.l,.string (tx D.t)]:=lds_three (ld_of q5 rfl) (ld_of q5 rfl) (ld_of q5 rfl)
   have aq:abin Tryz.prog 9 .eql (.string (tx s)) (.string { data:=#[] })=some (.bool (decide (s=[]))):=abin_seql (ys:=[])
   by_cases hs0:s=[]
   ·have hr:rdP s=(⟨0,0,[]⟩,false):=by unfold rdP readO;rw[if_pos (.inl hs0)]
    simp -implicitDefEqProofs(disch:=omega)only[Nat.reduceEqDiff,↓reduceIte,vcu,↓vcd,h0,h2,h4,h5,aq,decide_eq_true hs0]
    rw[r_build]
    refine⟨(_,#[.int .i64 0,.int .i64 0,.string (tx [])]),⟨ze41,by first|kernel_rfl | (simp -implicitDefEqProofs(disch:=omega)only[Nat.reduceEqDiff,↓reduceIte,vcu,↓vcd];kernel_rfl)⟩,?_⟩
    simp -implicitDefEqProofs(disch:=omega)only[Nat.reduceEqDiff,↓reduceIte,vcu,↓vcd,h2]
    refine r_sets (g:=c2) (i:=0) (C:=[.int .i64 0,.int .i64 0,.string (tx [])]) (by simp -implicitDefEqProofs(disch:=omega)only[Nat.reduceEqDiff,↓reduceIte,vcu,↓vcd,h2]) z9co41 z9r z9z q2 z9l fun τ8 k8 e8=>?_
    replace e8:τ8 c2=some ⟨[.int .i64 0,.int .i64 0,.string (tx [])],false⟩:=e8
    have l8:lds τ8 c2 0 3=some [.int .i64 0,.int .i64 0,.string (tx [])]:=lds_three (ld_of e8 rfl) (ld_of e8 rfl) (ld_of e8 rfl)
    simp -implicitDefEqProofs(disch:=omega)only[Nat.reduceEqDiff,↓reduceIte,vcu,↓vcd,h2]
    refine fin_ct8 Tryz.results33 σ (k8.sub hs n2) (v:=.agg #[.int .i64 0,.int .i64 0,.string (tx [])]) (by simp -implicitDefEqProofs(disch:=omega)only[Nat.reduceEqDiff,↓reduceIte,vcu,↓vcd,h2,l8,co41]) ⟨?_,rfl⟩
    simp -implicitDefEqProofs(disch:=omega)only[Nat.reduceEqDiff,↓reduceIte,vcu,↓vcd]
    rw[hr];rfl
   ·simp -implicitDefEqProofs(disch:=omega)only[Nat.reduceEqDiff,↓reduceIte,vcu,↓vcd,h0,h2,h4,h5,aq,decide_eq_false hs0,l5,co41]
    refine (deedText_calls _ D hDt).mono ?_
    rintro _ _ ⟨rfl,rfl⟩
    by_cases hne:deedT D=s
    ·have hr:rdP s=(D,true):=by unfold rdP readO;rw[if_neg (by rw[hD];exact fun h=>h.elim hs0 fun h=>h hne),hD]
     have dn:decide (deedT D=s)=true:=decide_eq_true hne
     simp -implicitDefEqProofs(disch:=omega)only[Nat.reduceEqDiff,↓reduceIte,vcu,↓vcd,opK_some,h0,h2,h4,h5,abin_sneq,dn,Bool.not_true,l5,co41]
     refine r_sets (g:=c2) (i:=0) (C:=[.int .i64 0,.int .i64 0,.string (tx [])]) (by simp -implicitDefEqProofs(disch:=omega)only[Nat.reduceEqDiff,↓reduceIte,vcu,↓vcd,h0,h2,h4,h5]) z9co41 z9r z9z q2 z9l fun τ8 k8 e8=>?_
     replace e8:τ8 c2=some ⟨[.int .i64 D.k,.int .i64 D.l,.string (tx D.t)],false⟩:=e8
     have l8:lds τ8 c2 0 3=some [.int .i64 D.k,.int .i64 D.l,.string (tx D.t)]:=lds_three (ld_of e8 rfl) (ld_of e8 rfl) (ld_of e8 rfl)
     simp -implicitDefEqProofs(disch:=omega)only[Nat.reduceEqDiff,↓reduceIte,vcu,↓vcd,h0,h2,h4,h5]
     refine fin_ct8 Tryz.results33 σ (k8.sub hs n2) (v:=.agg #[.int .i64 D.k,.int .i64 D.l,.string (tx D.t)]) (by simp -implicitDefEqProofs(disch:=omega)only[Nat.reduceEqDiff,↓reduceIte,vcu,↓vcd,h0,h2,h4,h5,l8,co41]) ⟨?_,rfl⟩
     simp -implicitDefEqProofs(disch:=omega)only[Nat.reduceEqDiff,↓reduceIte,vcu,↓vcd]
     rw[hr];rfl
    ·have hr:rdP s=(⟨0,0,[]⟩,false):=by unfold rdP readO;rw[if_pos (.inr (by rw[hD];exact hne))]
     have dn:decide (deedT D=s)=false:=decide_eq_false hne
     simp -implicitDefEqProofs(disch:=omega)only[Nat.reduceEqDiff,↓reduceIte,vcu,↓vcd,opK_some,h0,h2,h4,h5,abin_sneq,dn,Bool.not_false]
     rw[r_build]
     refine⟨(_,#[.int .i64 0,.int .i64 0,.string (tx [])]),⟨ze41,by first|kernel_rfl | (simp -implicitDefEqProofs(disch:=omega)only[Nat.reduceEqDiff,↓reduceIte,vcu,↓vcd];kernel_rfl)⟩,?_⟩
     simp -implicitDefEqProofs(disch:=omega)only[Nat.reduceEqDiff,↓reduceIte,vcu,↓vcd,h2]
     refine r_sets (g:=c2) (i:=0) (C:=[.int .i64 0,.int .i64 0,.string (tx [])]) (by simp -implicitDefEqProofs(disch:=omega)only[Nat.reduceEqDiff,↓reduceIte,vcu,↓vcd,h2]) z9co41 z9r z9z q2 z9l fun τ8 k8 e8=>?_
     replace e8:τ8 c2=some ⟨[.int .i64 0,.int .i64 0,.string (tx [])],false⟩:=e8
     have l8:lds τ8 c2 0 3=some [.int .i64 0,.int .i64 0,.string (tx [])]:=lds_three (ld_of e8 rfl) (ld_of e8 rfl) (ld_of e8 rfl)
     simp -implicitDefEqProofs(disch:=omega)only[Nat.reduceEqDiff,↓reduceIte,vcu,↓vcd,h2]
     refine fin_ct8 Tryz.results33 σ (k8.sub hs n2) (v:=.agg #[.int .i64 0,.int .i64 0,.string (tx [])]) (by simp -implicitDefEqProofs(disch:=omega)only[Nat.reduceEqDiff,↓reduceIte,vcu,↓vcd,h2,l8,co41]) ⟨?_,rfl⟩
     simp -implicitDefEqProofs(disch:=omega)only[Nat.reduceEqDiff,↓reduceIte,vcu,↓vcd]
     rw[hr];rfl
  have lw1:ld σ' gw 1=some (.string (tx ((cutT 32 s).getD 1 []))):=by have:=textsAt_own qw 1 l1;simpa using this
  have hw1:=cutF_len (c:=32) s [] ((cutT 32 s).getD 1 []) (by simp only[List.getD,l1,List.getElem?_eq_getElem,Option.getD_some];exact List.getElem_mem l1)
  simp only[List.length_nil] at hw1
  simp -implicitDefEqProofs(disch:=omega)only[Nat.reduceEqDiff,↓reduceIte,vcu,↓vcd,h0,h2,h4,h5,h6,Int.toNat_one,lw1]
  refine (read_calls σ' ((cutT 32 s).getD 1 []) om9).mono ?_
  rintro _ _ ⟨rfl,rfl⟩
  rename_i σ'
  simp -implicitDefEqProofs(disch:=omega)only[Nat.reduceEqDiff,↓reduceIte,vcu,↓vcd,opK_some,h0,h2,h4,h5,h6]
  refine r_set (g:=c5) (i:=1) (by simp -implicitDefEqProofs(disch:=omega)only[Nat.reduceEqDiff,↓reduceIte,vcu,↓vcd,h5]) z9r co3 z9r q5 (by show 1 < 3;omega) fun τ6 k6 e6=>?_
  replace e6:τ6 c5=some ⟨[.int .i64 (kdV w),.int .i64 (rdN ((cutT 32 s).getD 1 [])),.string (tx [])],false⟩:=by rw[e6];simp -implicitDefEqProofs(disch:=omega)only[Nat.reduceEqDiff,↓reduceIte,vcu,↓vcd];rfl
  replace hs:=k6.sub hs nc5
  replace q2:=k6.at q2 d52
  replace qw:=k6.at qw d5w
  clear q5
  by_cases l2:2 < (cutT 32 s).length
  case neg =>
   have eD:D=⟨kdV w,rdN ((cutT 32 s).getD 1 []),[]⟩:=by rw[←hD,ddW,hW,if_pos l1,if_neg l2]
   have q5:τ6 c5=some ⟨[.int .i64 D.k,.int .i64 D.l,.string (tx D.t)],false⟩:=by rw[e6,eD]
   clear eD
   simp -implicitDefEqProofs(disch:=omega)only[Nat.reduceEqDiff,↓reduceIte,vcu,↓vcd,h0,h2,h4,h5,h6]
   have l5:lds _ c5 0 3=some [.int .i64 D.k,.int .i64 D.l,.string (tx D.t)]:=lds_three (ld_of q5 rfl) (ld_of q5 rfl) (ld_of q5 rfl)
   have aq:abin Tryz.prog 9 .eql (.string (tx s)) (.string { data:=#[] })=some (.bool (decide (s=[]))):=abin_seql (ys:=[])
   by_cases hs0:s=[]
   ·have hr:rdP s=(⟨0,0,[]⟩,false):=by unfold rdP readO;rw[if_pos (.inl hs0)]
    simp -implicitDefEqProofs(disch:=omega)only[Nat.reduceEqDiff,↓reduceIte,vcu,↓vcd,h0,h2,h4,h5,aq,decide_eq_true hs0]
    rw[r_build]
    refine⟨(_,#[.int .i64 0,.int .i64 0,.string (tx [])]),⟨ze41,by first|kernel_rfl | (simp -implicitDefEqProofs(disch:=omega)only[Nat.reduceEqDiff,↓reduceIte,vcu,↓vcd];kernel_rfl)⟩,?_⟩
    simp -implicitDefEqProofs(disch:=omega)only[Nat.reduceEqDiff,↓reduceIte,vcu,↓vcd,h2]
    refine r_sets (g:=c2) (i:=0) (C:=[.int .i64 0,.int .i64 0,.string (tx [])]) (by simp -implicitDefEqProofs(disch:=omega)only[Nat.reduceEqDiff,↓reduceIte,vcu,↓vcd,h2]) z9co41 z9r z9z q2 z9l fun τ8 k8 e8=>?_
    replace e8:τ8 c2=some ⟨[.int .i64 0,.int .i64 0,.string (tx [])],false⟩:=e8
    have l8:lds τ8 c2 0 3=some [.int .i64 0,.int .i64 0,.string (tx [])]:=lds_three (ld_of e8 rfl) (ld_of e8 rfl) (ld_of e8 rfl)
    simp -implicitDefEqProofs(disch:=omega)only[Nat.reduceEqDiff,↓reduceIte,vcu,↓vcd,h2]
    refine fin_ct8 Tryz.results33 σ (k8.sub hs n2) (v:=.agg #[.int .i64 0,.int .i64 0,.string (tx [])]) (by simp -implicitDefEqProofs(disch:=omega)only[Nat.reduceEqDiff,↓reduceIte,vcu,↓vcd,h2,l8,co41]) ⟨?_,rfl⟩
    simp -implicitDefEqProofs(disch:=omega)only[Nat.reduceEqDiff,↓reduceIte,vcu,↓vcd]
    rw[hr];rfl
   ·simp -implicitDefEqProofs(disch:=omega)only[Nat.reduceEqDiff,↓reduceIte,vcu,↓vcd,h0,h2,h4,h5,aq,decide_eq_false hs0,l5,co41]
    refine (deedText_calls _ D hDt).mono ?_
    rintro _ _ ⟨rfl,rfl⟩
    by_cases hne:deedT D=s
    ·have hr:rdP s=(D,true):=by unfold rdP readO;rw[if_neg (by rw[hD];exact fun h=>h.elim hs0 fun h=>h hne),hD]
     have dn:decide (deedT D=s)=true:=decide_eq_true hne
     simp -implicitDefEqProofs(disch:=omega)only[Nat.reduceEqDiff,↓reduceIte,vcu,↓vcd,opK_some,h0,h2,h4,h5,abin_sneq,dn,Bool.not_true,l5,co41]
     refine r_sets (g:=c2) (i:=0) (C:=[.int .i64 0,.int .i64 0,.string (tx [])]) (by simp -implicitDefEqProofs(disch:=omega)only[Nat.reduceEqDiff,↓reduceIte,vcu,↓vcd,h0,h2,h4,h5]) z9co41 z9r z9z q2 z9l fun τ8 k8 e8=>?_
     replace e8:τ8 c2=some ⟨[.int .i64 D.k,.int .i64 D.l,.string (tx D.t)],false⟩:=e8
     have l8:lds τ8 c2 0 3=some [.int .i64 D.k,.int .i64 D.l,.string (tx D.t)]:=lds_three (ld_of e8 rfl) (ld_of e8 rfl) (ld_of e8 rfl)
     simp -implicitDefEqProofs(disch:=omega)only[Nat.reduceEqDiff,↓reduceIte,vcu,↓vcd,h0,h2,h4,h5]
     refine fin_ct8 Tryz.results33 σ (k8.sub hs n2) (v:=.agg #[.int .i64 D.k,.int .i64 D.l,.string (tx D.t)]) (by simp -implicitDefEqProofs(disch:=omega)only[Nat.reduceEqDiff,↓reduceIte,vcu,↓vcd,h0,h2,h4,h5,l8,co41]) ⟨?_,rfl⟩
     simp -implicitDefEqProofs(disch:=omega)only[Nat.reduceEqDiff,↓reduceIte,vcu,↓vcd]
     rw[hr];rfl
    ·have hr:rdP s=(⟨0,0,[]⟩,false):=by unfold rdP readO;rw[if_pos (.inr (by rw[hD];exact hne))]
     have dn:decide (deedT D=s)=false:=decide_eq_false hne
     simp -implicitDefEqProofs(disch:=omega)only[Nat.reduceEqDiff,↓reduceIte,vcu,↓vcd,opK_some,h0,h2,h4,h5,abin_sneq,dn,Bool.not_false]
     rw[r_build]
     refine⟨(_,#[.int .i64 0,.int .i64 0,.string (tx [])]),⟨ze41,by first|kernel_rfl | (simp -implicitDefEqProofs(disch:=omega)only[Nat.reduceEqDiff,↓reduceIte,vcu,↓vcd];kernel_rfl)⟩,?_⟩
     simp -implicitDefEqProofs(disch:=omega)only[Nat.reduceEqDiff,↓reduceIte,vcu,↓vcd,h2]
     refine r_sets (g:=c2) (i:=0) (C:=[.int .i64 0,.int .i64 0,.string (tx [])]) (by simp -implicitDefEqProofs(disch:=omega)only[Nat.reduceEqDiff,↓reduceIte,vcu,↓vcd,h2]) z9co41 z9r z9z q2 z9l fun τ8 k8 e8=>?_
     replace e8:τ8 c2=some ⟨[.int .i64 0,.int .i64 0,.string (tx [])],false⟩:=e8
     have l8:lds τ8 c2 0 3=some [.int .i64 0,.int .i64 0,.string (tx [])]:=lds_three (ld_of e8 rfl) (ld_of e8 rfl) (ld_of e8 rfl)
     simp -implicitDefEqProofs(disch:=omega)only[Nat.reduceEqDiff,↓reduceIte,vcu,↓vcd,h2]
     refine fin_ct8 Tryz.results33 σ (k8.sub hs n2) (v:=.agg #[.int .i64 0,.int .i64 0,.string (tx [])]) (by simp -implicitDefEqProofs(disch:=omega)only[Nat.reduceEqDiff,↓reduceIte,vcu,↓vcd,h2,l8,co41]) ⟨?_,rfl⟩
     simp -implicitDefEqProofs(disch:=omega)only[Nat.reduceEqDiff,↓reduceIte,vcu,↓vcd]
     rw[hr];rfl
  have lw2:ld τ6 gw 2=some (.string (tx ((cutT 32 s).getD 2 []))):=by have:=textsAt_own qw 2 l2;simpa using this
  have i2:Int.toNat 2=2:=rfl
  simp -implicitDefEqProofs(disch:=omega)only[Nat.reduceEqDiff,↓reduceIte,vcu,↓vcd,h0,h2,h4,h5,h6,i2,lw2]
  refine r_set (g:=c5) (i:=2) (by simp -implicitDefEqProofs(disch:=omega)only[Nat.reduceEqDiff,↓reduceIte,vcu,↓vcd,h5]) z9r co9 z9r e6 (by show 2 < 3;omega) fun τ7 k7 e7=>?_
  have eD:D=⟨kdV w,rdN ((cutT 32 s).getD 1 []),(cutT 32 s).getD 2 []⟩:=by rw[←hD,ddW,hW,if_pos l1,if_pos l2]
  have q5:τ7 c5=some ⟨[.int .i64 D.k,.int .i64 D.l,.string (tx D.t)],false⟩:=by rw[e7,eD];simp -implicitDefEqProofs(disch:=omega)only[Nat.reduceEqDiff,↓reduceIte,vcu,↓vcd];rfl
  replace hs:=k7.sub hs nc5
  replace q2:=k7.at q2 d52
  clear eD
  simp -implicitDefEqProofs(disch:=omega)only[Nat.reduceEqDiff,↓reduceIte,vcu,↓vcd,h0,h2,h4,h5,h6]
  have l5:lds _ c5 0 3=some [.int .i64 D.k,.int .i64 D.l,.string (tx D.t)]:=lds_three (ld_of q5 rfl) (ld_of q5 rfl) (ld_of q5 rfl)
  have aq:abin Tryz.prog 9 .eql (.string (tx s)) (.string { data:=#[] })=some (.bool (decide (s=[]))):=abin_seql (ys:=[])
  by_cases hs0:s=[]
  ·have hr:rdP s=(⟨0,0,[]⟩,false):=by unfold rdP readO;rw[if_pos (.inl hs0)]
   simp -implicitDefEqProofs(disch:=omega)only[Nat.reduceEqDiff,↓reduceIte,vcu,↓vcd,h0,h2,h4,h5,aq,decide_eq_true hs0]
   rw[r_build]
   refine⟨(_,#[.int .i64 0,.int .i64 0,.string (tx [])]),⟨ze41,by first|kernel_rfl | (simp -implicitDefEqProofs(disch:=omega)only[Nat.reduceEqDiff,↓reduceIte,vcu,↓vcd];kernel_rfl)⟩,?_⟩
   simp -implicitDefEqProofs(disch:=omega)only[Nat.reduceEqDiff,↓reduceIte,vcu,↓vcd,h2]
   refine r_sets (g:=c2) (i:=0) (C:=[.int .i64 0,.int .i64 0,.string (tx [])]) (by simp -implicitDefEqProofs(disch:=omega)only[Nat.reduceEqDiff,↓reduceIte,vcu,↓vcd,h2]) z9co41 z9r z9z q2 z9l fun τ8 k8 e8=>?_
   replace e8:τ8 c2=some ⟨[.int .i64 0,.int .i64 0,.string (tx [])],false⟩:=e8
   have l8:lds τ8 c2 0 3=some [.int .i64 0,.int .i64 0,.string (tx [])]:=lds_three (ld_of e8 rfl) (ld_of e8 rfl) (ld_of e8 rfl)
   simp -implicitDefEqProofs(disch:=omega)only[Nat.reduceEqDiff,↓reduceIte,vcu,↓vcd,h2]
   refine fin_ct8 Tryz.results33 σ (k8.sub hs n2) (v:=.agg #[.int .i64 0,.int .i64 0,.string (tx [])]) (by simp -implicitDefEqProofs(disch:=omega)only[Nat.reduceEqDiff,↓reduceIte,vcu,↓vcd,h2,l8,co41]) ⟨?_,rfl⟩
   simp -implicitDefEqProofs(disch:=omega)only[Nat.reduceEqDiff,↓reduceIte,vcu,↓vcd]
   rw[hr];rfl
  ·simp -implicitDefEqProofs(disch:=omega)only[Nat.reduceEqDiff,↓reduceIte,vcu,↓vcd,h0,h2,h4,h5,aq,decide_eq_false hs0,l5,co41]
   refine (deedText_calls _ D hDt).mono ?_
   rintro _ _ ⟨rfl,rfl⟩
   by_cases hne:deedT D=s
   ·have hr:rdP s=(D,true):=by unfold rdP readO;rw[if_neg (by rw[hD];exact fun h=>h.elim hs0 fun h=>h hne),hD]
    have dn:decide (deedT D=s)=true:=decide_eq_true hne
    simp -implicitDefEqProofs(disch:=omega)only[Nat.reduceEqDiff,↓reduceIte,vcu,↓vcd,opK_some,h0,h2,h4,h5,abin_sneq,dn,Bool.not_true,l5,co41]
    refine r_sets (g:=c2) (i:=0) (C:=[.int .i64 0,.int .i64 0,.string (tx [])]) (by simp -implicitDefEqProofs(disch:=omega)only[Nat.reduceEqDiff,↓reduceIte,vcu,↓vcd,h0,h2,h4,h5]) z9co41 z9r z9z q2 z9l fun τ8 k8 e8=>?_
    replace e8:τ8 c2=some ⟨[.int .i64 D.k,.int .i64 D.l,.string (tx D.t)],false⟩:=e8
    have l8:lds τ8 c2 0 3=some [.int .i64 D.k,.int .i64 D.l,.string (tx D.t)]:=lds_three (ld_of e8 rfl) (ld_of e8 rfl) (ld_of e8 rfl)
    simp -implicitDefEqProofs(disch:=omega)only[Nat.reduceEqDiff,↓reduceIte,vcu,↓vcd,h0,h2,h4,h5]
    refine fin_ct8 Tryz.results33 σ (k8.sub hs n2) (v:=.agg #[.int .i64 D.k,.int .i64 D.l,.string (tx D.t)]) (by simp -implicitDefEqProofs(disch:=omega)only[Nat.reduceEqDiff,↓reduceIte,vcu,↓vcd,h0,h2,h4,h5,l8,co41]) ⟨?_,rfl⟩
    simp -implicitDefEqProofs(disch:=omega)only[Nat.reduceEqDiff,↓reduceIte,vcu,↓vcd]
    rw[hr];rfl
   ·have hr:rdP s=(⟨0,0,[]⟩,false):=by unfold rdP readO;rw[if_pos (.inr (by rw[hD];exact hne))]
    have dn:decide (deedT D=s)=false:=decide_eq_false hne
    simp -implicitDefEqProofs(disch:=omega)only[Nat.reduceEqDiff,↓reduceIte,vcu,↓vcd,opK_some,h0,h2,h4,h5,abin_sneq,dn,Bool.not_false]
    rw[r_build]
    refine⟨(_,#[.int .i64 0,.int .i64 0,.string (tx [])]),⟨ze41,by first|kernel_rfl | (simp -implicitDefEqProofs(disch:=omega)only[Nat.reduceEqDiff,↓reduceIte,vcu,↓vcd];kernel_rfl)⟩,?_⟩
    simp -implicitDefEqProofs(disch:=omega)only[Nat.reduceEqDiff,↓reduceIte,vcu,↓vcd,h2]
    refine r_sets (g:=c2) (i:=0) (C:=[.int .i64 0,.int .i64 0,.string (tx [])]) (by simp -implicitDefEqProofs(disch:=omega)only[Nat.reduceEqDiff,↓reduceIte,vcu,↓vcd,h2]) z9co41 z9r z9z q2 z9l fun τ8 k8 e8=>?_
    replace e8:τ8 c2=some ⟨[.int .i64 0,.int .i64 0,.string (tx [])],false⟩:=e8
    have l8:lds τ8 c2 0 3=some [.int .i64 0,.int .i64 0,.string (tx [])]:=lds_three (ld_of e8 rfl) (ld_of e8 rfl) (ld_of e8 rfl)
    simp -implicitDefEqProofs(disch:=omega)only[Nat.reduceEqDiff,↓reduceIte,vcu,↓vcd,h2]
    refine fin_ct8 Tryz.results33 σ (k8.sub hs n2) (v:=.agg #[.int .i64 0,.int .i64 0,.string (tx [])]) (by simp -implicitDefEqProofs(disch:=omega)only[Nat.reduceEqDiff,↓reduceIte,vcu,↓vcd,h2,l8,co41]) ⟨?_,rfl⟩
    simp -implicitDefEqProofs(disch:=omega)only[Nat.reduceEqDiff,↓reduceIte,vcu,↓vcd]
    rw[hr];rfl
theorem deedT_len (d:Dd):(deedT d).length≤120:=by
 unfold deedT
 split
 ·rename_i h
  have h1:=kwT_len d.k
  have h2:=decN_len d.l.toNat
  have h3:=h.2.1
  have h4:d.t.length≤3:=by
   rcases h.2.2 with ⟨_,e⟩ |⟨_,_,_,e⟩
   ·rw[e];simp
   ·exact e
  rw[List.length_append,List.length_cons,List.length_append]
  split
  ·simp;omega
  ·simp;omega
 ·simp
end Go.Proofs.YtofdnmlpfagibaaGreatDoor
namespace Go.Proofs.YtofdnmlpfagibaaGreatDoor
open Go Go.Abs Go.RowKit
variable {w0:World}
theorem sameS_at (σ:AHeap) (h o g p:Nat) (xs ys:List (List UInt8)) (hv:TextsAt σ h o xs) (hu:TextsAt σ g p ys) (hl:xs.length≤1048576) (hl2:ys.length≤1048576) :
  ACall Tryz.prog w0 25 [.slice (some ⟨h,o,none⟩) xs.length 1,.slice (some ⟨g,p,none⟩) ys.length 1] σ fun r σ'=>r=.bool (decide (xs=ys))∧σ'=σ:=by
 refine acall_go mixed Tryz.func25 rfl good25 fun pr=>?_
 by_cases hlen:xs.length=ys.length
 ·simp -implicitDefEqProofs(disch:=omega)only[Nat.reduceEqDiff,↓reduceIte,vcu,↓vcd]
  refine vc_loop_c mixed kr9 [0,1] (fun m a σ'=>∃k:Nat,m+k=xs.length∧a 5=.int .i64 k∧σ'=σ∧∀j,j < k→xs.getD j []=ys.getD j []) xs.length ⟨0,by simp,rfl,rfl,by simp⟩ ?_
  rintro m a σ' hc ⟨k,hk,h5,rfl,he⟩
  simp -implicitDefEqProofs(disch:=omega)only[Nat.reduceEqDiff,↓reduceIte,vcu,↓vcd] at hc
  obtain⟨h0,h1,-⟩:=hc
  by_cases hlt:k < xs.length
  ·have hx:=hv k hlt
   have hy:=hu k om9
   by_cases hxy:xs.getD k []=ys.getD k []
   ·rw[hxy] at hx
    simp -implicitDefEqProofs(disch:=omega)only[Nat.reduceEqDiff,↓reduceIte,vcu,↓vcd,h0,h1,h5,hx,hy,eq_self,decide_true,Bool.not_true]
    refine⟨⟨trivial,trivial,trivial⟩,m - 1,by omega,k+1,by omega,by simp,trivial,fun j hj=>?_⟩
    by_cases e:j=k
    ·subst e;exact hxy
    ·exact he j om9
   ·have hnb:decide (xs.getD k []=ys.getD k [])=false:=decide_eq_false hxy
    simp -implicitDefEqProofs(disch:=omega)only[Nat.reduceEqDiff,↓reduceIte,vcu,↓vcd,h0,h1,h5,hx,hy,hnb,Bool.not_false]
    refine fin_one Tryz.results25 ⟨?_,rfl⟩
    simp -implicitDefEqProofs(disch:=omega)only[Nat.reduceEqDiff,↓reduceIte,vcu,↓vcd]
    have:xs≠ys:=fun e=>hxy (by rw[e])
    simp [this]
  ·simp -implicitDefEqProofs(disch:=omega)only[Nat.reduceEqDiff,↓reduceIte,vcu,↓vcd,h0,h1,h5]
   refine fin_one Tryz.results25 ⟨?_,rfl⟩
   simp -implicitDefEqProofs(disch:=omega)only[Nat.reduceEqDiff,↓reduceIte,vcu,↓vcd]
   have:xs=ys:=by
    apply List.ext_getElem hlen
    intro i h1 h2
    have:=he i om9
    simpa [List.getD,h1,h2] using this
   simp [this]
 ·simp -implicitDefEqProofs(disch:=omega)only[Nat.reduceEqDiff,↓reduceIte,vcu,↓vcd]
  refine fin_one Tryz.results25 ⟨?_,rfl⟩
  simp -implicitDefEqProofs(disch:=omega)only[Nat.reduceEqDiff,↓reduceIte,vcu,↓vcd]
  have:xs≠ys:=fun e=>hlen (by rw[e])
  simp [this]
theorem sameS_calls (σ:AHeap) (v u:Value) (xs ys:List (List UInt8)) (hv:Texts σ v xs) (hu:Texts σ u ys) (hl:xs.length≤1048576) (hl2:ys.length≤1048576) :
  ACall Tryz.prog w0 25 [v,u] σ fun r σ'=>r=.bool (decide (xs=ys))∧σ'=σ :=
 ACall.texts_quiet (pre:=[]) (post:=[u]) kr9 hv fun σ1 h o hs hg =>
  ACall.texts_quiet (pre:=[_]) (post:=[]) kr9 (hu.sub hs) fun σ2 g p hs2 hg2=>sameS_at σ2 h o g p xs ys (hg.sub hs2) hg2 hl hl2
def PRow (ps:List (List UInt8)) (k:Nat):Prop:=DgT (ps.getD k [])∧(1≤(ps.getD k []).length∧(ps.getD k []).length≤3)∧∀j,j < ps.length→j≠k→¬Beg (ps.getD k []) (ps.getD j [])
def PlanOk (ps:List (List UInt8)):Prop:=(∀k,k < ps.length→PRow ps k)∧ps.length≤10
instance (ps:List (List UInt8)) (k:Nat):Decidable (PRow ps k):=inferInstanceAs (Decidable (_∧_∧_))
instance (ps:List (List UInt8)):Decidable (PlanOk ps):=inferInstanceAs (Decidable (_∧_))
theorem planValid_at (σ:AHeap) (h o:Nat) (ps:List (List UInt8)) (hv:TextsAt σ h o ps) (hl:ps.length≤1048576) (hp:∀x∈ps,x.length≤1048576) :
  ACall Tryz.prog w0 37 [.slice (some ⟨h,o,none⟩) ps.length 1] σ fun r σ'=>r=.bool (decide (PlanOk ps))∧σ'=σ:=by
 refine acall_go mixed Tryz.func37 rfl good37 fun pr=>?_
 simp -implicitDefEqProofs(disch:=omega)only[Nat.reduceEqDiff,↓reduceIte,vcu,↓vcd]
 refine vc_loop_c mixed kr9 [0] (fun m a σ'=>∃k:Nat,m+k=ps.length∧a 3=.int .i64 k∧(∀j,j < k→PRow ps j)∧σ'=σ) ps.length ⟨0,by simp,rfl,fun j hj=>absurd hj om9,rfl⟩ ?_
 rintro m a σ' hc ⟨k,hk,h3,hall,rfl⟩
 simp -implicitDefEqProofs(disch:=omega)only[Nat.reduceEqDiff,↓reduceIte,vcu,↓vcd] at hc
 obtain⟨h0,-⟩:=hc
 by_cases hlt:k < ps.length
 ·have hx:=hv k hlt
  have hmem:ps.getD k []∈ps:=by simp [List.getD,hlt]
  have hb:=hp _ hmem
  have stop:∀{P:Prop},(PRow ps k→P)→¬P→¬PlanOk ps:=fun h1 h2 h3=>h2 (h1 (h3.1 k hlt))
  by_cases hd:DgT (ps.getD k [])
  ·have hd1:decide (DgT (ps.getD k []))=true:=decide_eq_true hd
   by_cases hr:1≤(ps.getD k []).length∧(ps.getD k []).length≤3
   ·have hr1:decide ((1:Int)≤((ps.getD k []).length:Int)∧((ps.getD k []).length:Int)≤3)=true:=decide_eq_true om9
    simp -implicitDefEqProofs(disch:=omega)only[Nat.reduceEqDiff,↓reduceIte,vcu,↓vcd,h0,h3,hx]
    refine (digits_calls _ _ hb).mono ?_
    rintro r τ ⟨rfl,rfl⟩
    simp -implicitDefEqProofs(disch:=omega)only[Nat.reduceEqDiff,↓reduceIte,vcu,↓vcd,opK_some,h0,h3,hx,hd1]
    refine (in_calls _ _ 1 3).mono ?_
    rintro r τ ⟨rfl,rfl⟩
    simp -implicitDefEqProofs(disch:=omega)only[Nat.reduceEqDiff,↓reduceIte,vcu,↓vcd,opK_some,h0,h3,hx,hr1]
    refine vc_loop_c mixed kr9 [0,3] (fun m a σ'=>∃j:Nat,m+j=ps.length∧a 4=.int .i64 j∧(∀i,i < j→i≠k→¬Beg (ps.getD k []) (ps.getD i []))∧σ'=τ) ps.length ⟨0,by simp,rfl,fun j hj=>absurd hj om9,rfl⟩ ?_
    rintro m2 a2 σ2 hc2 ⟨j,hj,h4,hin,rfl⟩
    simp -implicitDefEqProofs(disch:=omega)only[Nat.reduceEqDiff,↓reduceIte,vcu,↓vcd,h0,h3] at hc2
    obtain⟨g0,g3,-⟩:=hc2
    by_cases hjl:j < ps.length
    ·have hy:=hv j hjl
     by_cases hjk:j=k
     ·subst hjk
      simp -implicitDefEqProofs(disch:=omega)only[Nat.reduceEqDiff,↓reduceIte,vcu,↓vcd,g0,g3,h4,hx,hy]
      exact⟨⟨h0.symm,h3.symm,trivial⟩,m2 - 1,by omega,j+1,by omega,by simp,fun i hi hne=>hin i om9 hne,trivial⟩
     ·have hne:decide ((j:Int)≠(k:Int))=true:=decide_eq_true om9
      by_cases hbg:Beg (ps.getD k []) (ps.getD j [])
      ·have hb1:decide (Beg (ps.getD k []) (ps.getD j []))=true:=decide_eq_true hbg
       simp -implicitDefEqProofs(disch:=omega)only[Nat.reduceEqDiff,↓reduceIte,vcu,↓vcd,g0,g3,h4,hx,hy,hne]
       rw[r_callq]
       refine⟨_,begins_calls _ _ _,?_⟩
       simp -implicitDefEqProofs(disch:=omega)only[Nat.reduceEqDiff,↓reduceIte,vcu,↓vcd,g0,g3,h4,hx,hy,hne,hb1]
       refine fin_one Tryz.results37 ⟨?_,rfl⟩
       simp -implicitDefEqProofs(disch:=omega)only[Nat.reduceEqDiff,↓reduceIte,vcu,↓vcd]
       simp [stop (fun h=>h.2.2 j hjl hjk) (fun h=>h hbg)]
      ·have hb1:decide (Beg (ps.getD k []) (ps.getD j []))=false:=decide_eq_false hbg
       simp -implicitDefEqProofs(disch:=omega)only[Nat.reduceEqDiff,↓reduceIte,vcu,↓vcd,g0,g3,h4,hx,hy,hne]
       rw[r_callq]
       refine⟨_,begins_calls _ _ _,?_⟩
       simp -implicitDefEqProofs(disch:=omega)only[Nat.reduceEqDiff,↓reduceIte,vcu,↓vcd,g0,g3,h4,hx,hy,hne,hb1]
       refine⟨⟨h0.symm,h3.symm,trivial⟩,m2 - 1,by omega,j+1,by omega,by simp,fun i hi hne'=>?_,trivial⟩
       by_cases e:i=j
       ·subst e;exact hbg
       ·exact hin i om9 hne'
    ·simp -implicitDefEqProofs(disch:=omega)only[Nat.reduceEqDiff,↓reduceIte,vcu,↓vcd,g0,g3,h4]
     refine⟨⟨trivial,trivial⟩,m - 1,by omega,k+1,by omega,by simp,fun i hi=>?_,trivial⟩
     by_cases e:i=k
     ·subst e;exact⟨hd,hr,fun i' h1 h2=>hin i' om9 h2⟩
     ·exact hall i om9
   ·have hr1:decide ((1:Int)≤((ps.getD k []).length:Int)∧((ps.getD k []).length:Int)≤3)=false:=decide_eq_false om9
    simp -implicitDefEqProofs(disch:=omega)only[Nat.reduceEqDiff,↓reduceIte,vcu,↓vcd,h0,h3,hx]
    refine (digits_calls _ _ hb).mono ?_
    rintro r τ ⟨rfl,rfl⟩
    simp -implicitDefEqProofs(disch:=omega)only[Nat.reduceEqDiff,↓reduceIte,vcu,↓vcd,opK_some,h0,h3,hx,hd1]
    refine (in_calls _ _ 1 3).mono ?_
    rintro r τ ⟨rfl,rfl⟩
    simp -implicitDefEqProofs(disch:=omega)only[Nat.reduceEqDiff,↓reduceIte,vcu,↓vcd,opK_some,h0,h3,hx,hr1]
    refine fin_one Tryz.results37 ⟨?_,rfl⟩
    simp -implicitDefEqProofs(disch:=omega)only[Nat.reduceEqDiff,↓reduceIte,vcu,↓vcd]
    simp [stop (fun h=>h.2.1) hr]
  ·have hd1:decide (DgT (ps.getD k []))=false:=decide_eq_false hd
   simp -implicitDefEqProofs(disch:=omega)only[Nat.reduceEqDiff,↓reduceIte,vcu,↓vcd,h0,h3,hx]
   refine (digits_calls _ _ hb).mono ?_
   rintro r τ ⟨rfl,rfl⟩
   simp -implicitDefEqProofs(disch:=omega)only[Nat.reduceEqDiff,↓reduceIte,vcu,↓vcd,opK_some,h0,h3,hx,hd1]
   refine fin_one Tryz.results37 ⟨?_,rfl⟩
   simp -implicitDefEqProofs(disch:=omega)only[Nat.reduceEqDiff,↓reduceIte,vcu,↓vcd]
   simp [stop (fun h=>h.1) hd]
 ·simp -implicitDefEqProofs(disch:=omega)only[Nat.reduceEqDiff,↓reduceIte,vcu,↓vcd,h0,h3]
  refine fin_one Tryz.results37 ⟨?_,rfl⟩
  simp -implicitDefEqProofs(disch:=omega)only[Nat.reduceEqDiff,↓reduceIte,vcu,↓vcd]
  congr 1
  rw[decide_eq_decide]
  exact⟨fun h=>⟨fun j hj=>hall j om9,by omega⟩,fun h=>by have:=h.2;omega⟩
def LnOk (xs:List Int):Prop:=(∀k,k < xs.length→1≤xs.getD k 0∧xs.getD k 0≤3)∧xs.length≤10
instance (xs:List Int):Decidable (LnOk xs):=inferInstanceAs (Decidable (_∧_))
theorem lnValid_at (σ:AHeap) (h o:Nat) (xs:List Int) (hv:IntsAt .i64 σ h o xs) (hl:xs.length≤1048576) :
  ACall Tryz.prog w0 104 [.slice (some ⟨h,o,none⟩) xs.length 1] σ fun r σ'=>r=.bool (decide (LnOk xs))∧σ'=σ:=by
 refine acall_go mixed Tryz.func104 rfl good104 fun pr=>?_
 simp -implicitDefEqProofs(disch:=omega)only[Nat.reduceEqDiff,↓reduceIte,vcu,↓vcd]
 refine vc_loop_c mixed kr9 [0] (fun m a σ'=>∃k:Nat,m+k=xs.length∧a 3=.int .i64 k∧(∀j,j < k→1≤xs.getD j 0∧xs.getD j 0≤3)∧σ'=σ) xs.length ⟨0,by simp,rfl,fun j hj=>absurd hj om9,rfl⟩ ?_
 rintro m a σ' hc ⟨k,hk,h3,hall,rfl⟩
 simp -implicitDefEqProofs(disch:=omega)only[Nat.reduceEqDiff,↓reduceIte,vcu,↓vcd] at hc
 obtain⟨h0,-⟩:=hc
 by_cases hlt:k < xs.length
 ·have hx:=hv k hlt
  by_cases hin:1≤xs.getD k 0∧xs.getD k 0≤3
  ·have h1:decide (1≤xs.getD k 0∧xs.getD k 0≤3)=true:=decide_eq_true hin
   simp -implicitDefEqProofs(disch:=omega)only[Nat.reduceEqDiff,↓reduceIte,vcu,↓vcd,h0,h3,hx]
   refine (in_calls _ _ 1 3).mono ?_
   rintro r τ ⟨rfl,rfl⟩
   simp -implicitDefEqProofs(disch:=omega)only[Nat.reduceEqDiff,↓reduceIte,vcu,↓vcd,opK_some,h0,h3,hx,h1]
   refine⟨⟨trivial,trivial⟩,m - 1,by omega,k+1,by omega,by simp,fun j hj=>?_,trivial⟩
   by_cases e:j=k
   ·subst e;exact hin
   ·exact hall j om9
  ·have h1:decide (1≤xs.getD k 0∧xs.getD k 0≤3)=false:=decide_eq_false hin
   simp -implicitDefEqProofs(disch:=omega)only[Nat.reduceEqDiff,↓reduceIte,vcu,↓vcd,h0,h3,hx]
   refine (in_calls _ _ 1 3).mono ?_
   rintro r τ ⟨rfl,rfl⟩
   simp -implicitDefEqProofs(disch:=omega)only[Nat.reduceEqDiff,↓reduceIte,vcu,↓vcd,opK_some,h0,h3,hx,h1]
   refine fin_one Tryz.results104 ⟨?_,rfl⟩
   simp -implicitDefEqProofs(disch:=omega)only[Nat.reduceEqDiff,↓reduceIte,vcu,↓vcd]
   have:¬LnOk xs:=fun h=>hin (h.1 k hlt)
   simp [this]
 ·simp -implicitDefEqProofs(disch:=omega)only[Nat.reduceEqDiff,↓reduceIte,vcu,↓vcd,h0,h3]
  refine fin_one Tryz.results104 ⟨?_,rfl⟩
  simp -implicitDefEqProofs(disch:=omega)only[Nat.reduceEqDiff,↓reduceIte,vcu,↓vcd]
  congr 1
  rw[decide_eq_decide]
  exact⟨fun h=>⟨fun j hj=>hall j om9,by omega⟩,fun h=>by have:=h.2;omega⟩
def shS (xs:List Int):Nat→Int
 | 0=>0
 | k+1=>shS xs k+pw (3 - xs.getD k 0).toNat
theorem pw_le {n:Nat} (h:n≤3):1≤pw n∧pw n≤64:=⟨pw_pos n,pw_mono (n:=3) h⟩
theorem shS_le {xs:List Int} (h:∀j,j < xs.length→0≤xs.getD j 0):∀k,k≤xs.length→0≤shS xs k∧shS xs k≤64 * k
 | 0,_=>by simp [shS]
 | k+1,hk=>by
  have h1:=shS_le h k om9
  have h2:=h k om9
  have h3:=pw_le (n:=(3 - xs.getD k 0).toNat) om9
  simp only[shS];omega
def shareV (xs:List Int):Int:=if LnOk xs then shS xs xs.length else -1
theorem shareV_le (xs:List Int):-1≤shareV xs∧shareV xs≤640:=by
 unfold shareV
 split
 ·rename_i h
  have:=shS_le (fun j hj=>by have:=h.1 j hj;omega) xs.length (Nat.le_refl _)
  have:=h.2
  omega
 ·omega
theorem share_at (σ:AHeap) (h o:Nat) (xs:List Int) (hv:IntsAt .i64 σ h o xs) (hl:xs.length≤1048576) :
  ACall Tryz.prog w0 105 [.slice (some ⟨h,o,none⟩) xs.length 1] σ fun r σ'=>r=.int .i64 (shareV xs)∧σ'=σ:=by
 refine acall_go mixed Tryz.func105 rfl good105 fun pr=>?_
 simp -implicitDefEqProofs(disch:=omega)only[Nat.reduceEqDiff,↓reduceIte,vcu,↓vcd]
 refine (lnValid_at _ h o xs hv hl).mono ?_
 rintro r τ ⟨rfl,rfl⟩
 by_cases hok:LnOk xs
 ·have h1:decide (LnOk xs)=true:=decide_eq_true hok
  simp -implicitDefEqProofs(disch:=omega)only[Nat.reduceEqDiff,↓reduceIte,vcu,↓vcd,opK_some,h1]
  refine vc_loop_c mixed kr9 [0] (fun m a σ'=>∃k:Nat,m+k=xs.length∧a 4=.int .i64 k∧a 3=.int .i64 (shS xs k)∧σ'=τ) xs.length ⟨0,by simp,rfl,rfl,rfl⟩ ?_
  rintro m a σ' hc ⟨k,hk,h4,h3,rfl⟩
  simp -implicitDefEqProofs(disch:=omega)only[Nat.reduceEqDiff,↓reduceIte,vcu,↓vcd] at hc
  obtain⟨h0,-⟩:=hc
  have hb:=shS_le (fun j hj=>by have:=hok.1 j hj;omega) k om9
  by_cases hlt:k < xs.length
  ·have hx:=hv k hlt
   have hin:=hok.1 k hlt
   have hp:=pw_le (n:=(3 - xs.getD k 0).toNat) om9
   simp -implicitDefEqProofs(disch:=omega)only[Nat.reduceEqDiff,↓reduceIte,vcu,↓vcd,h0,h3,h4,hx]
   rw[show (3 - xs.getD k 0)=(((3 - xs.getD k 0).toNat:Nat):Int) by omega]
   refine (power_calls _ _ om9).mono ?_
   rintro r τ ⟨rfl,rfl⟩
   simp -implicitDefEqProofs(disch:=omega)only[Nat.reduceEqDiff,↓reduceIte,vcu,↓vcd,opK_some,h0,h3,h4,hx]
   exact⟨⟨trivial,trivial⟩,m - 1,by omega,k+1,by omega,by simp,by simp only[shS,Int.toNat_natCast],trivial⟩
  ·simp -implicitDefEqProofs(disch:=omega)only[Nat.reduceEqDiff,↓reduceIte,vcu,↓vcd,h0,h3,h4]
   have e:k=xs.length:=by omega
   refine fin_one Tryz.results105 ⟨?_,rfl⟩
   simp -implicitDefEqProofs(disch:=omega)only[Nat.reduceEqDiff,↓reduceIte,vcu,↓vcd,h3]
   rw[shareV,if_pos hok,e]
 ·have h1:decide (LnOk xs)=false:=decide_eq_false hok
  simp -implicitDefEqProofs(disch:=omega)only[Nat.reduceEqDiff,↓reduceIte,vcu,↓vcd,opK_some,h1]
  refine fin_one Tryz.results105 ⟨?_,rfl⟩
  simp -implicitDefEqProofs(disch:=omega)only[Nat.reduceEqDiff,↓reduceIte,vcu,↓vcd]
  rw[shareV,if_neg hok]
theorem own_textsI {σ:AHeap} {g:Nat} {xs:List (List UInt8)} (h:σ g=some ⟨texts xs,false⟩):Texts σ (.slice (some ⟨g,0,none⟩) xs.length 1) xs:=.inr ⟨g,0,rfl,textsAt_own h⟩
theorem planValid_calls (σ:AHeap) (v:Value) (ps:List (List UInt8)) (hv:Texts σ v ps) (hl:ps.length≤1048576) (hp:∀x∈ps,x.length≤1048576):ACall Tryz.prog w0 37 [v] σ fun r σ'=>r=.bool (decide (PlanOk ps))∧σ'=σ :=
 ACall.texts_quiet (pre:=[]) (post:=[]) kr9 hv fun σ1 h o _ hg=>planValid_at σ1 h o ps hg hl hp
def fstN (p:Nat→Bool):Nat→Nat→Option Nat
 | _,0=>none
 | k,m+1=>if p k=true then some k else fstN p (k+1) m
theorem fstN_some {p:Nat→Bool}:∀{m k i:Nat},fstN p k m=some i→k≤i∧i < k+m∧p i=true
 | 0,_,_,h=>by cases h
 | m+1,k,i,h=>by
  unfold fstN at h
  split at h
  ·rename_i hp;cases h;exact⟨Nat.le_refl _,by omega,hp⟩
  ·have:=fstN_some h;exact⟨by omega,by omega,this.2.2⟩
def lensV (ps:List (List UInt8)):List Int:=if PlanOk ps then ps.map fun p=>(p.length:Int) else []
def pfK (xs:List Int) (L:Nat) (st:List (List UInt8) × Nat):Nat→List (List UInt8) × Nat
 | 0=>st
 | k+1=>if xs.getD k 0=(L:Int) then ((pfK xs L st k).1.set k (txV ((pfK xs L st k).2 / 4 ^ (3 - L)) L),(pfK xs L st k).2+4 ^ (3 - L)) else pfK xs L st k
def pfL (xs:List Int):Nat→List (List UInt8) × Nat
 | 0=>(List.replicate xs.length [],0)
 | L+1=>pfK xs (L+1) (pfL xs L) xs.length
theorem four_le {n:Nat} (h:n≤3):1≤4 ^ n∧4 ^ n≤64:=⟨Nat.pos_of_ne_zero (by simp),by have:=Nat.pow_le_pow_right (n:=4) om9 h;simpa using this⟩
theorem pfK_facts (xs:List Int) (L:Nat) (st:List (List UInt8) × Nat):∀k,(pfK xs L st k).1.length=st.1.length∧(pfK xs L st k).2≤st.2+64 * k
 | 0=>by simp [pfK]
 | k+1=>by
  have h:=pfK_facts xs L st k
  have h2:=four_le (n:=3 - L) om9
  unfold pfK
  split
  ·simp only[List.length_set];exact⟨h.1,by omega⟩
  ·exact⟨h.1,by omega⟩
theorem pfL_facts (xs:List Int) (hx:xs.length≤10):∀L,(pfL xs L).1.length=xs.length∧(pfL xs L).2≤640 * L
 | 0=>by simp [pfL]
 | L+1=>by
  have h:=pfL_facts xs hx L
  have h2:=pfK_facts xs (L+1) (pfL xs L) xs.length
  simp only[pfL]
  exact⟨h2.1.trans h.1,by omega⟩
def pfOk (xs:List Int):Prop:=LnOk xs∧shareV xs≤64
instance (xs:List Int):Decidable (pfOk xs):=inferInstanceAs (Decidable (_∧_))
def planV (xs:List Int):List (List UInt8):=if pfOk xs then (pfL xs 3).1 else []
theorem pw_nat (n:Nat):pw n=((4 ^ n:Nat):Int):=by simp [pw]
theorem planFor_at (σ:AHeap) (h o:Nat) (xs:List Int) (hv:IntsAt .i64 σ h o xs) (hl:xs.length≤1048576) :
  ACall Tryz.prog w0 70 [.slice (some ⟨h,o,none⟩) xs.length 1] σ fun r σ'=>∃v,r=.tuple #[v,.bool (decide (pfOk xs))]∧Sub σ σ'∧OwnS σ σ' v (planV xs):=by
 refine acall_go mixed Tryz.func70 rfl good70 fun pr=>?_
 simp -implicitDefEqProofs(disch:=omega)only[Nat.reduceEqDiff,↓reduceIte,vcu,↓vcd]
 refine (lnValid_at _ h o xs hv hl).mono ?_
 rintro r τ ⟨rfl,rfl⟩
 by_cases hln:LnOk xs
 case neg =>
  have d1:decide (LnOk xs)=false:=decide_eq_false hln
  have hno:¬pfOk xs:=fun h=>hln h.1
  have hV:planV xs=[]:=if_neg hno
  simp -implicitDefEqProofs(disch:=omega)only[Nat.reduceEqDiff,↓reduceIte,vcu,↓vcd,opK_some,d1]
  refine r_lit el30 (out:=#[]) kr9 kr9 fun e5 τ5 n5 s5 v5=>?_
  simp -implicitDefEqProofs(disch:=omega)only[Nat.reduceEqDiff,↓reduceIte,vcu,↓vcd]
  refine fin_two Tryz.results70 ⟨.slice (some ⟨e5,0,none⟩) 0 1,?_,s5,.inr ⟨e5,by rw[hV];rfl,by rw[hV];exact v5,n5⟩⟩
  simp -implicitDefEqProofs(disch:=omega)only[Nat.reduceEqDiff,↓reduceIte,vcu,↓vcd]
  rw[decide_eq_false hno]
 have d1:decide (LnOk xs)=true:=decide_eq_true hln
 have hsv:=shareV_le xs
 have hp3:pw 3=64:=rfl
 simp -implicitDefEqProofs(disch:=omega)only[Nat.reduceEqDiff,↓reduceIte,vcu,↓vcd,opK_some,d1]
 refine (share_at _ h o xs hv hl).mono ?_
 rintro r τ ⟨rfl,rfl⟩
 simp -implicitDefEqProofs(disch:=omega)only[Nat.reduceEqDiff,↓reduceIte,vcu,↓vcd,opK_some]
 refine (power_calls _ 3 om9).mono ?_
 rintro r τ ⟨rfl,rfl⟩
 by_cases hsh:shareV xs≤64
 case neg =>
  have hno:¬pfOk xs:=fun h=>hsh h.2
  have hV:planV xs=[]:=if_neg hno
  simp -implicitDefEqProofs(disch:=omega)only[Nat.reduceEqDiff,↓reduceIte,vcu,↓vcd,opK_some,hp3]
  refine r_lit el30 (out:=#[]) kr9 kr9 fun e5 τ5 n5 s5 v5=>?_
  simp -implicitDefEqProofs(disch:=omega)only[Nat.reduceEqDiff,↓reduceIte,vcu,↓vcd]
  refine fin_two Tryz.results70 ⟨.slice (some ⟨e5,0,none⟩) 0 1,?_,s5,.inr ⟨e5,by rw[hV];rfl,by rw[hV];exact v5,n5⟩⟩
  simp -implicitDefEqProofs(disch:=omega)only[Nat.reduceEqDiff,↓reduceIte,vcu,↓vcd]
  rw[decide_eq_false hno]
 have hok:pfOk xs:=⟨hln,hsh⟩
 have hx10:=hln.2
 simp -implicitDefEqProofs(disch:=omega)only[Nat.reduceEqDiff,↓reduceIte,vcu,↓vcd,opK_some,hp3]
 refine r_makeX (kx:=.i64) (ky:=.i64) (l:=xs.length) (c:=xs.length) el30 om9 z9q z9q om9 fun g τ1 hg hs he=>?_
 simp -implicitDefEqProofs(disch:=omega)only[Nat.reduceEqDiff,↓reduceIte,vcu,↓vcd]
 refine vc_loop_c mixed kr9 [0,4] (fun m a σ'=>∃L:Nat,m+L=3∧a 6=.int .i64 ((L+1:Nat):Int)∧a 5=.int .i64 ((pfL xs L).2:Int)∧Kept g τ1 σ'∧σ' g=some ⟨texts (pfL xs L).1,false⟩) 3 ⟨0,by simp,rfl,rfl,Kept.refl _ _,he⟩ ?_
 rintro m a σ1 hc ⟨L,hL,h6,h5,hkp,hgk⟩
 simp -implicitDefEqProofs(disch:=omega)only[Nat.reduceEqDiff,↓reduceIte,vcu,↓vcd] at hc
 obtain⟨h0,h4,-⟩:=hc
 have hLf:=pfL_facts xs hx10 L
 by_cases hlt:L < 3
 ·have hq:=four_le (n:=3 - (L+1)) om9
  simp -implicitDefEqProofs(disch:=omega)only[Nat.reduceEqDiff,↓reduceIte,vcu,↓vcd,h0,h4,h5,h6]
  refine vc_loop_c mixed kr9 [0,4,6] (fun m a σ'=>∃k:Nat,m+k=xs.length∧a 7=.int .i64 k∧a 5=.int .i64 ((pfK xs (L+1) (pfL xs L) k).2:Int)∧Kept g τ1 σ'∧σ' g=some ⟨texts (pfK xs (L+1) (pfL xs L) k).1,false⟩) xs.length ⟨0,by simp,rfl,h5,hkp,hgk⟩ ?_
  rintro m2 a2 σ2 hc2 ⟨k,hk,g7,g5,kp2,gk2⟩
  simp -implicitDefEqProofs(disch:=omega)only[Nat.reduceEqDiff,↓reduceIte,vcu,↓vcd,h0,h4,h6] at hc2
  obtain⟨g0,g4,g6,-⟩:=hc2
  have hKf:=pfK_facts xs (L+1) (pfL xs L) k
  have hKs:pfK xs (L+1) (pfL xs L) (k+1)=if xs.getD k 0=((L+1:Nat):Int) then ((pfK xs (L+1) (pfL xs L) k).1.set k (txV ((pfK xs (L+1) (pfL xs L) k).2 / 4 ^ (3 - (L+1))) (L+1)),(pfK xs (L+1) (pfL xs L) k).2+4 ^ (3 - (L+1))) else pfK xs (L+1) (pfL xs L) k:=rfl
  by_cases hkl:k < xs.length
  ·have hx:=(hv.sub (kp2.sub hs hg)) k hkl
   generalize hst:pfK xs (L+1) (pfL xs L) k=st at g5 gk2 hKf hKs
   generalize hqd:4 ^ (3 - (L+1))=q at hq hKs
   by_cases hxe:xs.getD k 0=((L+1:Nat):Int)
   ·rw[if_pos hxe] at hKs
    rw[hxe] at hx
    have hpw:pw (3 - (L+1))=(q:Int):=by rw[pw_nat,hqd]
    simp -implicitDefEqProofs(disch:=omega)only[Nat.reduceEqDiff,↓reduceIte,vcu,↓vcd,g0,g4,g5,g6,g7,hx]
    rw[show ((3:Int) - ((L+1:Nat):Int))=((3 - (L+1):Nat):Int) by omega]
    refine (power_calls _ (3 - (L+1)) om9).mono ?_
    rintro r τ ⟨rfl,rfl⟩
    simp -implicitDefEqProofs(disch:=omega)only[Nat.reduceEqDiff,↓reduceIte,vcu,↓vcd,opK_some,g0,g4,g5,g6,g7,hx,hpw]
    have hdle:st.2 / q≤st.2:=Nat.div_le_self _ _
    rw[←Int.natCast_ediv]
    refine (text_calls _ (st.2 / q) (L+1) om9 om9).mono ?_
    rintro r τ ⟨rfl,rfl⟩
    simp -implicitDefEqProofs(disch:=omega)only[Nat.reduceEqDiff,↓reduceIte,vcu,↓vcd,opK_some,g0,g4,g5,g6,g7]
    refine r_setX (g:=g) (i:=0+k) (v:=txV (st.2 / q) (L+1)) (by simp -implicitDefEqProofs(disch:=omega)only[Nat.reduceEqDiff,↓reduceIte,vcu,↓vcd,g4]) z9q co9 gk2 (by rw[hKf.1,hLf.1];omega) fun τ3 k3 e3=>?_
    rw[Nat.zero_add] at e3
    simp -implicitDefEqProofs(disch:=omega)only[Nat.reduceEqDiff,↓reduceIte,vcu,↓vcd,g0,g4,g5,g6,g7]
    rw[show ((3:Int) - ((L+1:Nat):Int))=((3 - (L+1):Nat):Int) by omega]
    refine (power_calls _ (3 - (L+1)) om9).mono ?_
    rintro r τ ⟨rfl,rfl⟩
    simp -implicitDefEqProofs(disch:=omega)only[Nat.reduceEqDiff,↓reduceIte,vcu,↓vcd,opK_some,g0,g4,g5,g6,g7,hpw]
    exact⟨⟨h0.symm,h4.symm,h6.symm,trivial⟩,m2 - 1,by omega,k+1,by omega,by simp,by rw[hKs];simp,kp2.trans k3,by rw[hKs];exact e3⟩
   ·rw[if_neg hxe] at hKs
    simp -implicitDefEqProofs(disch:=omega)only[Nat.reduceEqDiff,↓reduceIte,vcu,↓vcd,g0,g4,g5,g6,g7,hx]
    exact⟨⟨h0.symm,h4.symm,h6.symm,trivial⟩,m2 - 1,by omega,k+1,by omega,by simp,by rw[hKs],kp2,by rw[hKs];exact gk2⟩
  ·obtain rfl:k=xs.length:=by omega
   simp -implicitDefEqProofs(disch:=omega)only[Nat.reduceEqDiff,↓reduceIte,vcu,↓vcd,g0,g4,g5,g6,g7]
   exact⟨⟨trivial,trivial,trivial⟩,m - 1,by omega,L+1,by omega,by simp,rfl,kp2,gk2⟩
 ·obtain rfl:L=3:=by omega
  simp -implicitDefEqProofs(disch:=omega)only[Nat.reduceEqDiff,↓reduceIte,vcu,↓vcd,h0,h4,h5,h6]
  have hV:planV xs=(pfL xs 3).1:=if_pos hok
  refine fin_two Tryz.results70 ⟨.slice (some ⟨g,0,none⟩) xs.length 1,?_,hkp.sub hs hg,.inr ⟨g,by rw[hV,hLf.1],by rw[hV];exact hgk,hg⟩⟩
  simp -implicitDefEqProofs(disch:=omega)only[Nat.reduceEqDiff,↓reduceIte,vcu,↓vcd,h4]
  rw[decide_eq_true hok]
theorem planFor_calls (σ:AHeap) (v:Value) (xs:List Int) (hv:Ints .i64 σ v xs) (hl:xs.length≤1048576) :
  ACall Tryz.prog w0 70 [v] σ fun r σ'=>∃v,r=.tuple #[v,.bool (decide (pfOk xs))]∧Sub σ σ'∧OwnS σ σ' v (planV xs) :=
 ACall.ints_arg (pre:=[]) (post:=[]) kr9 hv fun σ1 h o hs1 hg=>(planFor_at σ1 h o xs hg hl).mono fun _ _ ⟨v,e,s,O⟩=>⟨v,e,hs1.trans s,O.older hs1⟩
end Go.Proofs.YtofdnmlpfagibaaGreatDoor
namespace Go.Proofs.YtofdnmlpfagibaaGreatDoor
open Go Go.Abs Go.RowKit
def shr:List Int→Int
 | []=>0
 | l :: ls=>4 ^ (3 - l).toNat+shr ls
theorem DgT.app {a b:List UInt8} (ha:DgT a) (hb:DgT b):DgT (a++b):=fun x hx=>(List.mem_append.1 hx).elim (ha x) (hb x)
theorem txV_dg:∀(n v:Nat),DgT (txV v n)
 | 0,_=>fun x hx=>by simp [txV] at hx
 | n+1,v=>(txV_dg n (v / 4)).app fun x hx=>by
  rw[List.mem_singleton] at hx
  subst hx
  have:v % 4 < 4:=Nat.mod_lt _ om9
  have e:(UInt8.ofNat (48+v % 4)).toNat=48+v % 4:=by rw[UInt8.toNat_ofNat'];omega
  rw[e];omega
theorem txV_take : ∀ (n m v : Nat), m ≤ n → (txV v n).take m = txV (v / 4 ^ (n - m)) m
  | 0, m, v, h => by obtain rfl : m = 0 := by omega
                     simp [txV]
  | n + 1, m, v, h => by
    by_cases e : m = n + 1
    · subst e
      rw [Nat.sub_self, Nat.pow_zero, Nat.div_one, List.take_of_length_le (by rw [txV_len]; exact Nat.le_refl _)]
    · rw [txV, List.take_append_of_le_length (by rw [txV_len]; omega), txV_take n m _ om9, Nat.div_div_eq_div_mul, show n + 1 - m = (n - m) + 1 by omega, Nat.pow_succ, Nat.mul_comm]
theorem txV_inj:∀(n v w:Nat),v < 4 ^ n→w < 4 ^ n→txV v n=txV w n→v=w
 | 0,v,w,hv,hw,_=>by simp at hv hw;omega
 | n+1,v,w,hv,hw,h=>by
  rw[Nat.pow_succ] at hv hw
  simp only[txV] at h
  obtain⟨h1,h2⟩:=List.append_inj' h rfl
  have ih:=txV_inj n (v / 4) (w / 4) om9 om9 h1
  have h3:UInt8.ofNat (48+v % 4)=UInt8.ofNat (48+w % 4):=by simpa using h2
  have h4:=congrArg UInt8.toNat h3
  rw[UInt8.toNat_ofNat',UInt8.toNat_ofNat'] at h4
  omega
theorem beg_tx {n m v w:Nat} (hm:m≤n) (hw:w < 4 ^ n) (hv:v < 4 ^ m):Beg (txV w n) (txV v m) ↔ w / 4 ^ (n - m)=v:=by
 unfold Beg
 rw[txV_len,txV_len,txV_take n m w hm]
 have hlt:w / 4 ^ (n - m) < 4 ^ m:=by
  apply Nat.div_lt_of_lt_mul
  rw[←Nat.pow_add,Nat.sub_add_cancel hm];exact hw
 exact⟨fun h=>txV_inj m _ _ hlt hv h.2,fun h=>⟨hm,by rw[h]⟩⟩
theorem lens_getD {ps:List (List UInt8)} (h:PlanOk ps) {k:Nat} (hk:k < ps.length):(lensV ps).getD k 0=(ps.getD k []).length:=by
 rw[lensV,if_pos h];simp [List.getD,hk]
theorem lens_length {ps:List (List UInt8)} (h:PlanOk ps):(lensV ps).length=ps.length:=by rw[lensV,if_pos h];simp
def sumN (f:Nat→Nat):Nat→Nat
 | 0=>0
 | n+1=>sumN f n+f n
theorem sumN_congr {f g:Nat→Nat}:∀n,(∀i,i < n→f i=g i)→sumN f n=sumN g n
 | 0,_=>rfl
 | n+1,h=>by rw[sumN,sumN,sumN_congr n fun i hi=>h i om9,h n om9]
theorem sumN_upd {f g:Nat→Nat} {k c:Nat}:∀n,k < n→(∀i,i < n→i≠k→g i=f i)→g k=f k+c→sumN g n=sumN f n+c
 | 0,h,_,_=>by omega
 | n+1,h,hne,hk=>by
  rw[sumN,sumN]
  by_cases e:k=n
  ·subst e
   rw[sumN_congr k fun i hi=>hne i om9 om9,hk];omega
  ·rw[sumN_upd n om9 (fun i hi hn=>hne i om9 hn) hk,hne n om9 om9];omega
def lnA (xs:List Int) (i:Nat):Nat:=(xs.getD i 0).toNat
def shA (xs:List Int) (i:Nat):Nat:=4 ^ (3 - lnA xs i)
theorem shA_pos (xs:List Int) (i:Nat):0 < shA xs i:=Nat.pos_of_ne_zero (by simp [shA])
theorem shS_sumN {xs:List Int} (h:LnOk xs):∀k,k≤xs.length→shS xs k=(sumN (shA xs) k:Int)
 | 0,_=>rfl
 | k+1,hk=>by
  have h1:=h.1 k om9
  rw[shS,shS_sumN h k om9,sumN,Int.natCast_add]
  congr 1
  unfold shA lnA pw
  rw[show (3 - xs.getD k 0).toNat=3 - (xs.getD k 0).toNat by omega]
  simp
def dn (xs:List Int) (L k i:Nat):Prop:=lnA xs i≤L∨(lnA xs i=L+1∧i < k)
instance (xs:List Int) (L k i:Nat):Decidable (dn xs L k i):=inferInstanceAs (Decidable (_∨_))
structure PfI (xs:List Int) (L k:Nat) (st:List (List UInt8) × Nat):Prop where
 len:st.1.length=xs.length
 sum:st.2=sumN (fun i=>if dn xs L k i then shA xs i else 0) xs.length
 ex:∃a:Nat→Nat,(∀i,i < xs.length→dn xs L k i→st.1.getD i []=txV (a i / shA xs i) (lnA xs i)∧shA xs i ∣ a i∧a i+shA xs i≤st.2) ∧
  ∀i j,i < xs.length→j < xs.length→dn xs L k i→dn xs L k j→i≠j→a i+shA xs i≤a j∨a j+shA xs j≤a i
theorem pfK_inv {xs:List Int} {L:Nat} (hL:L≤2) {st:List (List UInt8) × Nat} (h0:PfI xs L 0 st) (hd:4 ^ (2 - L) ∣ st.2):∀k,k≤xs.length→PfI xs L k (pfK xs (L+1) st k)∧4 ^ (2 - L) ∣ (pfK xs (L+1) st k).2
 | 0,_=>⟨h0,hd⟩
 | k+1,hk=>by
  obtain⟨ih,id⟩:=pfK_inv hL h0 hd k om9
  unfold pfK
  generalize pfK xs (L+1) st k=s at *
  have hpw:3 - (L+1)=2 - L:=by omega
  by_cases e:xs.getD k 0=((L+1:Nat):Int)
  ·rw[if_pos e]
   have hln:lnA xs k=L+1:=by unfold lnA;rw[e];rfl
   have hsh:shA xs k=4 ^ (2 - L):=by unfold shA;rw[hln,hpw]
   rw[hpw,←hsh]
   rw[←hsh] at id
   obtain⟨a,a1,a2⟩:=ih.ex
   have hdn:∀i,i≠k→(dn xs L (k+1) i ↔ dn xs L k i):=fun i hne=>by unfold dn;omega
   have hdk:¬ dn xs L k k:=by unfold dn;omega
   have hdk1:dn xs L (k+1) k:=.inr ⟨hln,by omega⟩
   refine⟨⟨by simpa using ih.len,?_,fun i=>if i=k then s.2 else a i,fun i hi hdi=>?_,fun i j hi hj hdi hdj hne=>?_⟩,?_⟩
   ·dsimp only
    rw[ih.sum]
    refine (sumN_upd (k:=k) xs.length om9 (fun i hi hne=>?_) ?_).symm
    ·by_cases hh:dn xs L k i
     ·rw[if_pos hh,if_pos ((hdn i hne).2 hh)]
     ·rw[if_neg hh,if_neg fun h2=>hh ((hdn i hne).1 h2)]
    ·rw[if_neg hdk,if_pos hdk1,Nat.zero_add]
   ·dsimp only
    by_cases hik:i=k
    ·subst hik
     rw[if_pos rfl]
     refine⟨?_,id,Nat.le_refl _⟩
     have:i < s.1.length:=by rw[ih.len];exact hi
     simp [List.getD,List.getElem?_set,this,hln]
    ·rw[if_neg hik]
     obtain⟨c1,c2,c3⟩:=a1 i hi ((hdn i hik).1 hdi)
     refine⟨?_,c2,by omega⟩
     rw[←c1]
     simp only[List.getD,List.getElem?_set,if_neg (show ¬ k=i by omega)]
   ·dsimp only
    by_cases hik:i=k
    ·subst hik
     have hjk:j≠i:=fun e=>hne e.symm
     have:=(a1 j hj ((hdn j hjk).1 hdj)).2.2
     rw[if_pos rfl,if_neg hjk]
     exact .inr this
    ·by_cases hjk:j=k
     ·subst hjk
      have:=(a1 i hi ((hdn i hik).1 hdi)).2.2
      rw[if_neg hik,if_pos rfl]
      exact .inl this
     ·rw[if_neg hik,if_neg hjk]
      exact a2 i j hi hj ((hdn i hik).1 hdi) ((hdn j hjk).1 hdj) hne
   ·exact Nat.dvd_add id (Nat.dvd_refl _)
  ·rw[if_neg e]
   refine⟨?_,id⟩
   have hne:lnA xs k≠L+1:=fun h=>e (by unfold lnA at h;omega)
   have hdn:∀i,dn xs L (k+1) i ↔ dn xs L k i:=fun i=>by
    by_cases h:i=k
    ·subst h;unfold dn;omega
    ·unfold dn;omega
   have hdf:dn xs L (k+1)=dn xs L k:=funext fun i=>propext (hdn i)
   refine⟨ih.len,?_,?_⟩
   ·rw[ih.sum]
    refine sumN_congr _ fun i _=>?_
    by_cases hh:dn xs L k i
    ·rw[if_pos hh,if_pos ((hdn i).2 hh)]
    ·rw[if_neg hh,if_neg fun h2=>hh ((hdn i).1 h2)]
   ·rw[hdf];exact ih.ex
theorem pfL_inv {xs:List Int} (h:LnOk xs):∀L,L≤3→PfI xs L 0 (pfL xs L)∧4 ^ (3 - L) ∣ (pfL xs L).2
 | 0,_=>by
  have hno:∀i,i < xs.length→¬ dn xs 0 0 i:=fun i hi=>by have:=h.1 i hi;unfold dn lnA;omega
  refine⟨⟨by simp [pfL],?_,fun _=>0,fun i hi hd=>absurd hd (hno i hi),fun i j hi hj hd=>absurd hd (hno i hi)⟩,⟨0,rfl⟩⟩
  rw[sumN_congr (g:=fun _=>0) _ fun i hi=>if_neg (hno i hi)]
  have:∀n,sumN (fun _=>0) n=0:=fun n=>by
   induction n with
   | zero=>rfl
   | succ n ih=>rw[sumN,ih]
  rw[this];rfl
 | L+1,hL=>by
  obtain⟨i1,i2⟩:=pfL_inv h L om9
  have hd:4 ^ (2 - L) ∣ (pfL xs L).2:=Nat.dvd_trans (Nat.pow_dvd_pow 4 om9) i2
  obtain⟨j1,j2⟩:=pfK_inv om9 i1 hd xs.length (Nat.le_refl _)
  refine⟨?_,by rw[show 3 - (L+1)=2 - L by omega];exact j2⟩
  have hdn:∀i,i < xs.length→(dn xs (L+1) 0 i ↔ dn xs L xs.length i):=fun i hi=>by unfold dn;omega
  refine⟨j1.len,?_,?_⟩
  ·show (pfK xs (L+1) (pfL xs L) xs.length).2=_
   rw[j1.sum]
   refine sumN_congr _ fun i hi=>?_
   by_cases hh:dn xs L xs.length i
   ·rw[if_pos hh,if_pos ((hdn i hi).2 hh)]
   ·rw[if_neg hh,if_neg fun h2=>hh ((hdn i hi).1 h2)]
  ·obtain⟨a,a1,a2⟩:=j1.ex
   exact⟨a,fun i hi hdi=>a1 i hi ((hdn i hi).1 hdi),fun i j hi hj hdi hdj=>a2 i j hi hj ((hdn i hi).1 hdi) ((hdn j hj).1 hdj)⟩
theorem planV_ok {xs:List Int} (h:pfOk xs):PlanOk (planV xs)∧(planV xs).length=xs.length∧lensV (planV xs)=xs:=by
 obtain⟨hl,hs⟩:=h
 have hV:planV xs=(pfL xs 3).1:=if_pos ⟨hl,hs⟩
 obtain⟨I,-⟩:=pfL_inv hl 3 (Nat.le_refl _)
 have hall:∀i,i < xs.length→dn xs 3 0 i:=fun i hi=>by have:=hl.1 i hi;unfold dn lnA;omega
 have hsum:(pfL xs 3).2≤64:=by
  have h1:=I.sum
  rw[sumN_congr (g:=shA xs) _ fun i hi=>if_pos (hall i hi)] at h1
  unfold shareV at hs
  rw[if_pos hl,shS_sumN hl _ (Nat.le_refl _)] at hs
  omega
 obtain⟨a,a1,a2⟩:=I.ex
 have hln:∀i,i < xs.length→1≤lnA xs i∧lnA xs i≤3:=fun i hi=>by have:=hl.1 i hi;unfold lnA;omega
 have hval:∀i,i < xs.length→a i / shA xs i < 4 ^ lnA xs i:=fun i hi=>by
  apply Nat.div_lt_of_lt_mul
  have h1:=hln i hi
  have e:shA xs i * 4 ^ lnA xs i=64:=by
   unfold shA
   rw[←Nat.pow_add,show 3 - lnA xs i+lnA xs i=3 by omega]
  rw[e]
  have:=(a1 i hi (hall i hi)).2.2
  have:=shA_pos xs i
  omega
 have hlen:∀i,i < xs.length→((planV xs).getD i []).length=lnA xs i:=fun i hi=>by rw[hV,(a1 i hi (hall i hi)).1,txV_len]
 have hll:(planV xs).length=xs.length:=by rw[hV,I.len]
 have hok:PlanOk (planV xs):=by
  refine⟨fun k hk=>?_,by rw[hll];exact hl.2⟩
  rw[hll] at hk
  refine⟨?_,by rw[hlen k hk];exact hln k hk,fun j hj hne hb=>?_⟩
  ·rw[hV,(a1 k hk (hall k hk)).1];exact txV_dg _ _
  ·rw[hll] at hj
   have hle:=hb.1
   rw[hlen k hk,hlen j hj] at hle
   rw[hV,(a1 k hk (hall k hk)).1,(a1 j hj (hall j hj)).1,beg_tx hle (hval k hk) (hval j hj),Nat.div_div_eq_div_mul] at hb
   have e:shA xs k * 4 ^ (lnA xs k - lnA xs j)=shA xs j:=by
    unfold shA
    have:=hln k hk
    rw[←Nat.pow_add];congr 1;omega
   rw[e] at hb
   obtain⟨c,hc⟩:=(a1 j hj (hall j hj)).2.1
   have hp:=shA_pos xs j
   have hpk:=shA_pos xs k
   have h1:a j / shA xs j=c:=by rw[hc];exact Nat.mul_div_cancel_left c hp
   rw[h1] at hb
   have h2:=Nat.div_add_mod (a k) (shA xs j)
   have h3:=Nat.mod_lt (a k) hp
   rw[hb] at h2
   rcases a2 k j hk hj (hall k hk) (hall j hj) (fun e=>hne e.symm) with h4|h4
   ·omega
   ·omega
 refine⟨hok,hll,?_⟩
 apply List.ext_getElem
 ·rw[lens_length hok,hll]
 ·intro i h1 h2
  have h3:=lens_getD hok (k:=i) (by rw[hll];exact h2)
  rw[hlen i h2] at h3
  have h4:=hl.1 i h2
  have h5:(xs.getD i 0)=xs[i]:=by simp [List.getD,h2]
  have h6:(lensV (planV xs)).getD i 0=(lensV (planV xs))[i]:=by simp [List.getD,h1]
  rw[←h5,←h6,h3]
  unfold lnA;omega
theorem fstN_none {p:Nat→Bool}:∀{m k i:Nat},fstN p k m=none→k≤i→i < k+m→p i=false
 | 0,k,i,_,h1,h2=>by omega
 | m+1,k,i,h,h1,h2=>by
  unfold fstN at h
  split at h
  ·cases h
  ·rename_i hp
   by_cases e:i=k
   ·subst e;simpa using hp
   ·exact fstN_none h om9 om9
end Go.Proofs.YtofdnmlpfagibaaGreatDoor
namespace Go.Clos
structure Sp where
 O:Int
 E:Int
 M:Int
deriving DecidableEq
def SV (s:Sp):Prop:=(1≤s.O∧s.O≤4)∧(1≤s.E∧s.E≤3)∧(1≤s.M∧s.M≤5)
instance (s:Sp):Decidable (SV s):=by unfold SV;infer_instance
def Rg (s:Sp) (c:Cl):Prop:=(0≤c.i∧c.i≤s.O * s.E - 1)∧(0≤c.o∧c.o≤s.O * s.E - 1)∧(0≤c.v∧c.v≤s.M - 1)
instance (s:Sp) (c:Cl):Decidable (Rg s c):=by unfold Rg;infer_instance
def Hit (s:Sp) (c d:Cl):Prop:=c.i=d.i∨c.o=d.o∨c.v=d.v∧(c.i / s.E=d.i / s.E∨c.o / s.E=d.o / s.E)
instance (s:Sp) (c d:Cl):Decidable (Hit s c d):=by unfold Hit;infer_instance
theorem Hit.symm {s:Sp} {c d:Cl} (h:Hit s c d):Hit s d c:=by
 rcases h with h|h |⟨h,g|g⟩
 ·exact .inl h.symm
 ·exact .inr (.inl h.symm)
 ·exact .inr (.inr ⟨h.symm,.inl g.symm⟩)
 ·exact .inr (.inr ⟨h.symm,.inr g.symm⟩)
def CV (s:Sp) (cs:List Cl):Prop:=SV s∧(∀c∈cs,Rg s c)∧cs.Pairwise fun d c=>¬ Hit s c d
instance (s:Sp) (cs:List Cl):Decidable (CV s cs):=by unfold CV;infer_instance
theorem CV_nil {s:Sp}:CV s [] ↔ SV s:=by simp [CV]
theorem CV_snoc {s:Sp} {cs:List Cl} {c:Cl}:CV s (cs++[c]) ↔ CV s cs∧Rg s c∧∀d∈cs,¬ Hit s c d:=by
 unfold CV
 simp only[List.mem_append,List.mem_singleton,List.pairwise_append,List.pairwise_cons,List.Pairwise.nil]
 constructor
 ·rintro ⟨h1,h2,h3,-,h4⟩
  exact⟨⟨h1,fun d hd=>h2 d (.inl hd),h3⟩,h2 c (.inr rfl),fun d hd=>h4 d hd c rfl⟩
 ·rintro ⟨⟨h1,h2,h3⟩,h4,h5⟩
  exact⟨h1,fun d hd=>hd.elim (h2 d) (fun e=>e ▸ h4),h3,⟨fun _ h=>absurd h (by simp),trivial⟩,fun d hd e he=>he ▸ h5 d hd⟩
theorem CV.sub {s:Sp} {cs ds:List Cl} (h:CV s cs) (hs:ds.Sublist cs):CV s ds:=⟨h.1,fun c hc=>h.2.1 c (hs.subset hc),h.2.2.sublist hs⟩
theorem CV.two {s:Sp} {cs:List Cl} (h:CV s cs) {k l:Nat} {c d:Cl} (hk:cs[k]?=some c) (hl:cs[l]?=some d) (hne:k≠l):¬ Hit s c d:=by
 obtain⟨hk1,rfl⟩:=List.getElem?_eq_some_iff.1 hk
 obtain⟨hl1,rfl⟩:=List.getElem?_eq_some_iff.1 hl
 have:=List.pairwise_iff_getElem.1 h.2.2
 rcases Nat.lt_or_ge k l with hlt|hge
 ·exact fun hh=>this k l hk1 hl1 hlt hh.symm
 ·exact fun hh=>this l k hl1 hk1 om9 hh
theorem CV.one {s:Sp} {cs:List Cl} (h:CV s cs) {k l:Nat} {c d:Cl} (hk:cs[k]?=some c) (hl:cs[l]?=some d) (hh:Hit s c d):k=l :=
 Classical.byContradiction fun hne=>h.two hk hl hne hh
theorem CV.of_index {s:Sp} {cs:List Cl} (h1:SV s) (h2:∀c∈cs,Rg s c) (h3:∀(k l:Nat) (c d:Cl),cs[k]?=some c→cs[l]?=some d→l < k→¬ Hit s c d):CV s cs:=by
 refine⟨h1,h2,List.pairwise_iff_getElem.2 fun i j hi hj hij=>?_⟩
 exact h3 j i _ _ (List.getElem?_eq_getElem hj) (List.getElem?_eq_getElem hi) hij
theorem sub_len {α:Type} [DecidableEq α]:∀{xs ys:List α},xs.Nodup→(∀x∈xs,x∈ys)→xs.length≤ys.length
 | [],ys,_,_=>Nat.zero_le _
 | x :: xs,ys,h,hs=>by
  rw[List.nodup_cons] at h
  have hx:x∈ys:=hs x (by simp)
  have:=sub_len (ys:=ys.erase x) h.2 fun y hy=>(List.mem_erase_of_ne (fun (e:y=x)=>h.1 (by rw[←e];exact hy))).2 (hs y (by simp [hy]))
  rw[List.length_erase_of_mem hx] at this
  have:=List.length_pos_of_mem hx
  simp only[List.length_cons];omega
def rng (n:Nat):List Int:=(List.range n).map fun (k:Nat)=>(k:Int)
theorem mem_rng {n:Nat} {x:Int}:x∈rng n ↔ 0≤x∧x < n:=by
 simp only[rng,List.mem_map,List.mem_range]
 constructor
 ·rintro ⟨k,h,rfl⟩;omega
 ·rintro ⟨h1,h2⟩;exact⟨x.toNat,by omega,by omega⟩
theorem rng_length (n:Nat):(rng n).length=n:=by simp [rng]
theorem rng_nodup (n:Nat):(rng n).Nodup:=by
 unfold rng
 rw[List.nodup_iff_pairwise_ne,List.pairwise_map]
 exact (List.nodup_iff_pairwise_ne.1 List.nodup_range).imp fun h e=>h om9
theorem rng_succ (n:Nat):rng (n+1)=rng n++[(n:Int)]:=by simp [rng,List.range_succ]
theorem pig {n:Nat} {lo:Int} {xs:List Int} (h:xs.Nodup) (hx:∀x∈xs,lo≤x∧x < lo+n):xs.length≤n:=by
 have:=sub_len (xs:=xs) (ys:=(rng n).map (lo+·)) h fun x hm=>List.mem_map.2 ⟨x - lo,mem_rng.2 (by have:=hx x hm;omega),by omega⟩
 simpa [rng] using this
theorem nodup_map {α:Type} {f:α→Int} {xs:List α} (h:xs.Pairwise fun d c=>f d≠f c):(xs.map f).Nodup:=by
 rw[List.nodup_iff_pairwise_ne,List.pairwise_map];exact h
section
variable {s:Sp} {cs:List Cl} (h:CV s cs)
include h
theorem CV.pw {P:Cl→Cl→Prop} (hp:∀c d,¬ Hit s c d→P d c):cs.Pairwise P:=h.2.2.imp fun {a b} hh=>hp b a hh
theorem CV.ins:(cs.map (·.i)).Nodup:=nodup_map (h.pw fun c d hh e=>hh (.inl e.symm))
theorem CV.outs:(cs.map (·.o)).Nodup:=nodup_map (h.pw fun c d hh e=>hh (.inr (.inl e.symm)))
theorem CV.len:cs.length≤12:=by
 have:=pig (lo:=0) (n:=(s.O * s.E).toNat) h.ins fun x hx=>by
  obtain⟨c,hc,rfl⟩:=List.mem_map.1 hx
  have:=(h.2.1 c hc).1
  omega
 rw[List.length_map] at this
 obtain⟨⟨o1,o2⟩,⟨e1,e2⟩,-⟩:=h.1
 have h12:s.O * s.E≤4 * 3:=Int.mul_le_mul o2 e2 om9 om9
 omega
theorem CV.from_ {i:Int} (hi:∀c∈cs,c.i≠i):(cs.filter fun c=>c.i / s.E=i / s.E).length+1≤s.E.toNat:=by
 obtain⟨⟨o1,o2⟩,⟨e1,e2⟩,-⟩:=h.1
 have hsub:(cs.filter fun c=>decide (c.i / s.E=i / s.E)).Sublist cs:=List.filter_sublist
 have hn:(i :: (cs.filter fun c=>decide (c.i / s.E=i / s.E)).map (·.i)).Nodup:=by
  rw[List.nodup_cons]
  refine⟨fun hm=>?_,(h.sub hsub).ins⟩
  obtain⟨c,hc,e⟩:=List.mem_map.1 hm
  exact hi c (hsub.subset hc) e
 have:=pig (lo:=i / s.E * s.E) (n:=s.E.toNat) hn fun x hx=>by
  have key:∀y:Int,y / s.E=i / s.E→i / s.E * s.E≤y∧y < i / s.E * s.E+s.E.toNat:=fun y e=>by
   rw[←e]
   have h1:=Int.emod_nonneg y (show s.E≠0 by omega)
   have h2:=Int.emod_lt_of_pos y (show 0 < s.E by omega)
   have h3:=Int.mul_ediv_add_emod y s.E
   rw[Int.mul_comm] at h3
   omega
  rcases List.mem_cons.1 hx with rfl|hx
  ·exact key _ rfl
  ·obtain⟨c,hc,rfl⟩:=List.mem_map.1 hx
   exact key _ (by simpa using (List.mem_filter.1 hc).2)
 simpa using this
theorem CV.to_ {o:Int} (ho:∀c∈cs,c.o≠o):(cs.filter fun c=>c.o / s.E=o / s.E).length+1≤s.E.toNat:=by
 obtain⟨⟨o1,o2⟩,⟨e1,e2⟩,-⟩:=h.1
 have hsub:(cs.filter fun c=>decide (c.o / s.E=o / s.E)).Sublist cs:=List.filter_sublist
 have hn:(o :: (cs.filter fun c=>decide (c.o / s.E=o / s.E)).map (·.o)).Nodup:=by
  rw[List.nodup_cons]
  refine⟨fun hm=>?_,(h.sub hsub).outs⟩
  obtain⟨c,hc,e⟩:=List.mem_map.1 hm
  exact ho c (hsub.subset hc) e
 have:=pig (lo:=o / s.E * s.E) (n:=s.E.toNat) hn fun x hx=>by
  have key:∀y:Int,y / s.E=o / s.E→o / s.E * s.E≤y∧y < o / s.E * s.E+s.E.toNat:=fun y e=>by
   rw[←e]
   have h1:=Int.emod_nonneg y (show s.E≠0 by omega)
   have h2:=Int.emod_lt_of_pos y (show 0 < s.E by omega)
   have h3:=Int.mul_ediv_add_emod y s.E
   rw[Int.mul_comm] at h3
   omega
  rcases List.mem_cons.1 hx with rfl|hx
  ·exact key _ rfl
  ·obtain⟨c,hc,rfl⟩:=List.mem_map.1 hx
   exact key _ (by simpa using (List.mem_filter.1 hc).2)
 simpa using this
end
def usedI (s:Sp) (cs:List Cl) (x:Int):List Int:=(cs.filter fun c=>c.i / s.E=x).map (·.v)
def usedO (s:Sp) (cs:List Cl) (x:Int):List Int:=(cs.filter fun c=>c.o / s.E=x).map (·.v)
theorem mem_usedI {s:Sp} {cs:List Cl} {x v:Int}:v∈usedI s cs x ↔ ∃c∈cs,c.i / s.E=x∧c.v=v:=by
 unfold usedI
 simp only[List.mem_map,List.mem_filter,decide_eq_true_eq]
 exact⟨fun⟨c,⟨a,b⟩,d⟩=>⟨c,a,b,d⟩,fun⟨c,a,b,d⟩=>⟨c,⟨a,b⟩,d⟩⟩
theorem mem_usedO {s:Sp} {cs:List Cl} {x v:Int}:v∈usedO s cs x ↔ ∃c∈cs,c.o / s.E=x∧c.v=v:=by
 unfold usedO
 simp only[List.mem_map,List.mem_filter,decide_eq_true_eq]
 exact⟨fun⟨c,⟨a,b⟩,d⟩=>⟨c,a,b,d⟩,fun⟨c,a,b,d⟩=>⟨c,⟨a,b⟩,d⟩⟩
def firstN (used:List Int):Nat→Nat→Int
 | 0,_=>-1
 | n+1,k=>if (k:Int)∈used then firstN used n (k+1) else k
theorem firstN_cases (used:List Int):∀n k:Nat,(firstN used n k=-1∧∀j,k≤j→j < k+n→(j:Int)∈used)∨∃j:Nat,firstN used n k=j∧k≤j∧j < k+n∧(j:Int) ∉ used
 | 0,k=>.inl ⟨rfl,fun j h1 h2=>absurd h2 om9⟩
 | n+1,k=>by
  unfold firstN
  by_cases h:(k:Int)∈used
  ·rw[if_pos h]
   rcases firstN_cases used n (k+1) with ⟨e,hj⟩ |⟨j,e,h1,h2,h3⟩
   ·refine .inl ⟨e,fun j h1 h2=>?_⟩
    rcases Nat.eq_or_lt_of_le h1 with rfl|h1
    ·exact h
    ·exact hj j om9 om9
   ·exact .inr ⟨j,e,by omega,by omega,h3⟩
  ·rw[if_neg h];exact .inr ⟨k,rfl,by omega,by omega,h⟩
theorem firstN_some {used:List Int} {n:Nat} (h:used.length < n):∃j:Nat,firstN used n 0=j∧j < n∧(j:Int) ∉ used:=by
 rcases firstN_cases used n 0 with ⟨-,hj⟩ |⟨j,e,-,h2,h3⟩
 ·exfalso
  have:=sub_len (xs:=rng n) (ys:=used) (rng_nodup n) fun x hx=>by
   obtain⟨a,b⟩:=mem_rng.1 hx
   have:=hj x.toNat om9 om9
   rwa [Int.toNat_of_nonneg a] at this
  rw[rng_length] at this
  omega
 ·exact⟨j,e,by omega,h3⟩
def Free (s:Sp) (cs:List Cl) (i o v:Int):Prop:=CV s (cs++[⟨i,o,v⟩])
instance (s:Sp) (cs:List Cl) (i o v:Int):Decidable (Free s cs i o v):=by unfold Free;infer_instance
def Busy (cs:List Cl) (i o:Int):Prop:=∃c∈cs,c.i=i∨c.o=o
instance (cs:List Cl) (i o:Int):Decidable (Busy cs i o):=by unfold Busy;infer_instance
def Lines (s:Sp) (i o:Int):Prop:=(0≤i∧i≤s.O * s.E - 1)∧(0≤o∧o≤s.O * s.E - 1)
instance (s:Sp) (i o:Int):Decidable (Lines s i o):=by unfold Lines;infer_instance
theorem Free.lines {s:Sp} {cs:List Cl} {i o v:Int} (h:Free s cs i o v):CV s cs∧Lines s i o∧¬ Busy cs i o∧0≤v∧v≤s.M - 1:=by
 obtain⟨a,⟨b,c,d⟩,e⟩:=CV_snoc.1 h
 refine⟨a,⟨b,c⟩,?_,d⟩
 rintro ⟨x,hx,h1|h1⟩
 ·exact e x hx (.inl h1.symm)
 ·exact e x hx (.inr (.inl h1.symm))
theorem free_iff {s:Sp} {cs:List Cl} {i o v:Int} (h:CV s cs) (hl:Lines s i o) (hb:¬ Busy cs i o) (hv:0≤v∧v≤s.M - 1):Free s cs i o v ↔ v ∉ usedI s cs (i / s.E)∧v ∉ usedO s cs (o / s.E):=by
 unfold Free
 rw[CV_snoc,mem_usedI,mem_usedO]
 constructor
 ·rintro ⟨-,-,e⟩
  exact⟨fun⟨c,hc,a,b⟩=>e c hc (.inr (.inr ⟨b.symm,.inl a.symm⟩)),fun⟨c,hc,a,b⟩=>e c hc (.inr (.inr ⟨b.symm,.inr a.symm⟩))⟩
 ·rintro ⟨n1,n2⟩
  refine⟨h,⟨hl.1,hl.2,hv⟩,fun d hd hh=>?_⟩
  rcases hh with e|e |⟨e,e2|e2⟩
  ·exact hb ⟨d,hd,.inl e.symm⟩
  ·exact hb ⟨d,hd,.inr e.symm⟩
  ·exact n1 ⟨d,hd,e2.symm,e.symm⟩
  ·exact n2 ⟨d,hd,e2.symm,e.symm⟩
def freeL (s:Sp) (cs:List Cl) (i o:Int) (n:Nat):List Int:=(rng n).filter fun v=>Free s cs i o v
theorem freeL_succ (s:Sp) (cs:List Cl) (i o:Int) (n:Nat):freeL s cs i o (n+1)=freeL s cs i o n++(if Free s cs i o n then [(n:Int)] else []):=by
 unfold freeL
 rw[rng_succ,List.filter_append]
 congr 1
 by_cases h:Free s cs i o n<;>simp [h]
def freeV (s:Sp) (cs:List Cl) (i o:Int):List Int:=freeL s cs i o s.M.toNat
theorem mem_freeV {s:Sp} {cs:List Cl} {i o v:Int}:v∈freeV s cs i o ↔ Free s cs i o v:=by
 unfold freeV freeL
 rw[List.mem_filter,mem_rng,decide_eq_true_eq]
 exact⟨fun h=>h.2,fun h=>⟨by have:=h.lines.2.2.2;omega,h⟩⟩
theorem freeV_no {s:Sp} {cs:List Cl} {i o:Int} (h:¬ (CV s cs∧Lines s i o∧¬ Busy cs i o)):freeV s cs i o=[] :=
 List.eq_nil_iff_forall_not_mem.2 fun v hv=>h (by have:=(mem_freeV.1 hv).lines;exact⟨this.1,this.2.1,this.2.2.1⟩)
def Enough (s:Sp):Prop:=SV s∧s.E≤s.M
instance (s:Sp):Decidable (Enough s):=by unfold Enough;infer_instance
theorem not_busyI {cs:List Cl} {i o:Int} (h:¬ Busy cs i o):∀c∈cs,c.i≠i:=fun c hc e=>h ⟨c,hc,.inl e⟩
theorem not_busyO {cs:List Cl} {i o:Int} (h:¬ Busy cs i o):∀c∈cs,c.o≠o:=fun c hc e=>h ⟨c,hc,.inr e⟩
theorem SV.lines {s:Sp} (h:SV s):1≤s.O * s.E∧s.O * s.E≤12:=by
 obtain⟨⟨o1,o2⟩,⟨e1,e2⟩,-⟩:=h
 have h12:s.O * s.E≤4 * 3:=Int.mul_le_mul o2 e2 om9 om9
 have h1:1 * 1≤s.O * s.E:=Int.mul_le_mul o1 e1 om9 om9
 omega
def Nng (c:Cl):Prop:=(0≤c.i∧c.i≤1000)∧(0≤c.o∧c.o≤1000)
theorem Rg.nng {s:Sp} {c:Cl} (hS:SV s) (h:Rg s c):Nng c:=by
 have:=hS.lines
 obtain⟨h1,h2,-⟩:=h
 exact⟨⟨h1.1,by omega⟩,h2.1,by omega⟩
end Go.Clos
