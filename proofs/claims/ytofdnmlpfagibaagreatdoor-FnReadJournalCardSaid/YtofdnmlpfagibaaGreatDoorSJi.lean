/- Parts. -/
import Derived.Test.YtofdnmlpfagibaaGreatDoorSJh
import Derived.Test.YtofdnmlpfagibaaGreatDoorCards
import Derived.Test.YtofdnmlpfagibaaGreatDoorTie
import Derived.Deep.DeepHandedRow
import Derived.SevenTiedAt
import Derived.LaidMore
import Derived.MakeChecks
import Derived.Stop.LaidErr
import Derived.Stop.Joined
set_option linter.unusedSimpArgs false
set_option linter.unusedVariables false
set_option linter.unusedSectionVars false
namespace Go.Proofs.YtofdnmlpfagibaaGreatDoor
open Go Go.Abs Go.RowKit Go.Dial Go.Clos
theorem glob_m {W:World} (h:W.ShapedOpen Tryz.prog):GlobM W:=⟨Tryz.laysM145.s1_3 W h⟩
def starT : String := match (Rows.laid_strconv_ErrSyntax : DataW Unit) with
 | .iface t _ => t
 | _ => ""
theorem row_err (u : TypeId) (h : Tryz.prog.typeName? 3 u = some starT) : u = 177 :=
 typeName_ptr_named (nm := "errors.errorString") (by simp only [String.reduceAppend]; kernel_rfl) (by kernel_rfl) (by decide) u (by simp only [String.reduceAppend]; exact h)
theorem cells_err:Tryz.prog.cellsOf 179=1:=by kernel_rfl
theorem cells_str:Tryz.prog.cellsOf 9=1:=by kernel_rfl
theorem type_errS:(Tryz.prog.globals[Tryz.laysC172_ren.g 15]?).map (·.type)=some 82:=by kernel_rfl
theorem type_errR:(Tryz.prog.globals[Tryz.laysC172_ren.g 16]?).map (·.type)=some 82:=by kernel_rfl
theorem glob_e {W : World} {a b c : String × DataW Unit} (h : laidMet Tryz.prog [a, b, c, ("strconv.ErrRange", Rows.laid_strconv_ErrRange), ("strconv.ErrSyntax", Rows.laid_strconv_ErrSyntax)] W) : GlobE W := by
 have h3:=h.tail.tail.tail
 obtain⟨a0,s0,hv0,-,-,-⟩:=laid_sentinel h3 Tryz.laysC172.m16 type_errR Tryz.underlying82 row_err Tryz.underlying177 Tryz.underlying179 rfl rfl Tryz.underlying9 cells_err cells_str
 obtain⟨a1,s1,hv1,-,-,-⟩:=laid_sentinel h3.tail Tryz.laysC172.m15 type_errS Tryz.underlying82 row_err Tryz.underlying177 Tryz.underlying179 rfl rfl Tryz.underlying9 cells_err cells_str
 exact⟨⟨_,_,hv1⟩,⟨_,_,hv0⟩⟩
theorem isTrue_looks:true=Tryz.pinned.checked.prog.looks []:=by kernel_rfl
end Go.Proofs.YtofdnmlpfagibaaGreatDoor
namespace Go.Proofs.YtofdnmlpfagibaaGreatDoor
open Go Go.Abs Go.RowKit Go.Dial Go.Clos
variable {w0:World}
theorem type_tab:(Tryz.prog.globals[Tryz.laysM171_ren.g 17]?).map (·.type)=some 173:=by kernel_rfl
theorem glob_t {W : World} {a b d e : String × DataW Unit} (h : laidMet Tryz.prog [a, b, ((Rows.fnReadJournalRow.laid.map (·.1)).getD 2 "", Rows.laid_internal_strconv_uint64pow10), d, e] W) : GlobT W :=
 ⟨Lib.tabIs_of_head (k:=.u64) (zs:=Lib.pow10Tab) Tryz.laysM171.m17 type_tab Tryz.underlying173 Tryz.underlying155 kr9 kr9 h.tail.tail⟩
set_option maxRecDepth 8000 in
theorem implEL_calls [hT:GlobT w0] [hG:GlobE w0] [hM:GlobM w0] (σ:AHeap) (v:Value) (e:Ex) (t:List UInt8) (hv:ExV σ v e) (hb:ExB e) (hl:t.length≤1048576):ACall Tryz.prog w0 12 [v,.string (tx t)] σ fun r σ'=>∃w,r=.tuple #[w,.string (tx (exLine e t).2)]∧Sub σ σ'∧OwnX σ σ' w (exLine e t).1:=by
 have hv0:=hv
 obtain⟨v1,v2,rfl,t1,t2⟩:=hv
 unfold exV
 refine acall_goc mixed Tryz.func12 rfl goodc12 fun pr=>?_
 simp -implicitDefEqProofs(disch:=omega)only[Nat.reduceEqDiff,↓reduceIte,vcu,↓vcd]
 refine r_boxed fun b τ1 nb s1 eb=>?_
 replace eb:τ1 b=some ⟨[.int .i64 e.s.O,.int .i64 e.s.E,.int .i64 e.s.M,v1,v2],false⟩:=eb
 refine r_new ze33 fun h4 τ3 n4 s3 e4=>?_
 replace e4:τ3 h4=some ⟨[.int .i64 0,.int .i64 0,.int .i64 0,.slice none 0 0,.slice none 0 0],false⟩:=e4
 replace eb:=s3 _ _ eb
 have S3:Sub σ τ3:=s1.trans s3
 have z4:σ h4=none:=free_sub s1 n4
 have hX3:=hv0.sub S3
 have x5:lds τ3 b 0 5=some [.int .i64 e.s.O,.int .i64 e.s.E,.int .i64 e.s.M,v1,v2]:=by rw[lds_of eb (by simp)];rfl
 have hval:=implEV_calls (w0:=w0) τ3 _ e hX3 hb
 have hpar:=partsOf_calls (w0:=w0) τ3 _ e hX3 hb
 unfold exV at hval hpar
 simp -implicitDefEqProofs(disch:=omega)only[Nat.reduceEqDiff,↓reduceIte,vcu,↓vcd,x5,co33]
 refine hval.mono ?_
 rintro _ _ ⟨rfl,rfl⟩
 rename_i τ3
 by_cases hok:ExOk e
 case neg =>
  rw[decide_eq_false hok]
  have hx:exLine e t=(ex0,[]):=if_neg hok
  simp -implicitDefEqProofs(disch:=omega)only[Nat.reduceEqDiff,↓reduceIte,vcu,↓vcd,opK_some,Bool.not_false]
  rw[r_build]
  refine⟨(_,#[.int .i64 0,.int .i64 0,.int .i64 0,.slice none 0 0,.slice none 0 0]),⟨ze33,by first|kernel_rfl | (simp -implicitDefEqProofs(disch:=omega)only[Nat.reduceEqDiff,↓reduceIte,vcu,↓vcd];kernel_rfl)⟩,?_⟩
  simp -implicitDefEqProofs(disch:=omega)only[Nat.reduceEqDiff,↓reduceIte,vcu,↓vcd]
  refine r_sets (g:=h4) (i:=0) (C:=[.int .i64 0,.int .i64 0,.int .i64 0,.slice none 0 0,.slice none 0 0]) z9q z9co33 z9r z9z e4 z9l fun T9 k9 e9=>?_
  replace e9:T9 h4=some ⟨[.int .i64 0,.int .i64 0,.int .i64 0,.slice none 0 0,.slice none 0 0],false⟩:=e9
  have l9:lds T9 h4 0 5=some [.int .i64 0,.int .i64 0,.int .i64 0,.slice none 0 0,.slice none 0 0]:=by rw[lds_of e9 (by simp)];rfl
  simp -implicitDefEqProofs(disch:=omega)only[Nat.reduceEqDiff,↓reduceIte,vcu,↓vcd]
  refine fin_ct8 Tryz.results12 T9 (Sub.refl _) (v:=exV (.slice none 0 0) (.slice none 0 0) ex0) (by simp -implicitDefEqProofs(disch:=omega)only[Nat.reduceEqDiff,↓reduceIte,vcu,↓vcd,l9,co33];rfl) ⟨exV (.slice none 0 0) (.slice none 0 0) ex0,?_,k9.sub S3 z4,?_⟩
  ·simp -implicitDefEqProofs(disch:=omega)only[Nat.reduceEqDiff,↓reduceIte,vcu,↓vcd]
   rw[hx]
  ·rw[hx]
   exact⟨_,_,rfl,.inl ⟨rfl,rfl⟩,.inl ⟨rfl,rfl⟩⟩
 rw[decide_eq_true hok,show exLine e t=lineX e t from if_pos hok]
 simp -implicitDefEqProofs(disch:=omega)only[Nat.reduceEqDiff,↓reduceIte,vcu,↓vcd,opK_some,Bool.not_true,x5,co33]
 refine hpar.mono ?_
 rintro _ τ4 ⟨h,rfl,hp⟩
 have hdo:=answer_calls (w0:=w0) τ3 τ4 h e t hp hok hl
 generalize (lineX e t).2=bo at hdo
 generalize (lineX e t).1=y at hdo
 simp -implicitDefEqProofs(disch:=omega)only[Nat.reduceEqDiff,↓reduceIte,vcu,↓vcd,opK_some]
 refine hdo.mono ?_
 rintro _ τ5 ⟨rfl,hB5,hn5,vp,vc,hh5,ow,oc⟩
 have hox:=Pt.ownX S3 ow oc
 have hone:=exC_one hox
 simp -implicitDefEqProofs(disch:=omega)only[Nat.reduceEqDiff,↓reduceIte,vcu,↓vcd,opK_some]
 refine (whole_calls τ5 h y vp vc hh5 (texts_slc ow.texts) (tris_slc oc.tris)).mono ?_
 rintro _ _ ⟨rfl,rfl⟩
 rename_i τ5
 unfold exV
 simp -implicitDefEqProofs(disch:=omega)only[Nat.reduceEqDiff,↓reduceIte,vcu,↓vcd,opK_some]
 refine r_sets (g:=h4) (i:=0) (C:=[.int .i64 0,.int .i64 0,.int .i64 0,.slice none 0 0,.slice none 0 0]) z9q z9co33 (by simp -implicitDefEqProofs(disch:=omega)only[Nat.reduceEqDiff,↓reduceIte,vcu,↓vcd];exact hone) z9z (hB5 _ _ e4) z9l fun T9 k9 e9=>?_
 replace e9:T9 h4=some ⟨exC vp vc y,false⟩:=e9
 have l9:lds T9 h4 0 5=some [.int .i64 y.s.O,.int .i64 y.s.E,.int .i64 y.s.M,vp,vc]:=by rw[lds_of e9 (by simp [exC])];rfl
 have h4h:h4≠h:=by rintro rfl;rw[e4] at hn5;cases hn5
 have hb4:Bs τ3 h h h4=some ⟨[.int .i64 0,.int .i64 0,.int .i64 0,.slice none 0 0,.slice none 0 0],false⟩:=by unfold Bs;rw[AHeap.upd_ne _ _ h4h,AHeap.upd_ne _ _ h4h];exact e4
 simp -implicitDefEqProofs(disch:=omega)only[Nat.reduceEqDiff,↓reduceIte,vcu,↓vcd]
 refine fin_ct8 Tryz.results12 T9 (Sub.refl _) (v:=exV vp vc y) (by simp -implicitDefEqProofs(disch:=omega)only[Nat.reduceEqDiff,↓reduceIte,vcu,↓vcd,l9,co33];rfl) ⟨exV vp vc y,?_,k9.sub (S3.trans hB5) z4,Pt.ownX S3 (ow.kept k9 hb4) (oc.kept k9 hb4)⟩
 simp -implicitDefEqProofs(disch:=omega)only[Nat.reduceEqDiff,↓reduceIte,vcu,↓vcd]
end Go.Proofs.YtofdnmlpfagibaaGreatDoor
namespace Go.Proofs.YtofdnmlpfagibaaGreatDoor
open Go Go.Abs Go.RowKit Go.Dial Go.Clos
variable {w0:World} [GlobE w0] [GlobM w0]
theorem exR_nil {σ:AHeap} {v1 v2:Value} {e:Ex} (h1:Texts σ v1 e.ps) (h2:Tris σ v2 e.cs):ExR σ [] v1 v2 e:=by
 have h:Sub σ (lessL σ []):=fun k ob e=>by rw[lessL_at (by simp)];exact e
 exact⟨h1.sub h,h2.sub h⟩
theorem implRJ_row (σ:AHeap) (s:List UInt8) (hl:s.length≤1048576):ACall Tryz.prog w0 7 [.string (tx s)] σ fun r σ'=>∃q,r=.tuple #[.slice (some ⟨q,0,none⟩) (rj [] s).1.length 3,.int .i64 ((rj [] s).2:Int)]∧Sub σ σ'∧σ' q=some ⟨dds (rj [] s).1,false⟩:=by
 refine ACall.namedU (z:=3) (implRJ_calls σ s hl) ?_
 rintro r σ' ⟨v,rfl,hs,⟨rfl,hn⟩ |⟨q,rfl,hq,-⟩⟩
 ·exact .inr ⟨[],[_],rfl,fun g hg=>⟨g,by rw[hn];rfl,hs.trans (sub_upd hg),by rw[hn];exact AHeap.upd_same _ _ _⟩⟩
 ·exact .inl ⟨q,rfl,hs,hq⟩
end Go.Proofs.YtofdnmlpfagibaaGreatDoor
