/- Parts. -/
import Derived.Test.YtofdnmlpfagibaaGreatDoorSFi
import Derived.Test.YtofdnmlpfagibaaGreatDoorCards
import Derived.Test.YtofdnmlpfagibaaGreatDoorTie
import Derived.Deep.DeepHandedRow
import Derived.SevenTiedAt
import Derived.LaidMore
import Derived.MakeChecks
import Derived.Stop.LaidErr
import Derived.Stop.Joined
set_option linter.unusedSimpArgs false
set_option linter.unusedVariables false
set_option linter.unusedSectionVars false
namespace Go.Proofs.YtofdnmlpfagibaaGreatDoor
open Go Go.Abs Go.RowKit Go.Dial Go.Clos
theorem glob_m {W:World} (h:W.ShapedOpen Tryz.prog):GlobM W:=⟨Tryz.laysM145.s1_3 W h⟩
def starT : String := match (Rows.laid_strconv_ErrSyntax : DataW Unit) with
 | .iface t _ => t
 | _ => ""
theorem row_err (u : TypeId) (h : Tryz.prog.typeName? 3 u = some starT) : u = 177 :=
 typeName_ptr_named (nm := "errors.errorString") (by simp only [String.reduceAppend]; kernel_rfl) (by kernel_rfl) (by decide) u (by simp only [String.reduceAppend]; exact h)
theorem cells_err:Tryz.prog.cellsOf 179=1:=by kernel_rfl
theorem cells_str:Tryz.prog.cellsOf 9=1:=by kernel_rfl
theorem type_errS:(Tryz.prog.globals[Tryz.laysC172_ren.g 15]?).map (·.type)=some 82:=by kernel_rfl
theorem type_errR:(Tryz.prog.globals[Tryz.laysC172_ren.g 16]?).map (·.type)=some 82:=by kernel_rfl
theorem glob_e {W : World} {a b c : String × DataW Unit} (h : laidMet Tryz.prog [a, b, c, ("strconv.ErrRange", Rows.laid_strconv_ErrRange), ("strconv.ErrSyntax", Rows.laid_strconv_ErrSyntax)] W) : GlobE W := by
 have h3:=h.tail.tail.tail
 obtain⟨a0,s0,hv0,-,-,-⟩:=laid_sentinel h3 Tryz.laysC172.m16 type_errR Tryz.underlying82 row_err Tryz.underlying177 Tryz.underlying179 rfl rfl Tryz.underlying9 cells_err cells_str
 obtain⟨a1,s1,hv1,-,-,-⟩:=laid_sentinel h3.tail Tryz.laysC172.m15 type_errS Tryz.underlying82 row_err Tryz.underlying177 Tryz.underlying179 rfl rfl Tryz.underlying9 cells_err cells_str
 exact⟨⟨_,_,hv1⟩,⟨_,_,hv0⟩⟩
theorem isTrue_looks:true=Tryz.pinned.checked.prog.looks []:=by kernel_rfl
end Go.Proofs.YtofdnmlpfagibaaGreatDoor
namespace Go.Proofs.YtofdnmlpfagibaaGreatDoor
open Go Go.Abs Go.RowKit Go.Dial Go.Clos
variable {w0:World}
theorem type_tab:(Tryz.prog.globals[Tryz.laysM171_ren.g 17]?).map (·.type)=some 173:=by kernel_rfl
theorem glob_t {W : World} {a b d e : String × DataW Unit} (h : laidMet Tryz.prog [a, b, ((Rows.fnReadJournalRow.laid.map (·.1)).getD 2 "", Rows.laid_internal_strconv_uint64pow10), d, e] W) : GlobT W :=
 ⟨Lib.tabIs_of_head (k:=.u64) (zs:=Lib.pow10Tab) Tryz.laysM171.m17 type_tab Tryz.underlying173 Tryz.underlying155 kr9 kr9 h.tail.tail⟩
set_option maxRecDepth 8000 in
theorem implEL_calls [hT:GlobT w0] [hG:GlobE w0] [hM:GlobM w0] (σ:AHeap) (v:Value) (e:Ex) (t:List UInt8) (hv:ExV σ v e) (hb:ExB e) (hl:t.length≤1048576):ACall Tryz.prog w0 12 [v,.string (tx t)] σ fun r σ'=>∃w,r=.tuple #[w,.string (tx (exLine e t).2)]∧Sub σ σ'∧OwnX σ σ' w (exLine e t).1:=by
 have hv0:=hv
 obtain⟨v1,v2,rfl,t1,t2⟩:=hv
 unfold exV
 refine acall_goc mixed Tryz.func12 rfl goodc12 fun pr=>?_
 simp -implicitDefEqProofs(disch:=omega)only[Nat.reduceEqDiff,↓reduceIte,vcu,↓vcd]
 refine r_boxed fun b τ1 nb s1 eb=>?_
 replace eb:τ1 b=some ⟨[.int .i64 e.s.O,.int .i64 e.s.E,.int .i64 e.s.M,v1,v2],false⟩:=eb
 refine r_new ze33 fun h4 τ3 n4 s3 e4=>?_
 replace e4:τ3 h4=some ⟨[.int .i64 0,.int .i64 0,.int .i64 0,.slice none 0 0,.slice none 0 0],false⟩:=e4
 replace eb:=s3 _ _ eb
 have S3:Sub σ τ3:=s1.trans s3
 have z4:σ h4=none:=free_sub s1 n4
 have hX3:=hv0.sub S3
 have x5:lds τ3 b 0 5=some [.int .i64 e.s.O,.int .i64 e.s.E,.int .i64 e.s.M,v1,v2]:=by rw[lds_of eb (by simp)];rfl
 have hval:=implEV_calls (w0:=w0) τ3 _ e hX3 hb
 have hpar:=partsOf_calls (w0:=w0) τ3 _ e hX3 hb
 unfold exV at hval hpar
 simp -implicitDefEqProofs(disch:=omega)only[Nat.reduceEqDiff,↓reduceIte,vcu,↓vcd,x5,co33]
 refine hval.mono ?_
 rintro _ _ ⟨rfl,rfl⟩
 rename_i τ3
 by_cases hok:ExOk e
 case neg =>
  rw[decide_eq_false hok]
  have hx:exLine e t=(ex0,[]):=if_neg hok
  simp -implicitDefEqProofs(disch:=omega)only[Nat.reduceEqDiff,↓reduceIte,vcu,↓vcd,opK_some,Bool.not_false]
  rw[r_build]
  refine⟨(_,#[.int .i64 0,.int .i64 0,.int .i64 0,.slice none 0 0,.slice none 0 0]),⟨ze33,by first|kernel_rfl | (simp -implicitDefEqProofs(disch:=omega)only[Nat.reduceEqDiff,↓reduceIte,vcu,↓vcd];kernel_rfl)⟩,?_⟩
  simp -implicitDefEqProofs(disch:=omega)only[Nat.reduceEqDiff,↓reduceIte,vcu,↓vcd]
  refine r_sets (g:=h4) (i:=0) (C:=[.int .i64 0,.int .i64 0,.int .i64 0,.slice none 0 0,.slice none 0 0]) z9q z9co33 z9r z9z e4 z9l fun T9 k9 e9=>?_
  replace e9:T9 h4=some ⟨[.int .i64 0,.int .i64 0,.int .i64 0,.slice none 0 0,.slice none 0 0],false⟩:=e9
  have l9:lds T9 h4 0 5=some [.int .i64 0,.int .i64 0,.int .i64 0,.slice none 0 0,.slice none 0 0]:=by rw[lds_of e9 (by simp)];rfl
  simp -implicitDefEqProofs(disch:=omega)only[Nat.reduceEqDiff,↓reduceIte,vcu,↓vcd]
  refine fin_ct8 Tryz.results12 T9 (Sub.refl _) (v:=exV (.slice none 0 0) (.slice none 0 0) ex0) (by simp -implicitDefEqProofs(disch:=omega)only[Nat.reduceEqDiff,↓reduceIte,vcu,↓vcd,l9,co33];rfl) ⟨exV (.slice none 0 0) (.slice none 0 0) ex0,?_,k9.sub S3 z4,?_⟩
  ·simp -implicitDefEqProofs(disch:=omega)only[Nat.reduceEqDiff,↓reduceIte,vcu,↓vcd]
   rw[hx]
  ·rw[hx]
   exact⟨_,_,rfl,.inl ⟨rfl,rfl⟩,.inl ⟨rfl,rfl⟩⟩
 rw[decide_eq_true hok,show exLine e t=lineX e t from if_pos hok]
 simp -implicitDefEqProofs(disch:=omega)only[Nat.reduceEqDiff,↓reduceIte,vcu,↓vcd,opK_some,Bool.not_true,x5,co33]
 refine hpar.mono ?_
 rintro _ τ4 ⟨h,rfl,hp⟩
 have hdo:=answer_calls (w0:=w0) τ3 τ4 h e t hp hok hl
 generalize (lineX e t).2=bo at hdo
 generalize (lineX e t).1=y at hdo
 simp -implicitDefEqProofs(disch:=omega)only[Nat.reduceEqDiff,↓reduceIte,vcu,↓vcd,opK_some]
 refine hdo.mono ?_
 rintro _ τ5 ⟨rfl,hB5,hn5,vp,vc,hh5,ow,oc⟩
 have hox:=Pt.ownX S3 ow oc
 have hone:=exC_one hox
 simp -implicitDefEqProofs(disch:=omega)only[Nat.reduceEqDiff,↓reduceIte,vcu,↓vcd,opK_some]
 refine (whole_calls τ5 h y vp vc hh5 (texts_slc ow.texts) (tris_slc oc.tris)).mono ?_
 rintro _ _ ⟨rfl,rfl⟩
 rename_i τ5
 unfold exV
 simp -implicitDefEqProofs(disch:=omega)only[Nat.reduceEqDiff,↓reduceIte,vcu,↓vcd,opK_some]
 refine r_sets (g:=h4) (i:=0) (C:=[.int .i64 0,.int .i64 0,.int .i64 0,.slice none 0 0,.slice none 0 0]) z9q z9co33 (by simp -implicitDefEqProofs(disch:=omega)only[Nat.reduceEqDiff,↓reduceIte,vcu,↓vcd];exact hone) z9z (hB5 _ _ e4) z9l fun T9 k9 e9=>?_
 replace e9:T9 h4=some ⟨exC vp vc y,false⟩:=e9
 have l9:lds T9 h4 0 5=some [.int .i64 y.s.O,.int .i64 y.s.E,.int .i64 y.s.M,vp,vc]:=by rw[lds_of e9 (by simp [exC])];rfl
 have h4h:h4≠h:=by rintro rfl;rw[e4] at hn5;cases hn5
 have hb4:Bs τ3 h h h4=some ⟨[.int .i64 0,.int .i64 0,.int .i64 0,.slice none 0 0,.slice none 0 0],false⟩:=by unfold Bs;rw[AHeap.upd_ne _ _ h4h,AHeap.upd_ne _ _ h4h];exact e4
 simp -implicitDefEqProofs(disch:=omega)only[Nat.reduceEqDiff,↓reduceIte,vcu,↓vcd]
 refine fin_ct8 Tryz.results12 T9 (Sub.refl _) (v:=exV vp vc y) (by simp -implicitDefEqProofs(disch:=omega)only[Nat.reduceEqDiff,↓reduceIte,vcu,↓vcd,l9,co33];rfl) ⟨exV vp vc y,?_,k9.sub (S3.trans hB5) z4,Pt.ownX S3 (ow.kept k9 hb4) (oc.kept k9 hb4)⟩
 simp -implicitDefEqProofs(disch:=omega)only[Nat.reduceEqDiff,↓reduceIte,vcu,↓vcd]
theorem Pt.grown {B B' τ τ':AHeap} {h g':Nat} {o:AObj} {x:Ex} (hp:Pt B τ h x) (hs:Sub B' B) (hg:τ g'=none) (hk:∀q ob,τ q=some ob→(B' q=some ob∨B q=none)→τ' q=some ob) (hg':τ' g'=some o):Pt (B'.upd g' (some o)) τ' h x:=by
 obtain⟨hB,hn,vp,vc,hh,ow,oc⟩:=hp
 have hgh:g'≠h:=by rintro rfl;rw[hh] at hg;cases hg
 refine⟨fun q ob hq=>?_,by rw[AHeap.upd_ne _ _ hgh.symm];exact free_sub hs hn,vp,vc,hk _ _ hh (.inr hn),?_,?_⟩
 ·by_cases e:q=g'
  ·subst e;rw[AHeap.upd_same] at hq;cases hq;exact hg'
  ·rw[AHeap.upd_ne _ _ e] at hq;exact hk _ _ (hB _ _ (hs _ _ hq)) (.inl hq)
 ·exact ow.imp id fun⟨g,a1,a2,a3⟩=>⟨g,a1,hk _ _ a2 (.inr (Bs_none a3).1),Bs_free (by rw[AHeap.upd_ne _ _ (ne_of' hg a2)];exact free_sub hs (Bs_none a3).1) (Bs_none a3).2.1 (Bs_none a3).2.1⟩
 ·exact oc.imp id fun⟨g,a1,a2,a3⟩=>⟨g,a1,hk _ _ a2 (.inr (Bs_none a3).1),Bs_free (by rw[AHeap.upd_ne _ _ (ne_of' hg a2)];exact free_sub hs (Bs_none a3).1) (Bs_none a3).2.1 (Bs_none a3).2.1⟩
set_option maxRecDepth 8000 in
theorem implES_calls [hT:GlobT w0] [hG:GlobE w0] [hM:GlobM w0] (σ:AHeap) (v vt:Value) (e:Ex) (ts:List (List UInt8)) (hv:ExV σ v e) (hb:ExB e) (ht:Texts σ vt ts) (hl:ts.length≤1048576) (hN:∀t∈ts,t.length≤1048576):ACall Tryz.prog w0 23 [v,vt] σ fun r σ'=>∃w u,r=.tuple #[w,u]∧Sub σ σ'∧OwnX σ σ' w (exLines e ts).1∧OwnS σ σ' u (exLines e ts).2∧Aside w u:=by
 have hv0:=hv
 obtain⟨v1,v2,rfl,t1,t2⟩:=hv
 unfold exV
 refine acall_goc mixed Tryz.func23 rfl goodc23 fun pr=>?_
 simp -implicitDefEqProofs(disch:=omega)only[Nat.reduceEqDiff,↓reduceIte,vcu,↓vcd]
 refine r_boxed fun b τ1 nb s1 eb=>?_
 replace eb:τ1 b=some ⟨[.int .i64 e.s.O,.int .i64 e.s.E,.int .i64 e.s.M,v1,v2],false⟩:=eb
 refine r_new ze33 fun h4 τ3 n4 s3 e4=>?_
 replace e4:τ3 h4=some ⟨[.int .i64 0,.int .i64 0,.int .i64 0,.slice none 0 0,.slice none 0 0],false⟩:=e4
 replace eb:=s3 _ _ eb
 have S3:Sub σ τ3:=s1.trans s3
 have z4:σ h4=none:=free_sub s1 n4
 have hX3:=hv0.sub S3
 have x5:lds τ3 b 0 5=some [.int .i64 e.s.O,.int .i64 e.s.E,.int .i64 e.s.M,v1,v2]:=by rw[lds_of eb (by simp)];rfl
 have lnt:=fun (T:AHeap) (hs:Sub σ T)=>lenT (ht.sub hs)
 have ln3:=lnt τ3 S3
 have hval:=implEV_calls (w0:=w0) τ3 _ e hX3 hb
 have hpar:=partsOf_calls (w0:=w0) τ3 _ e hX3 hb
 unfold exV at hval hpar
 simp -implicitDefEqProofs(disch:=omega)only[Nat.reduceEqDiff,↓reduceIte,vcu,↓vcd,x5,co33]
 refine hval.mono ?_
 rintro _ _ ⟨rfl,rfl⟩
 rename_i τ3
 by_cases hok:ExOk e∧ts.length≤40
 case neg =>
  have hx:exLines e ts=(ex0,[]):=if_neg hok
  have hd:(decide (ExOk e)=false)∨(decide (ExOk e)=true∧decide ((ts.length:Int) > 40)=true):=by
   by_cases h1:ExOk e
   ·exact .inr ⟨decide_eq_true h1,decide_eq_true (by have:¬ ts.length≤40:=fun q=>hok ⟨h1,q⟩;omega)⟩
   ·exact .inl (decide_eq_false h1)
  rcases hd with hd |⟨hd,hd2⟩
  ·rw[hd]
   simp -implicitDefEqProofs(disch:=omega)only[Nat.reduceEqDiff,↓reduceIte,vcu,↓vcd,opK_some,Bool.not_false]
   rw[r_build]
   refine⟨(_,#[.int .i64 0,.int .i64 0,.int .i64 0,.slice none 0 0,.slice none 0 0]),⟨ze33,by first|kernel_rfl | (simp -implicitDefEqProofs(disch:=omega)only[Nat.reduceEqDiff,↓reduceIte,vcu,↓vcd];kernel_rfl)⟩,?_⟩
   simp -implicitDefEqProofs(disch:=omega)only[Nat.reduceEqDiff,↓reduceIte,vcu,↓vcd]
   refine r_sets (g:=h4) (i:=0) (C:=[.int .i64 0,.int .i64 0,.int .i64 0,.slice none 0 0,.slice none 0 0]) z9q z9co33 z9r z9z e4 z9l fun T9 k9 e9=>?_
   replace e9:T9 h4=some ⟨[.int .i64 0,.int .i64 0,.int .i64 0,.slice none 0 0,.slice none 0 0],false⟩:=e9
   have l9:lds T9 h4 0 5=some [.int .i64 0,.int .i64 0,.int .i64 0,.slice none 0 0,.slice none 0 0]:=by rw[lds_of e9 (by simp)];rfl
   simp -implicitDefEqProofs(disch:=omega)only[Nat.reduceEqDiff,↓reduceIte,vcu,↓vcd]
   refine fin_ct8 Tryz.results23 T9 (Sub.refl _) (v:=exV (.slice none 0 0) (.slice none 0 0) ex0) (by simp -implicitDefEqProofs(disch:=omega)only[Nat.reduceEqDiff,↓reduceIte,vcu,↓vcd,l9,co33];rfl) ⟨exV (.slice none 0 0) (.slice none 0 0) ex0,.slice none 0 0,?_,k9.sub S3 z4,?_,?_,aside_nil⟩
   ·simp -implicitDefEqProofs(disch:=omega)only[Nat.reduceEqDiff,↓reduceIte,vcu,↓vcd]
   ·rw[hx]
    exact⟨_,_,rfl,.inl ⟨rfl,rfl⟩,.inl ⟨rfl,rfl⟩⟩
   ·rw[hx];exact .inl ⟨rfl,rfl⟩
  ·rw[hd]
   simp -implicitDefEqProofs(disch:=omega)only[Nat.reduceEqDiff,↓reduceIte,vcu,↓vcd,opK_some,Bool.not_true,ln3,hd2]
   rw[r_build]
   refine⟨(_,#[.int .i64 0,.int .i64 0,.int .i64 0,.slice none 0 0,.slice none 0 0]),⟨ze33,by first|kernel_rfl | (simp -implicitDefEqProofs(disch:=omega)only[Nat.reduceEqDiff,↓reduceIte,vcu,↓vcd];kernel_rfl)⟩,?_⟩
   simp -implicitDefEqProofs(disch:=omega)only[Nat.reduceEqDiff,↓reduceIte,vcu,↓vcd]
   refine r_sets (g:=h4) (i:=0) (C:=[.int .i64 0,.int .i64 0,.int .i64 0,.slice none 0 0,.slice none 0 0]) z9q z9co33 z9r z9z e4 z9l fun T9 k9 e9=>?_
   replace e9:T9 h4=some ⟨[.int .i64 0,.int .i64 0,.int .i64 0,.slice none 0 0,.slice none 0 0],false⟩:=e9
   have l9:lds T9 h4 0 5=some [.int .i64 0,.int .i64 0,.int .i64 0,.slice none 0 0,.slice none 0 0]:=by rw[lds_of e9 (by simp)];rfl
   simp -implicitDefEqProofs(disch:=omega)only[Nat.reduceEqDiff,↓reduceIte,vcu,↓vcd]
   refine fin_ct8 Tryz.results23 T9 (Sub.refl _) (v:=exV (.slice none 0 0) (.slice none 0 0) ex0) (by simp -implicitDefEqProofs(disch:=omega)only[Nat.reduceEqDiff,↓reduceIte,vcu,↓vcd,l9,co33];rfl) ⟨exV (.slice none 0 0) (.slice none 0 0) ex0,.slice none 0 0,?_,k9.sub S3 z4,?_,?_,aside_nil⟩
   ·simp -implicitDefEqProofs(disch:=omega)only[Nat.reduceEqDiff,↓reduceIte,vcu,↓vcd]
   ·rw[hx]
    exact⟨_,_,rfl,.inl ⟨rfl,rfl⟩,.inl ⟨rfl,rfl⟩⟩
   ·rw[hx];exact .inl ⟨rfl,rfl⟩
 obtain⟨hok,h40⟩:=hok
 have d40:decide ((ts.length:Int) > 40)=false:=decide_eq_false om9
 rw[decide_eq_true hok]
 simp -implicitDefEqProofs(disch:=omega)only[Nat.reduceEqDiff,↓reduceIte,vcu,↓vcd,opK_some,Bool.not_true,ln3,d40,x5,co33]
 refine hpar.mono ?_
 rintro _ τ4 ⟨h,rfl,hp⟩
 have hR:exLines e ts=linesN e ts:=if_pos ⟨hok,h40⟩
 have ln4:=lnt τ4 (S3.trans hp.1)
 simp -implicitDefEqProofs(disch:=omega)only[Nat.reduceEqDiff,↓reduceIte,vcu,↓vcd,opK_some,ln4]
 refine vc_loop_c mixed kr9 [4,6,21,22] (fun m a τ=>∃(k:Nat) (x:Ex) (qs:List (List UInt8)),m+k=ts.length∧a 23=.int .i64 k∧ExOk x∧qs.length=k∧linesN e ts=((linesN x (ts.drop k)).1,qs++(linesN x (ts.drop k)).2) ∧
   ((a 7=.slice none 0 0∧qs=[]∧Pt τ3 τ h x)∨∃ga,a 7=.slice (some ⟨ga,0,none⟩) qs.length 1∧τ3 ga=none∧Pt (τ3.upd ga (some ⟨texts qs,false⟩)) τ h x)) ts.length
  ⟨0,e,[],by simp,rfl,hok,rfl,by simp,.inl ⟨rfl,rfl,hp⟩⟩ ?_
 rintro m a τ hc ⟨k,x,qs,hk,h23,hxo,hqk,hrun,hst⟩
 simp -implicitDefEqProofs(disch:=omega)only[Nat.reduceEqDiff,↓reduceIte,vcu,↓vcd] at hc
 obtain⟨h4',h6',h21,h22,-⟩:=hc
 -- a base that the answers' row belongs to
 obtain⟨B,hsB,hpx,hrow7⟩:∃B,Sub τ3 B∧Pt B τ h x∧((a 7=.slice none 0 0∧qs=[]∧B=τ3)∨∃ga,a 7=.slice (some ⟨ga,0,none⟩) qs.length 1∧τ3 ga=none∧B ga=some ⟨texts qs,false⟩∧∀q,q≠ga→B q=τ3 q):=by
  rcases hst with ⟨e7,eq,hpx⟩ |⟨ga,e7,hga,hpx⟩
  ·exact⟨τ3,Sub.refl _,hpx,.inl ⟨e7,eq,rfl⟩⟩
  ·exact⟨_,sub_upd hga,hpx,.inr ⟨ga,e7,hga,AHeap.upd_same _ _ _,fun q hq=>AHeap.upd_ne _ _ hq⟩⟩
 by_cases hlt:k < ts.length
 case neg =>
  obtain rfl:k=ts.length:=by omega
  rw[List.drop_length] at hrun
  have hrun':exLines e ts=(x,qs):=by rw[hR,hrun];simp [linesN]
  obtain⟨hB5,hn5,vp,vc,hh5,ow,oc⟩:=hpx
  have hox:=Pt.ownX (S3.trans hsB) ow oc
  have hone:=exC_one hox
  simp -implicitDefEqProofs(disch:=omega)only[Nat.reduceEqDiff,↓reduceIte,vcu,↓vcd,h4',h6',h21,h22,h23]
  refine (whole_calls τ h x vp vc hh5 (texts_slc ow.texts) (tris_slc oc.tris)).mono ?_
  rintro _ _ ⟨rfl,rfl⟩
  rename_i τ
  unfold exV
  simp -implicitDefEqProofs(disch:=omega)only[Nat.reduceEqDiff,↓reduceIte,vcu,↓vcd,opK_some,h4',h6',h21,h22,h23]
  refine r_sets (g:=h4) (i:=0) (C:=[.int .i64 0,.int .i64 0,.int .i64 0,.slice none 0 0,.slice none 0 0]) (by simp -implicitDefEqProofs(disch:=omega)only[Nat.reduceEqDiff,↓reduceIte,vcu,↓vcd,h4']) z9co33 (by simp -implicitDefEqProofs(disch:=omega)only[Nat.reduceEqDiff,↓reduceIte,vcu,↓vcd];exact hone) z9z (hB5 _ _ (hsB _ _ e4)) z9l fun T9 k9 e9=>?_
  replace e9:T9 h4=some ⟨exC vp vc x,false⟩:=e9
  have l9:lds T9 h4 0 5=some [.int .i64 x.s.O,.int .i64 x.s.E,.int .i64 x.s.M,vp,vc]:=by rw[lds_of e9 (by simp [exC])];rfl
  have hb0:=hsB _ _ e4
  have h4h:h4≠h:=by rintro rfl;rw[hb0] at hn5;cases hn5
  have hb4:Bs B h h h4=some ⟨[.int .i64 0,.int .i64 0,.int .i64 0,.slice none 0 0,.slice none 0 0],false⟩:=by unfold Bs;rw[AHeap.upd_ne _ _ h4h,AHeap.upd_ne _ _ h4h];exact hb0
  have ow9:=ow.kept k9 hb4
  have oc9:=oc.kept k9 hb4
  simp -implicitDefEqProofs(disch:=omega)only[Nat.reduceEqDiff,↓reduceIte,vcu,↓vcd,h4']
  refine fin_ct8 Tryz.results23 T9 (Sub.refl _) (v:=exV vp vc x) (by simp -implicitDefEqProofs(disch:=omega)only[Nat.reduceEqDiff,↓reduceIte,vcu,↓vcd,h4',l9,co33];rfl) ⟨exV vp vc x,a 7,?_,k9.sub (S3.trans (hsB.trans hB5)) z4,?_,?_,?_⟩
  ·simp -implicitDefEqProofs(disch:=omega)only[Nat.reduceEqDiff,↓reduceIte,vcu,↓vcd]
  ·rw[hrun'];exact Pt.ownX (S3.trans hsB) ow9 oc9
  ·rw[hrun']
   rcases hrow7 with ⟨e7,eq,_⟩ |⟨ga,e7,hga,hBg,_⟩
   ·exact .inl ⟨e7,eq⟩
   ·exact .inr ⟨ga,e7,k9.at (hB5 _ _ hBg) (by rintro rfl;rw[e4] at hga;cases hga),free_sub S3 hga⟩
  ·rcases hrow7 with ⟨e7,eq,_⟩ |⟨ga,e7,hga,hBg,_⟩
   ·rw[e7]
    intro A' B' C' w1 w2 g n z _ h2
    cases h2
   ·rw[e7]
    intro A' B' C' w1 w2 g n z q1 q2
    unfold exV at q1
    cases q1
    cases q2
    refine⟨fun n' z' q=>?_,fun n' z' q=>?_⟩
    ·rcases ow with ⟨q0,_⟩ |⟨g',q0,_,hn⟩
     ·rw[q] at q0;cases q0
     ·rw[q] at q0;cases q0;rw[(Bs_none hn).1] at hBg;cases hBg
    ·rcases oc with ⟨q0,_⟩ |⟨g',q0,_,hn⟩
     ·rw[q] at q0;cases q0
     ·rw[q] at q0;cases q0;rw[(Bs_none hn).1] at hBg;cases hBg
 have hstep:=linesN_step hlt hrun
 have hmem:ts.getD k []∈ts:=by simp [List.getD,hlt]
 have hNt:=hN _ hmem
 have hSB:Sub σ τ:=S3.trans (hsB.trans hpx.1)
 obtain⟨gt,ot,ev,hrow⟩:=rowT (ht.sub hSB) om9
 have hxt:=hrow k hlt
 generalize ts.getD k []=t at hstep hxt hNt
 have han:=answer_calls (w0:=w0) B τ h x t hpx hxo hNt
 have hyo:=(lineX_ok hxo t).1
 generalize hyx:(lineX x t).1=y at han hyo hstep
 generalize (lineX x t).2=q at han hstep
 simp -implicitDefEqProofs(disch:=omega)only[Nat.reduceEqDiff,↓reduceIte,vcu,↓vcd,h4',h6',h21,h22,h23,ev,hxt]
 refine han.mono ?_
 rintro _ T2 ⟨rfl,hp2⟩
 simp -implicitDefEqProofs(disch:=omega)only[Nat.reduceEqDiff,↓reduceIte,vcu,↓vcd,opK_some]
 refine r_lit el30 (out:=#[.string (tx q)]) (by first|kernel_rfl | (simp -implicitDefEqProofs(disch:=omega)only[Nat.reduceEqDiff,↓reduceIte,vcu,↓vcd];kernel_rfl)) (by rfl) fun e5 T3 n5 s5 w5=>?_
 replace w5:T3 e5=some ⟨texts [q],false⟩:=w5
 have hp3:=hp2.sub s5
 have hlq:(qs++[q]).length=k+1:=by simp [hqk]
 rcases hrow7 with ⟨e7,eq,rfl⟩ |⟨ga,e7,hga,hBg,hBo⟩
 ·subst eq
  refine r_pushX_nil (e:=e5) (o:=0) (ys:=[q]) (m:=1) el30 om9 sl30 (by simp -implicitDefEqProofs(disch:=omega)only[Nat.reduceEqDiff,↓reduceIte,vcu,↓vcd,e7]) z9q (textsAt_own w5) rfl om9 fun g6 T6 n6 k6 w6=>?_
  simp -implicitDefEqProofs(disch:=omega)only[Nat.reduceEqDiff,↓reduceIte,vcu,↓vcd,h4',h6',h21,h22,h23]
  refine⟨⟨?_,?_,?_,?_,trivial⟩,m - 1,by omega,k+1,y,[]++[q],by omega,by simp,hyo,hlq,hstep,.inr ⟨g6,?_,free_sub hp3.1 n6,hp3.grown (Sub.refl _) n6 (fun q' ob e _=>k6 _ _ e) w6⟩⟩
  all_goals first|trivial|exact h4'.symm|exact h6'.symm|exact h21.symm|exact h22.symm|exact ev
 ·refine r_pushX (g:=ga) (e:=e5) (o:=0) (xs:=qs) (ys:=[q]) (m:=1) (len:=qs.length) el30 om9 sl30 (by simp -implicitDefEqProofs(disch:=omega)only[Nat.reduceEqDiff,↓reduceIte,vcu,↓vcd,e7]) (hp3.1 _ _ hBg) rfl z9q (textsAt_own w5) rfl om9 fun g6 T6 n6 k6 w6=>?_
  have h36:τ3 g6=none:=free_sub (hsB.trans hp3.1) n6
  simp -implicitDefEqProofs(disch:=omega)only[Nat.reduceEqDiff,↓reduceIte,vcu,↓vcd,h4',h6',h21,h22,h23]
  refine⟨⟨?_,?_,?_,?_,trivial⟩,m - 1,by omega,k+1,y,qs++[q],by omega,by simp,hyo,hlq,hstep,.inr ⟨g6,?_,h36,hp3.grown hsB n6 (fun q' ob e hh=>k6.at e ?_) w6⟩⟩
  all_goals first|trivial|exact h4'.symm|exact h6'.symm|exact h21.symm|exact h22.symm|exact ev|skip
  ·rw[List.length_append];rfl
  ·rintro rfl
   rcases hh with hh|hh
   ·rw[hga] at hh;cases hh
   ·rw[hBg] at hh;cases hh
end Go.Proofs.YtofdnmlpfagibaaGreatDoor
