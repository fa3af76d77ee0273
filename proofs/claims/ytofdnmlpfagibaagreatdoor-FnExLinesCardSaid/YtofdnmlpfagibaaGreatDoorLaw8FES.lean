/- FnExLines answers true for every code. -/
import Derived.Test.YtofdnmlpfagibaaGreatDoorSFj
set_option linter.unusedSimpArgs false
set_option linter.unusedVariables false
set_option maxHeartbeats 6400000
namespace Go.Proofs.YtofdnmlpfagibaaGreatDoor
open Go Go.Abs Go.RowKit Go.Dial Go.Clos
variable {w0:World} [GlobE w0] [GlobM w0] [GlobT w0]
set_option maxRecDepth 16000 in
theorem law5 (σ:AHeap) (v:Value) (bs:List Int) (hv:Ints .u8 σ v bs) (hm:bs.length≤maxLen) (hw:∀z∈bs,(Lit.int .u8 z).wf=true) :
  ACall Tryz.prog w0 5 [v] σ fun r _=>r=.bool true:=by
 unfold maxLen at hm
 refine ACall.ints_arg (pre:=[]) kr9 hv fun σ1 h o hs hg=>?_
 clear hv hs σ v
 have hb:=bytes_of hw
 refine acall_go mixed Tryz.func5 rfl good5 fun pr=>?_
 by_cases hbig:1048576 < bs.length
 ·simp -implicitDefEqProofs(disch:=omega)only[Nat.reduceEqDiff,↓reduceIte,vcu,↓vcd]
  refine fin_one Tryz.results5 ?_
  simp -implicitDefEqProofs(disch:=omega)only[Nat.reduceEqDiff,↓reduceIte,vcu,↓vcd]
 have hl:bs.length≤1048576:=by omega
 simp -implicitDefEqProofs(disch:=omega)only[Nat.reduceEqDiff,↓reduceIte,vcu,↓vcd]
 refine (drawES_at σ1 h o bs hg hl hb).mono ?_
 rintro _ τ ⟨⟨e,v1,v2,vt,ts,rfl,hv,hs,⟨qt,rfl,hqt⟩,htl,htt⟩,hsub⟩
 clear hg hl hb
 obtain⟨ta,ca⟩:=exV_in hv
 clear hv
 have hB:=hs.b
 unfold exV
 simp -implicitDefEqProofs(disch:=omega)only[Nat.reduceEqDiff,↓reduceIte,vcu,↓vcd,opK_some,List.getElem?_toArray,List.getElem?_cons_zero,List.getElem?_cons_succ]
 have onea:=cells_one ta ca
 refine r_local (cs:=#[.int .i64 e.s.O,.int .i64 e.s.E,.int .i64 e.s.M,v1,v2]) ze33 (by decide) z9q (by rw[co33];rfl) rfl onea (Nat.zero_lt_succ _) fun qa T1 n1 s1 ka=>?_
 replace ka:T1 qa=some ⟨exC v1 v2 e,false⟩:=ka
 replace hqt:=hqt.sub s1
 replace ta:=ta.sub s1
 replace ca:=ca.sub s1
 have l2:lds T1 qa 0 5=some [.int .i64 e.s.O,.int .i64 e.s.E,.int .i64 e.s.M,v1,v2]:=by rw[lds_of ka (by simp [exC])];rfl
 have htt':∀t∈ts,t.length≤1048576:=fun t ht=>by have:=htt t ht;omega
 obtain⟨f,hf⟩:∃f,(exLines e ts).1=f:=⟨_,rfl⟩
 obtain⟨ws,hws⟩:∃ws,(exLines e ts).2=ws:=⟨_,rfl⟩
 have bf:ExB f:=by rw[←hf];exact (exLinesB e ts).1
 have bw:ws.length≤1048576:=by rw[←hws];exact (exLinesB e ts).2
 simp -implicitDefEqProofs(disch:=omega)only[Nat.reduceEqDiff,↓reduceIte,vcu,↓vcd,l2,co33,co41,co29]
 refine (implES_calls T1 (.agg #[.int .i64 e.s.O,.int .i64 e.s.E,.int .i64 e.s.M,v1,v2]) (.slice (some ⟨qt,0,none⟩) ts.length 1) e ts ⟨_,_,rfl,ta,ca⟩ hB (.inr ⟨qt,0,rfl,hqt⟩) om9 htt').mono ?_
 rintro _ Ap ⟨_,up3,rfl,bp,⟨up1,up2,rfl,o1,o2⟩,o3,-⟩
 rw[hf] at o1 o2
 rw[hws] at o3
 rw[hf]
 have tp:=o1.texts
 have cp:=o2.tris
 have tp3:=o3.texts
 clear o1 o2 o3
 replace ta:=ta.sub bp
 replace ca:=ca.sub bp
 replace ka:=bp _ _ ka
 replace hqt:=hqt.sub bp
 unfold exV
 simp -implicitDefEqProofs(disch:=omega)only[Nat.reduceEqDiff,↓reduceIte,vcu,↓vcd,opK_some,List.getElem?_toArray,List.getElem?_cons_zero,List.getElem?_cons_succ]
 have onep:=cells_one tp cp
 refine r_local (cs:=#[.int .i64 f.s.O,.int .i64 f.s.E,.int .i64 f.s.M,up1,up2]) ze33 (by decide) z9q (by rw[co33];rfl) rfl onep (Nat.zero_lt_succ _) fun qp T3 n3 s3 kp=>?_
 replace kp:T3 qp=some ⟨exC up1 up2 f,false⟩:=kp
 replace ta:=ta.sub s3
 replace ca:=ca.sub s3
 replace ka:=s3 _ _ ka
 replace tp:=tp.sub s3
 replace cp:=cp.sub s3
 replace tp3:=tp3.sub s3
 replace hqt:=hqt.sub s3
 have l4:lds T3 qa 0 5=some [.int .i64 e.s.O,.int .i64 e.s.E,.int .i64 e.s.M,v1,v2]:=by rw[lds_of ka (by simp [exC])];rfl
 have l5:lds T3 qp 0 5=some [.int .i64 f.s.O,.int .i64 f.s.E,.int .i64 f.s.M,up1,up2]:=by rw[lds_of kp (by simp [exC])];rfl
 simp -implicitDefEqProofs(disch:=omega)only[Nat.reduceEqDiff,↓reduceIte,vcu,↓vcd,l4,l5,co33,co41,co29]
 refine (exLines_calls T3 (.agg #[.int .i64 e.s.O,.int .i64 e.s.E,.int .i64 e.s.M,v1,v2]) (.slice (some ⟨qt,0,none⟩) ts.length 1) e ts ⟨_,_,rfl,ta,ca⟩ hB (.inr ⟨qt,0,rfl,hqt⟩) om9 htt').mono ?_
 rintro _ Ag ⟨_,ug3,rfl,bg,⟨ug1,ug2,rfl,o1,o2⟩,o3,-⟩
 rw[hf] at o1 o2
 rw[hws] at o3
 rw[hf]
 have tg:=o1.texts
 have cg:=o2.tris
 have tg3:=o3.texts
 clear o1 o2 o3
 replace ta:=ta.sub bg
 replace ca:=ca.sub bg
 replace ka:=bg _ _ ka
 replace tp:=tp.sub bg
 replace cp:=cp.sub bg
 replace kp:=bg _ _ kp
 replace tp3:=tp3.sub bg
 replace hqt:=hqt.sub bg
 unfold exV
 simp -implicitDefEqProofs(disch:=omega)only[Nat.reduceEqDiff,↓reduceIte,vcu,↓vcd,opK_some,List.getElem?_toArray,List.getElem?_cons_zero,List.getElem?_cons_succ]
 have oneg:=cells_one tg cg
 refine r_local (cs:=#[.int .i64 f.s.O,.int .i64 f.s.E,.int .i64 f.s.M,ug1,ug2]) ze33 (by decide) z9q (by rw[co33];rfl) rfl oneg (Nat.zero_lt_succ _) fun qg T6 n6 s6 kg=>?_
 replace kg:T6 qg=some ⟨exC ug1 ug2 f,false⟩:=kg
 replace ta:=ta.sub s6
 replace ca:=ca.sub s6
 replace ka:=s6 _ _ ka
 replace tp:=tp.sub s6
 replace cp:=cp.sub s6
 replace kp:=s6 _ _ kp
 replace tp3:=tp3.sub s6
 replace tg:=tg.sub s6
 replace cg:=cg.sub s6
 replace tg3:=tg3.sub s6
 replace hqt:=hqt.sub s6
 have l7:lds T6 qa 0 5=some [.int .i64 e.s.O,.int .i64 e.s.E,.int .i64 e.s.M,v1,v2]:=by rw[lds_of ka (by simp [exC])];rfl
 have l8:lds T6 qp 0 5=some [.int .i64 f.s.O,.int .i64 f.s.E,.int .i64 f.s.M,up1,up2]:=by rw[lds_of kp (by simp [exC])];rfl
 have l9:lds T6 qg 0 5=some [.int .i64 f.s.O,.int .i64 f.s.E,.int .i64 f.s.M,ug1,ug2]:=by rw[lds_of kg (by simp [exC])];rfl
 simp -implicitDefEqProofs(disch:=omega)only[Nat.reduceEqDiff,↓reduceIte,vcu,↓vcd,l7,l8,l9,co33,co41,co29]
 refine (sameEx_calls T6 (.agg #[.int .i64 f.s.O,.int .i64 f.s.E,.int .i64 f.s.M,up1,up2]) (.agg #[.int .i64 f.s.O,.int .i64 f.s.E,.int .i64 f.s.M,ug1,ug2]) f f ⟨_,_,rfl,tp,cp⟩ ⟨_,_,rfl,tg,cg⟩ bf bf).mono ?_
 rintro _ _ ⟨rfl,rfl⟩
 rename_i T6
 rw[decide_eq_true rfl]
 simp -implicitDefEqProofs(disch:=omega)only[Nat.reduceEqDiff,↓reduceIte,vcu,↓vcd,opK_some,l7,l8,l9,co33,co41,co29,Bool.not_true,ne_eq,not_true_eq_false,decide_false]
 refine (sameS_calls T6 up3 ug3 ws ws tp3 tg3 bw bw).mono ?_
 rintro _ _ ⟨rfl,rfl⟩
 rename_i T6
 rw[decide_eq_true rfl]
 simp -implicitDefEqProofs(disch:=omega)only[Nat.reduceEqDiff,↓reduceIte,vcu,↓vcd,opK_some,l7,l8,l9,co33,co41,co29,Bool.not_true,ne_eq,not_true_eq_false,decide_false]
 refine (exVal_calls T6 (.agg #[.int .i64 e.s.O,.int .i64 e.s.E,.int .i64 e.s.M,v1,v2]) e ⟨_,_,rfl,ta,ca⟩ hB).mono ?_
 rintro _ _ ⟨rfl,rfl⟩
 rename_i T6
 have lw:=lenT tp3
 by_cases ho:ExOk e
 case neg =>
  have h1:exLines e ts=(ex0,[]):=if_neg (fun h=>ho h.1)
  have h2:f=ex0:=by rw[←hf,h1]
  have h3:ws=[]:=by rw[←hws,h1]
  rw[h3] at lw
  rw[decide_eq_false ho]
  simp -implicitDefEqProofs(disch:=omega)only[Nat.reduceEqDiff,↓reduceIte,vcu,↓vcd,opK_some,l7,l8,l9,co33,co41,co29,Bool.not_false,lw,List.length_nil,Int.natCast_zero]
  refine (noEx_calls T6 (.agg #[.int .i64 f.s.O,.int .i64 f.s.E,.int .i64 f.s.M,up1,up2]) f ⟨_,_,rfl,tp,cp⟩ bf).mono ?_
  rintro _ _ ⟨rfl,rfl⟩
  rename_i T6
  rw[decide_eq_true h2]
  simp -implicitDefEqProofs(disch:=omega)only[Nat.reduceEqDiff,↓reduceIte,vcu,↓vcd,opK_some]
  refine (alive_at T6).mono ?_
  rintro _ _ ⟨rfl,rfl⟩
  rename_i T6
  simp -implicitDefEqProofs(disch:=omega)only[Nat.reduceEqDiff,↓reduceIte,vcu,↓vcd,opK_some]
  refine fin_one Tryz.results5 ?_
  simp -implicitDefEqProofs(disch:=omega)only[Nat.reduceEqDiff,↓reduceIte,vcu,↓vcd]
 rw[decide_eq_true ho]
 by_cases h40:ts.length≤40
 case neg =>
  have h1:exLines e ts=(ex0,[]):=if_neg (fun h=>h40 h.2)
  have h2:f=ex0:=by rw[←hf,h1]
  have h3:ws=[]:=by rw[←hws,h1]
  rw[h3] at lw
  simp -implicitDefEqProofs(disch:=omega)only[Nat.reduceEqDiff,↓reduceIte,vcu,↓vcd,opK_some,l7,l8,l9,co33,co41,co29,Bool.not_true,lw,List.length_nil,Int.natCast_zero]
  refine (noEx_calls T6 (.agg #[.int .i64 f.s.O,.int .i64 f.s.E,.int .i64 f.s.M,up1,up2]) f ⟨_,_,rfl,tp,cp⟩ bf).mono ?_
  rintro _ _ ⟨rfl,rfl⟩
  rename_i T6
  rw[decide_eq_true h2]
  simp -implicitDefEqProofs(disch:=omega)only[Nat.reduceEqDiff,↓reduceIte,vcu,↓vcd,opK_some]
  refine (alive_at T6).mono ?_
  rintro _ _ ⟨rfl,rfl⟩
  rename_i T6
  simp -implicitDefEqProofs(disch:=omega)only[Nat.reduceEqDiff,↓reduceIte,vcu,↓vcd,opK_some]
  refine fin_one Tryz.results5 ?_
  simp -implicitDefEqProofs(disch:=omega)only[Nat.reduceEqDiff,↓reduceIte,vcu,↓vcd]
 obtain⟨H,hH,hH2⟩:∃H:Nat,(ts.length:Int) / 2=H∧H≤ts.length:=⟨ts.length / 2,by omega,by omega⟩
 obtain⟨x1,a1,x2,a2,r1,r2,r3,r4,r5,r6,r7,r8,r9⟩:=lines_parts ho h40 H hf hws
 have hN1:∀t∈ts.take H,t.length≤1048576:=fun t ht=>htt' t (List.mem_of_mem_take ht)
 have hN2:∀t∈ts.drop H,t.length≤1048576:=fun t ht=>htt' t (List.mem_of_mem_drop ht)
 simp -implicitDefEqProofs(disch:=omega)only[Nat.reduceEqDiff,↓reduceIte,vcu,↓vcd,opK_some,hH,Bool.not_true]
 have l11:lds T6 qa 0 5=some [.int .i64 e.s.O,.int .i64 e.s.E,.int .i64 e.s.M,v1,v2]:=by rw[lds_of ka (by simp [exC])];rfl
 have l12:lds T6 qp 0 5=some [.int .i64 f.s.O,.int .i64 f.s.E,.int .i64 f.s.M,up1,up2]:=by rw[lds_of kp (by simp [exC])];rfl
 refine acodeB_monoY (Q':=fun en a' T=>en=.normal∧(a' 3=.pointer (some ⟨qa,0,none⟩)∧a' 4=.slice (some ⟨qt,0,none⟩) ts.length 1∧a' 5=.pointer (some ⟨qp,0,none⟩)∧a' 6=up3∧a' 9=.int .i64 (H:Int))∧∃(c:Nat) (u1 u2 u:Value),a' 10=.pointer (some ⟨c,0,none⟩)∧a' 11=u∧Sub T6 T∧T c=some ⟨exC u1 u2 x1,false⟩∧Texts T u1 (x1).ps∧Tris T u2 (x1).cs∧Texts T u a1)
  (region_tree mixed (quiets [0,1,2,3] (.two 4 (quiets [5,6,7] (.one 8 (.one 9 (quiets [10] .stop)))) 8 (.one 4 (quiets [5,6,7] (.one 9 (quiets [10] .stop)))))) [([0,1,2,3],Sub T6)] kr9 kr9 (fun p hp=>by simp only[List.mem_singleton] at hp;subst hp;exact Sub.refl _) ?_) ?_
 ·refine tree_quiets T6 _ _ _ (sfIn kr9) kr9 kr9 ?_
  simp -implicitDefEqProofs(disch:=omega)only[Nat.reduceEqDiff,↓reduceIte,vcu,↓vcd,vcp,l11,l12,co33,co41,co29]
  refine tree_two rfl rfl ?_ ?_
  ·skip
   try simp -implicitDefEqProofs(disch:=omega)only[Nat.reduceEqDiff,↓reduceIte,vcu,↓vcd]
   refine (implES_calls T6 (.agg #[.int .i64 e.s.O,.int .i64 e.s.E,.int .i64 e.s.M,v1,v2]) (.slice (some ⟨qt,0,none⟩) H 1) e (ts.take H) ⟨_,_,rfl,ta,ca⟩ hB (.inr ⟨qt,0,by rw[List.length_take,Nat.min_eq_left hH2],hqt.take H⟩) (by rw[List.length_take];omega) hN1).mono ?_
   rintro _ A1 ⟨_,u,rfl,b1,⟨u1,u2,rfl,o1,o2⟩,ou,-⟩
   rw[r1] at o1 o2 ou ⊢
   dsimp only at o1 o2 ou ⊢
   unfold exV
   simp -implicitDefEqProofs(disch:=omega)only[Nat.reduceEqDiff,↓reduceIte,vcu,↓vcd,opK_some]
   refine⟨keep_of rfl fun p hp=>by simp only[List.mem_singleton] at hp;subst hp;exact .inr b1,?_⟩
   refine tree_quiets (fun _=>none) _ _ _ sf0 kr9 kr9 ?_
   simp -implicitDefEqProofs(disch:=omega)only[Nat.reduceEqDiff,↓reduceIte,vcu,↓vcd,vcp,List.getElem?_toArray,List.getElem?_cons_zero,List.getElem?_cons_succ]
   refine tree_one rfl ?_
   refine r_new ze33 fun c A2 nc' b2 ec=>?_
   replace ec:A2 c=some ⟨[.int .i64 0,.int .i64 0,.int .i64 0,.slice none 0 0,.slice none 0 0],false⟩:=ec
   have nc:=free_sub b1 nc'
   have B:=b1.trans b2
   try simp -implicitDefEqProofs(disch:=omega)only[Nat.reduceEqDiff,↓reduceIte,vcu,↓vcd]
   refine⟨keep_of rfl fun p hp=>by simp only[List.mem_singleton] at hp;subst hp;exact .inr B,?_⟩
   refine tree_one rfl ?_
   have hone:=cells_one o1.texts o2.tris
   refine r_sets (g:=c) (i:=0) (C:=[.int .i64 0,.int .i64 0,.int .i64 0,.slice none 0 0,.slice none 0 0]) z9q z9co33 (by simp -implicitDefEqProofs(disch:=omega)only[Nat.reduceEqDiff,↓reduceIte,vcu,↓vcd];exact hone) z9z ec z9l fun A9 k9 e9=>?_
   replace e9:A9 c=some ⟨exC u1 u2 x1,false⟩:=e9
   have S9:Sub T6 A9:=k9.sub B nc
   try simp -implicitDefEqProofs(disch:=omega)only[Nat.reduceEqDiff,↓reduceIte,vcu,↓vcd]
   refine⟨keep_of rfl fun p hp=>by simp only[List.mem_singleton] at hp;subst hp;exact .inr S9,?_⟩
   refine tree_quiets (fun _=>none) _ _ _ sf0 kr9 kr9 ?_
   simp -implicitDefEqProofs(disch:=omega)only[Nat.reduceEqDiff,↓reduceIte,vcu,↓vcd,vcp]
   refine tree_stop ?_
   exact⟨by first|trivial|rfl,⟨by first|trivial|rfl|simp -implicitDefEqProofs(disch:=omega)only[Nat.reduceEqDiff,↓reduceIte,vcu,↓vcd],by first|trivial|rfl|simp -implicitDefEqProofs(disch:=omega)only[Nat.reduceEqDiff,↓reduceIte,vcu,↓vcd],by first|trivial|rfl|simp -implicitDefEqProofs(disch:=omega)only[Nat.reduceEqDiff,↓reduceIte,vcu,↓vcd],by first|trivial|rfl|simp -implicitDefEqProofs(disch:=omega)only[Nat.reduceEqDiff,↓reduceIte,vcu,↓vcd],by first|trivial|rfl|simp -implicitDefEqProofs(disch:=omega)only[Nat.reduceEqDiff,↓reduceIte,vcu,↓vcd]⟩,c,u1,u2,u,by first|trivial|simp -implicitDefEqProofs(disch:=omega)only[Nat.reduceEqDiff,↓reduceIte,vcu,↓vcd],by first|trivial|simp -implicitDefEqProofs(disch:=omega)only[Nat.reduceEqDiff,↓reduceIte,vcu,↓vcd],S9,e9,o1.texts.sub (k9.sub b2 nc'),o2.tris.sub (k9.sub b2 nc'),ou.texts.sub (k9.sub b2 nc')⟩
  ·skip
   refine r_new ze33 fun c A1 nc b1' ec=>?_
   replace ec:A1 c=some ⟨[.int .i64 0,.int .i64 0,.int .i64 0,.slice none 0 0,.slice none 0 0],false⟩:=ec
   try simp -implicitDefEqProofs(disch:=omega)only[Nat.reduceEqDiff,↓reduceIte,vcu,↓vcd]
   refine⟨keep_of rfl fun p hp=>by simp only[List.mem_singleton] at hp;subst hp;exact .inr b1',?_⟩
   refine tree_one rfl ?_
   try simp -implicitDefEqProofs(disch:=omega)only[Nat.reduceEqDiff,↓reduceIte,vcu,↓vcd]
   refine (implES_calls A1 (.agg #[.int .i64 e.s.O,.int .i64 e.s.E,.int .i64 e.s.M,v1,v2]) (.slice (some ⟨qt,0,none⟩) H 1) e (ts.take H) ⟨_,_,rfl,ta.sub b1',ca.sub b1'⟩ hB (.inr ⟨qt,0,by rw[List.length_take,Nat.min_eq_left hH2],(hqt.sub b1').take H⟩) (by rw[List.length_take];omega) hN1).mono ?_
   rintro _ A2 ⟨_,u,rfl,b2,⟨u1,u2,rfl,o1,o2⟩,ou,-⟩
   rw[r1] at o1 o2 ou ⊢
   dsimp only at o1 o2 ou ⊢
   unfold exV
   simp -implicitDefEqProofs(disch:=omega)only[Nat.reduceEqDiff,↓reduceIte,vcu,↓vcd,opK_some]
   have B:=b1'.trans b2
   have ec1:=ec
   replace ec:=b2 _ _ ec
   refine⟨keep_of rfl fun p hp=>by simp only[List.mem_singleton] at hp;subst hp;exact .inr B,?_⟩
   refine tree_quiets (fun _=>none) _ _ _ sf0 kr9 kr9 ?_
   simp -implicitDefEqProofs(disch:=omega)only[Nat.reduceEqDiff,↓reduceIte,vcu,↓vcd,vcp,List.getElem?_toArray,List.getElem?_cons_zero,List.getElem?_cons_succ]
   refine tree_one rfl ?_
   have hone:=cells_one o1.texts o2.tris
   refine r_sets (g:=c) (i:=0) (C:=[.int .i64 0,.int .i64 0,.int .i64 0,.slice none 0 0,.slice none 0 0]) z9q z9co33 (by simp -implicitDefEqProofs(disch:=omega)only[Nat.reduceEqDiff,↓reduceIte,vcu,↓vcd];exact hone) z9z ec z9l fun A9 k9 e9=>?_
   replace e9:A9 c=some ⟨exC u1 u2 x1,false⟩:=e9
   have S9:Sub T6 A9:=k9.sub B nc
   try simp -implicitDefEqProofs(disch:=omega)only[Nat.reduceEqDiff,↓reduceIte,vcu,↓vcd]
   refine⟨keep_of rfl fun p hp=>by simp only[List.mem_singleton] at hp;subst hp;exact .inr S9,?_⟩
   refine tree_quiets (fun _=>none) _ _ _ sf0 kr9 kr9 ?_
   simp -implicitDefEqProofs(disch:=omega)only[Nat.reduceEqDiff,↓reduceIte,vcu,↓vcd,vcp]
   refine tree_stop ?_
   exact⟨by first|trivial|rfl,⟨by first|trivial|rfl|simp -implicitDefEqProofs(disch:=omega)only[Nat.reduceEqDiff,↓reduceIte,vcu,↓vcd],by first|trivial|rfl|simp -implicitDefEqProofs(disch:=omega)only[Nat.reduceEqDiff,↓reduceIte,vcu,↓vcd],by first|trivial|rfl|simp -implicitDefEqProofs(disch:=omega)only[Nat.reduceEqDiff,↓reduceIte,vcu,↓vcd],by first|trivial|rfl|simp -implicitDefEqProofs(disch:=omega)only[Nat.reduceEqDiff,↓reduceIte,vcu,↓vcd],by first|trivial|rfl|simp -implicitDefEqProofs(disch:=omega)only[Nat.reduceEqDiff,↓reduceIte,vcu,↓vcd]⟩,c,u1,u2,u,by first|trivial|simp -implicitDefEqProofs(disch:=omega)only[Nat.reduceEqDiff,↓reduceIte,vcu,↓vcd],by first|trivial|simp -implicitDefEqProofs(disch:=omega)only[Nat.reduceEqDiff,↓reduceIte,vcu,↓vcd],S9,e9,(o1.kept k9 ec1).texts,(o2.kept k9 ec1).tris,(ou.kept k9 ec1).texts⟩
 rintro _ a13 A13 ⟨rfl,⟨hj9_3,hj9_4,hj9_5,hj9_6,hj9_9⟩,qm,um1,um2,um3,hc13,hv13,b13,km,tm,cm,tm3⟩
 replace ta:=ta.sub b13
 replace ca:=ca.sub b13
 replace ka:=b13 _ _ ka
 replace tp:=tp.sub b13
 replace cp:=cp.sub b13
 replace kp:=b13 _ _ kp
 replace tp3:=tp3.sub b13
 replace hqt:=hqt.sub b13
 have bm:ExB x1:=exB_of r3
 have bz:ExB x2:=by rw[r4];exact bf
 simp -implicitDefEqProofs(disch:=omega)only[Nat.reduceEqDiff,↓reduceIte,vcu,↓vcd,hj9_3,hj9_4,hj9_5,hj9_6,hj9_9,hc13,hv13]
 have l15:lds A13 qa 0 5=some [.int .i64 e.s.O,.int .i64 e.s.E,.int .i64 e.s.M,v1,v2]:=by rw[lds_of ka (by simp [exC])];rfl
 have l16:lds A13 qp 0 5=some [.int .i64 f.s.O,.int .i64 f.s.E,.int .i64 f.s.M,up1,up2]:=by rw[lds_of kp (by simp [exC])];rfl
 have l17:lds A13 qm 0 5=some [.int .i64 x1.s.O,.int .i64 x1.s.E,.int .i64 x1.s.M,um1,um2]:=by rw[lds_of km (by simp [exC])];rfl
 refine acodeB_monoY (Q':=fun en a' T=>en=.normal∧(a' 4=.slice (some ⟨qt,0,none⟩) ts.length 1∧a' 5=.pointer (some ⟨qp,0,none⟩)∧a' 6=up3∧a' 11=um3)∧∃(c:Nat) (u1 u2 u:Value),a' 12=.pointer (some ⟨c,0,none⟩)∧a' 13=u∧Sub A13 T∧T c=some ⟨exC u1 u2 x2,false⟩∧Texts T u1 (x2).ps∧Tris T u2 (x2).cs∧Texts T u a2)
  (region_tree mixed (quiets [0,1,2,3] (.two 4 (quiets [5,6,7] (.one 8 (.one 9 (quiets [10] .stop)))) 8 (.one 4 (quiets [5,6,7] (.one 9 (quiets [10] .stop)))))) [([0,1,2,3],Sub A13)] kr9 kr9 (fun p hp=>by simp only[List.mem_singleton] at hp;subst hp;exact Sub.refl _) ?_) ?_
 ·refine tree_quiets A13 _ _ _ (sfIn kr9) kr9 kr9 ?_
  simp -implicitDefEqProofs(disch:=omega)only[Nat.reduceEqDiff,↓reduceIte,vcu,↓vcd,vcp,hj9_3,hj9_4,hj9_5,hj9_6,hj9_9,hc13,hv13,l15,l16,l17,co33,co41,co29]
  refine tree_two rfl rfl ?_ ?_
  ·skip
   try simp -implicitDefEqProofs(disch:=omega)only[Nat.reduceEqDiff,↓reduceIte,vcu,↓vcd,hj9_3,hj9_4,hj9_5,hj9_6,hj9_9,hc13,hv13]
   refine (implES_calls A13 (.agg #[.int .i64 x1.s.O,.int .i64 x1.s.E,.int .i64 x1.s.M,um1,um2]) (.slice (some ⟨qt,0+H,none⟩) (ts.length - H) 1) x1 (ts.drop H) ⟨_,_,rfl,tm,cm⟩ bm (.inr ⟨qt,0+H,by rw[List.length_drop],hqt.drop H⟩) (by rw[List.length_drop];omega) hN2).mono ?_
   rintro _ A1 ⟨_,u,rfl,b1,⟨u1,u2,rfl,o1,o2⟩,ou,-⟩
   rw[r2] at o1 o2 ou ⊢
   dsimp only at o1 o2 ou ⊢
   unfold exV
   simp -implicitDefEqProofs(disch:=omega)only[Nat.reduceEqDiff,↓reduceIte,vcu,↓vcd,opK_some]
   refine⟨keep_of rfl fun p hp=>by simp only[List.mem_singleton] at hp;subst hp;exact .inr b1,?_⟩
   refine tree_quiets (fun _=>none) _ _ _ sf0 kr9 kr9 ?_
   simp -implicitDefEqProofs(disch:=omega)only[Nat.reduceEqDiff,↓reduceIte,vcu,↓vcd,vcp,List.getElem?_toArray,List.getElem?_cons_zero,List.getElem?_cons_succ]
   refine tree_one rfl ?_
   refine r_new ze33 fun c A2 nc' b2 ec=>?_
   replace ec:A2 c=some ⟨[.int .i64 0,.int .i64 0,.int .i64 0,.slice none 0 0,.slice none 0 0],false⟩:=ec
   have nc:=free_sub b1 nc'
   have B:=b1.trans b2
   try simp -implicitDefEqProofs(disch:=omega)only[Nat.reduceEqDiff,↓reduceIte,vcu,↓vcd]
   refine⟨keep_of rfl fun p hp=>by simp only[List.mem_singleton] at hp;subst hp;exact .inr B,?_⟩
   refine tree_one rfl ?_
   have hone:=cells_one o1.texts o2.tris
   refine r_sets (g:=c) (i:=0) (C:=[.int .i64 0,.int .i64 0,.int .i64 0,.slice none 0 0,.slice none 0 0]) z9q z9co33 (by simp -implicitDefEqProofs(disch:=omega)only[Nat.reduceEqDiff,↓reduceIte,vcu,↓vcd];exact hone) z9z ec z9l fun A9 k9 e9=>?_
   replace e9:A9 c=some ⟨exC u1 u2 x2,false⟩:=e9
   have S9:Sub A13 A9:=k9.sub B nc
   try simp -implicitDefEqProofs(disch:=omega)only[Nat.reduceEqDiff,↓reduceIte,vcu,↓vcd]
   refine⟨keep_of rfl fun p hp=>by simp only[List.mem_singleton] at hp;subst hp;exact .inr S9,?_⟩
   refine tree_quiets (fun _=>none) _ _ _ sf0 kr9 kr9 ?_
   simp -implicitDefEqProofs(disch:=omega)only[Nat.reduceEqDiff,↓reduceIte,vcu,↓vcd,vcp]
   refine tree_stop ?_
   exact⟨by first|trivial|rfl,⟨by first|trivial|rfl|simp -implicitDefEqProofs(disch:=omega)only[Nat.reduceEqDiff,↓reduceIte,vcu,↓vcd,hj9_3,hj9_4,hj9_5,hj9_6,hj9_9,hc13,hv13],by first|trivial|rfl|simp -implicitDefEqProofs(disch:=omega)only[Nat.reduceEqDiff,↓reduceIte,vcu,↓vcd,hj9_3,hj9_4,hj9_5,hj9_6,hj9_9,hc13,hv13],by first|trivial|rfl|simp -implicitDefEqProofs(disch:=omega)only[Nat.reduceEqDiff,↓reduceIte,vcu,↓vcd,hj9_3,hj9_4,hj9_5,hj9_6,hj9_9,hc13,hv13],by first|trivial|rfl|simp -implicitDefEqProofs(disch:=omega)only[Nat.reduceEqDiff,↓reduceIte,vcu,↓vcd,hj9_3,hj9_4,hj9_5,hj9_6,hj9_9,hc13,hv13]⟩,c,u1,u2,u,by first|trivial|simp -implicitDefEqProofs(disch:=omega)only[Nat.reduceEqDiff,↓reduceIte,vcu,↓vcd],by first|trivial|simp -implicitDefEqProofs(disch:=omega)only[Nat.reduceEqDiff,↓reduceIte,vcu,↓vcd],S9,e9,o1.texts.sub (k9.sub b2 nc'),o2.tris.sub (k9.sub b2 nc'),ou.texts.sub (k9.sub b2 nc')⟩
  ·skip
   refine r_new ze33 fun c A1 nc b1' ec=>?_
   replace ec:A1 c=some ⟨[.int .i64 0,.int .i64 0,.int .i64 0,.slice none 0 0,.slice none 0 0],false⟩:=ec
   try simp -implicitDefEqProofs(disch:=omega)only[Nat.reduceEqDiff,↓reduceIte,vcu,↓vcd]
   refine⟨keep_of rfl fun p hp=>by simp only[List.mem_singleton] at hp;subst hp;exact .inr b1',?_⟩
   refine tree_one rfl ?_
   try simp -implicitDefEqProofs(disch:=omega)only[Nat.reduceEqDiff,↓reduceIte,vcu,↓vcd,hj9_3,hj9_4,hj9_5,hj9_6,hj9_9,hc13,hv13]
   refine (implES_calls A1 (.agg #[.int .i64 x1.s.O,.int .i64 x1.s.E,.int .i64 x1.s.M,um1,um2]) (.slice (some ⟨qt,0+H,none⟩) (ts.length - H) 1) x1 (ts.drop H) ⟨_,_,rfl,tm.sub b1',cm.sub b1'⟩ bm (.inr ⟨qt,0+H,by rw[List.length_drop],(hqt.sub b1').drop H⟩) (by rw[List.length_drop];omega) hN2).mono ?_
   rintro _ A2 ⟨_,u,rfl,b2,⟨u1,u2,rfl,o1,o2⟩,ou,-⟩
   rw[r2] at o1 o2 ou ⊢
   dsimp only at o1 o2 ou ⊢
   unfold exV
   simp -implicitDefEqProofs(disch:=omega)only[Nat.reduceEqDiff,↓reduceIte,vcu,↓vcd,opK_some]
   have B:=b1'.trans b2
   have ec1:=ec
   replace ec:=b2 _ _ ec
   refine⟨keep_of rfl fun p hp=>by simp only[List.mem_singleton] at hp;subst hp;exact .inr B,?_⟩
   refine tree_quiets (fun _=>none) _ _ _ sf0 kr9 kr9 ?_
   simp -implicitDefEqProofs(disch:=omega)only[Nat.reduceEqDiff,↓reduceIte,vcu,↓vcd,vcp,List.getElem?_toArray,List.getElem?_cons_zero,List.getElem?_cons_succ]
   refine tree_one rfl ?_
   have hone:=cells_one o1.texts o2.tris
   refine r_sets (g:=c) (i:=0) (C:=[.int .i64 0,.int .i64 0,.int .i64 0,.slice none 0 0,.slice none 0 0]) z9q z9co33 (by simp -implicitDefEqProofs(disch:=omega)only[Nat.reduceEqDiff,↓reduceIte,vcu,↓vcd];exact hone) z9z ec z9l fun A9 k9 e9=>?_
   replace e9:A9 c=some ⟨exC u1 u2 x2,false⟩:=e9
   have S9:Sub A13 A9:=k9.sub B nc
   try simp -implicitDefEqProofs(disch:=omega)only[Nat.reduceEqDiff,↓reduceIte,vcu,↓vcd]
   refine⟨keep_of rfl fun p hp=>by simp only[List.mem_singleton] at hp;subst hp;exact .inr S9,?_⟩
   refine tree_quiets (fun _=>none) _ _ _ sf0 kr9 kr9 ?_
   simp -implicitDefEqProofs(disch:=omega)only[Nat.reduceEqDiff,↓reduceIte,vcu,↓vcd,vcp]
   refine tree_stop ?_
   exact⟨by first|trivial|rfl,⟨by first|trivial|rfl|simp -implicitDefEqProofs(disch:=omega)only[Nat.reduceEqDiff,↓reduceIte,vcu,↓vcd,hj9_3,hj9_4,hj9_5,hj9_6,hj9_9,hc13,hv13],by first|trivial|rfl|simp -implicitDefEqProofs(disch:=omega)only[Nat.reduceEqDiff,↓reduceIte,vcu,↓vcd,hj9_3,hj9_4,hj9_5,hj9_6,hj9_9,hc13,hv13],by first|trivial|rfl|simp -implicitDefEqProofs(disch:=omega)only[Nat.reduceEqDiff,↓reduceIte,vcu,↓vcd,hj9_3,hj9_4,hj9_5,hj9_6,hj9_9,hc13,hv13],by first|trivial|rfl|simp -implicitDefEqProofs(disch:=omega)only[Nat.reduceEqDiff,↓reduceIte,vcu,↓vcd,hj9_3,hj9_4,hj9_5,hj9_6,hj9_9,hc13,hv13]⟩,c,u1,u2,u,by first|trivial|simp -implicitDefEqProofs(disch:=omega)only[Nat.reduceEqDiff,↓reduceIte,vcu,↓vcd],by first|trivial|simp -implicitDefEqProofs(disch:=omega)only[Nat.reduceEqDiff,↓reduceIte,vcu,↓vcd],S9,e9,(o1.kept k9 ec1).texts,(o2.kept k9 ec1).tris,(ou.kept k9 ec1).texts⟩
 rintro _ a18 A18 ⟨rfl,⟨hj13_4,hj13_5,hj13_6,hj13_11⟩,qz,uz1,uz2,uz3,hc18,hv18,b18,kz,tz,cz,tz3⟩
 replace ta:=ta.sub b18
 replace ca:=ca.sub b18
 replace ka:=b18 _ _ ka
 replace tp:=tp.sub b18
 replace cp:=cp.sub b18
 replace kp:=b18 _ _ kp
 replace tp3:=tp3.sub b18
 replace tm:=tm.sub b18
 replace cm:=cm.sub b18
 replace km:=b18 _ _ km
 replace tm3:=tm3.sub b18
 replace hqt:=hqt.sub b18
 simp -implicitDefEqProofs(disch:=omega)only[Nat.reduceEqDiff,↓reduceIte,vcu,↓vcd,hj13_4,hj13_5,hj13_6,hj13_11,hc18,hv18]
 refine vc_loop_c mixed kr9 [4,5,6,11,12,13] (fun m a σ'=>∃k:Nat,m+k=ws.length∧a 14=.int .i64 (k:Int)∧σ'=A18) ws.length ⟨0,by simp,rfl,rfl⟩ ?_
 rintro mm aa _ hcc ⟨k,hk,h14,rfl⟩
 rename_i A18
 simp -implicitDefEqProofs(disch:=omega)only[Nat.reduceEqDiff,↓reduceIte,vcu,↓vcd,hj13_4,hj13_5,hj13_6,hj13_11,hc18,hv18] at hcc
 obtain⟨e4,e5,e6,e11,e12,e13,-⟩:=hcc
 have lw:=lenT tp3
 by_cases hlt:k < ws.length
 ·obtain⟨gw,ow,rfl,tw⟩:=rowT tp3 om9
  have xw:=tw k hlt
  have hne:=r6 (ws.getD k []) (by simp [List.getD,hlt])
  generalize ws.getD k []=w at xw hne
  have q1:abin Tryz.prog 9 .eql (.string (tx w)) (.string { data:=#[] })=some (.bool (decide (w=[]))):=abin_seql (ys:=[])
  rw[decide_eq_false hne] at q1
  simp -implicitDefEqProofs(disch:=omega)only[Nat.reduceEqDiff,↓reduceIte,vcu,↓vcd,e4,e5,e6,e11,e12,e13,h14,xw,q1]
  exact⟨by simp [e4,e5,e6,e11,e12,e13,hj13_4,hj13_5,hj13_6,hj13_11,hc18,hv18],mm - 1,by omega,k+1,by omega,by simp,trivial⟩
 have l19:lds A18 qa 0 5=some [.int .i64 e.s.O,.int .i64 e.s.E,.int .i64 e.s.M,v1,v2]:=by rw[lds_of ka (by simp [exC])];rfl
 have l20:lds A18 qp 0 5=some [.int .i64 f.s.O,.int .i64 f.s.E,.int .i64 f.s.M,up1,up2]:=by rw[lds_of kp (by simp [exC])];rfl
 have l21:lds A18 qm 0 5=some [.int .i64 x1.s.O,.int .i64 x1.s.E,.int .i64 x1.s.M,um1,um2]:=by rw[lds_of km (by simp [exC])];rfl
 have l22:lds A18 qz 0 5=some [.int .i64 x2.s.O,.int .i64 x2.s.E,.int .i64 x2.s.M,uz1,uz2]:=by rw[lds_of kz (by simp [exC])];rfl
 have hnt:exLine f w_night=(⟨f.s,f.ps,[]⟩,w_ok):=(if_pos r5).trans (lineX_night f)
 have call:=implEL_calls (w0:=w0) A18 (.agg #[.int .i64 f.s.O,.int .i64 f.s.E,.int .i64 f.s.M,up1,up2]) f w_night ⟨_,_,rfl,tp,cp⟩ bf (by decide)
 rw[hnt] at call
 simp -implicitDefEqProofs(disch:=omega)only[Nat.reduceEqDiff,↓reduceIte,vcu,↓vcd,e4,e5,e6,e11,e12,e13,h14,lw,l19,l20,l21,l22,co33,co41,co29]
 refine call.mono ?_
 rintro _ AN ⟨_,rfl,bN,y1,y2,rfl,o1,o2⟩
 have ty:=o1.texts
 have cy:=o2.tris
 clear o1 o2 call
 replace ta:=ta.sub bN
 replace ca:=ca.sub bN
 replace ka:=bN _ _ ka
 replace tp:=tp.sub bN
 replace cp:=cp.sub bN
 replace kp:=bN _ _ kp
 replace tp3:=tp3.sub bN
 replace tm:=tm.sub bN
 replace cm:=cm.sub bN
 replace km:=bN _ _ km
 replace tm3:=tm3.sub bN
 replace tz:=tz.sub bN
 replace cz:=cz.sub bN
 replace kz:=bN _ _ kz
 replace tz3:=tz3.sub bN
 replace hqt:=hqt.sub bN
 obtain⟨y,hy⟩:∃y:Ex,y=⟨f.s,f.ps,[]⟩:=⟨_,rfl⟩
 have hyp:y.ps=f.ps:=by rw[hy]
 have hyc:y.cs=[]:=by rw[hy]
 replace ty:Texts AN y1 y.ps:=by rw[hyp];exact ty
 replace cy:Tris AN y2 y.cs:=by rw[hyc];exact cy
 rw[←hy]
 unfold exV
 simp -implicitDefEqProofs(disch:=omega)only[Nat.reduceEqDiff,↓reduceIte,vcu,↓vcd,opK_some,List.getElem?_toArray,List.getElem?_cons_zero,List.getElem?_cons_succ]
 have oney:=cells_one ty cy
 refine r_local (cs:=#[.int .i64 y.s.O,.int .i64 y.s.E,.int .i64 y.s.M,y1,y2]) ze33 (by decide) z9q (by rw[co33];rfl) rfl oney (Nat.zero_lt_succ _) fun qy T23 n23 s23 ky=>?_
 replace ky:T23 qy=some ⟨exC y1 y2 y,false⟩:=ky
 replace ta:=ta.sub s23
 replace ca:=ca.sub s23
 replace ka:=s23 _ _ ka
 replace tp:=tp.sub s23
 replace cp:=cp.sub s23
 replace kp:=s23 _ _ kp
 replace tp3:=tp3.sub s23
 replace tm:=tm.sub s23
 replace cm:=cm.sub s23
 replace km:=s23 _ _ km
 replace tm3:=tm3.sub s23
 replace tz:=tz.sub s23
 replace cz:=cz.sub s23
 replace kz:=s23 _ _ kz
 replace tz3:=tz3.sub s23
 replace ty:=ty.sub s23
 replace cy:=cy.sub s23
 replace hqt:=hqt.sub s23
 have l24:lds T23 qa 0 5=some [.int .i64 e.s.O,.int .i64 e.s.E,.int .i64 e.s.M,v1,v2]:=by rw[lds_of ka (by simp [exC])];rfl
 have l25:lds T23 qp 0 5=some [.int .i64 f.s.O,.int .i64 f.s.E,.int .i64 f.s.M,up1,up2]:=by rw[lds_of kp (by simp [exC])];rfl
 have l26:lds T23 qm 0 5=some [.int .i64 x1.s.O,.int .i64 x1.s.E,.int .i64 x1.s.M,um1,um2]:=by rw[lds_of km (by simp [exC])];rfl
 have l27:lds T23 qz 0 5=some [.int .i64 x2.s.O,.int .i64 x2.s.E,.int .i64 x2.s.M,uz1,uz2]:=by rw[lds_of kz (by simp [exC])];rfl
 have l28:lds T23 qy 0 5=some [.int .i64 y.s.O,.int .i64 y.s.E,.int .i64 y.s.M,y1,y2]:=by rw[lds_of ky (by simp [exC])];rfl
 simp -implicitDefEqProofs(disch:=omega)only[Nat.reduceEqDiff,↓reduceIte,vcu,↓vcd,e4,e5,e6,e11,e12,e13,l24,l25,l26,l27,l28,co33,co41,co29]
 refine (sameEx_calls T23 (.agg #[.int .i64 x2.s.O,.int .i64 x2.s.E,.int .i64 x2.s.M,uz1,uz2]) (.agg #[.int .i64 f.s.O,.int .i64 f.s.E,.int .i64 f.s.M,up1,up2]) x2 f ⟨_,_,rfl,tz,cz⟩ ⟨_,_,rfl,tp,cp⟩ bz bf).mono ?_
 rintro _ _ ⟨rfl,rfl⟩
 rename_i T23
 rw[decide_eq_true r4]
 simp -implicitDefEqProofs(disch:=omega)only[Nat.reduceEqDiff,↓reduceIte,vcu,↓vcd,opK_some,e4,e5,e6,e11,e12,e13]
 refine r_lit el30 (out:=#[]) (by first|kernel_rfl | (simp -implicitDefEqProofs(disch:=omega)only[Nat.reduceEqDiff,↓reduceIte,vcu,↓vcd];kernel_rfl)) kr9 fun ql TL nl sl vl=>?_
 replace vl:TL ql=some ⟨texts [],false⟩:=vl
 simp -implicitDefEqProofs(disch:=omega)only[Nat.reduceEqDiff,↓reduceIte,vcu,↓vcd,e4,e5,e6,e11,e12,e13]
 refine r_pushXV (g:=ql) (xs:=[]) (ys:=a1) (len:=0) el30 om9 sl30 z9q vl rfl (by simp -implicitDefEqProofs(disch:=omega)only[Nat.reduceEqDiff,↓reduceIte,vcu,↓vcd,e4,e5,e6,e11,e12,e13];exact tm3.sub sl) om9 fun qm TM nm kA1 vm=>?_
 rw[List.nil_append] at vm
 have sm:Sub T23 TM:=kA1.sub sl nl
 have nm':=free_sub sl nm
 simp -implicitDefEqProofs(disch:=omega)only[Nat.reduceEqDiff,↓reduceIte,vcu,↓vcd,e4,e5,e6,e11,e12,e13]
 refine r_pushXV (g:=qm) (xs:=a1) (ys:=a2) (len:=a1.length) el30 om9 sl30 (by simp -implicitDefEqProofs(disch:=omega)only[Nat.reduceEqDiff,↓reduceIte,vcu,↓vcd,Nat.zero_add]) vm rfl (by simp -implicitDefEqProofs(disch:=omega)only[Nat.reduceEqDiff,↓reduceIte,vcu,↓vcd,e4,e5,e6,e11,e12,e13];exact tz3.sub sm) om9 fun qn TN nn kA2 vn=>?_
 have sn:Sub T23 TN:=kA2.sub sm nm'
 replace ta:=ta.sub sn
 replace ca:=ca.sub sn
 replace ka:=sn _ _ ka
 replace tp:=tp.sub sn
 replace cp:=cp.sub sn
 replace kp:=sn _ _ kp
 replace tp3:=tp3.sub sn
 replace tm:=tm.sub sn
 replace cm:=cm.sub sn
 replace km:=sn _ _ km
 replace tm3:=tm3.sub sn
 replace tz:=tz.sub sn
 replace cz:=cz.sub sn
 replace kz:=sn _ _ kz
 replace tz3:=tz3.sub sn
 replace ty:=ty.sub sn
 replace cy:=cy.sub sn
 replace ky:=sn _ _ ky
 replace hqt:=hqt.sub sn
 simp -implicitDefEqProofs(disch:=omega)only[Nat.reduceEqDiff,↓reduceIte,vcu,↓vcd,e4,e5,e6,e11,e12,e13]
 have tj:Texts TN (.slice (some ⟨qn,0,none⟩) (a1.length+a2.length) 1) (a1++a2):=.inr ⟨qn,0,by simp,textsAt_own vn⟩
 refine (sameS_calls TN _ up3 (a1++a2) ws tj tp3 (by rw[r7];exact bw) bw).mono ?_
 rintro _ _ ⟨rfl,rfl⟩
 rename_i TN
 have l29:ld TN qy (0+4)=some y2:=ld_of ky rfl
 rw[decide_eq_true r7]
 have lw2:=lenT tp3
 rw[r8] at lw2
 have lcy:=lenC cy
 rw[hyc] at lcy
 simp -implicitDefEqProofs(disch:=omega)only[Nat.reduceEqDiff,↓reduceIte,vcu,↓vcd,opK_some,e4,e5,e6,e11,e12,e13,lw2,l29,lcy,List.length_nil,Int.natCast_zero]
 refine fin_one Tryz.results5 ?_
 simp -implicitDefEqProofs(disch:=omega)only[Nat.reduceEqDiff,↓reduceIte,vcu,↓vcd]
open Go.ChangeShapes Go.WideShapes Go.ChangeAt Go.RowKit
noncomputable def laidW5 (os:Os):World:=World.doorLaid Tryz.prog 400 os
set_option maxRecDepth 100000 in
theorem laid_met5 (os:Os):laidMetH Tryz.prog Rows.fnExLinesRow.laid ((laidW5 os).forCall (fun _ _=>0) ⟨#[],#[.slice none 0 0],[]⟩).memory :=
 laidMetH_of_parts3 (fuel:=8) (laidMet_of_run' 8 kr9 kr9) kr9 kr9
set_option maxRecDepth 100000 in
theorem reads5 (os:Os) {H:Type} (enc:TypeId × Value→H):(DataW.whole enc Tryz.prog ((laidW5 os).forCall (fun _ _=>0) ⟨#[],#[.slice none 0 0],[]⟩).memory Tryz.f5.params.toList Rows.fnExLinesSpec.vars false (#[.slice none 0 0]:Array Value).toList 8).isSome=true:=by kernel_rfl
set_option maxRecDepth 100000 in
theorem lifted5 (os:Os) (started:os.Started) (H:Type) (enc:TypeId × Value→H) (F:Stop.Interp) :
  ReturnsInHanded {} Tryz.checked os 5 .any ((OpenSpec.ofChange Rows.fnExLinesSpec).preRow enc Tryz.prog Tryz.f5 Rows.fnExLinesRow.domain false Rows.fnExLinesRow.laid) (((OpenSpec.ofChange Rows.fnExLinesSpec).at F).post enc Tryz.prog Tryz.f5 false true false false):=by
 obtain⟨x,hx⟩:=Option.isSome_iff_exists.1 (reads5 os enc)
 refine returnsInHanded_of_row (C:=Tryz.checked) (s:=OpenSpec.ofChange Rows.fnExLinesSpec) own started kr9 Tryz.func5
  (witness_row_at (enc:=enc) (C:=Tryz.checked) false (laidW5 os) #[.slice none 0 0] rfl kr9 kr9 kr9
   (OpenSpec.preRow_of_cond 8 hx kr9 (fun k hk=>by cases hk) kr9 (laid_met5 os))) ?_
 intro W base args ds gs before hval hW _ _ _ hL hSh _
 rw[MakeChecks.laidMetH_plain _ _ _ kr9] at hL
 haveI:=glob_m hSh
 haveI:=glob_e hL
 haveI:=glob_t hL
 have hW':=hW
 obtain⟨p,q,hA,hV,-,-,-⟩:=hW'
 rw[Tryz.params5] at hA hval
 obtain⟨v0,vs0,d0,ds0,p0,q0,hargs,rfl,rfl,h0,r0⟩:=trodAll_cons hA
 obtain⟨rfl,rfl,rfl⟩:=trodAll_nil r0
 obtain⟨rfl,rfl⟩:=trodVars_none hV
 obtain rfl:args=#[v0]:=by cases args;simp_all
 obtain⟨β0,σ0,a0,zs0,L0,U0,S0,R0,I0,w0,m0⟩:=start_ints Tryz.underlying22 Tryz.underlying5 co5 (Start.start W) (hval 0 22 v0 rfl rfl) h0
 refine ((law5 σ0 a0 zs0 (I0) m0 w0).2 noProt β0 W [v0] S0.rel (.cons R0 (.nil _))).mono fun e W' h=>?_
 obtain⟨β',r,r',σ',-,rfl,hr,hrel,rfl⟩:=h
 cases hr
 exact⟨_,rfl,law_post laidOut hW rfl rfl (by rw[Tryz.params5];intro t ht;simp only[List.mem_cons,List.not_mem_nil,or_false,or_self] at ht;rcases ht with rfl<;>exact⟨by kernel_rfl,of_decide_eq_true kr9⟩) rfl Tryz.underlying4 hrel.below⟩
theorem facts5:joinedFacts Tryz.prog 5 Tryz.f5 Rows.fnExLinesSpec Rows.fnExLinesRow=true:=by
 unfold joinedFacts
 rw[mayE,liftsE,makeE]
 kernel_rfl
set_option maxRecDepth 100000 in
theorem said5:Rows.FnExLinesSaid :=
 OpenClaim.holds_of_cond 5 Tryz.f5 rfl rfl rfl rfl rfl rfl rfl ⟨rfl,rfl,rfl,rfl,rfl⟩ rfl rfl rfl rfl rfl kr9 Tryz.func5 facts5 (of_decide_eq_true kr9)
  (by unfold Func.isWrapper;first | (rw[if_pos (by decide +kernel)];kernel_rfl) | (rw[if_neg (by decide +kernel)];exact⟨rfl,rfl⟩))
  (fun os started H enc _ F=>by rw[OpenClaim.pre_eq_preRow];exact lifted5 os started H enc F)
theorem plain5 (f:FuncId) (fn:Func) (hf:Tryz.pinned.checked.prog.funcNamed Rows.fnExLinesRow.func=some f) (hfn:Tryz.pinned.checked.prog.funcs[f]?=some fn) :
  true=Tryz.pinned.checked.prog.looks []∧∀(j:Nat) t,fn.params[j]?=some t→Tryz.pinned.checked.prog.wantsStandIn t=false:=by
 obtain rfl:f=5:=Option.some.inj ((show Tryz.prog.funcNamed Rows.fnExLinesRow.func=some 5 by kernel_rfl).symm.trans hf) |>.symm
 obtain rfl:fn=Tryz.f5:=(Option.some.inj (Tryz.func5.symm.trans hfn)).symm
 refine⟨isTrue_looks,fun j t ht=>?_⟩
 rw[Tryz.params5] at ht
 obtain rfl:t=22:=by simpa using Array.mem_of_getElem? ht
 exact (show Tryz.prog.wantsStandIn 22=false by kernel_rfl)
set_option maxRecDepth 100000 in
theorem proved5:Rows.FnExLinesCardSaid :=
 Claim7.holds_tied_plain_at .later [] _ _ _ _ said5 (fun _ h=>by cases h) kr9 (fun _ h=>by cases h) fnExLines_row_tie rfl ⟨rfl,rfl⟩ kr9 rfl plain5 kr9
end Go.Proofs.YtofdnmlpfagibaaGreatDoor
