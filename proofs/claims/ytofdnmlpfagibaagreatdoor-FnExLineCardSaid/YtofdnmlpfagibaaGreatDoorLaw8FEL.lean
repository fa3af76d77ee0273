/- FnExLine answers true for every code. -/
import Derived.Test.YtofdnmlpfagibaaGreatDoorSFj
set_option linter.unusedSimpArgs false
set_option linter.unusedVariables false
set_option maxHeartbeats 6400000
namespace Go.Proofs.YtofdnmlpfagibaaGreatDoor
open Go Go.Abs Go.RowKit Go.Dial Go.Clos
variable {w0:World}
theorem good4:(callable Tryz.prog 4 && tmpsOnly Tryz.f4 && decide (1≤Tryz.f4.ntmps) && (match Tryz.f4.body with|some c=>goodC Tryz.prog Tryz.f4.ntmps c|none=>false))=true:=by kernel_rfl
theorem goodc18:(callable Tryz.prog 18 && Tryz.f18.results.toList.all (rok Tryz.prog) && decide (1≤Tryz.f18.ntmps) && (match Tryz.f18.body with|some c=>goodC Tryz.prog Tryz.f18.ntmps c|none=>false))=true:=by kernel_rfl
theorem deedT_last {d:Dd} {s:List UInt8}:deedT d≠s++[32]:=by
 intro e
 have hne:deedT d≠[]:=by rw[e];simp
 obtain⟨h1,h2,h3⟩:=deedT_ok hne
 have hl:(deedT d).getLast hne=32:=by simp only[e];simp
 obtain⟨q1,q2,q3⟩:=decN_ok d.l.toNat om9
 have hx:∃(u v:List UInt8) (hv:v≠[]),deedT d=u++v∧∀b∈v,48≤b.toNat:=by
  rw[deedT,if_pos ⟨h1,h2,h3⟩]
  rcases h3 with ⟨e1,e2⟩ |⟨e1,e2,e3,e4⟩
  ·rw[if_pos e1,List.append_nil]
   exact⟨kwT d.k++[32],decN d.l.toNat,q2,by simp,fun b hb=>(q3 b hb).1⟩
  ·rw[if_neg e1]
   exact⟨kwT d.k++32 :: (decN d.l.toNat++[32]),d.t,by rintro e;rw[e] at e3;simp at e3,by simp,fun b hb=>(e2 b hb).1⟩
 obtain⟨u,v,hv,e5,h5⟩:=hx
 have e6:(deedT d).getLast hne=v.getLast hv:=by simp only[e5];exact List.getLast_append_of_ne_nil _ hv
 have:=h5 _ (List.getLast_mem hv)
 rw[←e6,hl] at this
 exact absurd this (by decide)
theorem readO_space (s:List UInt8):readO (s++[32])=none:=by
 cases h:readO (s++[32]) with
 | none=>rfl
 | some d=>exact absurd (readO_some h).1 deedT_last
theorem lineX_space (e:Ex):lineX e [32]=(e,w_what):=by
 have h1:readO [32]=none:=readO_space []
 have h2:askN [32]=-1:=by decide +kernel
 unfold lineX
 rw[h1]
 simp only
 rw[if_neg (by decide)]
 unfold askT
 rw[if_neg (by decide),if_neg (by decide),h2,if_neg om9,if_neg om9,if_neg om9]
theorem exLineB (e:Ex) (t:List UInt8):ExB (exLine e t).1:=by
 unfold exLine;split
 ·exact exB_of (lineX_ok (by assumption) t).1
 ·exact exB_0
theorem lessL_kept {τ τ1 τ2:AHeap} {c:Nat} {l:List Nat} (h:Sub (lessL τ l) τ1) (hk:Kept c τ1 τ2) (hc:c∈l):Sub (lessL τ l) τ2:=fun k ob e=>by
 by_cases hm:k∈l
 ·rw[lessL_in hm] at e;cases e
 ·exact hk k ob (by rintro rfl;exact hm hc) (h k ob e)
set_option maxRecDepth 16000 in
theorem drawEL_at (σ:AHeap) (h o:Nat) (bs:List Int) (hv:IntsAt .u8 σ h o bs) (hl:bs.length≤1048576) (hb:∀b∈bs,0≤b∧b≤255) :
  ACall Tryz.prog w0 18 [.slice (some ⟨h,o,none⟩) bs.length 1] σ fun r σ'=>(∃(e:Ex) (v1 v2:Value) (t:List UInt8),r=.tuple #[exV v1 v2 e,.string (tx t)]∧ExV σ' (exV v1 v2 e) e∧XS e∧t.length≤120)∧Sub σ σ':=by
 refine acall_goc mixed Tryz.func18 rfl goodc18 fun pr=>?_
 simp -implicitDefEqProofs(disch:=omega)only[Nat.reduceEqDiff,↓reduceIte,vcu,↓vcd]
 refine r_new ze33 fun c2 τ1 n2 s1 e2=>?_
 replace e2:τ1 c2=some ⟨[.int .i64 0,.int .i64 0,.int .i64 0,.slice none 0 0,.slice none 0 0],false⟩:=e2
 simp -implicitDefEqProofs(disch:=omega)only[Nat.reduceEqDiff,↓reduceIte,vcu,↓vcd]
 refine (opened τ1 h o bs (hv.sub s1) hl hb).mono ?_
 rintro _ τ2 ⟨g,m,rfl,hs2,hR⟩
 have g2:c2≠g:=ne_of' hR.free e2
 replace e2:=hs2 _ _ e2
 simp -implicitDefEqProofs(disch:=omega)only[Nat.reduceEqDiff,↓reduceIte,vcu,↓vcd,opK_some]
 refine (exch_draw τ1 τ2 g h o _ 0 12 hR om9 om9).mono ?_
 rintro _ τ3 ⟨e,v1,v2,p1,rfl,w,hs,p10,p11,D⟩
 have x3:ExR τ3 [c2,g] v1 v2 e:=w.r fun k hk hg hn=>by
  simp only[List.mem_cons,List.not_mem_nil,or_false] at hk
  rcases hk with rfl|rfl
  ·rw[e2] at hn;cases hn
  ·exact hg rfl
 replace e2:=D.kp.at e2 g2
 have hone:=w.one
 unfold exC at hone
 unfold exV
 simp -implicitDefEqProofs(disch:=omega)only[Nat.reduceEqDiff,↓reduceIte,vcu,↓vcd,opK_some]
 refine r_local (cs:=#[.int .i64 e.s.O,.int .i64 e.s.E,.int .i64 e.s.M,v1,v2]) ze33 (by decide) z9q (by rw[co33];rfl) rfl hone (Nat.zero_lt_succ _) fun c5 τ4 n5 s5 e5=>?_
 replace e5:τ4 c5=some ⟨exC v1 v2 e,false⟩:=e5
 have f5:=D.fresh n5
 have D4:=D.new s5
 have x4:=x3.sub s5
 have d25:c5≠c2:=ne_of n5 e2
 replace e2:=s5 _ _ e2
 have hc5:c5 ∉ ([c2,g]:List Nat):=by simp [d25,f5.2]
 have l5:lds (lessL τ4 [c2,g]) c5 0 5=some (exC v1 v2 e):=by rw[lds_of (by rw[lessL_at hc5];exact e5) (by simp [exC])];rfl
 have l5':lds τ4 c5 0 5=some (exC v1 v2 e):=by rw[lds_of e5 (by simp [exC])];rfl
 unfold exC at l5 l5'
 clear x3 s5 n5 D w
 simp -implicitDefEqProofs(disch:=omega)only[Nat.reduceEqDiff,↓reduceIte,vcu,↓vcd]
 refine region_tree mixed (quiets [0,1,2] (.one 3 (.one 4 (quiets [5] .stop)))) [([0,1,2,5],Sub (lessL τ4 [c2,g]))] kr9 kr9 (fun p hp=>by simp only[List.mem_singleton] at hp;subst hp;exact lessL_sub) ?_
 refine tree_quiets (lessL τ4 [c2,g]) _ _ _ (sfIn kr9) kr9 kr9 ?_
 simp -implicitDefEqProofs(disch:=omega)only[Nat.reduceEqDiff,↓reduceIte,vcu,↓vcd,vcp,l5,co33,co41]
 refine tree_one rfl ?_
 try simp -implicitDefEqProofs(disch:=omega)only[Nat.reduceEqDiff,↓reduceIte,vcu,↓vcd]
 have hcall:=line_draw (w0:=w0) τ1 τ4 g h o _ p1 v1 v2 e D4.rd om9 (x4.drop fun k hk=>by rw[List.mem_singleton.1 hk];simp) hs
 unfold exV at hcall
 refine hcall.mono ?_
 rintro _ T5 ⟨t,p2,rfl,tl,p20,p21,DD⟩
 have D5:=D4.on DD
 have x5:=x4.kept DD.kp (by simp)
 have e25:=DD.kp.at e2 g2
 have B5:Sub (lessL τ4 [c2,g]) T5:=lessL_kept lessL_sub DD.kp (by simp)
 simp -implicitDefEqProofs(disch:=omega)only[Nat.reduceEqDiff,↓reduceIte,vcu,↓vcd,opK_some]
 refine⟨keep_of rfl fun p hp=>by simp only[List.mem_singleton] at hp;subst hp;exact .inr B5,?_⟩
 refine tree_one rfl ?_
 refine r_sets (g:=c2) (i:=0) (C:=[.int .i64 0,.int .i64 0,.int .i64 0,.slice none 0 0,.slice none 0 0]) z9q z9co33 (by simp -implicitDefEqProofs(disch:=omega)only[Nat.reduceEqDiff,↓reduceIte,vcu,↓vcd];exact hone) z9z e25 z9l fun T9 k9 e9=>?_
 replace e9:T9 c2=some ⟨exC v1 v2 e,false⟩:=e9
 have x9:=x5.kept k9 (by simp)
 have B9:Sub (lessL τ4 [c2,g]) T9:=lessL_kept B5 k9 (by simp)
 have S9:Sub σ T9:=k9.sub (s1.trans D5.rd.sub) n2
 have l9:lds T9 c2 0 5=some (exC v1 v2 e):=by rw[lds_of e9 (by simp [exC])];rfl
 unfold exC at l9
 try simp -implicitDefEqProofs(disch:=omega)only[Nat.reduceEqDiff,↓reduceIte,vcu,↓vcd]
 refine⟨keep_of rfl fun p hp=>by simp only[List.mem_singleton] at hp;subst hp;exact .inr B9,?_⟩
 refine tree_quiets (lessL τ4 [c2,g]) _ _ _ (sfIn kr9) kr9 kr9 ?_
 simp -implicitDefEqProofs(disch:=omega)only[Nat.reduceEqDiff,↓reduceIte,vcu,↓vcd,vcp]
 refine tree_stop ?_
 try simp -implicitDefEqProofs(disch:=omega)only[Nat.reduceEqDiff,↓reduceIte,vcu,↓vcd]
 refine fin_ct8 Tryz.results18 T9 (Sub.refl _) (v:=exV v1 v2 e) (by simp -implicitDefEqProofs(disch:=omega)only[Nat.reduceEqDiff,↓reduceIte,vcu,↓vcd,l9,co33];rfl) ⟨⟨e,v1,v2,t,by simp -implicitDefEqProofs(disch:=omega)only[Nat.reduceEqDiff,↓reduceIte,vcu,↓vcd];rfl,x9.ex,hs,tl⟩,S9⟩
variable [GlobE w0] [GlobM w0] [GlobT w0]
set_option maxRecDepth 16000 in
theorem law4 (σ:AHeap) (v:Value) (bs:List Int) (hv:Ints .u8 σ v bs) (hm:bs.length≤maxLen) (hw:∀z∈bs,(Lit.int .u8 z).wf=true) :
  ACall Tryz.prog w0 4 [v] σ fun r _=>r=.bool true:=by
 unfold maxLen at hm
 refine ACall.ints_arg (pre:=[]) kr9 hv fun σ1 h o hs hg=>?_
 clear hv hs σ v
 have hb:=bytes_of hw
 refine acall_go mixed Tryz.func4 rfl good4 fun pr=>?_
 by_cases hbig:1048576 < bs.length
 ·simp -implicitDefEqProofs(disch:=omega)only[Nat.reduceEqDiff,↓reduceIte,vcu,↓vcd]
  refine fin_one Tryz.results4 ?_
  simp -implicitDefEqProofs(disch:=omega)only[Nat.reduceEqDiff,↓reduceIte,vcu,↓vcd]
 have hl:bs.length≤1048576:=by omega
 simp -implicitDefEqProofs(disch:=omega)only[Nat.reduceEqDiff,↓reduceIte,vcu,↓vcd]
 refine (drawEL_at σ1 h o bs hg hl hb).mono ?_
 rintro _ τ ⟨⟨e,v1,v2,t,rfl,hv,hs,ht⟩,hsub⟩
 clear hg hl hb
 obtain⟨ta,ca⟩:=exV_in hv
 clear hv
 have hB:=hs.b
 unfold exV
 simp -implicitDefEqProofs(disch:=omega)only[Nat.reduceEqDiff,↓reduceIte,vcu,↓vcd,opK_some,List.getElem?_toArray,List.getElem?_cons_zero,List.getElem?_cons_succ]
 have onea:=cells_one ta ca
 refine r_local (cs:=#[.int .i64 e.s.O,.int .i64 e.s.E,.int .i64 e.s.M,v1,v2]) ze33 (by decide) z9q (by rw[co33];rfl) rfl onea (Nat.zero_lt_succ _) fun qa T1 n1 s1 ka=>?_
 replace ka:T1 qa=some ⟨exC v1 v2 e,false⟩:=ka
 replace ta:=ta.sub s1
 replace ca:=ca.sub s1
 have l2:lds T1 qa 0 5=some [.int .i64 e.s.O,.int .i64 e.s.E,.int .i64 e.s.M,v1,v2]:=by rw[lds_of ka (by simp [exC])];rfl
 obtain⟨f,hf⟩:∃f,(exLine e t).1=f:=⟨_,rfl⟩
 obtain⟨w,hw⟩:∃w,(exLine e t).2=w:=⟨_,rfl⟩
 have bf:ExB f:=by rw[←hf];exact exLineB e t
 simp -implicitDefEqProofs(disch:=omega)only[Nat.reduceEqDiff,↓reduceIte,vcu,↓vcd,l2,co33,co41,co29]
 refine (implEL_calls T1 (.agg #[.int .i64 e.s.O,.int .i64 e.s.E,.int .i64 e.s.M,v1,v2]) e t ⟨_,_,rfl,ta,ca⟩ hB om9).mono ?_
 rintro _ A1 ⟨_,rfl,b1,u1,u2,rfl,o1,o2⟩
 rw[hf] at o1 o2
 rw[hf,hw]
 have tp:=o1.texts
 have cp:=o2.tris
 clear o1 o2
 replace ta:=ta.sub b1
 replace ca:=ca.sub b1
 replace ka:=b1 _ _ ka
 unfold exV
 simp -implicitDefEqProofs(disch:=omega)only[Nat.reduceEqDiff,↓reduceIte,vcu,↓vcd,opK_some,List.getElem?_toArray,List.getElem?_cons_zero,List.getElem?_cons_succ]
 have onep:=cells_one tp cp
 refine r_local (cs:=#[.int .i64 f.s.O,.int .i64 f.s.E,.int .i64 f.s.M,u1,u2]) ze33 (by decide) z9q (by rw[co33];rfl) rfl onep (Nat.zero_lt_succ _) fun qp T3 n3 s3 kp=>?_
 replace kp:T3 qp=some ⟨exC u1 u2 f,false⟩:=kp
 replace ta:=ta.sub s3
 replace ca:=ca.sub s3
 replace ka:=s3 _ _ ka
 replace tp:=tp.sub s3
 replace cp:=cp.sub s3
 have l4:lds T3 qa 0 5=some [.int .i64 e.s.O,.int .i64 e.s.E,.int .i64 e.s.M,v1,v2]:=by rw[lds_of ka (by simp [exC])];rfl
 have l5:lds T3 qp 0 5=some [.int .i64 f.s.O,.int .i64 f.s.E,.int .i64 f.s.M,u1,u2]:=by rw[lds_of kp (by simp [exC])];rfl
 simp -implicitDefEqProofs(disch:=omega)only[Nat.reduceEqDiff,↓reduceIte,vcu,↓vcd,l4,l5,co33,co41,co29]
 refine (exLine_calls T3 (.agg #[.int .i64 e.s.O,.int .i64 e.s.E,.int .i64 e.s.M,v1,v2]) e t ⟨_,_,rfl,ta,ca⟩ hB om9).mono ?_
 rintro _ A2 ⟨_,rfl,b2,y1,y2,rfl,o1,o2⟩
 rw[hf] at o1 o2
 rw[hf,hw]
 have ty:=o1.texts
 have cy:=o2.tris
 clear o1 o2
 replace ta:=ta.sub b2
 replace ca:=ca.sub b2
 replace ka:=b2 _ _ ka
 replace tp:=tp.sub b2
 replace cp:=cp.sub b2
 replace kp:=b2 _ _ kp
 unfold exV
 simp -implicitDefEqProofs(disch:=omega)only[Nat.reduceEqDiff,↓reduceIte,vcu,↓vcd,opK_some,List.getElem?_toArray,List.getElem?_cons_zero,List.getElem?_cons_succ]
 have oney:=cells_one ty cy
 refine r_local (cs:=#[.int .i64 f.s.O,.int .i64 f.s.E,.int .i64 f.s.M,y1,y2]) ze33 (by decide) z9q (by rw[co33];rfl) rfl oney (Nat.zero_lt_succ _) fun qy T6 n6 s6 ky=>?_
 replace ky:T6 qy=some ⟨exC y1 y2 f,false⟩:=ky
 replace ta:=ta.sub s6
 replace ca:=ca.sub s6
 replace ka:=s6 _ _ ka
 replace tp:=tp.sub s6
 replace cp:=cp.sub s6
 replace kp:=s6 _ _ kp
 replace ty:=ty.sub s6
 replace cy:=cy.sub s6
 have l7:lds T6 qa 0 5=some [.int .i64 e.s.O,.int .i64 e.s.E,.int .i64 e.s.M,v1,v2]:=by rw[lds_of ka (by simp [exC])];rfl
 have l8:lds T6 qp 0 5=some [.int .i64 f.s.O,.int .i64 f.s.E,.int .i64 f.s.M,u1,u2]:=by rw[lds_of kp (by simp [exC])];rfl
 have l9:lds T6 qy 0 5=some [.int .i64 f.s.O,.int .i64 f.s.E,.int .i64 f.s.M,y1,y2]:=by rw[lds_of ky (by simp [exC])];rfl
 simp -implicitDefEqProofs(disch:=omega)only[Nat.reduceEqDiff,↓reduceIte,vcu,↓vcd,l7,l8,l9,co33,co41,co29]
 refine (sameEx_calls T6 (.agg #[.int .i64 f.s.O,.int .i64 f.s.E,.int .i64 f.s.M,u1,u2]) (.agg #[.int .i64 f.s.O,.int .i64 f.s.E,.int .i64 f.s.M,y1,y2]) f f ⟨_,_,rfl,tp,cp⟩ ⟨_,_,rfl,ty,cy⟩ bf bf).mono ?_
 rintro _ _ ⟨rfl,rfl⟩
 rename_i T6
 rw[decide_eq_true rfl]
 simp -implicitDefEqProofs(disch:=omega)only[Nat.reduceEqDiff,↓reduceIte,vcu,↓vcd,opK_some,l7,l8,l9,co33,co41,co29,Bool.not_true,ne_eq,not_true_eq_false,decide_false]
 refine (exVal_calls T6 (.agg #[.int .i64 e.s.O,.int .i64 e.s.E,.int .i64 e.s.M,v1,v2]) e ⟨_,_,rfl,ta,ca⟩ hB).mono ?_
 rintro _ _ ⟨rfl,rfl⟩
 rename_i T6
 by_cases ho:ExOk e
 case neg =>
  have h1:exLine e t=(ex0,[]):=if_neg ho
  have h2:f=ex0:=by rw[←hf,h1]
  have h3:w=[]:=by rw[←hw,h1]
  have q1:abin Tryz.prog 9 .eql (.string (tx w)) (.string { data:=#[] })=some (.bool (decide (w=[]))):=abin_seql (ys:=[])
  rw[decide_eq_true h3] at q1
  rw[decide_eq_false ho]
  simp -implicitDefEqProofs(disch:=omega)only[Nat.reduceEqDiff,↓reduceIte,vcu,↓vcd,opK_some,l7,l8,l9,co33,co41,co29,Bool.not_false,q1]
  refine (noEx_calls T6 (.agg #[.int .i64 f.s.O,.int .i64 f.s.E,.int .i64 f.s.M,u1,u2]) f ⟨_,_,rfl,tp,cp⟩ bf).mono ?_
  rintro _ _ ⟨rfl,rfl⟩
  rename_i T6
  rw[decide_eq_true h2]
  simp -implicitDefEqProofs(disch:=omega)only[Nat.reduceEqDiff,↓reduceIte,vcu,↓vcd,opK_some]
  refine (alive_at T6).mono ?_
  rintro _ _ ⟨rfl,rfl⟩
  rename_i T6
  simp -implicitDefEqProofs(disch:=omega)only[Nat.reduceEqDiff,↓reduceIte,vcu,↓vcd,opK_some]
  refine fin_one Tryz.results4 ?_
  simp -implicitDefEqProofs(disch:=omega)only[Nat.reduceEqDiff,↓reduceIte,vcu,↓vcd]
 have hl1:exLine e t=lineX e t:=if_pos ho
 obtain⟨g1,g2,g3,-,-⟩:=lineX_ok ho t
 rw[←hl1,hf] at g1
 rw[←hl1,hf,hw] at g3
 have hsp:exLine e [32]=(e,w_what):=(if_pos ho).trans (lineX_space e)
 have call:=implEL_calls (w0:=w0) T6 (.agg #[.int .i64 e.s.O,.int .i64 e.s.E,.int .i64 e.s.M,v1,v2]) e [32] ⟨_,_,rfl,ta,ca⟩ hB (by simp)
 rw[hsp] at call
 rw[decide_eq_true ho]
 simp -implicitDefEqProofs(disch:=omega)only[Nat.reduceEqDiff,↓reduceIte,vcu,↓vcd,opK_some,l7,l8,l9,co33,co41,co29,Bool.not_true]
 refine call.mono ?_
 rintro _ A3 ⟨_,rfl,b3,z1,z2,rfl,o1,o2⟩
 have tz:=o1.texts
 have cz:=o2.tris
 clear o1 o2 call
 replace ta:=ta.sub b3
 replace ca:=ca.sub b3
 replace ka:=b3 _ _ ka
 replace tp:=tp.sub b3
 replace cp:=cp.sub b3
 replace kp:=b3 _ _ kp
 replace ty:=ty.sub b3
 replace cy:=cy.sub b3
 replace ky:=b3 _ _ ky
 unfold exV
 simp -implicitDefEqProofs(disch:=omega)only[Nat.reduceEqDiff,↓reduceIte,vcu,↓vcd,opK_some,List.getElem?_toArray,List.getElem?_cons_zero,List.getElem?_cons_succ]
 have onez:=cells_one tz cz
 refine r_local (cs:=#[.int .i64 e.s.O,.int .i64 e.s.E,.int .i64 e.s.M,z1,z2]) ze33 (by decide) z9q (by rw[co33];rfl) rfl onez (Nat.zero_lt_succ _) fun qz T10 n10 s10 kz=>?_
 replace kz:T10 qz=some ⟨exC z1 z2 e,false⟩:=kz
 replace ta:=ta.sub s10
 replace ca:=ca.sub s10
 replace ka:=s10 _ _ ka
 replace tp:=tp.sub s10
 replace cp:=cp.sub s10
 replace kp:=s10 _ _ kp
 replace ty:=ty.sub s10
 replace cy:=cy.sub s10
 replace ky:=s10 _ _ ky
 replace tz:=tz.sub s10
 replace cz:=cz.sub s10
 have l11:lds T10 qa 0 5=some [.int .i64 e.s.O,.int .i64 e.s.E,.int .i64 e.s.M,v1,v2]:=by rw[lds_of ka (by simp [exC])];rfl
 have l12:lds T10 qp 0 5=some [.int .i64 f.s.O,.int .i64 f.s.E,.int .i64 f.s.M,u1,u2]:=by rw[lds_of kp (by simp [exC])];rfl
 have l13:lds T10 qy 0 5=some [.int .i64 f.s.O,.int .i64 f.s.E,.int .i64 f.s.M,y1,y2]:=by rw[lds_of ky (by simp [exC])];rfl
 have l14:lds T10 qz 0 5=some [.int .i64 e.s.O,.int .i64 e.s.E,.int .i64 e.s.M,z1,z2]:=by rw[lds_of kz (by simp [exC])];rfl
 simp -implicitDefEqProofs(disch:=omega)only[Nat.reduceEqDiff,↓reduceIte,vcu,↓vcd,l11,l12,l13,l14,co33,co41,co29]
 refine (implEV_calls T10 (.agg #[.int .i64 f.s.O,.int .i64 f.s.E,.int .i64 f.s.M,u1,u2]) f ⟨_,_,rfl,tp,cp⟩ bf).mono ?_
 rintro _ _ ⟨rfl,rfl⟩
 rename_i T10
 rw[decide_eq_true g1]
 have q1:abin Tryz.prog 9 .eql (.string (tx w)) (.string { data:=#[111,107] })=some (.bool (decide (w=[111,107]))):=abin_seql (ys:=[111,107])
 have q2:abin Tryz.prog 9 .eql (.string (tx w_what)) (.string { data:=#[119,104,97,116] })=some (.bool true):=abin_seql (ys:=[119,104,97,116])
 by_cases hk:w=[111,107]
 ·rw[decide_eq_true hk] at q1
  simp -implicitDefEqProofs(disch:=omega)only[Nat.reduceEqDiff,↓reduceIte,vcu,↓vcd,opK_some,l11,l12,l13,l14,co33,co41,co29,q1]
  refine (sameEx_calls T10 (.agg #[.int .i64 e.s.O,.int .i64 e.s.E,.int .i64 e.s.M,z1,z2]) (.agg #[.int .i64 e.s.O,.int .i64 e.s.E,.int .i64 e.s.M,v1,v2]) e e ⟨_,_,rfl,tz,cz⟩ ⟨_,_,rfl,ta,ca⟩ hB hB).mono ?_
  rintro _ _ ⟨rfl,rfl⟩
  rename_i T10
  rw[decide_eq_true rfl]
  simp -implicitDefEqProofs(disch:=omega)only[Nat.reduceEqDiff,↓reduceIte,vcu,↓vcd,opK_some,q2]
  refine fin_one Tryz.results4 ?_
  simp -implicitDefEqProofs(disch:=omega)only[Nat.reduceEqDiff,↓reduceIte,vcu,↓vcd]
 ·rw[decide_eq_false hk] at q1
  simp -implicitDefEqProofs(disch:=omega)only[Nat.reduceEqDiff,↓reduceIte,vcu,↓vcd,opK_some,l11,l12,l13,l14,co33,co41,co29,q1]
  have hfe:f=e:=g3.resolve_left hk
  refine (sameEx_calls T10 (.agg #[.int .i64 f.s.O,.int .i64 f.s.E,.int .i64 f.s.M,u1,u2]) (.agg #[.int .i64 e.s.O,.int .i64 e.s.E,.int .i64 e.s.M,v1,v2]) f e ⟨_,_,rfl,tp,cp⟩ ⟨_,_,rfl,ta,ca⟩ bf hB).mono ?_
  rintro _ _ ⟨rfl,rfl⟩
  rename_i T10
  rw[decide_eq_true hfe]
  simp -implicitDefEqProofs(disch:=omega)only[Nat.reduceEqDiff,↓reduceIte,vcu,↓vcd,opK_some,l11,l12,l13,l14,co33,co41,co29]
  refine (sameEx_calls T10 (.agg #[.int .i64 e.s.O,.int .i64 e.s.E,.int .i64 e.s.M,z1,z2]) (.agg #[.int .i64 e.s.O,.int .i64 e.s.E,.int .i64 e.s.M,v1,v2]) e e ⟨_,_,rfl,tz,cz⟩ ⟨_,_,rfl,ta,ca⟩ hB hB).mono ?_
  rintro _ _ ⟨rfl,rfl⟩
  rename_i T10
  rw[decide_eq_true rfl]
  simp -implicitDefEqProofs(disch:=omega)only[Nat.reduceEqDiff,↓reduceIte,vcu,↓vcd,opK_some,q2]
  refine fin_one Tryz.results4 ?_
  simp -implicitDefEqProofs(disch:=omega)only[Nat.reduceEqDiff,↓reduceIte,vcu,↓vcd]
open Go.ChangeShapes Go.WideShapes Go.ChangeAt Go.RowKit
noncomputable def laidW4 (os:Os):World:=World.doorLaid Tryz.prog 400 os
set_option maxRecDepth 100000 in
theorem laid_met4 (os:Os):laidMetH Tryz.prog Rows.fnExLineRow.laid ((laidW4 os).forCall (fun _ _=>0) ⟨#[],#[.slice none 0 0],[]⟩).memory :=
 laidMetH_of_parts3 (fuel:=8) (laidMet_of_run' 8 kr9 kr9) kr9 kr9
set_option maxRecDepth 100000 in
theorem reads4 (os:Os) {H:Type} (enc:TypeId × Value→H):(DataW.whole enc Tryz.prog ((laidW4 os).forCall (fun _ _=>0) ⟨#[],#[.slice none 0 0],[]⟩).memory Tryz.f4.params.toList Rows.fnExLineSpec.vars false (#[.slice none 0 0]:Array Value).toList 8).isSome=true:=by kernel_rfl
set_option maxRecDepth 100000 in
theorem lifted4 (os:Os) (started:os.Started) (H:Type) (enc:TypeId × Value→H) (F:Stop.Interp) :
  ReturnsInHanded {} Tryz.checked os 4 .any ((OpenSpec.ofChange Rows.fnExLineSpec).preRow enc Tryz.prog Tryz.f4 Rows.fnExLineRow.domain false Rows.fnExLineRow.laid) (((OpenSpec.ofChange Rows.fnExLineSpec).at F).post enc Tryz.prog Tryz.f4 false true false false):=by
 obtain⟨x,hx⟩:=Option.isSome_iff_exists.1 (reads4 os enc)
 refine returnsInHanded_of_row (C:=Tryz.checked) (s:=OpenSpec.ofChange Rows.fnExLineSpec) own started kr9 Tryz.func4
  (witness_row_at (enc:=enc) (C:=Tryz.checked) false (laidW4 os) #[.slice none 0 0] rfl kr9 kr9 kr9
   (OpenSpec.preRow_of_cond 8 hx kr9 (fun k hk=>by cases hk) kr9 (laid_met4 os))) ?_
 intro W base args ds gs before hval hW _ _ _ hL hSh _
 rw[MakeChecks.laidMetH_plain _ _ _ kr9] at hL
 haveI:=glob_m hSh
 haveI:=glob_e hL
 haveI:=glob_t hL
 have hW':=hW
 obtain⟨p,q,hA,hV,-,-,-⟩:=hW'
 rw[Tryz.params4] at hA hval
 obtain⟨v0,vs0,d0,ds0,p0,q0,hargs,rfl,rfl,h0,r0⟩:=trodAll_cons hA
 obtain⟨rfl,rfl,rfl⟩:=trodAll_nil r0
 obtain⟨rfl,rfl⟩:=trodVars_none hV
 obtain rfl:args=#[v0]:=by cases args;simp_all
 obtain⟨β0,σ0,a0,zs0,L0,U0,S0,R0,I0,w0,m0⟩:=start_ints Tryz.underlying22 Tryz.underlying5 co5 (Start.start W) (hval 0 22 v0 rfl rfl) h0
 refine ((law4 σ0 a0 zs0 (I0) m0 w0).2 noProt β0 W [v0] S0.rel (.cons R0 (.nil _))).mono fun e W' h=>?_
 obtain⟨β',r,r',σ',-,rfl,hr,hrel,rfl⟩:=h
 cases hr
 exact⟨_,rfl,law_post laidOut hW rfl rfl (by rw[Tryz.params4];intro t ht;simp only[List.mem_cons,List.not_mem_nil,or_false,or_self] at ht;rcases ht with rfl<;>exact⟨by kernel_rfl,of_decide_eq_true kr9⟩) rfl Tryz.underlying4 hrel.below⟩
theorem facts4:joinedFacts Tryz.prog 4 Tryz.f4 Rows.fnExLineSpec Rows.fnExLineRow=true:=by
 unfold joinedFacts
 rw[mayE,liftsE,makeE]
 kernel_rfl
set_option maxRecDepth 100000 in
theorem said4:Rows.FnExLineSaid :=
 OpenClaim.holds_of_cond 4 Tryz.f4 rfl rfl rfl rfl rfl rfl rfl ⟨rfl,rfl,rfl,rfl,rfl⟩ rfl rfl rfl rfl rfl kr9 Tryz.func4 facts4 (of_decide_eq_true kr9)
  (by unfold Func.isWrapper;first | (rw[if_pos (by decide +kernel)];kernel_rfl) | (rw[if_neg (by decide +kernel)];exact⟨rfl,rfl⟩))
  (fun os started H enc _ F=>by rw[OpenClaim.pre_eq_preRow];exact lifted4 os started H enc F)
theorem plain4 (f:FuncId) (fn:Func) (hf:Tryz.pinned.checked.prog.funcNamed Rows.fnExLineRow.func=some f) (hfn:Tryz.pinned.checked.prog.funcs[f]?=some fn) :
  true=Tryz.pinned.checked.prog.looks []∧∀(j:Nat) t,fn.params[j]?=some t→Tryz.pinned.checked.prog.wantsStandIn t=false:=by
 obtain rfl:f=4:=Option.some.inj ((show Tryz.prog.funcNamed Rows.fnExLineRow.func=some 4 by kernel_rfl).symm.trans hf) |>.symm
 obtain rfl:fn=Tryz.f4:=(Option.some.inj (Tryz.func4.symm.trans hfn)).symm
 refine⟨isTrue_looks,fun j t ht=>?_⟩
 rw[Tryz.params4] at ht
 obtain rfl:t=22:=by simpa using Array.mem_of_getElem? ht
 exact (show Tryz.prog.wantsStandIn 22=false by kernel_rfl)
set_option maxRecDepth 100000 in
theorem proved4:Rows.FnExLineCardSaid :=
 Claim7.holds_tied_plain_at .later [] _ _ _ _ said4 (fun _ h=>by cases h) kr9 (fun _ h=>by cases h) fnExLine_row_tie rfl ⟨rfl,rfl⟩ kr9 rfl plain4 kr9
end Go.Proofs.YtofdnmlpfagibaaGreatDoor
