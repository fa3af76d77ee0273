/- FnReadJournal answers true for every two codes. -/
import Derived.Test.YtofdnmlpfagibaaGreatDoorSJk
set_option linter.unusedSimpArgs false
set_option linter.unusedVariables false
set_option maxHeartbeats 6400000
namespace Go.Proofs.YtofdnmlpfagibaaGreatDoor
open Go Go.Abs Go.RowKit Go.Dial Go.Clos
variable {w0:World} [GlobE w0] [GlobM w0] [GlobT w0]
set_option maxRecDepth 16000 in
theorem law8FRJ (σ:AHeap) (v:Value) (bs:List Int) (u:Value) (cs:List Int) (hv:Ints .u8 σ v bs) (hm:bs.length≤maxLen) (hw:∀z∈bs,(Lit.int .u8 z).wf=true) (hu:Ints .u8 σ u cs) (hm2:cs.length≤maxLen) (hw2:∀z∈cs,(Lit.int .u8 z).wf=true) :
  ACall Tryz.prog w0 3 [v,u] σ fun r _=>r=.bool true:=by
 unfold maxLen at hm hm2
 refine ACall.ints_arg (pre:=[]) kr9 hv fun σ0 h o hs hg0=>?_
 refine ACall.ints_arg (pre:=[_]) kr9 (hu.sub hs) fun σ1 h' o' hs' hu1=>?_
 have hg:=hg0.sub hs'
 clear hv hu hs hs' hg0 σ0 σ v u
 have hb:=bytes_of hw
 have hb2:=bytes_of hw2
 refine acall_go mixed Tryz.func3 rfl good3 fun pr=>?_
 by_cases hbig:1048576 < bs.length
 ·simp -implicitDefEqProofs(disch:=omega)only[Nat.reduceEqDiff,↓reduceIte,vcu,↓vcd,List.singleton_append,List.cons_append]
  refine fin_one Tryz.results3 ?_
  simp -implicitDefEqProofs(disch:=omega)only[Nat.reduceEqDiff,↓reduceIte,vcu,↓vcd]
 by_cases hbig2:1048576 < cs.length
 ·simp -implicitDefEqProofs(disch:=omega)only[Nat.reduceEqDiff,↓reduceIte,vcu,↓vcd,List.singleton_append,List.cons_append]
  refine fin_one Tryz.results3 ?_
  simp -implicitDefEqProofs(disch:=omega)only[Nat.reduceEqDiff,↓reduceIte,vcu,↓vcd]
 have hl:bs.length≤1048576:=by omega
 have hl2:cs.length≤1048576:=by omega
 simp -implicitDefEqProofs(disch:=omega)only[Nat.reduceEqDiff,↓reduceIte,vcu,↓vcd,List.singleton_append,List.cons_append]
 refine (drawRJ_at σ1 h o bs hg hl hb).mono ?_
 rintro _ τ ⟨⟨s,rfl,hsl⟩,hsub⟩
 replace hu1:=hu1.sub hsub
 clear hg hl hb hsub
 obtain⟨list,hlist⟩:∃x,(rj [] s).1=x:=⟨_,rfl⟩
 obtain⟨n,hn⟩:∃x,(rj [] s).2=x:=⟨_,rfl⟩
 obtain⟨hjr,hnl,hok,hll⟩:=rj_facts hlist hn hsl
 have htx:∀d∈list,d.t.length≤1048576:=fun d hd=>dd_t (hok d hd)
 simp -implicitDefEqProofs(disch:=omega)only[Nat.reduceEqDiff,↓reduceIte,vcu,↓vcd,opK_some]
 have call:=implRJ_row (w0:=w0) τ s om9
 rw[hlist,hn] at call
 refine call.mono ?_
 rintro _ T1 ⟨q,rfl,b1,vq⟩
 clear call
 replace hu1:=hu1.sub b1
 simp -implicitDefEqProofs(disch:=omega)only[Nat.reduceEqDiff,↓reduceIte,vcu,↓vcd,opK_some,List.getElem?_toArray,List.getElem?_cons_zero,List.getElem?_cons_succ]
 refine (readJrn_calls T1 s om9).mono ?_
 rintro _ T2 ⟨q8,rfl,b2,v8,-⟩
 rw[hlist] at v8
 rw[hlist,hn]
 replace hu1:=hu1.sub b2
 replace vq:=b2 _ _ vq
 simp -implicitDefEqProofs(disch:=omega)only[Nat.reduceEqDiff,↓reduceIte,vcu,↓vcd,opK_some,List.getElem?_toArray,List.getElem?_cons_zero,List.getElem?_cons_succ]
 have tq:∀A,Sub T2 A→Dds A (.slice (some ⟨q,0,none⟩) list.length 3) list:=fun A h=>.inr ⟨q,0,rfl,ddsAt_own (h _ _ vq)⟩
 refine (sameD_calls T2 _ _ list list (tq T2 (Sub.refl _)) (.inr ⟨q8,0,rfl,ddsAt_own v8⟩) om9 om9).mono ?_
 rintro _ _ ⟨rfl,rfl⟩
 rename_i T2
 rw[decide_eq_true rfl]
 simp -implicitDefEqProofs(disch:=omega)only[Nat.reduceEqDiff,↓reduceIte,vcu,↓vcd,opK_some,Bool.not_true,ne_eq,not_true_eq_false,decide_false]
 refine vc_loop_c mixed kr9 [1,5,6,7] (fun m a σ'=>∃k:Nat,m+k=s.length+1∧a 10=.int .i64 (k:Int)∧Sub T2 σ') (s.length+1) ⟨0,by simp,rfl,Sub.refl _⟩ ?_
 rintro mm aa A hcc ⟨k,hk,h10,sA⟩
 simp -implicitDefEqProofs(disch:=omega)only[Nat.reduceEqDiff,↓reduceIte,vcu,↓vcd] at hcc
 obtain⟨e1,e5,e6,e7,-⟩:=hcc
 by_cases hlt:k≤s.length
 ·simp -implicitDefEqProofs(disch:=omega)only[Nat.reduceEqDiff,↓reduceIte,vcu,↓vcd,e1,e5,e6,e7,h10]
  have hpre:=rj_take s [] k
  rw[hlist] at hpre
  refine (implRJ_calls A (s.take k) (by rw[List.length_take];omega)).mono ?_
  rintro _ A2 ⟨vx,rfl,b3,ox⟩
  obtain⟨x,hx⟩:∃x,(rj [] (s.take k)).1=x:=⟨_,rfl⟩
  obtain⟨m2,hm2'⟩:∃x,(rj [] (s.take k)).2=x:=⟨_,rfl⟩
  rw[hx,hm2'] at hpre
  rw[hx] at ox
  rw[hm2']
  have hxl:x.length≤list.length:=hpre.1.length_le
  have hxt:list.take x.length=x:=(List.prefix_iff_eq_take.1 hpre.1).symm
  have hmk:m2≤k:=by simpa using hpre.2
  have tx:=ox.dds
  have lx:=lenD tx
  have sA2:=sA.trans b3
  have hmin:min (x.length:Int) (list.length:Int)=(x.length:Int):=by omega
  have tl:Dds A2 (.slice (some ⟨q,0,none⟩) x.length 3) (list.take x.length):=.inr ⟨q,0,by rw[List.length_take,Nat.min_eq_left hxl],(ddsAt_own (sA2 _ _ vq)).take _⟩
  rw[hxt] at tl
  simp -implicitDefEqProofs(disch:=omega)only[Nat.reduceEqDiff,↓reduceIte,vcu,↓vcd,opK_some,List.getElem?_toArray,List.getElem?_cons_zero,List.getElem?_cons_succ,e1,e5,e6,e7,h10,lx,hmin,Int.toNat_natCast]
  refine (sameD_calls A2 vx _ x x tx tl om9 om9).mono ?_
  rintro _ _ ⟨rfl,rfl⟩
  rename_i A2
  rw[decide_eq_true rfl]
  simp -implicitDefEqProofs(disch:=omega)only[Nat.reduceEqDiff,↓reduceIte,vcu,↓vcd,opK_some,e1,e5,e6,e7,h10,Bool.not_true]
  exact⟨by simp [e1,e5,e6,e7],mm - 1,by omega,k+1,by omega,by simp,sA2⟩
 replace hu1:=hu1.sub sA
 replace vq:=sA _ _ vq
 simp -implicitDefEqProofs(disch:=omega)only[Nat.reduceEqDiff,↓reduceIte,vcu,↓vcd,e1,e5,e6,e7,h10]
 refine (drawER_at A h' o' cs hu1 hl2 hb2).mono ?_
 rintro _ B ⟨⟨e,v1,v2,vd,ds,rfl,hv,hs,-⟩,b4⟩
 replace vq:=b4 _ _ vq
 obtain⟨ta,ca⟩:=exV_in hv
 clear hv hu1
 have hB:=hs.b
 unfold exV
 simp -implicitDefEqProofs(disch:=omega)only[Nat.reduceEqDiff,↓reduceIte,vcu,↓vcd,opK_some,List.getElem?_toArray,List.getElem?_cons_zero,List.getElem?_cons_succ]
 have onea:=cells_one ta ca
 refine r_local (cs:=#[.int .i64 e.s.O,.int .i64 e.s.E,.int .i64 e.s.M,v1,v2]) ze33 (by decide) z9q (by rw[co33];rfl) rfl onea (Nat.zero_lt_succ _) fun qa T21 n21 s21 ka=>?_
 replace ka:T21 qa=some ⟨exC v1 v2 e,false⟩:=ka
 replace ta:=ta.sub s21
 replace ca:=ca.sub s21
 replace vq:=s21 _ _ vq
 have l22:lds T21 qa 0 5=some [.int .i64 e.s.O,.int .i64 e.s.E,.int .i64 e.s.M,v1,v2]:=by rw[lds_of ka (by simp [exC])];rfl
 simp -implicitDefEqProofs(disch:=omega)only[Nat.reduceEqDiff,↓reduceIte,vcu,↓vcd,l22,co33,co41,co29]
 refine r_local (cs:=#[.int .i64 e.s.O,.int .i64 e.s.E,.int .i64 e.s.M,v1,v2]) ze33 (by decide) z9q (by rw[co33];rfl) rfl onea (Nat.zero_lt_succ _) fun qn TN nn sn kn=>?_
 replace kn:TN qn=some ⟨exC v1 v2 e,false⟩:=kn
 have xn:ExR TN [qn] v1 v2 e:=(ExR.new (l:=[]) (exR_nil ta ca) nn).sub sn
 simp -implicitDefEqProofs(disch:=omega)only[Nat.reduceEqDiff,↓reduceIte,vcu,↓vcd]
 refine vc_loop_c mixed kr9 [5,6,7,13,15] (fun m a T=>∃(k:Nat) (x:Ex) (u1 u2:Value),m+k=list.length∧a 16=.int .i64 (k:Int)∧Sub T21 T∧T qn=some ⟨exC u1 u2 x,false⟩∧ExR T [qn] u1 u2 x∧x=sayN e (list.take k)∧ExB x) list.length ⟨0,e,v1,v2,by simp,rfl,sn,kn,xn,rfl,hB⟩ ?_
 clear sn kn xn
 rintro m3 a3 T0 hc3 ⟨k,x,u1,u2,hk3,h16,s0,kn,xn,hx,bx⟩
 simp -implicitDefEqProofs(disch:=omega)only[Nat.reduceEqDiff,↓reduceIte,vcu,↓vcd,e1,e5,e6,e7] at hc3
 obtain⟨f5,f6,f7,f13,f15,-⟩:=hc3
 replace ta:=ta.sub s0
 replace ca:=ca.sub s0
 replace ka:=s0 _ _ ka
 replace vq:=s0 _ _ vq
 have l23:lds T0 qa 0 5=some [.int .i64 e.s.O,.int .i64 e.s.E,.int .i64 e.s.M,v1,v2]:=by rw[lds_of ka (by simp [exC])];rfl
 have EVc:=exVal_calls (w0:=w0) T0 (.agg #[.int .i64 e.s.O,.int .i64 e.s.E,.int .i64 e.s.M,v1,v2]) e ⟨_,_,rfl,ta,ca⟩ hB
 by_cases hlt3:k < list.length
 case neg =>
  have hkl:k=list.length:=by omega
  simp -implicitDefEqProofs(disch:=omega)only[Nat.reduceEqDiff,↓reduceIte,vcu,↓vcd,f5,f6,f7,f13,f15,h16,l23,co33,co41,co29]
  by_cases ho:ExOk e
  ·skip
   have erc:=implER_calls (w0:=w0) T0 (.agg #[.int .i64 e.s.O,.int .i64 e.s.E,.int .i64 e.s.M,v1,v2]) (.slice (some ⟨q,0,none⟩) list.length 3) e list ⟨_,_,rfl,ta,ca⟩ hB (.inr ⟨q,0,rfl,ddsAt_own vq⟩) om9 htx
   refine erc.mono ?_
   rintro _ TE ⟨_,rfl,bE,y1,y2,rfl,o1,o2⟩
   have tz:=o1.texts
   have cz:=o2.tris
   have bz:=exRunB e list
   clear o1 o2 erc EVc
   replace ta:=ta.sub bE
   replace ca:=ca.sub bE
   replace ka:=bE _ _ ka
   replace vq:=bE _ _ vq
   replace kn:=bE _ _ kn
   replace xn:=xn.sub bE
   obtain⟨f,hf⟩:∃f,(exRun e list).1=f:=⟨_,rfl⟩
   rw[hf] at tz cz bz ⊢
   unfold exV
   simp -implicitDefEqProofs(disch:=omega)only[Nat.reduceEqDiff,↓reduceIte,vcu,↓vcd,opK_some,List.getElem?_toArray,List.getElem?_cons_zero,List.getElem?_cons_succ]
   have onez:=cells_one tz cz
   refine r_local (cs:=#[.int .i64 f.s.O,.int .i64 f.s.E,.int .i64 f.s.M,y1,y2]) ze33 (by decide) z9q (by rw[co33];rfl) rfl onez (Nat.zero_lt_succ _) fun qz T24 n24 s24 kz=>?_
   replace kz:T24 qz=some ⟨exC y1 y2 f,false⟩:=kz
   replace ta:=ta.sub s24
   replace ca:=ca.sub s24
   replace ka:=s24 _ _ ka
   replace tz:=tz.sub s24
   replace cz:=cz.sub s24
   replace vq:=s24 _ _ vq
   replace kn:=s24 _ _ kn
   replace xn:=xn.sub s24
   have l25:lds T24 qa 0 5=some [.int .i64 e.s.O,.int .i64 e.s.E,.int .i64 e.s.M,v1,v2]:=by rw[lds_of ka (by simp [exC])];rfl
   have l26:lds T24 qz 0 5=some [.int .i64 f.s.O,.int .i64 f.s.E,.int .i64 f.s.M,y1,y2]:=by rw[lds_of kz (by simp [exC])];rfl
   have jc:=implJT_calls (w0:=w0) T24 (.slice (some ⟨q,0,none⟩) list.length 3) list (.inr ⟨q,0,rfl,ddsAt_own vq⟩) om9 htx
   rw[hjr] at jc
   have ev:=exVal_calls (w0:=w0) T24 (.agg #[.int .i64 e.s.O,.int .i64 e.s.E,.int .i64 e.s.M,v1,v2]) e ⟨_,_,rfl,ta,ca⟩ hB
   have lnow:lds T24 qn 0 5=some [.int .i64 x.s.O,.int .i64 x.s.E,.int .i64 x.s.M,u1,u2]:=by rw[lds_of kn (by simp [exC])];rfl
   simp -implicitDefEqProofs(disch:=omega)only[Nat.reduceEqDiff,↓reduceIte,vcu,↓vcd,f5,f6,f7,f13,f15,l25,l26,co33,co41,co29]
   rw[r_callq]
   refine⟨_,jc,?_⟩
   simp -implicitDefEqProofs(disch:=omega)only[Nat.reduceEqDiff,↓reduceIte,vcu,↓vcd,f5,f6,f7,f13,f15,l25,l26,co33,co41,co29]
   rw[r_callq]
   refine⟨_,ev,?_⟩
   have hxf:x=f:=by rw[hx,←hf,hkl,List.take_length];exact say_end ho hok
   have sm:=sameEx_calls (w0:=w0) T24 (.agg #[.int .i64 x.s.O,.int .i64 x.s.E,.int .i64 x.s.M,u1,u2]) (.agg #[.int .i64 f.s.O,.int .i64 f.s.E,.int .i64 f.s.M,y1,y2]) x f xn.ex ⟨_,_,rfl,tz,cz⟩ bx bz
   rw[decide_eq_true hxf] at sm
   rw[decide_eq_true ho]
   simp -implicitDefEqProofs(disch:=omega)only[Nat.reduceEqDiff,↓reduceIte,vcu,↓vcd,f5,f6,f7,f13,f15,lnow,l25,l26,co33,co41,co29,Bool.not_true]
   rw[r_callq]
   refine⟨_,sm,?_⟩
   simp -implicitDefEqProofs(disch:=omega)only[Nat.reduceEqDiff,↓reduceIte,vcu,↓vcd,f5,f6,f7,f13,f15,l25,l26,co33,co41,co29,Bool.not_false]
   rw[r_callq]
   refine⟨_,alive_at _,?_⟩
   simp -implicitDefEqProofs(disch:=omega)only[Nat.reduceEqDiff,↓reduceIte,vcu,↓vcd]
   refine fin_one Tryz.results3 ?_
   simp -implicitDefEqProofs(disch:=omega)only[Nat.reduceEqDiff,↓reduceIte,vcu,↓vcd]
  ·skip
   have erc:=implER_calls (w0:=w0) T0 (.agg #[.int .i64 e.s.O,.int .i64 e.s.E,.int .i64 e.s.M,v1,v2]) (.slice (some ⟨q,0,none⟩) list.length 3) e list ⟨_,_,rfl,ta,ca⟩ hB (.inr ⟨q,0,rfl,ddsAt_own vq⟩) om9 htx
   refine erc.mono ?_
   rintro _ TE ⟨_,rfl,bE,y1,y2,rfl,o1,o2⟩
   have tz:=o1.texts
   have cz:=o2.tris
   have bz:=exRunB e list
   clear o1 o2 erc EVc
   replace ta:=ta.sub bE
   replace ca:=ca.sub bE
   replace ka:=bE _ _ ka
   replace vq:=bE _ _ vq
   replace kn:=bE _ _ kn
   replace xn:=xn.sub bE
   obtain⟨f,hf⟩:∃f,(exRun e list).1=f:=⟨_,rfl⟩
   rw[hf] at tz cz bz ⊢
   unfold exV
   simp -implicitDefEqProofs(disch:=omega)only[Nat.reduceEqDiff,↓reduceIte,vcu,↓vcd,opK_some,List.getElem?_toArray,List.getElem?_cons_zero,List.getElem?_cons_succ]
   have onez:=cells_one tz cz
   refine r_local (cs:=#[.int .i64 f.s.O,.int .i64 f.s.E,.int .i64 f.s.M,y1,y2]) ze33 (by decide) z9q (by rw[co33];rfl) rfl onez (Nat.zero_lt_succ _) fun qz T27 n27 s27 kz=>?_
   replace kz:T27 qz=some ⟨exC y1 y2 f,false⟩:=kz
   replace ta:=ta.sub s27
   replace ca:=ca.sub s27
   replace ka:=s27 _ _ ka
   replace tz:=tz.sub s27
   replace cz:=cz.sub s27
   replace vq:=s27 _ _ vq
   replace kn:=s27 _ _ kn
   replace xn:=xn.sub s27
   have l28:lds T27 qa 0 5=some [.int .i64 e.s.O,.int .i64 e.s.E,.int .i64 e.s.M,v1,v2]:=by rw[lds_of ka (by simp [exC])];rfl
   have l29:lds T27 qz 0 5=some [.int .i64 f.s.O,.int .i64 f.s.E,.int .i64 f.s.M,y1,y2]:=by rw[lds_of kz (by simp [exC])];rfl
   have jc:=implJT_calls (w0:=w0) T27 (.slice (some ⟨q,0,none⟩) list.length 3) list (.inr ⟨q,0,rfl,ddsAt_own vq⟩) om9 htx
   rw[hjr] at jc
   have ev:=exVal_calls (w0:=w0) T27 (.agg #[.int .i64 e.s.O,.int .i64 e.s.E,.int .i64 e.s.M,v1,v2]) e ⟨_,_,rfl,ta,ca⟩ hB
   have lnow:lds T27 qn 0 5=some [.int .i64 x.s.O,.int .i64 x.s.E,.int .i64 x.s.M,u1,u2]:=by rw[lds_of kn (by simp [exC])];rfl
   simp -implicitDefEqProofs(disch:=omega)only[Nat.reduceEqDiff,↓reduceIte,vcu,↓vcd,f5,f6,f7,f13,f15,l28,l29,co33,co41,co29]
   rw[r_callq]
   refine⟨_,jc,?_⟩
   simp -implicitDefEqProofs(disch:=omega)only[Nat.reduceEqDiff,↓reduceIte,vcu,↓vcd,f5,f6,f7,f13,f15,l28,l29,co33,co41,co29]
   rw[r_callq]
   refine⟨_,ev,?_⟩
   rw[decide_eq_false ho]
   simp -implicitDefEqProofs(disch:=omega)only[Nat.reduceEqDiff,↓reduceIte,vcu,↓vcd,f5,f6,f7,f13,f15,l28,l29,co33,co41,co29,Bool.not_false]
   rw[r_callq]
   refine⟨_,alive_at _,?_⟩
   simp -implicitDefEqProofs(disch:=omega)only[Nat.reduceEqDiff,↓reduceIte,vcu,↓vcd]
   refine fin_one Tryz.results3 ?_
   simp -implicitDefEqProofs(disch:=omega)only[Nat.reduceEqDiff,↓reduceIte,vcu,↓vcd]
 simp -implicitDefEqProofs(disch:=omega)only[Nat.reduceEqDiff,↓reduceIte,vcu,↓vcd,f5,f6,f7,f13,f15,h16,l23,co33,co41,co29]
 refine EVc.mono ?_
 rintro _ _ ⟨rfl,rfl⟩
 rename_i T0
 by_cases ho:ExOk e
 case neg =>
  rw[decide_eq_false ho]
  simp -implicitDefEqProofs(disch:=omega)only[Nat.reduceEqDiff,↓reduceIte,vcu,↓vcd,opK_some,f5,f6,f7,f13,f15,h16,l23,co33,co41,co29]
  have erc:=implER_calls (w0:=w0) T0 (.agg #[.int .i64 e.s.O,.int .i64 e.s.E,.int .i64 e.s.M,v1,v2]) (.slice (some ⟨q,0,none⟩) list.length 3) e list ⟨_,_,rfl,ta,ca⟩ hB (.inr ⟨q,0,rfl,ddsAt_own vq⟩) om9 htx
  refine erc.mono ?_
  rintro _ TE ⟨_,rfl,bE,y1,y2,rfl,o1,o2⟩
  have tz:=o1.texts
  have cz:=o2.tris
  have bz:=exRunB e list
  clear o1 o2 erc EVc
  replace ta:=ta.sub bE
  replace ca:=ca.sub bE
  replace ka:=bE _ _ ka
  replace vq:=bE _ _ vq
  replace kn:=bE _ _ kn
  replace xn:=xn.sub bE
  obtain⟨f,hf⟩:∃f,(exRun e list).1=f:=⟨_,rfl⟩
  rw[hf] at tz cz bz ⊢
  unfold exV
  simp -implicitDefEqProofs(disch:=omega)only[Nat.reduceEqDiff,↓reduceIte,vcu,↓vcd,opK_some,List.getElem?_toArray,List.getElem?_cons_zero,List.getElem?_cons_succ]
  have onez:=cells_one tz cz
  refine r_local (cs:=#[.int .i64 f.s.O,.int .i64 f.s.E,.int .i64 f.s.M,y1,y2]) ze33 (by decide) z9q (by rw[co33];rfl) rfl onez (Nat.zero_lt_succ _) fun qz T30 n30 s30 kz=>?_
  replace kz:T30 qz=some ⟨exC y1 y2 f,false⟩:=kz
  replace ta:=ta.sub s30
  replace ca:=ca.sub s30
  replace ka:=s30 _ _ ka
  replace tz:=tz.sub s30
  replace cz:=cz.sub s30
  replace vq:=s30 _ _ vq
  replace kn:=s30 _ _ kn
  replace xn:=xn.sub s30
  have l31:lds T30 qa 0 5=some [.int .i64 e.s.O,.int .i64 e.s.E,.int .i64 e.s.M,v1,v2]:=by rw[lds_of ka (by simp [exC])];rfl
  have l32:lds T30 qz 0 5=some [.int .i64 f.s.O,.int .i64 f.s.E,.int .i64 f.s.M,y1,y2]:=by rw[lds_of kz (by simp [exC])];rfl
  have jc:=implJT_calls (w0:=w0) T30 (.slice (some ⟨q,0,none⟩) list.length 3) list (.inr ⟨q,0,rfl,ddsAt_own vq⟩) om9 htx
  rw[hjr] at jc
  have ev:=exVal_calls (w0:=w0) T30 (.agg #[.int .i64 e.s.O,.int .i64 e.s.E,.int .i64 e.s.M,v1,v2]) e ⟨_,_,rfl,ta,ca⟩ hB
  have lnow:lds T30 qn 0 5=some [.int .i64 x.s.O,.int .i64 x.s.E,.int .i64 x.s.M,u1,u2]:=by rw[lds_of kn (by simp [exC])];rfl
  simp -implicitDefEqProofs(disch:=omega)only[Nat.reduceEqDiff,↓reduceIte,vcu,↓vcd,f5,f6,f7,f13,f15,l31,l32,co33,co41,co29]
  rw[r_callq]
  refine⟨_,jc,?_⟩
  simp -implicitDefEqProofs(disch:=omega)only[Nat.reduceEqDiff,↓reduceIte,vcu,↓vcd,f5,f6,f7,f13,f15,l31,l32,co33,co41,co29]
  rw[r_callq]
  refine⟨_,ev,?_⟩
  rw[decide_eq_false ho]
  simp -implicitDefEqProofs(disch:=omega)only[Nat.reduceEqDiff,↓reduceIte,vcu,↓vcd,f5,f6,f7,f13,f15,l31,l32,co33,co41,co29,Bool.not_false]
  rw[r_callq]
  refine⟨_,alive_at _,?_⟩
  simp -implicitDefEqProofs(disch:=omega)only[Nat.reduceEqDiff,↓reduceIte,vcu,↓vcd]
  refine fin_one Tryz.results3 ?_
  simp -implicitDefEqProofs(disch:=omega)only[Nat.reduceEqDiff,↓reduceIte,vcu,↓vcd]
 rw[decide_eq_true ho]
 obtain⟨hxo,hnx,han⟩:=say_next ho hok hlt3
 rw[←hx] at hxo hnx han
 have hda:=(ddsAt_own vq).all hlt3
 have hdt:=htx (list.getD k dd0) (by simp [List.getD,hlt3])
 generalize list.getD k dd0=d at hnx han hda hdt
 unfold ddc at hda
 obtain⟨y,hy⟩:∃y,(exLine x (deedT d)).1=y:=⟨_,rfl⟩
 obtain⟨w,hw'⟩:∃w,(exLine x (deedT d)).2=w:=⟨_,rfl⟩
 rw[hy] at hnx
 rw[hw'] at han
 have by_:ExB y:=by rw[←hy];exact exLineB x _
 have hdl:=deedT_len d
 have lnow:lds T0 qn 0 5=some [.int .i64 x.s.O,.int .i64 x.s.E,.int .i64 x.s.M,u1,u2]:=by rw[lds_of kn (by simp [exC])];rfl
 simp -implicitDefEqProofs(disch:=omega)only[Nat.reduceEqDiff,↓reduceIte,vcu,↓vcd,opK_some,f5,f6,f7,f13,f15,h16,l23,co33,co41,co29]
 refine acodeB_monoY (Q':=fun en a' T=>en=.normal∧(a' 5=.string (tx s)∧a' 6=.slice (some ⟨q,0,none⟩) list.length 3∧a' 7=.int .i64 (n:Int)∧a' 13=.pointer (some ⟨qa,0,none⟩)∧a' 15=.pointer (some ⟨qn,0,none⟩)∧a' 16=.int .i64 (k:Int))∧∃(c:Nat) (y1 y2:Value),a' 17=.pointer (some ⟨c,0,none⟩)∧a' 18=.string (tx w)∧Sub T0 T∧T c=some ⟨exC y1 y2 y,false⟩∧ExR T [qn] y1 y2 y)
  (region_tree mixed (quiets [0,1,2,3,4] (.two 5 (.two 6 (quiets [7,8,9] (.one 10 (.one 11 (quiets [12] .stop)))) 10 (.one 6 (quiets [7,8,9] (.one 11 (quiets [12] .stop))))) 10 (.one 5 (.one 6 (quiets [7,8,9] (.one 11 (quiets [12] .stop))))))) [([0,1,2,3,4],Sub T0)] kr9 kr9 (fun p hp=>by simp only[List.mem_singleton] at hp;subst hp;exact Sub.refl _) ?_) ?_
 ·refine tree_quiets T0 _ _ _ (sfIn kr9) kr9 kr9 ?_
  simp -implicitDefEqProofs(disch:=omega)only[Nat.reduceEqDiff,↓reduceIte,vcu,↓vcd,vcp,f5,f6,f7,f13,f15,h16,hda,lnow,co33,co41,co29]
  have B0:=Sub.refl T0
  refine tree_two rfl rfl ?_ ?_
  ·skip
   try simp -implicitDefEqProofs(disch:=omega)only[Nat.reduceEqDiff,↓reduceIte,vcu,↓vcd]
   refine (implDT_calls T0 d hdt).mono ?_
   rintro _ _ ⟨rfl,rfl⟩
   rename_i T0
   simp -implicitDefEqProofs(disch:=omega)only[Nat.reduceEqDiff,↓reduceIte,vcu,↓vcd,opK_some]
   refine⟨.inl rfl,?_⟩
   refine tree_two rfl rfl ?_ ?_
   ·skip
    try simp -implicitDefEqProofs(disch:=omega)only[Nat.reduceEqDiff,↓reduceIte,vcu,↓vcd]
    have elc:=implEL_calls (w0:=w0) T0 (.agg #[.int .i64 x.s.O,.int .i64 x.s.E,.int .i64 x.s.M,u1,u2]) x (deedT d) xn.ex bx om9
    rw[hy,hw'] at elc
    refine elc.mono ?_
    rintro _ A6 ⟨_,rfl,b6,y1,y2,rfl,o1,o2⟩
    clear elc
    have B6:=B0.trans b6
    unfold exV
    simp -implicitDefEqProofs(disch:=omega)only[Nat.reduceEqDiff,↓reduceIte,vcu,↓vcd,opK_some]
    have xy:ExR A6 [qn] y1 y2 y:=ExR.of_own ⟨y1,y2,rfl,o1,o2⟩ fun j hj=>by rw[List.mem_singleton.1 hj];exact⟨_,B0 _ _ kn⟩
    refine⟨keep_of rfl fun p hp=>by simp only[List.mem_singleton] at hp;subst hp;exact .inr B6,?_⟩
    refine tree_quiets (fun _=>none) _ _ _ sf0 kr9 kr9 ?_
    simp -implicitDefEqProofs(disch:=omega)only[Nat.reduceEqDiff,↓reduceIte,vcu,↓vcd,vcp,List.getElem?_toArray,List.getElem?_cons_zero,List.getElem?_cons_succ]
    refine tree_one rfl ?_
    try simp -implicitDefEqProofs(disch:=omega)only[Nat.reduceEqDiff,↓reduceIte,vcu,↓vcd]
    refine r_new ze33 fun c AC nc bC ec=>?_
    replace ec:AC c=some ⟨[.int .i64 0,.int .i64 0,.int .i64 0,.slice none 0 0,.slice none 0 0],false⟩:=ec
    have BC:=B6.trans bC
    have ncc:=free_sub B6 nc
    try simp -implicitDefEqProofs(disch:=omega)only[Nat.reduceEqDiff,↓reduceIte,vcu,↓vcd]
    have xyc:=xy.sub bC
    refine⟨keep_of rfl fun p hp=>by simp only[List.mem_singleton] at hp;subst hp;exact .inr BC,?_⟩
    refine tree_one rfl ?_
    have hone:=cells_one o1.texts o2.tris
    refine r_sets (g:=c) (i:=0) (C:=[.int .i64 0,.int .i64 0,.int .i64 0,.slice none 0 0,.slice none 0 0]) z9q z9co33 (by simp -implicitDefEqProofs(disch:=omega)only[Nat.reduceEqDiff,↓reduceIte,vcu,↓vcd];exact hone) z9z ec z9l fun A9 k9 e9=>?_
    replace e9:A9 c=some ⟨exC y1 y2 y,false⟩:=e9
    have S9:Sub T0 A9:=k9.sub BC ncc
    have x9:ExR A9 [qn] y1 y2 y:=xy.sub (k9.sub bC nc)
    try simp -implicitDefEqProofs(disch:=omega)only[Nat.reduceEqDiff,↓reduceIte,vcu,↓vcd]
    refine⟨keep_of rfl fun p hp=>by simp only[List.mem_singleton] at hp;subst hp;exact .inr S9,?_⟩
    refine tree_quiets (fun _=>none) _ _ _ sf0 kr9 kr9 ?_
    simp -implicitDefEqProofs(disch:=omega)only[Nat.reduceEqDiff,↓reduceIte,vcu,↓vcd,vcp]
    refine tree_stop ?_
    exact⟨by first|trivial|rfl,⟨by simp -implicitDefEqProofs(disch:=omega)only[Nat.reduceEqDiff,↓reduceIte,vcu,↓vcd,f5],by simp -implicitDefEqProofs(disch:=omega)only[Nat.reduceEqDiff,↓reduceIte,vcu,↓vcd,f6],by simp -implicitDefEqProofs(disch:=omega)only[Nat.reduceEqDiff,↓reduceIte,vcu,↓vcd,f7],by simp -implicitDefEqProofs(disch:=omega)only[Nat.reduceEqDiff,↓reduceIte,vcu,↓vcd,f13],by simp -implicitDefEqProofs(disch:=omega)only[Nat.reduceEqDiff,↓reduceIte,vcu,↓vcd,f15],by simp -implicitDefEqProofs(disch:=omega)only[Nat.reduceEqDiff,↓reduceIte,vcu,↓vcd,h16]⟩,c,y1,y2,by first|trivial|simp -implicitDefEqProofs(disch:=omega)only[Nat.reduceEqDiff,↓reduceIte,vcu,↓vcd],by first|trivial|simp -implicitDefEqProofs(disch:=omega)only[Nat.reduceEqDiff,↓reduceIte,vcu,↓vcd],S9,e9,x9⟩
   ·skip
    try simp -implicitDefEqProofs(disch:=omega)only[Nat.reduceEqDiff,↓reduceIte,vcu,↓vcd]
    refine r_new ze33 fun c AC nc bC ec=>?_
    replace ec:AC c=some ⟨[.int .i64 0,.int .i64 0,.int .i64 0,.slice none 0 0,.slice none 0 0],false⟩:=ec
    have BC:=B0.trans bC
    have ncc:=free_sub B0 nc
    try simp -implicitDefEqProofs(disch:=omega)only[Nat.reduceEqDiff,↓reduceIte,vcu,↓vcd]
    refine⟨keep_of rfl fun p hp=>by simp only[List.mem_singleton] at hp;subst hp;exact .inr BC,?_⟩
    refine tree_one rfl ?_
    try simp -implicitDefEqProofs(disch:=omega)only[Nat.reduceEqDiff,↓reduceIte,vcu,↓vcd]
    have elc:=implEL_calls (w0:=w0) AC (.agg #[.int .i64 x.s.O,.int .i64 x.s.E,.int .i64 x.s.M,u1,u2]) x (deedT d) (xn.sub BC).ex bx om9
    rw[hy,hw'] at elc
    refine elc.mono ?_
    rintro _ A6 ⟨_,rfl,b6,y1,y2,rfl,o1,o2⟩
    clear elc
    have B6:=BC.trans b6
    unfold exV
    simp -implicitDefEqProofs(disch:=omega)only[Nat.reduceEqDiff,↓reduceIte,vcu,↓vcd,opK_some]
    have xy:ExR A6 [qn] y1 y2 y:=ExR.of_own ⟨y1,y2,rfl,o1,o2⟩ fun j hj=>by rw[List.mem_singleton.1 hj];exact⟨_,BC _ _ kn⟩
    have ec1:=ec
    replace ec:=b6 _ _ ec
    refine⟨keep_of rfl fun p hp=>by simp only[List.mem_singleton] at hp;subst hp;exact .inr B6,?_⟩
    refine tree_quiets (fun _=>none) _ _ _ sf0 kr9 kr9 ?_
    simp -implicitDefEqProofs(disch:=omega)only[Nat.reduceEqDiff,↓reduceIte,vcu,↓vcd,vcp,List.getElem?_toArray,List.getElem?_cons_zero,List.getElem?_cons_succ]
    refine tree_one rfl ?_
    have hone:=cells_one o1.texts o2.tris
    refine r_sets (g:=c) (i:=0) (C:=[.int .i64 0,.int .i64 0,.int .i64 0,.slice none 0 0,.slice none 0 0]) z9q z9co33 (by simp -implicitDefEqProofs(disch:=omega)only[Nat.reduceEqDiff,↓reduceIte,vcu,↓vcd];exact hone) z9z ec z9l fun A9 k9 e9=>?_
    replace e9:A9 c=some ⟨exC y1 y2 y,false⟩:=e9
    have S9:Sub T0 A9:=k9.sub B6 ncc
    have x9:ExR A9 [qn] y1 y2 y:=ExR.of_own (τ:=AC) ⟨y1,y2,rfl,o1.kept k9 ec1,o2.kept k9 ec1⟩ fun j hj=>by rw[List.mem_singleton.1 hj];exact⟨_,BC _ _ kn⟩
    try simp -implicitDefEqProofs(disch:=omega)only[Nat.reduceEqDiff,↓reduceIte,vcu,↓vcd]
    refine⟨keep_of rfl fun p hp=>by simp only[List.mem_singleton] at hp;subst hp;exact .inr S9,?_⟩
    refine tree_quiets (fun _=>none) _ _ _ sf0 kr9 kr9 ?_
    simp -implicitDefEqProofs(disch:=omega)only[Nat.reduceEqDiff,↓reduceIte,vcu,↓vcd,vcp]
    refine tree_stop ?_
    exact⟨by first|trivial|rfl,⟨by simp -implicitDefEqProofs(disch:=omega)only[Nat.reduceEqDiff,↓reduceIte,vcu,↓vcd,f5],by simp -implicitDefEqProofs(disch:=omega)only[Nat.reduceEqDiff,↓reduceIte,vcu,↓vcd,f6],by simp -implicitDefEqProofs(disch:=omega)only[Nat.reduceEqDiff,↓reduceIte,vcu,↓vcd,f7],by simp -implicitDefEqProofs(disch:=omega)only[Nat.reduceEqDiff,↓reduceIte,vcu,↓vcd,f13],by simp -implicitDefEqProofs(disch:=omega)only[Nat.reduceEqDiff,↓reduceIte,vcu,↓vcd,f15],by simp -implicitDefEqProofs(disch:=omega)only[Nat.reduceEqDiff,↓reduceIte,vcu,↓vcd,h16]⟩,c,y1,y2,by first|trivial|simp -implicitDefEqProofs(disch:=omega)only[Nat.reduceEqDiff,↓reduceIte,vcu,↓vcd],by first|trivial|simp -implicitDefEqProofs(disch:=omega)only[Nat.reduceEqDiff,↓reduceIte,vcu,↓vcd],S9,e9,x9⟩
  ·skip
   try simp -implicitDefEqProofs(disch:=omega)only[Nat.reduceEqDiff,↓reduceIte,vcu,↓vcd]
   refine r_new ze33 fun c AC nc bC ec=>?_
   replace ec:AC c=some ⟨[.int .i64 0,.int .i64 0,.int .i64 0,.slice none 0 0,.slice none 0 0],false⟩:=ec
   have BC:=B0.trans bC
   have ncc:=free_sub B0 nc
   try simp -implicitDefEqProofs(disch:=omega)only[Nat.reduceEqDiff,↓reduceIte,vcu,↓vcd]
   refine⟨keep_of rfl fun p hp=>by simp only[List.mem_singleton] at hp;subst hp;exact .inr BC,?_⟩
   refine tree_one rfl ?_
   try simp -implicitDefEqProofs(disch:=omega)only[Nat.reduceEqDiff,↓reduceIte,vcu,↓vcd]
   refine (implDT_calls AC d hdt).mono ?_
   rintro _ _ ⟨rfl,rfl⟩
   rename_i AC
   simp -implicitDefEqProofs(disch:=omega)only[Nat.reduceEqDiff,↓reduceIte,vcu,↓vcd,opK_some]
   refine⟨.inl rfl,?_⟩
   refine tree_one rfl ?_
   try simp -implicitDefEqProofs(disch:=omega)only[Nat.reduceEqDiff,↓reduceIte,vcu,↓vcd]
   have elc:=implEL_calls (w0:=w0) AC (.agg #[.int .i64 x.s.O,.int .i64 x.s.E,.int .i64 x.s.M,u1,u2]) x (deedT d) (xn.sub BC).ex bx om9
   rw[hy,hw'] at elc
   refine elc.mono ?_
   rintro _ A6 ⟨_,rfl,b6,y1,y2,rfl,o1,o2⟩
   clear elc
   have B6:=BC.trans b6
   unfold exV
   simp -implicitDefEqProofs(disch:=omega)only[Nat.reduceEqDiff,↓reduceIte,vcu,↓vcd,opK_some]
   have xy:ExR A6 [qn] y1 y2 y:=ExR.of_own ⟨y1,y2,rfl,o1,o2⟩ fun j hj=>by rw[List.mem_singleton.1 hj];exact⟨_,BC _ _ kn⟩
   have ec1:=ec
   replace ec:=b6 _ _ ec
   refine⟨keep_of rfl fun p hp=>by simp only[List.mem_singleton] at hp;subst hp;exact .inr B6,?_⟩
   refine tree_quiets (fun _=>none) _ _ _ sf0 kr9 kr9 ?_
   simp -implicitDefEqProofs(disch:=omega)only[Nat.reduceEqDiff,↓reduceIte,vcu,↓vcd,vcp,List.getElem?_toArray,List.getElem?_cons_zero,List.getElem?_cons_succ]
   refine tree_one rfl ?_
   have hone:=cells_one o1.texts o2.tris
   refine r_sets (g:=c) (i:=0) (C:=[.int .i64 0,.int .i64 0,.int .i64 0,.slice none 0 0,.slice none 0 0]) z9q z9co33 (by simp -implicitDefEqProofs(disch:=omega)only[Nat.reduceEqDiff,↓reduceIte,vcu,↓vcd];exact hone) z9z ec z9l fun A9 k9 e9=>?_
   replace e9:A9 c=some ⟨exC y1 y2 y,false⟩:=e9
   have S9:Sub T0 A9:=k9.sub B6 ncc
   have x9:ExR A9 [qn] y1 y2 y:=ExR.of_own (τ:=AC) ⟨y1,y2,rfl,o1.kept k9 ec1,o2.kept k9 ec1⟩ fun j hj=>by rw[List.mem_singleton.1 hj];exact⟨_,BC _ _ kn⟩
   try simp -implicitDefEqProofs(disch:=omega)only[Nat.reduceEqDiff,↓reduceIte,vcu,↓vcd]
   refine⟨keep_of rfl fun p hp=>by simp only[List.mem_singleton] at hp;subst hp;exact .inr S9,?_⟩
   refine tree_quiets (fun _=>none) _ _ _ sf0 kr9 kr9 ?_
   simp -implicitDefEqProofs(disch:=omega)only[Nat.reduceEqDiff,↓reduceIte,vcu,↓vcd,vcp]
   refine tree_stop ?_
   exact⟨by first|trivial|rfl,⟨by simp -implicitDefEqProofs(disch:=omega)only[Nat.reduceEqDiff,↓reduceIte,vcu,↓vcd,f5],by simp -implicitDefEqProofs(disch:=omega)only[Nat.reduceEqDiff,↓reduceIte,vcu,↓vcd,f6],by simp -implicitDefEqProofs(disch:=omega)only[Nat.reduceEqDiff,↓reduceIte,vcu,↓vcd,f7],by simp -implicitDefEqProofs(disch:=omega)only[Nat.reduceEqDiff,↓reduceIte,vcu,↓vcd,f13],by simp -implicitDefEqProofs(disch:=omega)only[Nat.reduceEqDiff,↓reduceIte,vcu,↓vcd,f15],by simp -implicitDefEqProofs(disch:=omega)only[Nat.reduceEqDiff,↓reduceIte,vcu,↓vcd,h16]⟩,c,y1,y2,by first|trivial|simp -implicitDefEqProofs(disch:=omega)only[Nat.reduceEqDiff,↓reduceIte,vcu,↓vcd],by first|trivial|simp -implicitDefEqProofs(disch:=omega)only[Nat.reduceEqDiff,↓reduceIte,vcu,↓vcd],S9,e9,x9⟩
 rintro _ a4 T4 ⟨rfl,⟨g5,g6,g7,g13,g15,g16⟩,c,y1,y2,g17,g18,S4,e4,x4⟩
 replace kn:=S4 _ _ kn
 have sB:=s0.trans S4
 have hone:=cells_one x4.1 x4.2
 have l4:lds T4 c 0 5=some [.int .i64 y.s.O,.int .i64 y.s.E,.int .i64 y.s.M,y1,y2]:=by rw[lds_of e4 (by simp [exC])];rfl
 have q1:abin Tryz.prog 9 .neq (.string (tx w)) (.string { data:=#[111,107] })=some (.bool (!decide (w=[111,107]))):=abin_sneq (ys:=[111,107])
 have q2:abin Tryz.prog 9 .neq (.string (tx w)) (.string { data:=#[110,111] })=some (.bool (!decide (w=[110,111]))):=abin_sneq (ys:=[110,111])
 have q3:abin Tryz.prog 9 .neq (.string (tx w)) (.string { data:=#[98,117,115,121] })=some (.bool (!decide (w=[98,117,115,121]))):=abin_sneq (ys:=[98,117,115,121])
 have q4:abin Tryz.prog 9 .neq (.string (tx w)) (.string { data:=#[119,114,111,110,103] })=some (.bool (!decide (w=[119,114,111,110,103]))):=abin_sneq (ys:=[119,114,111,110,103])
 have fin4:True:=trivial
 rcases han with rfl|rfl|rfl|rfl
 ·rw[decide_eq_true (by decide)] at q1
  simp -implicitDefEqProofs(disch:=omega)only[Nat.reduceEqDiff,↓reduceIte,vcu,↓vcd,g5,g6,g7,g13,g15,g16,g17,g18,q1,l4,Bool.not_true,Bool.not_false,co33,co41,co29]
  refine r_sets (g:=qn) (i:=0) (C:=exC u1 u2 x) (by simp -implicitDefEqProofs(disch:=omega)only[Nat.reduceEqDiff,↓reduceIte,vcu,↓vcd,g15]) z9co33 (by simp -implicitDefEqProofs(disch:=omega)only[Nat.reduceEqDiff,↓reduceIte,vcu,↓vcd];exact hone) z9z kn z9l fun T9 k9 e9=>?_
  replace e9:T9 qn=some ⟨exC y1 y2 y,false⟩:=e9
  simp -implicitDefEqProofs(disch:=omega)only[Nat.reduceEqDiff,↓reduceIte,vcu,↓vcd,g5,g6,g7,g13,g15,g16,g17,g18]
  exact⟨by simp [g5,g6,g7,g13,g15,g16,g17,g18,f5,f6,f7,f13,f15,e1,e5,e6,e7],m3 - 1,by omega,k+1,y,y1,y2,by omega,by simp,k9.sub sB nn,e9,x4.kept k9 (by simp),hnx.symm,by_⟩
 ·rw[decide_eq_false (by decide)] at q1
  rw[decide_eq_true (by decide)] at q2
  simp -implicitDefEqProofs(disch:=omega)only[Nat.reduceEqDiff,↓reduceIte,vcu,↓vcd,g5,g6,g7,g13,g15,g16,g17,g18,q1,q2,l4,Bool.not_true,Bool.not_false,co33,co41,co29]
  refine r_sets (g:=qn) (i:=0) (C:=exC u1 u2 x) (by simp -implicitDefEqProofs(disch:=omega)only[Nat.reduceEqDiff,↓reduceIte,vcu,↓vcd,g15]) z9co33 (by simp -implicitDefEqProofs(disch:=omega)only[Nat.reduceEqDiff,↓reduceIte,vcu,↓vcd];exact hone) z9z kn z9l fun T9 k9 e9=>?_
  replace e9:T9 qn=some ⟨exC y1 y2 y,false⟩:=e9
  simp -implicitDefEqProofs(disch:=omega)only[Nat.reduceEqDiff,↓reduceIte,vcu,↓vcd,g5,g6,g7,g13,g15,g16,g17,g18]
  exact⟨by simp [g5,g6,g7,g13,g15,g16,g17,g18,f5,f6,f7,f13,f15,e1,e5,e6,e7],m3 - 1,by omega,k+1,y,y1,y2,by omega,by simp,k9.sub sB nn,e9,x4.kept k9 (by simp),hnx.symm,by_⟩
 ·rw[decide_eq_false (by decide)] at q1
  rw[decide_eq_false (by decide)] at q2
  rw[decide_eq_true (by decide)] at q3
  simp -implicitDefEqProofs(disch:=omega)only[Nat.reduceEqDiff,↓reduceIte,vcu,↓vcd,g5,g6,g7,g13,g15,g16,g17,g18,q1,q2,q3,l4,Bool.not_true,Bool.not_false,co33,co41,co29]
  refine r_sets (g:=qn) (i:=0) (C:=exC u1 u2 x) (by simp -implicitDefEqProofs(disch:=omega)only[Nat.reduceEqDiff,↓reduceIte,vcu,↓vcd,g15]) z9co33 (by simp -implicitDefEqProofs(disch:=omega)only[Nat.reduceEqDiff,↓reduceIte,vcu,↓vcd];exact hone) z9z kn z9l fun T9 k9 e9=>?_
  replace e9:T9 qn=some ⟨exC y1 y2 y,false⟩:=e9
  simp -implicitDefEqProofs(disch:=omega)only[Nat.reduceEqDiff,↓reduceIte,vcu,↓vcd,g5,g6,g7,g13,g15,g16,g17,g18]
  exact⟨by simp [g5,g6,g7,g13,g15,g16,g17,g18,f5,f6,f7,f13,f15,e1,e5,e6,e7],m3 - 1,by omega,k+1,y,y1,y2,by omega,by simp,k9.sub sB nn,e9,x4.kept k9 (by simp),hnx.symm,by_⟩
 ·rw[decide_eq_false (by decide)] at q1
  rw[decide_eq_false (by decide)] at q2
  rw[decide_eq_false (by decide)] at q3
  rw[decide_eq_true (by decide)] at q4
  simp -implicitDefEqProofs(disch:=omega)only[Nat.reduceEqDiff,↓reduceIte,vcu,↓vcd,g5,g6,g7,g13,g15,g16,g17,g18,q1,q2,q3,q4,l4,Bool.not_true,Bool.not_false,co33,co41,co29]
  refine r_sets (g:=qn) (i:=0) (C:=exC u1 u2 x) (by simp -implicitDefEqProofs(disch:=omega)only[Nat.reduceEqDiff,↓reduceIte,vcu,↓vcd,g15]) z9co33 (by simp -implicitDefEqProofs(disch:=omega)only[Nat.reduceEqDiff,↓reduceIte,vcu,↓vcd];exact hone) z9z kn z9l fun T9 k9 e9=>?_
  replace e9:T9 qn=some ⟨exC y1 y2 y,false⟩:=e9
  simp -implicitDefEqProofs(disch:=omega)only[Nat.reduceEqDiff,↓reduceIte,vcu,↓vcd,g5,g6,g7,g13,g15,g16,g17,g18]
  exact⟨by simp [g5,g6,g7,g13,g15,g16,g17,g18,f5,f6,f7,f13,f15,e1,e5,e6,e7],m3 - 1,by omega,k+1,y,y1,y2,by omega,by simp,k9.sub sB nn,e9,x4.kept k9 (by simp),hnx.symm,by_⟩
open Go.ChangeShapes Go.WideShapes Go.ChangeAt Go.RowKit
noncomputable def laidW3 (os:Os):World:=World.doorLaid Tryz.prog 400 os
set_option maxRecDepth 100000 in
theorem laid_met3 (os:Os):laidMetH Tryz.prog Rows.fnReadJournalRow.laid ((laidW3 os).forCall (fun _ _=>0) ⟨#[],#[.slice none 0 0,.slice none 0 0],[]⟩).memory :=
 laidMetH_of_parts3 (fuel:=8) (laidMet_of_run' 8 kr9 kr9) kr9 kr9
set_option maxRecDepth 100000 in
theorem reads3 (os:Os) {H:Type} (enc:TypeId × Value→H):(DataW.whole enc Tryz.prog ((laidW3 os).forCall (fun _ _=>0) ⟨#[],#[.slice none 0 0,.slice none 0 0],[]⟩).memory Tryz.f3.params.toList Rows.fnReadJournalSpec.vars false (#[.slice none 0 0,.slice none 0 0]:Array Value).toList 8).isSome=true:=by kernel_rfl
set_option maxRecDepth 100000 in
theorem lifted3 (os:Os) (started:os.Started) (H:Type) (enc:TypeId × Value→H) (F:Stop.Interp) :
  ReturnsInHanded {} Tryz.checked os 3 .any ((OpenSpec.ofChange Rows.fnReadJournalSpec).preRow enc Tryz.prog Tryz.f3 Rows.fnReadJournalRow.domain false Rows.fnReadJournalRow.laid) (((OpenSpec.ofChange Rows.fnReadJournalSpec).at F).post enc Tryz.prog Tryz.f3 false true false false):=by
 obtain⟨x,hx⟩:=Option.isSome_iff_exists.1 (reads3 os enc)
 refine returnsInHanded_of_row (C:=Tryz.checked) (s:=OpenSpec.ofChange Rows.fnReadJournalSpec) own started kr9 Tryz.func3
  (witness_row_at (enc:=enc) (C:=Tryz.checked) false (laidW3 os) #[.slice none 0 0,.slice none 0 0] rfl kr9 kr9 kr9
   (OpenSpec.preRow_of_cond 8 hx kr9 (fun k hk=>by cases hk) kr9 (laid_met3 os))) ?_
 intro W base args ds gs before hval hW _ _ _ hL hSh _
 rw[MakeChecks.laidMetH_plain _ _ _ kr9] at hL
 haveI:=glob_m hSh
 haveI:=glob_e hL
 haveI:=glob_t hL
 have hW':=hW
 obtain⟨p,q,hA,hV,-,-,-⟩:=hW'
 rw[Tryz.params3] at hA hval
 obtain⟨v0,vs0,d0,ds0,p0,q0,hargs,rfl,rfl,h0,r0⟩:=trodAll_cons hA
 obtain⟨v1,vs1,d1,ds1,p1,q1,rfl,rfl,rfl,h1,r1⟩:=trodAll_cons r0
 obtain⟨rfl,rfl,rfl⟩:=trodAll_nil r1
 obtain⟨rfl,rfl⟩:=trodVars_none hV
 obtain rfl:args=#[v0,v1]:=by cases args;simp_all
 obtain⟨β0,σ0,a0,zs0,L0,U0,S0,R0,I0,w0,m0⟩:=start_ints Tryz.underlying22 Tryz.underlying5 co5 (Start.start W) (hval 0 22 v0 rfl rfl) h0
 obtain⟨β1,σ1,a1,zs1,L1,U1,S1,R1,I1,w1,m1⟩:=start_ints Tryz.underlying22 Tryz.underlying5 co5 S0 (hval 1 22 v1 rfl rfl) h1
 refine ((law8FRJ σ1 a0 zs0 a1 zs1 (I0.sub U1) m0 w0 (I1) m1 w1).2 noProt β1 W [v0,v1] S1.rel (.cons (RelV.mono L1 R0) (.cons R1 (.nil _)))).mono fun e W' h=>?_
 obtain⟨β',r,r',σ',-,rfl,hr,hrel,rfl⟩:=h
 cases hr
 exact⟨_,rfl,law_post laidOut hW rfl rfl (by rw[Tryz.params3];intro t ht;simp only[List.mem_cons,List.not_mem_nil,or_false,or_self] at ht;rcases ht with rfl<;>exact⟨by kernel_rfl,of_decide_eq_true kr9⟩) rfl Tryz.underlying4 hrel.below⟩
theorem facts3:joinedFacts Tryz.prog 3 Tryz.f3 Rows.fnReadJournalSpec Rows.fnReadJournalRow=true:=by
 unfold joinedFacts
 rw[mayE,liftsE,makeE]
 kernel_rfl
set_option maxRecDepth 100000 in
theorem said3:Rows.FnReadJournalSaid :=
 OpenClaim.holds_of_cond 3 Tryz.f3 rfl rfl rfl rfl rfl rfl rfl ⟨rfl,rfl,rfl,rfl,rfl⟩ rfl rfl rfl rfl rfl kr9 Tryz.func3 facts3 (of_decide_eq_true kr9)
  (by unfold Func.isWrapper;first | (rw[if_pos (by decide +kernel)];kernel_rfl) | (rw[if_neg (by decide +kernel)];exact⟨rfl,rfl⟩))
  (fun os started H enc _ F=>by rw[OpenClaim.pre_eq_preRow];exact lifted3 os started H enc F)
theorem plain3 (f:FuncId) (fn:Func) (hf:Tryz.pinned.checked.prog.funcNamed Rows.fnReadJournalRow.func=some f) (hfn:Tryz.pinned.checked.prog.funcs[f]?=some fn) :
  true=Tryz.pinned.checked.prog.looks []∧∀(j:Nat) t,fn.params[j]?=some t→Tryz.pinned.checked.prog.wantsStandIn t=false:=by
 obtain rfl:f=3:=Option.some.inj ((show Tryz.prog.funcNamed Rows.fnReadJournalRow.func=some 3 by kernel_rfl).symm.trans hf) |>.symm
 obtain rfl:fn=Tryz.f3:=(Option.some.inj (Tryz.func3.symm.trans hfn)).symm
 refine⟨isTrue_looks,fun j t ht=>?_⟩
 rw[Tryz.params3] at ht
 obtain rfl:t=22:=by simpa using Array.mem_of_getElem? ht
 exact (show Tryz.prog.wantsStandIn 22=false by kernel_rfl)
set_option maxRecDepth 100000 in
theorem proved3:Rows.FnReadJournalCardSaid :=
 Claim7.holds_tied_plain_at .later [] _ _ _ _ said3 (fun _ h=>by cases h) kr9 (fun _ h=>by cases h) fnReadJournal_row_tie rfl ⟨rfl,rfl⟩ kr9 rfl plain3 kr9
end Go.Proofs.YtofdnmlpfagibaaGreatDoor
