/- Parts. -/
import Derived.Test.YtofdnmlpfagibaaGreatDoorSFe
set_option linter.unusedSimpArgs false
set_option linter.unusedVariables false
set_option linter.unusedSectionVars false
namespace Go.Proofs.YtofdnmlpfagibaaGreatDoor
open Go Go.Abs Go.RowKit Go.Dial Go.Clos
variable {w0:World}
theorem specMove_calls (σ:AHeap) (s:Sp) (v:Value) (cs:List Cl) (I O:Int) (hv:Tris σ v cs) (hl:cs.length≤1048576) :
  ACall Tryz.prog w0 95 [.agg #[.int .i64 s.O,.int .i64 s.E,.int .i64 s.M],v,.int .i64 I,.int .i64 O] σ fun r σ'=>∃v,r=.tuple #[v,.bool (decide (mvOk s cs I O))]∧Sub σ σ'∧OwnC σ σ' v (mvL s cs I O) :=
 ACall.tris_arg (pre:=[_]) (post:=[_,_]) kr9 hv fun σ1 h o hs hg=>(specMove_at σ1 s h o cs I O hg hl).mono fun _ _ ⟨v,e,q,O⟩=>⟨v,e,hs.trans q,O.older hs⟩
theorem specDrop_calls (σ:AHeap) (s:Sp) (v:Value) (cs:List Cl) (I:Int) (hv:Tris σ v cs) (hl:cs.length≤1048576) :
  ACall Tryz.prog w0 96 [.agg #[.int .i64 s.O,.int .i64 s.E,.int .i64 s.M],v,.int .i64 I] σ fun r σ'=>∃v,r=.tuple #[v,.bool (dropOk s cs I)]∧Sub σ σ'∧OwnC σ σ' v (drL s cs I) :=
 ACall.tris_arg (pre:=[_]) (post:=[_]) kr9 hv fun σ1 h o hs hg=>(specDrop_at σ1 s h o cs I hg hl).mono fun _ _ ⟨v,e,q,O⟩=>⟨v,e,hs.trans q,O.older hs⟩
theorem ownC_cellV {β σ:AHeap} {v:Value} {xs:List Cl} (h:OwnC β σ v xs):v.cells=#[v]∧Value.oneCell' v=true:=tris_cellV h.tris
set_option maxRecDepth 8000 in
theorem exDo_calls (σ:AHeap) (v:Value) (e:Ex) (d:Dd) (hv:ExV σ v e) (hb:ExB e) (hN:d.t.length≤1048576) :
  ACall Tryz.prog w0 54 [v,ddA d] σ fun r σ'=>∃w,r=.tuple #[w,.bool (exDo e d).2]∧Sub σ σ'∧OwnX σ σ' w (exDo e d).1:=by
 have hv0:=hv
 obtain⟨⟨O,E,M⟩,ps,cs⟩:=e
 obtain⟨v1,v2,rfl,t1,t2⟩:=hv
 have hb0:=hb
 obtain⟨b1,b2,b3⟩:=hb
 obtain⟨K,L,N⟩:=d
 have hNl:N.length≤1048576:=hN
 dsimp only at t1 t2 b1 b2 b3
 unfold exV ddA
 dsimp only
 refine acall_goc mixed Tryz.func54 rfl goodc54 fun pr=>?_
 simp -implicitDefEqProofs(disch:=omega)only[Nat.reduceEqDiff,↓reduceIte,vcu,↓vcd]
 refine r_boxed fun b τ1 nb s1 eb=>?_
 replace eb:τ1 b=some ⟨[.int .i64 O,.int .i64 E,.int .i64 M,v1,v2],false⟩:=eb
 refine r_boxed fun dd τ2 nd s2 ed=>?_
 replace ed:τ2 dd=some ⟨[.int .i64 K,.int .i64 L,.string (tx N)],false⟩:=ed
 refine r_new ze33 fun h4 τ3 n4 s3 e4=>?_
 replace e4:τ3 h4=some ⟨[.int .i64 0,.int .i64 0,.int .i64 0,.slice none 0 0,.slice none 0 0],false⟩:=e4
 replace eb:=s3 _ _ (s2 _ _ eb)
 replace ed:=s3 _ _ ed
 have S3:Sub σ τ3:=s1.trans (s2.trans s3)
 have z4:σ h4=none:=free_sub (s1.trans s2) n4
 replace t1:=t1.sub S3
 replace t2:=t2.sub S3
 have hX3:ExV τ3 (exV v1 v2 ⟨⟨O,E,M⟩,ps,cs⟩) ⟨⟨O,E,M⟩,ps,cs⟩:=⟨v1,v2,rfl,t1,t2⟩
 -- what is loaded of the two arguments,in any later heap
 have y5:∀T,Sub τ3 T→lds T b 0 5=some [.int .i64 O,.int .i64 E,.int .i64 M,v1,v2]:=fun T h=>by rw[lds_of (h _ _ eb) (by simp)];rfl
 have y0:∀T,Sub τ3 T→lds T b 0 3=some [.int .i64 O,.int .i64 E,.int .i64 M]:=fun T h=>lds_three (ld_of (h _ _ eb) rfl) (ld_of (h _ _ eb) rfl) (ld_of (h _ _ eb) rfl)
 have y3:∀T,Sub τ3 T→ld T b (0+3)=some v1:=fun T h=>ld_of (h _ _ eb) rfl
 have y4:∀T,Sub τ3 T→ld T b (0+4)=some v2:=fun T h=>ld_of (h _ _ eb) rfl
 have u0:∀T,Sub τ3 T→ld T dd 0=some (.int .i64 K):=fun T h=>ld_of (h _ _ ed) rfl
 have u1:∀T,Sub τ3 T→ld T dd 1=some (.int .i64 L):=fun T h=>ld_of (h _ _ ed) rfl
 have u2:∀T,Sub τ3 T→ld T dd 2=some (.string (tx N)):=fun T h=>ld_of (h _ _ ed) rfl
 have hval:=exVal_calls (w0:=w0) τ3 _ _ hX3 hb0
 unfold exV at hval
 dsimp only at hval
 have x5:=y5 τ3 (Sub.refl _)
 simp -implicitDefEqProofs(disch:=omega)only[Nat.reduceEqDiff,↓reduceIte,vcu,↓vcd,x5,co33]
 refine hval.mono ?_
 rintro _ _ ⟨rfl,rfl⟩
 rename_i τ3
 by_cases hok:ExOk ⟨⟨O,E,M⟩,ps,cs⟩
 case neg =>
  rw[decide_eq_false hok]
  have hx:exDo ⟨⟨O,E,M⟩,ps,cs⟩ ⟨K,L,N⟩=(ex0,false):=if_neg hok
  simp -implicitDefEqProofs(disch:=omega)only[Nat.reduceEqDiff,↓reduceIte,vcu,↓vcd,opK_some,Bool.not_false]
  rw[r_build]
  refine⟨(_,#[.int .i64 0,.int .i64 0,.int .i64 0,.slice none 0 0,.slice none 0 0]),⟨ze33,by first|kernel_rfl | (simp -implicitDefEqProofs(disch:=omega)only[Nat.reduceEqDiff,↓reduceIte,vcu,↓vcd];kernel_rfl)⟩,?_⟩
  simp -implicitDefEqProofs(disch:=omega)only[Nat.reduceEqDiff,↓reduceIte,vcu,↓vcd]
  refine r_sets (g:=h4) (i:=0) (C:=[.int .i64 0,.int .i64 0,.int .i64 0,.slice none 0 0,.slice none 0 0]) z9q z9co33 z9r z9z e4 z9l fun T9 k9 e9=>?_
  replace e9:T9 h4=some ⟨[.int .i64 0,.int .i64 0,.int .i64 0,.slice none 0 0,.slice none 0 0],false⟩:=e9
  have l9:lds T9 h4 0 5=some [.int .i64 0,.int .i64 0,.int .i64 0,.slice none 0 0,.slice none 0 0]:=by rw[lds_of e9 (by simp)];rfl
  simp -implicitDefEqProofs(disch:=omega)only[Nat.reduceEqDiff,↓reduceIte,vcu,↓vcd]
  refine fin_ct8 Tryz.results54 T9 (Sub.refl _) (v:=exV (.slice none 0 0) (.slice none 0 0) ex0) (by simp -implicitDefEqProofs(disch:=omega)only[Nat.reduceEqDiff,↓reduceIte,vcu,↓vcd,l9,co33];rfl) ⟨exV (.slice none 0 0) (.slice none 0 0) ex0,?_,k9.sub S3 z4,?_⟩
  ·simp -implicitDefEqProofs(disch:=omega)only[Nat.reduceEqDiff,↓reduceIte,vcu,↓vcd]
   rw[hx]
  ·rw[hx]
   exact⟨_,_,rfl,.inl ⟨rfl,rfl⟩,.inl ⟨rfl,rfl⟩⟩
 rw[decide_eq_true hok]
 obtain⟨hE,hP,hL,hC,hSep⟩:=id hok
 dsimp only at hE hP hL hC hSep
 have hc12:=hC.len
 simp -implicitDefEqProofs(disch:=omega)only[Nat.reduceEqDiff,↓reduceIte,vcu,↓vcd,opK_some,Bool.not_true,x5,co33]
 refine (copyX_rows τ3 (exV v1 v2 ⟨⟨O,E,M⟩,ps,cs⟩) _ hX3 hb0).mono ?_
 rintro _ τ4 ⟨g1,g2,rfl,s4,w1,w2,m1,m2⟩
 dsimp only at w1 w2
 unfold exV
 dsimp only
 simp -implicitDefEqProofs(disch:=omega)only[Nat.reduceEqDiff,↓reduceIte,vcu,↓vcd,opK_some]
 refine r_new ze33 fun h6 τ5 n6 s5 e6=>?_
 replace e6:τ5 h6=some ⟨[.int .i64 0,.int .i64 0,.int .i64 0,.slice none 0 0,.slice none 0 0],false⟩:=e6
 have d61:g1≠h6:=ne_of' n6 w1
 have d62:g2≠h6:=ne_of' n6 w2
 have d64:h4≠h6:=ne_of' n6 (s4 _ _ e4)
 have d14:g1≠h4:=ne_of m1 e4
 have d24:g2≠h4:=ne_of m2 e4
 have z1:σ g1=none:=free_sub S3 m1
 have z2:σ g2=none:=free_sub S3 m2
 have z6:τ3 h6=none:=free_sub s4 n6
 refine r_sets (g:=h6) (i:=0) (C:=[.int .i64 0,.int .i64 0,.int .i64 0,.slice none 0 0,.slice none 0 0]) z9q z9co33 z9r z9z e6 z9l fun τ6 k6 f6=>?_
 replace f6:τ6 h6=some ⟨[.int .i64 O,.int .i64 E,.int .i64 M,.slice (some ⟨g1,0,none⟩) ps.length 1,.slice (some ⟨g2,0,none⟩) cs.length 3],false⟩:=f6
 have S6:Sub τ3 τ6:=k6.sub (s4.trans s5) z6
 replace w1:=k6.at (s5 _ _ w1) d61
 replace w2:=k6.at (s5 _ _ w2) d62
 have f4:=k6.at (s5 _ _ (s4 _ _ e4)) d64
 have l6:lds τ6 h6 0 5=some [.int .i64 O,.int .i64 E,.int .i64 M,.slice (some ⟨g1,0,none⟩) ps.length 1,.slice (some ⟨g2,0,none⟩) cs.length 3]:=by rw[lds_of f6 (by simp)];rfl
 have hS6:=S3.trans S6
 have a0:=u0 τ6 S6
 have a1:=u1 τ6 S6
 have a2:=u2 τ6 S6
 have a3:=y3 τ6 S6
 have a4:=y4 τ6 S6
 have a5:=y5 τ6 S6
 have a00:=y0 τ6 S6
 have ln1:=lenT (t1.sub S6)
 have hX6:=hX3.sub S6
 have hno:∀o,doO ⟨⟨O,E,M⟩,ps,cs⟩ ⟨K,L,N⟩=o→exDo ⟨⟨O,E,M⟩,ps,cs⟩ ⟨K,L,N⟩=(match o with|some x=>(x,true)|none=>(⟨⟨O,E,M⟩,ps,cs⟩,false)):=fun o ho=>by unfold exDo;rw[if_pos hok,ho]<;>cases o<;>rfl
 simp -implicitDefEqProofs(disch:=omega)only[Nat.reduceEqDiff,↓reduceIte,vcu,↓vcd,a1,a3,ln1]
 refine (in_calls τ6 L 0 ((ps.length:Int) - 1)).mono ?_
 rintro _ _ ⟨rfl,rfl⟩
 rename_i τ6
 by_cases hin:0≤L∧L≤(ps.length:Int) - 1
 case neg =>
  rw[decide_eq_false hin]
  have hx:=hno none (if_pos hin)
  dsimp only at hx
  simp -implicitDefEqProofs(disch:=omega)only[Nat.reduceEqDiff,↓reduceIte,vcu,↓vcd,opK_some,Bool.not_false,l6,co33]
  try simp -implicitDefEqProofs(disch:=omega)only[Nat.reduceEqDiff,↓reduceIte,vcu,↓vcd,l6,co33]
  refine r_sets (g:=h4) (i:=0) (C:=[.int .i64 0,.int .i64 0,.int .i64 0,.slice none 0 0,.slice none 0 0]) z9q z9co33 z9r z9z f4 z9l fun T9 k9 e9=>?_
  replace e9:T9 h4=some ⟨[.int .i64 O,.int .i64 E,.int .i64 M,.slice (some ⟨g1,0,none⟩) ps.length 1,.slice (some ⟨g2,0,none⟩) cs.length 3],false⟩:=e9
  have l9:lds T9 h4 0 5=some [.int .i64 O,.int .i64 E,.int .i64 M,.slice (some ⟨g1,0,none⟩) ps.length 1,.slice (some ⟨g2,0,none⟩) cs.length 3]:=by rw[lds_of e9 (by simp)];rfl
  simp -implicitDefEqProofs(disch:=omega)only[Nat.reduceEqDiff,↓reduceIte,vcu,↓vcd]
  refine fin_ct8 Tryz.results54 T9 (Sub.refl _) (v:=exV (.slice (some ⟨g1,0,none⟩) ps.length 1) (.slice (some ⟨g2,0,none⟩) cs.length 3) ⟨⟨O,E,M⟩,ps,cs⟩) (by simp -implicitDefEqProofs(disch:=omega)only[Nat.reduceEqDiff,↓reduceIte,vcu,↓vcd,l9,co33];rfl) ⟨exV (.slice (some ⟨g1,0,none⟩) ps.length 1) (.slice (some ⟨g2,0,none⟩) cs.length 3) ⟨⟨O,E,M⟩,ps,cs⟩,?_,k9.sub hS6 z4,?_⟩
  ·simp -implicitDefEqProofs(disch:=omega)only[Nat.reduceEqDiff,↓reduceIte,vcu,↓vcd]
   rw[hx]
  ·rw[hx]
   exact⟨_,_,rfl,.inr ⟨g1,rfl,k9.at w1 d14,z1⟩,.inr ⟨g2,rfl,k9.at w2 d24,z2⟩⟩
 rw[decide_eq_true hin]
 have hdo:doO ⟨⟨O,E,M⟩,ps,cs⟩ ⟨K,L,N⟩=_:=if_neg (fun h=>h hin)
 dsimp only at hdo
 have hpeer:=peerOf_calls (w0:=w0) τ6 _ _ L hX6 hb0
 unfold exV at hpeer
 dsimp only at hpeer
 rw[show peerV ⟨⟨O,E,M⟩,ps,cs⟩ L=peerS cs L from if_pos hok] at hpeer
 simp -implicitDefEqProofs(disch:=omega)only[Nat.reduceEqDiff,↓reduceIte,vcu,↓vcd,opK_some,Bool.not_true,a1,a5,co33]
 refine hpeer.mono ?_
 rintro _ _ ⟨rfl,rfl⟩
 rename_i τ6
 by_cases hK0:K=0
 ·have dk:decide (K=0)=true:=decide_eq_true hK0
  rw[if_pos hK0] at hdo
  have hline:=lineOf_calls (w0:=w0) τ6 _ _ N hX6 hb0
  unfold exV at hline
  dsimp only at hline
  rw[show lineV ⟨⟨O,E,M⟩,ps,cs⟩ N=lineS ps N from if_pos hok] at hline
  have hge:=lineS_ge (ps:=ps) (t:=N)
  have hltp:=lineS_lt (ps:=ps) (t:=N)
  simp -implicitDefEqProofs(disch:=omega)only[Nat.reduceEqDiff,↓reduceIte,vcu,↓vcd,opK_some,a0,a2,a5,dk,co33]
  refine hline.mono ?_
  rintro _ _ ⟨rfl,rfl⟩
  rename_i τ6
  generalize hto:lineS ps N=to at *
  by_cases h1:to < 0
  ·have hx:=hno none (by rw[hdo,if_pos (.inl h1)])
   dsimp only at hx
   simp -implicitDefEqProofs(disch:=omega)only[Nat.reduceEqDiff,↓reduceIte,vcu,↓vcd,opK_some,a1,a5,l6,co33]
   try simp -implicitDefEqProofs(disch:=omega)only[Nat.reduceEqDiff,↓reduceIte,vcu,↓vcd,l6,co33]
   refine r_sets (g:=h4) (i:=0) (C:=[.int .i64 0,.int .i64 0,.int .i64 0,.slice none 0 0,.slice none 0 0]) z9q z9co33 z9r z9z f4 z9l fun T9 k9 e9=>?_
   replace e9:T9 h4=some ⟨[.int .i64 O,.int .i64 E,.int .i64 M,.slice (some ⟨g1,0,none⟩) ps.length 1,.slice (some ⟨g2,0,none⟩) cs.length 3],false⟩:=e9
   have l9:lds T9 h4 0 5=some [.int .i64 O,.int .i64 E,.int .i64 M,.slice (some ⟨g1,0,none⟩) ps.length 1,.slice (some ⟨g2,0,none⟩) cs.length 3]:=by rw[lds_of e9 (by simp)];rfl
   simp -implicitDefEqProofs(disch:=omega)only[Nat.reduceEqDiff,↓reduceIte,vcu,↓vcd]
   refine fin_ct8 Tryz.results54 T9 (Sub.refl _) (v:=exV (.slice (some ⟨g1,0,none⟩) ps.length 1) (.slice (some ⟨g2,0,none⟩) cs.length 3) ⟨⟨O,E,M⟩,ps,cs⟩) (by simp -implicitDefEqProofs(disch:=omega)only[Nat.reduceEqDiff,↓reduceIte,vcu,↓vcd,l9,co33];rfl) ⟨exV (.slice (some ⟨g1,0,none⟩) ps.length 1) (.slice (some ⟨g2,0,none⟩) cs.length 3) ⟨⟨O,E,M⟩,ps,cs⟩,?_,k9.sub hS6 z4,?_⟩
   ·simp -implicitDefEqProofs(disch:=omega)only[Nat.reduceEqDiff,↓reduceIte,vcu,↓vcd]
    rw[hx]
   ·rw[hx]
    exact⟨_,_,rfl,.inr ⟨g1,rfl,k9.at w1 d14,z1⟩,.inr ⟨g2,rfl,k9.at w2 d24,z2⟩⟩
  by_cases h2:to=L
  ·have dl:decide (to=L)=true:=decide_eq_true h2
   have hx:=hno none (by rw[hdo,if_pos (.inr (.inl h2))])
   dsimp only at hx
   simp -implicitDefEqProofs(disch:=omega)only[Nat.reduceEqDiff,↓reduceIte,vcu,↓vcd,opK_some,a1,a5,l6,dl,co33]
   try simp -implicitDefEqProofs(disch:=omega)only[Nat.reduceEqDiff,↓reduceIte,vcu,↓vcd,l6,co33]
   refine r_sets (g:=h4) (i:=0) (C:=[.int .i64 0,.int .i64 0,.int .i64 0,.slice none 0 0,.slice none 0 0]) z9q z9co33 z9r z9z f4 z9l fun T9 k9 e9=>?_
   replace e9:T9 h4=some ⟨[.int .i64 O,.int .i64 E,.int .i64 M,.slice (some ⟨g1,0,none⟩) ps.length 1,.slice (some ⟨g2,0,none⟩) cs.length 3],false⟩:=e9
   have l9:lds T9 h4 0 5=some [.int .i64 O,.int .i64 E,.int .i64 M,.slice (some ⟨g1,0,none⟩) ps.length 1,.slice (some ⟨g2,0,none⟩) cs.length 3]:=by rw[lds_of e9 (by simp)];rfl
   simp -implicitDefEqProofs(disch:=omega)only[Nat.reduceEqDiff,↓reduceIte,vcu,↓vcd]
   refine fin_ct8 Tryz.results54 T9 (Sub.refl _) (v:=exV (.slice (some ⟨g1,0,none⟩) ps.length 1) (.slice (some ⟨g2,0,none⟩) cs.length 3) ⟨⟨O,E,M⟩,ps,cs⟩) (by simp -implicitDefEqProofs(disch:=omega)only[Nat.reduceEqDiff,↓reduceIte,vcu,↓vcd,l9,co33];rfl) ⟨exV (.slice (some ⟨g1,0,none⟩) ps.length 1) (.slice (some ⟨g2,0,none⟩) cs.length 3) ⟨⟨O,E,M⟩,ps,cs⟩,?_,k9.sub hS6 z4,?_⟩
   ·simp -implicitDefEqProofs(disch:=omega)only[Nat.reduceEqDiff,↓reduceIte,vcu,↓vcd]
    rw[hx]
   ·rw[hx]
    exact⟨_,_,rfl,.inr ⟨g1,rfl,k9.at w1 d14,z1⟩,.inr ⟨g2,rfl,k9.at w2 d24,z2⟩⟩
  have dl:decide (to=L)=false:=decide_eq_false h2
  by_cases h3:0≤peerS cs L
  ·have dp:decide (peerS cs L ≥ 0)=true:=decide_eq_true h3
   have hx:=hno none (by rw[hdo,if_pos (.inr (.inr (.inl h3)))])
   dsimp only at hx
   simp -implicitDefEqProofs(disch:=omega)only[Nat.reduceEqDiff,↓reduceIte,vcu,↓vcd,opK_some,a1,a5,l6,dl,dp,co33]
   try simp -implicitDefEqProofs(disch:=omega)only[Nat.reduceEqDiff,↓reduceIte,vcu,↓vcd,l6,co33]
   refine r_sets (g:=h4) (i:=0) (C:=[.int .i64 0,.int .i64 0,.int .i64 0,.slice none 0 0,.slice none 0 0]) z9q z9co33 z9r z9z f4 z9l fun T9 k9 e9=>?_
   replace e9:T9 h4=some ⟨[.int .i64 O,.int .i64 E,.int .i64 M,.slice (some ⟨g1,0,none⟩) ps.length 1,.slice (some ⟨g2,0,none⟩) cs.length 3],false⟩:=e9
   have l9:lds T9 h4 0 5=some [.int .i64 O,.int .i64 E,.int .i64 M,.slice (some ⟨g1,0,none⟩) ps.length 1,.slice (some ⟨g2,0,none⟩) cs.length 3]:=by rw[lds_of e9 (by simp)];rfl
   simp -implicitDefEqProofs(disch:=omega)only[Nat.reduceEqDiff,↓reduceIte,vcu,↓vcd]
   refine fin_ct8 Tryz.results54 T9 (Sub.refl _) (v:=exV (.slice (some ⟨g1,0,none⟩) ps.length 1) (.slice (some ⟨g2,0,none⟩) cs.length 3) ⟨⟨O,E,M⟩,ps,cs⟩) (by simp -implicitDefEqProofs(disch:=omega)only[Nat.reduceEqDiff,↓reduceIte,vcu,↓vcd,l9,co33];rfl) ⟨exV (.slice (some ⟨g1,0,none⟩) ps.length 1) (.slice (some ⟨g2,0,none⟩) cs.length 3) ⟨⟨O,E,M⟩,ps,cs⟩,?_,k9.sub hS6 z4,?_⟩
   ·simp -implicitDefEqProofs(disch:=omega)only[Nat.reduceEqDiff,↓reduceIte,vcu,↓vcd]
    rw[hx]
   ·rw[hx]
    exact⟨_,_,rfl,.inr ⟨g1,rfl,k9.at w1 d14,z1⟩,.inr ⟨g2,rfl,k9.at w2 d24,z2⟩⟩
  have dp:decide (peerS cs L ≥ 0)=false:=decide_eq_false h3
  have hpeer2:=peerOf_calls (w0:=w0) τ6 _ _ to hX6 hb0
  unfold exV at hpeer2
  dsimp only at hpeer2
  rw[show peerV ⟨⟨O,E,M⟩,ps,cs⟩ to=peerS cs to from if_pos hok] at hpeer2
  simp -implicitDefEqProofs(disch:=omega)only[Nat.reduceEqDiff,↓reduceIte,vcu,↓vcd,opK_some,a1,a5,dl,dp,co33]
  refine hpeer2.mono ?_
  rintro _ _ ⟨rfl,rfl⟩
  rename_i τ6
  by_cases h4':0≤peerS cs to
  ·have dq:decide (peerS cs to ≥ 0)=true:=decide_eq_true h4'
   have hx:=hno none (by rw[hdo,if_pos (.inr (.inr (.inr h4')))])
   dsimp only at hx
   simp -implicitDefEqProofs(disch:=omega)only[Nat.reduceEqDiff,↓reduceIte,vcu,↓vcd,opK_some,l6,dq,co33]
   try simp -implicitDefEqProofs(disch:=omega)only[Nat.reduceEqDiff,↓reduceIte,vcu,↓vcd,l6,co33]
   refine r_sets (g:=h4) (i:=0) (C:=[.int .i64 0,.int .i64 0,.int .i64 0,.slice none 0 0,.slice none 0 0]) z9q z9co33 z9r z9z f4 z9l fun T9 k9 e9=>?_
   replace e9:T9 h4=some ⟨[.int .i64 O,.int .i64 E,.int .i64 M,.slice (some ⟨g1,0,none⟩) ps.length 1,.slice (some ⟨g2,0,none⟩) cs.length 3],false⟩:=e9
   have l9:lds T9 h4 0 5=some [.int .i64 O,.int .i64 E,.int .i64 M,.slice (some ⟨g1,0,none⟩) ps.length 1,.slice (some ⟨g2,0,none⟩) cs.length 3]:=by rw[lds_of e9 (by simp)];rfl
   simp -implicitDefEqProofs(disch:=omega)only[Nat.reduceEqDiff,↓reduceIte,vcu,↓vcd]
   refine fin_ct8 Tryz.results54 T9 (Sub.refl _) (v:=exV (.slice (some ⟨g1,0,none⟩) ps.length 1) (.slice (some ⟨g2,0,none⟩) cs.length 3) ⟨⟨O,E,M⟩,ps,cs⟩) (by simp -implicitDefEqProofs(disch:=omega)only[Nat.reduceEqDiff,↓reduceIte,vcu,↓vcd,l9,co33];rfl) ⟨exV (.slice (some ⟨g1,0,none⟩) ps.length 1) (.slice (some ⟨g2,0,none⟩) cs.length 3) ⟨⟨O,E,M⟩,ps,cs⟩,?_,k9.sub hS6 z4,?_⟩
   ·simp -implicitDefEqProofs(disch:=omega)only[Nat.reduceEqDiff,↓reduceIte,vcu,↓vcd]
    rw[hx]
   ·rw[hx]
    exact⟨_,_,rfl,.inr ⟨g1,rfl,k9.at w1 d14,z1⟩,.inr ⟨g2,rfl,k9.at w2 d24,z2⟩⟩
  have dq:decide (peerS cs to ≥ 0)=false:=decide_eq_false h4'
  have hnp:∀x,¬ 0≤peerS cs x→∀y,¬ Pr cs x y:=fun x hx=>by
   rcases peerS_spec cs x with hh |⟨_,hh⟩
   ·exact absurd ((Pr.lines hC hh).2.1) hx
   ·exact hh
  have hL1:L < (ps.length:Int):=by omega
  have hto0:0≤to:=by omega
  obtain⟨hl1,hl2,-,-⟩:=free_move (e:=⟨⟨O,E,M⟩,ps,cs⟩) hok (i:=L) (o:=to) ⟨hin.1,hL1⟩ ⟨hto0,hltp⟩ (fun h=>h2 h.symm) (hnp L h3) (hnp to h4')
  have hmv:mvOk ⟨O,E,M⟩ cs L to:=⟨⟨hC,hE⟩,hl1,hl2⟩
  have hmL:mvL ⟨O,E,M⟩ cs L to=moveL ⟨O,E,M⟩ cs L to:=mvL_ok hmv
  have hx:=hno (some ⟨⟨O,E,M⟩,ps,moveL ⟨O,E,M⟩ cs L to⟩) (by rw[hdo,if_neg (by rintro (h|h|h|h)<;>first|exact h1 h|exact h2 h|exact h3 h|exact h4' h)])
  dsimp only at hx
  have hmove:=specMove_calls (w0:=w0) τ6 ⟨O,E,M⟩ v2 cs L to (t2.sub S6) b3
  rw[decide_eq_true hmv,hmL] at hmove
  dsimp only at hmove
  simp -implicitDefEqProofs(disch:=omega)only[Nat.reduceEqDiff,↓reduceIte,vcu,↓vcd,opK_some,dq,a00,a4,a1,co29,Nat.add_zero]
  refine hmove.mono ?_
  rintro _ τ7 ⟨vx,rfl,s7,ox⟩
  have hcv:=ownC_cellV ox
  have f6':=s7 _ _ f6
  have w1':=s7 _ _ w1
  have f4':=s7 _ _ f4
  have S7:=hS6.trans s7
  simp -implicitDefEqProofs(disch:=omega)only[Nat.reduceEqDiff,↓reduceIte,vcu,↓vcd,opK_some,List.getElem?_toArray,List.getElem?_cons_zero,List.getElem?_cons_succ,Bool.not_true]
  refine r_set (g:=h6) (i:=4) z9q (by simp -implicitDefEqProofs(disch:=omega)only[Nat.reduceEqDiff,↓reduceIte,vcu,↓vcd];exact hcv.1) co31 (by simp -implicitDefEqProofs(disch:=omega)only[Nat.reduceEqDiff,↓reduceIte,vcu,↓vcd];exact hcv.2) f6' (by simp) fun τ8 k8 e8=>?_
  replace e8:τ8 h6=some ⟨[.int .i64 O,.int .i64 E,.int .i64 M,.slice (some ⟨g1,0,none⟩) ps.length 1,vx],false⟩:=by rw[e8];simp -implicitDefEqProofs(disch:=omega)only[Nat.reduceEqDiff,↓reduceIte,vcu,↓vcd];rfl
  have l8:lds τ8 h6 0 5=some [.int .i64 O,.int .i64 E,.int .i64 M,.slice (some ⟨g1,0,none⟩) ps.length 1,vx]:=by rw[lds_of e8 (by simp)];rfl
  have w8:=k8.at w1' d61
  have f48:=k8.at f4' d64
  have o8:=ox.kept k8 f6
  have S8:=k8.sub S7 (free_sub S3 z6)
  simp -implicitDefEqProofs(disch:=omega)only[Nat.reduceEqDiff,↓reduceIte,vcu,↓vcd,l8,co33]
  refine r_sets (g:=h4) (i:=0) (C:=[.int .i64 0,.int .i64 0,.int .i64 0,.slice none 0 0,.slice none 0 0]) z9q z9co33 (by simp -implicitDefEqProofs(disch:=omega)only[Nat.reduceEqDiff,↓reduceIte,vcu,↓vcd];exact (show ([.int .i64 O,.int .i64 E,.int .i64 M,.slice (some ⟨g1,0,none⟩) ps.length 1,vx]:List Value).all Value.oneCell'=true from by simp only[List.all_cons,List.all_nil,hcv.2];rfl)) z9z f48 z9l fun T9 k9 e9=>?_
  replace e9:T9 h4=some ⟨[.int .i64 O,.int .i64 E,.int .i64 M,.slice (some ⟨g1,0,none⟩) ps.length 1,vx],false⟩:=e9
  have l9:lds T9 h4 0 5=some [.int .i64 O,.int .i64 E,.int .i64 M,.slice (some ⟨g1,0,none⟩) ps.length 1,vx]:=by rw[lds_of e9 (by simp)];rfl
  simp -implicitDefEqProofs(disch:=omega)only[Nat.reduceEqDiff,↓reduceIte,vcu,↓vcd]
  refine fin_ct8 Tryz.results54 T9 (Sub.refl _) (v:=exV (.slice (some ⟨g1,0,none⟩) ps.length 1) vx ⟨⟨O,E,M⟩,ps,moveL ⟨O,E,M⟩ cs L to⟩) (by simp -implicitDefEqProofs(disch:=omega)only[Nat.reduceEqDiff,↓reduceIte,vcu,↓vcd,l9,co33];rfl) ⟨exV (.slice (some ⟨g1,0,none⟩) ps.length 1) vx ⟨⟨O,E,M⟩,ps,moveL ⟨O,E,M⟩ cs L to⟩,?_,k9.sub S8 z4,?_⟩
  ·simp -implicitDefEqProofs(disch:=omega)only[Nat.reduceEqDiff,↓reduceIte,vcu,↓vcd]
   rw[hx]
  ·rw[hx]
   exact⟨_,_,rfl,.inr ⟨g1,rfl,k9.at w8 d14,z1⟩,(o8.kept k9 f4).older hS6⟩
 have dk0:decide (K=0)=false:=decide_eq_false hK0
 rw[if_neg hK0] at hdo
 by_cases hK1:K=1
 ·have dk1:decide (K=1)=true:=decide_eq_true hK1
  rw[if_pos hK1] at hdo
  by_cases h1:peerS cs L < 0
  ·have hx:=hno none (by rw[hdo,if_pos (.inl h1)])
   dsimp only at hx
   simp -implicitDefEqProofs(disch:=omega)only[Nat.reduceEqDiff,↓reduceIte,vcu,↓vcd,opK_some,a0,dk0,dk1,l6,co33]
   try simp -implicitDefEqProofs(disch:=omega)only[Nat.reduceEqDiff,↓reduceIte,vcu,↓vcd,l6,co33]
   refine r_sets (g:=h4) (i:=0) (C:=[.int .i64 0,.int .i64 0,.int .i64 0,.slice none 0 0,.slice none 0 0]) z9q z9co33 z9r z9z f4 z9l fun T9 k9 e9=>?_
   replace e9:T9 h4=some ⟨[.int .i64 O,.int .i64 E,.int .i64 M,.slice (some ⟨g1,0,none⟩) ps.length 1,.slice (some ⟨g2,0,none⟩) cs.length 3],false⟩:=e9
   have l9:lds T9 h4 0 5=some [.int .i64 O,.int .i64 E,.int .i64 M,.slice (some ⟨g1,0,none⟩) ps.length 1,.slice (some ⟨g2,0,none⟩) cs.length 3]:=by rw[lds_of e9 (by simp)];rfl
   simp -implicitDefEqProofs(disch:=omega)only[Nat.reduceEqDiff,↓reduceIte,vcu,↓vcd]
   refine fin_ct8 Tryz.results54 T9 (Sub.refl _) (v:=exV (.slice (some ⟨g1,0,none⟩) ps.length 1) (.slice (some ⟨g2,0,none⟩) cs.length 3) ⟨⟨O,E,M⟩,ps,cs⟩) (by simp -implicitDefEqProofs(disch:=omega)only[Nat.reduceEqDiff,↓reduceIte,vcu,↓vcd,l9,co33];rfl) ⟨exV (.slice (some ⟨g1,0,none⟩) ps.length 1) (.slice (some ⟨g2,0,none⟩) cs.length 3) ⟨⟨O,E,M⟩,ps,cs⟩,?_,k9.sub hS6 z4,?_⟩
   ·simp -implicitDefEqProofs(disch:=omega)only[Nat.reduceEqDiff,↓reduceIte,vcu,↓vcd]
    rw[hx]
   ·rw[hx]
    exact⟨_,_,rfl,.inr ⟨g1,rfl,k9.at w1 d14,z1⟩,.inr ⟨g2,rfl,k9.at w2 d24,z2⟩⟩
  by_cases h2:N=[]
  case neg =>
   have dn:decide (N=[])=false:=decide_eq_false h2
   have hx:=hno none (by rw[hdo,if_pos (.inr h2)])
   dsimp only at hx
   simp -implicitDefEqProofs(disch:=omega)only[Nat.reduceEqDiff,↓reduceIte,vcu,↓vcd,opK_some,a0,a2,dk0,dk1,tx_nil,abin_sneq,dn,Bool.not_false,l6,co33]
   try simp -implicitDefEqProofs(disch:=omega)only[Nat.reduceEqDiff,↓reduceIte,vcu,↓vcd,l6,co33]
   refine r_sets (g:=h4) (i:=0) (C:=[.int .i64 0,.int .i64 0,.int .i64 0,.slice none 0 0,.slice none 0 0]) z9q z9co33 z9r z9z f4 z9l fun T9 k9 e9=>?_
   replace e9:T9 h4=some ⟨[.int .i64 O,.int .i64 E,.int .i64 M,.slice (some ⟨g1,0,none⟩) ps.length 1,.slice (some ⟨g2,0,none⟩) cs.length 3],false⟩:=e9
   have l9:lds T9 h4 0 5=some [.int .i64 O,.int .i64 E,.int .i64 M,.slice (some ⟨g1,0,none⟩) ps.length 1,.slice (some ⟨g2,0,none⟩) cs.length 3]:=by rw[lds_of e9 (by simp)];rfl
   simp -implicitDefEqProofs(disch:=omega)only[Nat.reduceEqDiff,↓reduceIte,vcu,↓vcd]
   refine fin_ct8 Tryz.results54 T9 (Sub.refl _) (v:=exV (.slice (some ⟨g1,0,none⟩) ps.length 1) (.slice (some ⟨g2,0,none⟩) cs.length 3) ⟨⟨O,E,M⟩,ps,cs⟩) (by simp -implicitDefEqProofs(disch:=omega)only[Nat.reduceEqDiff,↓reduceIte,vcu,↓vcd,l9,co33];rfl) ⟨exV (.slice (some ⟨g1,0,none⟩) ps.length 1) (.slice (some ⟨g2,0,none⟩) cs.length 3) ⟨⟨O,E,M⟩,ps,cs⟩,?_,k9.sub hS6 z4,?_⟩
   ·simp -implicitDefEqProofs(disch:=omega)only[Nat.reduceEqDiff,↓reduceIte,vcu,↓vcd]
    rw[hx]
   ·rw[hx]
    exact⟨_,_,rfl,.inr ⟨g1,rfl,k9.at w1 d14,z1⟩,.inr ⟨g2,rfl,k9.at w2 d24,z2⟩⟩
  have dn:decide (N=[])=true:=decide_eq_true h2
  rw[if_neg (by rintro (h|h)<;>first|exact h1 h|exact h h2)] at hdo
  have hdrop:=specDrop_calls (w0:=w0) τ6 ⟨O,E,M⟩ v2 cs L (t2.sub S6) b3
  rw[(drL_ok hC).1,(drL_ok hC).2] at hdrop
  dsimp only at hdrop
  simp -implicitDefEqProofs(disch:=omega)only[Nat.reduceEqDiff,↓reduceIte,vcu,↓vcd,opK_some,a0,a1,a2,a00,a4,dk0,dk1,tx_nil,abin_sneq,dn,Bool.not_true,co29,Nat.add_zero]
  refine hdrop.mono ?_
  rintro _ τ7 ⟨vx,rfl,s7,ox⟩
  have f6':=s7 _ _ f6
  have w1':=s7 _ _ w1
  have f4':=s7 _ _ f4
  have S7:=hS6.trans s7
  by_cases hlen:(dropL cs L).length < cs.length
  ·have dd':decide ((dropL cs L).length < cs.length)=true:=decide_eq_true hlen
   have hcv:=ownC_cellV ox
   have hx:=hno (some ⟨⟨O,E,M⟩,ps,dropL cs L⟩) (by rw[hdo,if_pos hlen])
   dsimp only at hx
   simp -implicitDefEqProofs(disch:=omega)only[Nat.reduceEqDiff,↓reduceIte,vcu,↓vcd,opK_some,List.getElem?_toArray,List.getElem?_cons_zero,List.getElem?_cons_succ,dd',Bool.not_true]
   refine r_set (g:=h6) (i:=4) z9q (by simp -implicitDefEqProofs(disch:=omega)only[Nat.reduceEqDiff,↓reduceIte,vcu,↓vcd];exact hcv.1) co31 (by simp -implicitDefEqProofs(disch:=omega)only[Nat.reduceEqDiff,↓reduceIte,vcu,↓vcd];exact hcv.2) f6' (by simp) fun τ8 k8 e8=>?_
   replace e8:τ8 h6=some ⟨[.int .i64 O,.int .i64 E,.int .i64 M,.slice (some ⟨g1,0,none⟩) ps.length 1,vx],false⟩:=by rw[e8];simp -implicitDefEqProofs(disch:=omega)only[Nat.reduceEqDiff,↓reduceIte,vcu,↓vcd];rfl
   have l8:lds τ8 h6 0 5=some [.int .i64 O,.int .i64 E,.int .i64 M,.slice (some ⟨g1,0,none⟩) ps.length 1,vx]:=by rw[lds_of e8 (by simp)];rfl
   have w8:=k8.at w1' d61
   have f48:=k8.at f4' d64
   have o8:=ox.kept k8 f6
   have S8:=k8.sub S7 (free_sub S3 z6)
   simp -implicitDefEqProofs(disch:=omega)only[Nat.reduceEqDiff,↓reduceIte,vcu,↓vcd,l8,co33]
   refine r_sets (g:=h4) (i:=0) (C:=[.int .i64 0,.int .i64 0,.int .i64 0,.slice none 0 0,.slice none 0 0]) z9q z9co33 (by simp -implicitDefEqProofs(disch:=omega)only[Nat.reduceEqDiff,↓reduceIte,vcu,↓vcd];exact (show ([.int .i64 O,.int .i64 E,.int .i64 M,.slice (some ⟨g1,0,none⟩) ps.length 1,vx]:List Value).all Value.oneCell'=true from by simp only[List.all_cons,List.all_nil,hcv.2];rfl)) z9z f48 z9l fun T9 k9 e9=>?_
   replace e9:T9 h4=some ⟨[.int .i64 O,.int .i64 E,.int .i64 M,.slice (some ⟨g1,0,none⟩) ps.length 1,vx],false⟩:=e9
   have l9:lds T9 h4 0 5=some [.int .i64 O,.int .i64 E,.int .i64 M,.slice (some ⟨g1,0,none⟩) ps.length 1,vx]:=by rw[lds_of e9 (by simp)];rfl
   simp -implicitDefEqProofs(disch:=omega)only[Nat.reduceEqDiff,↓reduceIte,vcu,↓vcd]
   refine fin_ct8 Tryz.results54 T9 (Sub.refl _) (v:=exV (.slice (some ⟨g1,0,none⟩) ps.length 1) vx ⟨⟨O,E,M⟩,ps,dropL cs L⟩) (by simp -implicitDefEqProofs(disch:=omega)only[Nat.reduceEqDiff,↓reduceIte,vcu,↓vcd,l9,co33];rfl) ⟨exV (.slice (some ⟨g1,0,none⟩) ps.length 1) vx ⟨⟨O,E,M⟩,ps,dropL cs L⟩,?_,k9.sub S8 z4,?_⟩
   ·simp -implicitDefEqProofs(disch:=omega)only[Nat.reduceEqDiff,↓reduceIte,vcu,↓vcd]
    rw[hx]
   ·rw[hx]
    exact⟨_,_,rfl,.inr ⟨g1,rfl,k9.at w8 d14,z1⟩,(o8.kept k9 f4).older hS6⟩
  have dd':decide ((dropL cs L).length < cs.length)=false:=decide_eq_false hlen
  have hx:=hno (some ⟨⟨O,E,M⟩,ps,dropL cs (peerS cs L)⟩) (by rw[hdo,if_neg hlen])
  dsimp only at hx
  have hdrop2:=specDrop_calls (w0:=w0) τ7 ⟨O,E,M⟩ v2 cs (peerS cs L) ((t2.sub S6).sub s7) b3
  rw[(drL_ok hC).1,(drL_ok hC).2] at hdrop2
  dsimp only at hdrop2
  have c00:=y0 τ7 (S6.trans s7)
  have c4:=y4 τ7 (S6.trans s7)
  simp -implicitDefEqProofs(disch:=omega)only[Nat.reduceEqDiff,↓reduceIte,vcu,↓vcd,opK_some,List.getElem?_toArray,List.getElem?_cons_zero,List.getElem?_cons_succ,dd',Bool.not_false,c00,c4,co29,Nat.add_zero]
  refine hdrop2.mono ?_
  rintro _ τ8' ⟨vx,rfl,s8',ox'⟩
  have hcv:=ownC_cellV ox'
  have f6'':=s8' _ _ f6'
  have w1'':=s8' _ _ w1'
  have f4'':=s8' _ _ f4'
  have S8':=S7.trans s8'
  simp -implicitDefEqProofs(disch:=omega)only[Nat.reduceEqDiff,↓reduceIte,vcu,↓vcd,opK_some,List.getElem?_toArray,List.getElem?_cons_zero,List.getElem?_cons_succ]
  refine r_set (g:=h6) (i:=4) z9q (by simp -implicitDefEqProofs(disch:=omega)only[Nat.reduceEqDiff,↓reduceIte,vcu,↓vcd];exact hcv.1) co31 (by simp -implicitDefEqProofs(disch:=omega)only[Nat.reduceEqDiff,↓reduceIte,vcu,↓vcd];exact hcv.2) f6'' (by simp) fun τ8 k8 e8=>?_
  replace e8:τ8 h6=some ⟨[.int .i64 O,.int .i64 E,.int .i64 M,.slice (some ⟨g1,0,none⟩) ps.length 1,vx],false⟩:=by rw[e8];simp -implicitDefEqProofs(disch:=omega)only[Nat.reduceEqDiff,↓reduceIte,vcu,↓vcd];rfl
  have l8:lds τ8 h6 0 5=some [.int .i64 O,.int .i64 E,.int .i64 M,.slice (some ⟨g1,0,none⟩) ps.length 1,vx]:=by rw[lds_of e8 (by simp)];rfl
  have w8:=k8.at w1'' d61
  have f48:=k8.at f4'' d64
  have o8:=ox'.kept k8 f6'
  have S8:=k8.sub S8' (free_sub S3 z6)
  simp -implicitDefEqProofs(disch:=omega)only[Nat.reduceEqDiff,↓reduceIte,vcu,↓vcd,l8,co33]
  refine r_sets (g:=h4) (i:=0) (C:=[.int .i64 0,.int .i64 0,.int .i64 0,.slice none 0 0,.slice none 0 0]) z9q z9co33 (by simp -implicitDefEqProofs(disch:=omega)only[Nat.reduceEqDiff,↓reduceIte,vcu,↓vcd];exact (show ([.int .i64 O,.int .i64 E,.int .i64 M,.slice (some ⟨g1,0,none⟩) ps.length 1,vx]:List Value).all Value.oneCell'=true from by simp only[List.all_cons,List.all_nil,hcv.2];rfl)) z9z f48 z9l fun T9 k9 e9=>?_
  replace e9:T9 h4=some ⟨[.int .i64 O,.int .i64 E,.int .i64 M,.slice (some ⟨g1,0,none⟩) ps.length 1,vx],false⟩:=e9
  have l9:lds T9 h4 0 5=some [.int .i64 O,.int .i64 E,.int .i64 M,.slice (some ⟨g1,0,none⟩) ps.length 1,vx]:=by rw[lds_of e9 (by simp)];rfl
  simp -implicitDefEqProofs(disch:=omega)only[Nat.reduceEqDiff,↓reduceIte,vcu,↓vcd]
  refine fin_ct8 Tryz.results54 T9 (Sub.refl _) (v:=exV (.slice (some ⟨g1,0,none⟩) ps.length 1) vx ⟨⟨O,E,M⟩,ps,dropL cs (peerS cs L)⟩) (by simp -implicitDefEqProofs(disch:=omega)only[Nat.reduceEqDiff,↓reduceIte,vcu,↓vcd,l9,co33];rfl) ⟨exV (.slice (some ⟨g1,0,none⟩) ps.length 1) vx ⟨⟨O,E,M⟩,ps,dropL cs (peerS cs L)⟩,?_,k9.sub S8 z4,?_⟩
  ·simp -implicitDefEqProofs(disch:=omega)only[Nat.reduceEqDiff,↓reduceIte,vcu,↓vcd]
   rw[hx]
  ·rw[hx]
   exact⟨_,_,rfl,.inr ⟨g1,rfl,k9.at w8 d14,z1⟩,(o8.kept k9 f4').older S7⟩
 have dk1:decide (K=1)=false:=decide_eq_false hK1
 rw[if_neg hK1] at hdo
 by_cases hK2:K=2
 case neg =>
  have dk2:decide (K=2)=false:=decide_eq_false hK2
  have hx:=hno none (by rw[hdo,if_neg hK2])
  dsimp only at hx
  simp -implicitDefEqProofs(disch:=omega)only[Nat.reduceEqDiff,↓reduceIte,vcu,↓vcd,opK_some,a0,dk0,dk1,dk2,l6,co33]
  try simp -implicitDefEqProofs(disch:=omega)only[Nat.reduceEqDiff,↓reduceIte,vcu,↓vcd,l6,co33]
  refine r_sets (g:=h4) (i:=0) (C:=[.int .i64 0,.int .i64 0,.int .i64 0,.slice none 0 0,.slice none 0 0]) z9q z9co33 z9r z9z f4 z9l fun T9 k9 e9=>?_
  replace e9:T9 h4=some ⟨[.int .i64 O,.int .i64 E,.int .i64 M,.slice (some ⟨g1,0,none⟩) ps.length 1,.slice (some ⟨g2,0,none⟩) cs.length 3],false⟩:=e9
  have l9:lds T9 h4 0 5=some [.int .i64 O,.int .i64 E,.int .i64 M,.slice (some ⟨g1,0,none⟩) ps.length 1,.slice (some ⟨g2,0,none⟩) cs.length 3]:=by rw[lds_of e9 (by simp)];rfl
  simp -implicitDefEqProofs(disch:=omega)only[Nat.reduceEqDiff,↓reduceIte,vcu,↓vcd]
  refine fin_ct8 Tryz.results54 T9 (Sub.refl _) (v:=exV (.slice (some ⟨g1,0,none⟩) ps.length 1) (.slice (some ⟨g2,0,none⟩) cs.length 3) ⟨⟨O,E,M⟩,ps,cs⟩) (by simp -implicitDefEqProofs(disch:=omega)only[Nat.reduceEqDiff,↓reduceIte,vcu,↓vcd,l9,co33];rfl) ⟨exV (.slice (some ⟨g1,0,none⟩) ps.length 1) (.slice (some ⟨g2,0,none⟩) cs.length 3) ⟨⟨O,E,M⟩,ps,cs⟩,?_,k9.sub hS6 z4,?_⟩
  ·simp -implicitDefEqProofs(disch:=omega)only[Nat.reduceEqDiff,↓reduceIte,vcu,↓vcd]
   rw[hx]
  ·rw[hx]
   exact⟨_,_,rfl,.inr ⟨g1,rfl,k9.at w1 d14,z1⟩,.inr ⟨g2,rfl,k9.at w2 d24,z2⟩⟩
 have dk2:decide (K=2)=true:=decide_eq_true hK2
 rw[if_pos hK2] at hdo
 have hLn:L.toNat < ps.length:=by omega
 have c3:ld τ6 h6 (0+3)=some (.slice (some ⟨g1,0,none⟩) ps.length 1):=ld_of f6 rfl
 simp -implicitDefEqProofs(disch:=omega)only[Nat.reduceEqDiff,↓reduceIte,vcu,↓vcd,opK_some,a0,a1,a2,dk0,dk1,dk2,c3]
 refine r_setX (g:=g1) (i:=0+L.toNat) (v:=N) z9q z9q co9 w1 om9 fun τ7 k7 w7=>?_
 rw[Nat.zero_add] at w7
 have hps:ps≠[]:=by rintro rfl;simp at hLn
 have d12:g2≠g1:=by
  rintro rfl
  rw[w1] at w2
  cases ps with
  | nil=>exact hps rfl
  | cons p ps=>cases cs<;>simp [texts,tris,tri] at w2
 have S7':Sub τ3 τ7:=k7.sub S6 m1
 have f67:=k7.at f6 d61.symm
 have f47:=k7.at f4 d14.symm
 have w27:=k7.at w2 d12
 have c5:=y5 τ7 S7'
 have c1:=u1 τ7 S7'
 have c2:=u2 τ7 S7'
 have c3:=y3 τ7 S7'
 have c63:ld τ7 h6 (0+3)=some (.slice (some ⟨g1,0,none⟩) ps.length 1):=ld_of f67 rfl
 obtain⟨hg,ho,hv1,hrow⟩:=rowT (t1.sub S7') om9
 have hx1:=hrow L.toNat hLn
 by_cases h1:N=ps.getD L.toNat []
 ·have dn:decide (N=ps.getD L.toNat [])=true:=decide_eq_true h1
  have hx:=hno none (by rw[hdo,if_pos (.inl h1)])
  dsimp only at hx
  simp -implicitDefEqProofs(disch:=omega)only[Nat.reduceEqDiff,↓reduceIte,vcu,↓vcd,c1,c2,c3,c5,hv1,hx1,abin_seql,dn,co33]
  rw[←hv1]
  refine (copyX_rows τ7 (exV v1 v2 ⟨⟨O,E,M⟩,ps,cs⟩) _ (hX3.sub S7') hb0).mono ?_
  rintro _ τ8 ⟨q1,q2,rfl,s8,r1,r2,p1,p2⟩
  dsimp only at r1 r2
  unfold exV
  dsimp only
  have f48:=s8 _ _ f47
  have dq1:q1≠h4:=ne_of p1 f47
  have dq2:q2≠h4:=ne_of p2 f47
  simp -implicitDefEqProofs(disch:=omega)only[Nat.reduceEqDiff,↓reduceIte,vcu,↓vcd,opK_some]
  refine r_sets (g:=h4) (i:=0) (C:=[.int .i64 0,.int .i64 0,.int .i64 0,.slice none 0 0,.slice none 0 0]) z9q z9co33 z9r z9z f48 z9l fun T9 k9 e9=>?_
  replace e9:T9 h4=some ⟨[.int .i64 O,.int .i64 E,.int .i64 M,.slice (some ⟨q1,0,none⟩) ps.length 1,.slice (some ⟨q2,0,none⟩) cs.length 3],false⟩:=e9
  have l9:lds T9 h4 0 5=some [.int .i64 O,.int .i64 E,.int .i64 M,.slice (some ⟨q1,0,none⟩) ps.length 1,.slice (some ⟨q2,0,none⟩) cs.length 3]:=by rw[lds_of e9 (by simp)];rfl
  simp -implicitDefEqProofs(disch:=omega)only[Nat.reduceEqDiff,↓reduceIte,vcu,↓vcd]
  refine fin_ct8 Tryz.results54 T9 (Sub.refl _) (v:=exV (.slice (some ⟨q1,0,none⟩) ps.length 1) (.slice (some ⟨q2,0,none⟩) cs.length 3) ⟨⟨O,E,M⟩,ps,cs⟩) (by simp -implicitDefEqProofs(disch:=omega)only[Nat.reduceEqDiff,↓reduceIte,vcu,↓vcd,l9,co33];rfl) ⟨exV (.slice (some ⟨q1,0,none⟩) ps.length 1) (.slice (some ⟨q2,0,none⟩) cs.length 3) ⟨⟨O,E,M⟩,ps,cs⟩,?_,k9.sub ((S3.trans S7').trans s8) z4,?_⟩
  ·simp -implicitDefEqProofs(disch:=omega)only[Nat.reduceEqDiff,↓reduceIte,vcu,↓vcd]
   rw[hx]
  ·rw[hx]
   exact⟨_,_,rfl,.inr ⟨q1,rfl,k9.at r1 dq1,free_sub (S3.trans S7') p1⟩,.inr ⟨q2,rfl,k9.at r2 dq2,free_sub (S3.trans S7') p2⟩⟩
 have dn:decide (N=ps.getD L.toNat [])=false:=decide_eq_false h1
 have hpl:=planValid_calls (w0:=w0) τ7 _ (ps.set L.toNat N) (own_textsI w7) (by rw[List.length_set];exact b1) (fun x hx=>by
  rcases List.mem_or_eq_of_mem_set hx with h|h
  ·exact b2 x h
  ·subst h;exact hNl)
 rw[List.length_set] at hpl
 by_cases h2:PlanOk (ps.set L.toNat N)
 case neg =>
  rw[decide_eq_false h2] at hpl
  have hx:=hno none (by rw[hdo,if_pos (.inr h2)])
  dsimp only at hx
  simp -implicitDefEqProofs(disch:=omega)only[Nat.reduceEqDiff,↓reduceIte,vcu,↓vcd,c1,c2,c3,c63,hv1,hx1,abin_seql,dn]
  rw[r_callq]
  refine⟨_,hpl,?_⟩
  simp -implicitDefEqProofs(disch:=omega)only[Nat.reduceEqDiff,↓reduceIte,vcu,↓vcd,Bool.not_false,c5,co33]
  refine (copyX_rows τ7 (exV v1 v2 ⟨⟨O,E,M⟩,ps,cs⟩) _ (hX3.sub S7') hb0).mono ?_
  rintro _ τ8 ⟨q1,q2,rfl,s8,r1,r2,p1,p2⟩
  dsimp only at r1 r2
  unfold exV
  dsimp only
  have f48:=s8 _ _ f47
  have dq1:q1≠h4:=ne_of p1 f47
  have dq2:q2≠h4:=ne_of p2 f47
  simp -implicitDefEqProofs(disch:=omega)only[Nat.reduceEqDiff,↓reduceIte,vcu,↓vcd,opK_some]
  refine r_sets (g:=h4) (i:=0) (C:=[.int .i64 0,.int .i64 0,.int .i64 0,.slice none 0 0,.slice none 0 0]) z9q z9co33 z9r z9z f48 z9l fun T9 k9 e9=>?_
  replace e9:T9 h4=some ⟨[.int .i64 O,.int .i64 E,.int .i64 M,.slice (some ⟨q1,0,none⟩) ps.length 1,.slice (some ⟨q2,0,none⟩) cs.length 3],false⟩:=e9
  have l9:lds T9 h4 0 5=some [.int .i64 O,.int .i64 E,.int .i64 M,.slice (some ⟨q1,0,none⟩) ps.length 1,.slice (some ⟨q2,0,none⟩) cs.length 3]:=by rw[lds_of e9 (by simp)];rfl
  simp -implicitDefEqProofs(disch:=omega)only[Nat.reduceEqDiff,↓reduceIte,vcu,↓vcd]
  refine fin_ct8 Tryz.results54 T9 (Sub.refl _) (v:=exV (.slice (some ⟨q1,0,none⟩) ps.length 1) (.slice (some ⟨q2,0,none⟩) cs.length 3) ⟨⟨O,E,M⟩,ps,cs⟩) (by simp -implicitDefEqProofs(disch:=omega)only[Nat.reduceEqDiff,↓reduceIte,vcu,↓vcd,l9,co33];rfl) ⟨exV (.slice (some ⟨q1,0,none⟩) ps.length 1) (.slice (some ⟨q2,0,none⟩) cs.length 3) ⟨⟨O,E,M⟩,ps,cs⟩,?_,k9.sub ((S3.trans S7').trans s8) z4,?_⟩
  ·simp -implicitDefEqProofs(disch:=omega)only[Nat.reduceEqDiff,↓reduceIte,vcu,↓vcd]
   rw[hx]
  ·rw[hx]
   exact⟨_,_,rfl,.inr ⟨q1,rfl,k9.at r1 dq1,free_sub (S3.trans S7') p1⟩,.inr ⟨q2,rfl,k9.at r2 dq2,free_sub (S3.trans S7') p2⟩⟩
 rw[decide_eq_true h2] at hpl
 have hx:=hno (some ⟨⟨O,E,M⟩,ps.set L.toNat N,cs⟩) (by rw[hdo,if_neg (by rintro (h|h)<;>first|exact h1 h|exact h h2)])
 dsimp only at hx
 have l7:lds τ7 h6 0 5=some [.int .i64 O,.int .i64 E,.int .i64 M,.slice (some ⟨g1,0,none⟩) ps.length 1,.slice (some ⟨g2,0,none⟩) cs.length 3]:=by rw[lds_of f67 (by simp)];rfl
 simp -implicitDefEqProofs(disch:=omega)only[Nat.reduceEqDiff,↓reduceIte,vcu,↓vcd,c1,c2,c3,c63,hv1,hx1,abin_seql,dn]
 rw[r_callq]
 refine⟨_,hpl,?_⟩
 simp -implicitDefEqProofs(disch:=omega)only[Nat.reduceEqDiff,↓reduceIte,vcu,↓vcd,Bool.not_true,l7,co33]
 try simp -implicitDefEqProofs(disch:=omega)only[Nat.reduceEqDiff,↓reduceIte,vcu,↓vcd,l7,co33]
 refine r_sets (g:=h4) (i:=0) (C:=[.int .i64 0,.int .i64 0,.int .i64 0,.slice none 0 0,.slice none 0 0]) z9q z9co33 z9r z9z f47 z9l fun T9 k9 e9=>?_
 replace e9:T9 h4=some ⟨[.int .i64 O,.int .i64 E,.int .i64 M,.slice (some ⟨g1,0,none⟩) ps.length 1,.slice (some ⟨g2,0,none⟩) cs.length 3],false⟩:=e9
 have l9:lds T9 h4 0 5=some [.int .i64 O,.int .i64 E,.int .i64 M,.slice (some ⟨g1,0,none⟩) ps.length 1,.slice (some ⟨g2,0,none⟩) cs.length 3]:=by rw[lds_of e9 (by simp)];rfl
 simp -implicitDefEqProofs(disch:=omega)only[Nat.reduceEqDiff,↓reduceIte,vcu,↓vcd]
 refine fin_ct8 Tryz.results54 T9 (Sub.refl _) (v:=exV (.slice (some ⟨g1,0,none⟩) ps.length 1) (.slice (some ⟨g2,0,none⟩) cs.length 3) ⟨⟨O,E,M⟩,ps.set L.toNat N,cs⟩) (by simp -implicitDefEqProofs(disch:=omega)only[Nat.reduceEqDiff,↓reduceIte,vcu,↓vcd,l9,co33];rfl) ⟨exV (.slice (some ⟨g1,0,none⟩) ps.length 1) (.slice (some ⟨g2,0,none⟩) cs.length 3) ⟨⟨O,E,M⟩,ps.set L.toNat N,cs⟩,?_,k9.sub (S3.trans S7') z4,?_⟩
 ·simp -implicitDefEqProofs(disch:=omega)only[Nat.reduceEqDiff,↓reduceIte,vcu,↓vcd]
  rw[hx]
 ·rw[hx]
  exact⟨_,_,rfl,.inr ⟨g1,by rw[List.length_set],k9.at w7 d14,z1⟩,.inr ⟨g2,rfl,k9.at w27 d24,z2⟩⟩
theorem exB_of {e:Ex} (h:ExOk e):ExB e:=by
 obtain⟨h1,h2,h3,h4,h5⟩:=h
 have:=h4.len
 have:=h2.2
 refine⟨by omega,fun x hx=>?_,by omega⟩
 obtain⟨k,hk,rfl⟩:=List.mem_iff_getElem.1 hx
 have:=(h2.1 k hk).2.1.2
 simp only[List.getD,List.getElem?_eq_getElem hk,Option.getD_some] at this
 omega
def Bs (σ:AHeap) (h4 h6:Nat):AHeap:=(σ.upd h4 (some ⟨[],false⟩)).upd h6 (some ⟨[],false⟩)
theorem Bs_6 {σ:AHeap} {h4 h6:Nat}:Bs σ h4 h6 h6=some ⟨[],false⟩:=AHeap.upd_same _ _ _
theorem Bs_4 {σ:AHeap} {h4 h6:Nat}:Bs σ h4 h6 h4=some ⟨[],false⟩:=by
 unfold Bs
 by_cases e:h4=h6
 ·subst e;exact AHeap.upd_same _ _ _
 ·rw[AHeap.upd_ne _ _ e];exact AHeap.upd_same _ _ _
theorem Bs_free {σ:AHeap} {h4 h6 g:Nat} (h:σ g=none) (n4:g≠h4) (n6:g≠h6):Bs σ h4 h6 g=none:=by
 unfold Bs;rw[AHeap.upd_ne _ _ n6,AHeap.upd_ne _ _ n4];exact h
theorem Bs_none {σ:AHeap} {h4 h6 g:Nat} (h:Bs σ h4 h6 g=none):σ g=none∧g≠h4∧g≠h6:=by
 have n6:g≠h6:=by rintro rfl;rw[Bs_6] at h;cases h
 have n4:g≠h4:=by rintro rfl;rw[Bs_4] at h;cases h
 unfold Bs at h
 rw[AHeap.upd_ne _ _ n6,AHeap.upd_ne _ _ n4] at h
 exact⟨h,n4,n6⟩
theorem OwnX.bs {σ τ τ':AHeap} {h4 h6:Nat} {v:Value} {e:Ex} {o4 o6:AObj} (h:OwnX τ τ' v e) (hs:Sub σ τ) (e4:τ h4=some o4) (e6:τ h6=some o6):OwnX (Bs σ h4 h6) τ' v e:=by
 obtain⟨v1,v2,rfl,h1,h2⟩:=h
 refine⟨v1,v2,rfl,?_,?_⟩
 ·exact h1.imp id fun⟨g,a,b,c⟩=>⟨g,a,b,Bs_free (free_sub hs c) (ne_of c e4) (ne_of c e6)⟩
 ·exact h2.imp id fun⟨g,a,b,c⟩=>⟨g,a,b,Bs_free (free_sub hs c) (ne_of c e4) (ne_of c e6)⟩
theorem OwnX.kept {β σ τ:AHeap} {v:Value} {e:Ex} {k:Nat} {ob:AObj} (h:OwnX β σ v e) (hk:Kept k σ τ) (hb:β k=some ob):OwnX β τ v e:=by
 obtain⟨v1,v2,rfl,h1,h2⟩:=h
 exact⟨v1,v2,rfl,h1.kept hk hb,h2.kept hk hb⟩
theorem OwnX.unbs {σ τ:AHeap} {h4 h6:Nat} {v:Value} {e:Ex} (h:OwnX (Bs σ h4 h6) τ v e):OwnX σ τ v e:=by
 obtain⟨v1,v2,rfl,h1,h2⟩:=h
 refine⟨v1,v2,rfl,?_,?_⟩
 ·exact h1.imp id fun⟨g,a,b,c⟩=>⟨g,a,b,(Bs_none c).1⟩
 ·exact h2.imp id fun⟨g,a,b,c⟩=>⟨g,a,b,(Bs_none c).1⟩
theorem rowD {σ:AHeap} {v:Value} {xs:List Dd} (h:Dds σ v xs) (h0:0 < xs.length):∃g o,v=.slice (some ⟨g,o,none⟩) xs.length 3∧DdsAt σ g o xs:=by
 rcases h with ⟨_,rfl⟩|h
 ·simp at h0
 ·exact h
theorem lenD {σ:AHeap} {v:Value} {xs:List Dd} (h:Dds σ v xs):alenV Tryz.prog 24 v=some (.int .i64 (xs.length:Int)):=by
 rcases h with ⟨rfl,rfl⟩ |⟨g,o,rfl,-⟩<;>exact alenV_slice Tryz.underlying24
def exC (v1 v2:Value) (e:Ex):List Value:=[.int .i64 e.s.O,.int .i64 e.s.E,.int .i64 e.s.M,v1,v2]
theorem exC_one {β σ:AHeap} {v1 v2:Value} {e:Ex} (h:OwnX β σ (exV v1 v2 e) e):(exC v1 v2 e).all Value.oneCell'=true:=by
 obtain⟨u1,u2,e1,h1,h2⟩:=h
 unfold exV at e1
 cases e1
 have a:=(texts_cellV h1.texts).2
 have b:=(tris_cellV h2.tris).2
 unfold exC
 simp only[List.all_cons,List.all_nil,a,b]
 rfl
theorem runN_step {e x:Ex} {ds:List Dd} {n k:Nat} (hlt:k < ds.length) (h:runN e ds=((runN x (ds.drop k)).1,n+(runN x (ds.drop k)).2)) :
  (∀y,doO x (ds.getD k dd0)=some y→runN e ds=((runN y (ds.drop (k+1))).1,(n+1)+(runN y (ds.drop (k+1))).2)) ∧
  (doO x (ds.getD k dd0)=none→runN e ds=((runN x (ds.drop (k+1))).1,n+(runN x (ds.drop (k+1))).2)):=by
 have hd:ds.drop k=ds.getD k dd0 :: ds.drop (k+1):=by rw[List.drop_eq_getElem_cons hlt];simp [List.getD,hlt]
 rw[hd] at h
 refine⟨fun y hy=>?_,fun hy=>?_⟩
 ·rw[h,runN,hy];simp only;refine Prod.ext rfl ?_;simp only;omega
 ·rw[h,runN,hy]
set_option maxRecDepth 8000 in
theorem exRun_calls (σ:AHeap) (v vd:Value) (e:Ex) (ds:List Dd) (hv:ExV σ v e) (hb:ExB e) (hd:Dds σ vd ds) (hl:ds.length≤1048576) (hN:∀d∈ds,d.t.length≤1048576) :
  ACall Tryz.prog w0 56 [v,vd] σ fun r σ'=>∃w,r=.tuple #[w,.int .i64 ((exRun e ds).2:Int)]∧Sub σ σ'∧OwnX σ σ' w (exRun e ds).1:=by
 have hv0:=hv
 obtain⟨v1,v2,rfl,t1,t2⟩:=hv
 unfold exV
 refine acall_goc mixed Tryz.func56 rfl goodc56 fun pr=>?_
 simp -implicitDefEqProofs(disch:=omega)only[Nat.reduceEqDiff,↓reduceIte,vcu,↓vcd]
 refine r_boxed fun b τ1 nb s1 eb=>?_
 replace eb:τ1 b=some ⟨[.int .i64 e.s.O,.int .i64 e.s.E,.int .i64 e.s.M,v1,v2],false⟩:=eb
 refine r_new ze33 fun h4 τ3 n4 s3 e4=>?_
 replace e4:τ3 h4=some ⟨[.int .i64 0,.int .i64 0,.int .i64 0,.slice none 0 0,.slice none 0 0],false⟩:=e4
 replace eb:=s3 _ _ eb
 have S3:Sub σ τ3:=s1.trans s3
 have z4:σ h4=none:=free_sub s1 n4
 have hX3:=hv0.sub S3
 have x5:lds τ3 b 0 5=some [.int .i64 e.s.O,.int .i64 e.s.E,.int .i64 e.s.M,v1,v2]:=by rw[lds_of eb (by simp)];rfl
 have hval:=exVal_calls (w0:=w0) τ3 _ _ hX3 hb
 unfold exV at hval
 simp -implicitDefEqProofs(disch:=omega)only[Nat.reduceEqDiff,↓reduceIte,vcu,↓vcd,x5,co33]
 refine hval.mono ?_
 rintro _ _ ⟨rfl,rfl⟩
 rename_i τ3
 by_cases hok:ExOk e
 case neg =>
  rw[decide_eq_false hok]
  have hx:exRun e ds=(ex0,0):=if_neg hok
  simp -implicitDefEqProofs(disch:=omega)only[Nat.reduceEqDiff,↓reduceIte,vcu,↓vcd,opK_some,Bool.not_false]
  rw[r_build]
  refine⟨(_,#[.int .i64 0,.int .i64 0,.int .i64 0,.slice none 0 0,.slice none 0 0]),⟨ze33,by first|kernel_rfl | (simp -implicitDefEqProofs(disch:=omega)only[Nat.reduceEqDiff,↓reduceIte,vcu,↓vcd];kernel_rfl)⟩,?_⟩
  simp -implicitDefEqProofs(disch:=omega)only[Nat.reduceEqDiff,↓reduceIte,vcu,↓vcd]
  refine r_sets (g:=h4) (i:=0) (C:=[.int .i64 0,.int .i64 0,.int .i64 0,.slice none 0 0,.slice none 0 0]) z9q z9co33 z9r z9z e4 z9l fun T9 k9 e9=>?_
  replace e9:T9 h4=some ⟨[.int .i64 0,.int .i64 0,.int .i64 0,.slice none 0 0,.slice none 0 0],false⟩:=e9
  have l9:lds T9 h4 0 5=some [.int .i64 0,.int .i64 0,.int .i64 0,.slice none 0 0,.slice none 0 0]:=by rw[lds_of e9 (by simp)];rfl
  simp -implicitDefEqProofs(disch:=omega)only[Nat.reduceEqDiff,↓reduceIte,vcu,↓vcd]
  refine fin_ct8 Tryz.results56 T9 (Sub.refl _) (v:=exV (.slice none 0 0) (.slice none 0 0) ex0) (by simp -implicitDefEqProofs(disch:=omega)only[Nat.reduceEqDiff,↓reduceIte,vcu,↓vcd,l9,co33];rfl) ⟨exV (.slice none 0 0) (.slice none 0 0) ex0,?_,k9.sub S3 z4,?_⟩
  ·simp -implicitDefEqProofs(disch:=omega)only[Nat.reduceEqDiff,↓reduceIte,vcu,↓vcd]
   rw[hx];rfl
  ·rw[hx]
   exact⟨_,_,rfl,.inl ⟨rfl,rfl⟩,.inl ⟨rfl,rfl⟩⟩
 rw[decide_eq_true hok]
 have hcopy:=copyX_rows (w0:=w0) τ3 (exV v1 v2 e) e hX3 hb
 unfold exV at hcopy
 simp -implicitDefEqProofs(disch:=omega)only[Nat.reduceEqDiff,↓reduceIte,vcu,↓vcd,opK_some,Bool.not_true,x5,co33]
 refine hcopy.mono ?_
 rintro _ τ4 ⟨g1,g2,rfl,s4,w1,w2,m1,m2⟩
 simp -implicitDefEqProofs(disch:=omega)only[Nat.reduceEqDiff,↓reduceIte,vcu,↓vcd,opK_some]
 refine r_new ze33 fun h6 τ5 n6 s5 e6=>?_
 replace e6:τ5 h6=some ⟨[.int .i64 0,.int .i64 0,.int .i64 0,.slice none 0 0,.slice none 0 0],false⟩:=e6
 have d61:g1≠h6:=ne_of' n6 w1
 have d62:g2≠h6:=ne_of' n6 w2
 have d46:h4≠h6:=ne_of' n6 (s4 _ _ e4)
 have d14:g1≠h4:=ne_of m1 e4
 have d24:g2≠h4:=ne_of m2 e4
 have z1:σ g1=none:=free_sub S3 m1
 have z2:σ g2=none:=free_sub S3 m2
 have z6:σ h6=none:=free_sub (S3.trans s4) n6
 refine r_sets (g:=h6) (i:=0) (C:=[.int .i64 0,.int .i64 0,.int .i64 0,.slice none 0 0,.slice none 0 0]) z9q z9co33 z9r z9z e6 z9l fun τ6 k6 f6=>?_
 replace f6:τ6 h6=some ⟨exC (.slice (some ⟨g1,0,none⟩) e.ps.length 1) (.slice (some ⟨g2,0,none⟩) e.cs.length 3) e,false⟩:=f6
 have S6:Sub σ τ6:=k6.sub ((S3.trans s4).trans s5) z6
 have w61:=k6.at (s5 _ _ w1) d61
 have w62:=k6.at (s5 _ _ w2) d62
 have f4:=k6.at (s5 _ _ (s4 _ _ e4)) d46
 have hown:OwnX (Bs σ h4 h6) τ6 (exV (.slice (some ⟨g1,0,none⟩) e.ps.length 1) (.slice (some ⟨g2,0,none⟩) e.cs.length 3) e) e :=
  ⟨_,_,rfl,.inr ⟨g1,rfl,w61,Bs_free z1 d14 d61⟩,.inr ⟨g2,rfl,w62,Bs_free z2 d24 d62⟩⟩
 have hR:exRun e ds=runN e ds:=if_pos hok
 have lnd:=fun (T:AHeap) (hs:Sub σ T)=>lenD (hd.sub hs)
 simp -implicitDefEqProofs(disch:=omega)only[Nat.reduceEqDiff,↓reduceIte,vcu,↓vcd]
 refine vc_loop_c mixed kr9 [1,4,6] (fun m a τ=>∃(k n:Nat) (x:Ex) (u1 u2:Value),m+k=ds.length∧a 8=.int .i64 k∧a 7=.int .i64 n∧n≤k∧ExOk x∧runN e ds=((runN x (ds.drop k)).1,n+(runN x (ds.drop k)).2)∧Sub σ τ∧τ h6=some ⟨exC u1 u2 x,false⟩∧τ h4=some ⟨[.int .i64 0,.int .i64 0,.int .i64 0,.slice none 0 0,.slice none 0 0],false⟩∧OwnX (Bs σ h4 h6) τ (exV u1 u2 x) x) ds.length
  ⟨0,0,e,_,_,by simp,rfl,rfl,Nat.le_refl _,hok,by simp,S6,f6,f4,hown⟩ ?_
 rintro m a τ hc ⟨k,n,x,u1,u2,hk,h8,h7,hnk,hxo,hrun,hs,q6,q4,hox⟩
 simp -implicitDefEqProofs(disch:=omega)only[Nat.reduceEqDiff,↓reduceIte,vcu,↓vcd] at hc
 obtain⟨h1,h4',h6',-⟩:=hc
 have hld:=lnd τ hs
 have l6:lds τ h6 0 5=some [.int .i64 x.s.O,.int .i64 x.s.E,.int .i64 x.s.M,u1,u2]:=by rw[lds_of q6 (by simp [exC])];rfl
 by_cases hlt:k < ds.length
 case neg =>
  obtain rfl:k=ds.length:=by omega
  have hone:=exC_one hox
  rw[List.drop_length] at hrun
  have hrun':exRun e ds=(x,n):=by rw[hR,hrun];rfl
  simp -implicitDefEqProofs(disch:=omega)only[Nat.reduceEqDiff,↓reduceIte,vcu,↓vcd,h1,h4',h6',h7,h8,hld,l6,co33]
  refine r_sets (g:=h4) (i:=0) (C:=[.int .i64 0,.int .i64 0,.int .i64 0,.slice none 0 0,.slice none 0 0]) (by simp -implicitDefEqProofs(disch:=omega)only[Nat.reduceEqDiff,↓reduceIte,vcu,↓vcd,h4']) z9co33 (by simp -implicitDefEqProofs(disch:=omega)only[Nat.reduceEqDiff,↓reduceIte,vcu,↓vcd];exact hone) z9z q4 z9l fun T9 k9 e9=>?_
  replace e9:T9 h4=some ⟨exC u1 u2 x,false⟩:=e9
  have l9:lds T9 h4 0 5=some [.int .i64 x.s.O,.int .i64 x.s.E,.int .i64 x.s.M,u1,u2]:=by rw[lds_of e9 (by simp [exC])];rfl
  simp -implicitDefEqProofs(disch:=omega)only[Nat.reduceEqDiff,↓reduceIte,vcu,↓vcd,h4',h7]
  refine fin_ct8 Tryz.results56 T9 (Sub.refl _) (v:=exV u1 u2 x) (by simp -implicitDefEqProofs(disch:=omega)only[Nat.reduceEqDiff,↓reduceIte,vcu,↓vcd,h4',l9,co33];rfl) ⟨exV u1 u2 x,?_,k9.sub hs z4,?_⟩
  ·simp -implicitDefEqProofs(disch:=omega)only[Nat.reduceEqDiff,↓reduceIte,vcu,↓vcd]
   rw[hrun']
  ·rw[hrun']
   exact (hox.kept k9 Bs_4).unbs
 obtain⟨hs1,hs2⟩:=runN_step hlt hrun
 have hmem:ds.getD k dd0∈ds:=by simp [List.getD,hlt]
 have hNd:=hN _ hmem
 obtain⟨gd,od,rfl,hrow⟩:=rowD (hd.sub hs) om9
 have hxd:=hrow.all hlt
 generalize ds.getD k dd0=d at hs1 hs2 hxd hNd
 have hexdo:=fun (T:AHeap) (hT:Sub τ T)=>exDo_calls (w0:=w0) T (exV u1 u2 x) x d (hox.ex.sub hT) (exB_of hxo) hNd
 have hE:exDo x d=(match doO x d with|some y=>(y,true)|none=>(x,false)):=if_pos hxo
 generalize hyb:exDo x d=yb at hexdo hE
 obtain⟨y,bo⟩:=yb
 obtain⟨dk,dl,dt⟩:=d
 unfold ddc at hxd
 unfold ddA exV at hexdo
 dsimp only at hxd hexdo
 simp -implicitDefEqProofs(disch:=omega)only[Nat.reduceEqDiff,↓reduceIte,vcu,↓vcd,h1,h4',h6',h7,h8,hld]
 refine acodeB_monoX (Q':=fun en a' T=>en=.normal∧(a' 1=a 1∧a' 4=a 4∧a' 6=a 6∧a' 7=a 7∧a' 8=a 8)∧∃p y1 y2,a' 9=.pointer (some ⟨p,0,none⟩)∧a' 10=.bool bo∧Sub τ T∧T p=some ⟨exC y1 y2 y,false⟩∧OwnX τ T (exV y1 y2 y) y)
  (region_tree mixed (quiets [1,2,3] (quiets [0,4] (.two 5 (quiets [6,7,8] (.one 9 (.one 10 (quiets [11] .stop)))) 9 (.one 5 (quiets [6,7,8] (.one 10 (quiets [11] .stop))))))) [([0,4],Sub τ)] kr9 kr9 (fun p hp=>by simp only[List.mem_singleton] at hp;subst hp;exact Sub.refl _) ?_) ?_
 ·refine tree_quiets _ _ _ _ sf0 kr9 kr9 ?_
  simp -implicitDefEqProofs(disch:=omega)only[Nat.reduceEqDiff,↓reduceIte,vcu,↓vcd,vcp,h1,h8,h6']
  refine tree_quiets τ _ _ _ sf1 kr9 kr9 ?_
  simp -implicitDefEqProofs(disch:=omega)only[Nat.reduceEqDiff,↓reduceIte,vcu,↓vcd,vcp,h6',l6,hxd,co33,co41]
  refine tree_two rfl rfl ?_ ?_
  ·try simp -implicitDefEqProofs(disch:=omega)only[Nat.reduceEqDiff,↓reduceIte,vcu,↓vcd]
   refine (hexdo τ (Sub.refl _)).mono ?_
   rintro _ T1 ⟨_,rfl,p1,y1,y2,rfl,oy1,oy2⟩
   have hoy:OwnX τ T1 (exV y1 y2 y) y:=⟨y1,y2,rfl,oy1,oy2⟩
   have hone:=exC_one hoy
   unfold exV
   simp -implicitDefEqProofs(disch:=omega)only[Nat.reduceEqDiff,↓reduceIte,vcu,↓vcd,opK_some]
   refine⟨keep_of rfl (fun p hp=>by simp only[List.mem_singleton] at hp;subst hp;exact .inr p1),?_⟩
   refine tree_quiets _ _ _ _ sf0 kr9 kr9 ?_
   simp -implicitDefEqProofs(disch:=omega)only[Nat.reduceEqDiff,↓reduceIte,vcu,↓vcd,vcp,List.getElem?_toArray,List.getElem?_cons_zero,List.getElem?_cons_succ]
   refine tree_one rfl ?_
   refine r_new ze33 fun p T2 np sp ep=>?_
   replace ep:T2 p=some ⟨[.int .i64 0,.int .i64 0,.int .i64 0,.slice none 0 0,.slice none 0 0],false⟩:=ep
   simp -implicitDefEqProofs(disch:=omega)only[Nat.reduceEqDiff,↓reduceIte,vcu,↓vcd]
   have P2:=p1.trans sp
   refine⟨keep_of rfl (fun p hp=>by simp only[List.mem_singleton] at hp;subst hp;exact .inr P2),?_⟩
   refine tree_one rfl ?_
   refine r_sets (g:=p) (i:=0) (C:=[.int .i64 0,.int .i64 0,.int .i64 0,.slice none 0 0,.slice none 0 0]) z9q z9co33 (by simp -implicitDefEqProofs(disch:=omega)only[Nat.reduceEqDiff,↓reduceIte,vcu,↓vcd];exact hone) z9z ep z9l fun T3 k3 e3=>?_
   replace e3:T3 p=some ⟨exC y1 y2 y,false⟩:=e3
   have P3:Sub τ T3:=k3.sub P2 (free_sub p1 np)
   have hoy3:OwnX τ T3 (exV y1 y2 y) y:=⟨y1,y2,rfl,(oy1.sub sp).imp id fun⟨g,a1,a2,a3⟩=>⟨g,a1,k3.at a2 (by
     rcases oy1 with ⟨h,_⟩ |⟨g',h,h2,_⟩
     ·rw[a1] at h;cases h
     ·rw[a1] at h;cases h;exact ne_of' np h2),a3⟩,(oy2.sub sp).imp id fun⟨g,a1,a2,a3⟩=>⟨g,a1,k3.at a2 (by
     rcases oy2 with ⟨h,_⟩ |⟨g',h,h2,_⟩
     ·rw[a1] at h;cases h
     ·rw[a1] at h;cases h;exact ne_of' np h2),a3⟩⟩
   simp -implicitDefEqProofs(disch:=omega)only[Nat.reduceEqDiff,↓reduceIte,vcu,↓vcd]
   refine⟨keep_of rfl (fun p hp=>by simp only[List.mem_singleton] at hp;subst hp;exact .inr P3),?_⟩
   refine tree_quiets _ _ _ _ sf0 kr9 kr9 ?_
   simp -implicitDefEqProofs(disch:=omega)only[Nat.reduceEqDiff,↓reduceIte,vcu,↓vcd,vcp]
   refine tree_stop ?_
   exact⟨by first|trivial|rfl,⟨by first|trivial|rfl|simp -implicitDefEqProofs(disch:=omega)only[Nat.reduceEqDiff,↓reduceIte,vcu,↓vcd],by first|trivial|rfl|simp -implicitDefEqProofs(disch:=omega)only[Nat.reduceEqDiff,↓reduceIte,vcu,↓vcd],by first|trivial|rfl|simp -implicitDefEqProofs(disch:=omega)only[Nat.reduceEqDiff,↓reduceIte,vcu,↓vcd],by first|trivial|rfl|simp -implicitDefEqProofs(disch:=omega)only[Nat.reduceEqDiff,↓reduceIte,vcu,↓vcd],by first|trivial|rfl|simp -implicitDefEqProofs(disch:=omega)only[Nat.reduceEqDiff,↓reduceIte,vcu,↓vcd]⟩,p,y1,y2,by first|trivial|rfl|simp -implicitDefEqProofs(disch:=omega)only[Nat.reduceEqDiff,↓reduceIte,vcu,↓vcd],by first|trivial|rfl|simp -implicitDefEqProofs(disch:=omega)only[Nat.reduceEqDiff,↓reduceIte,vcu,↓vcd],P3,e3,hoy3⟩
  ·try simp -implicitDefEqProofs(disch:=omega)only[Nat.reduceEqDiff,↓reduceIte,vcu,↓vcd]
   refine r_new ze33 fun p T1 np sp ep=>?_
   replace ep:T1 p=some ⟨[.int .i64 0,.int .i64 0,.int .i64 0,.slice none 0 0,.slice none 0 0],false⟩:=ep
   simp -implicitDefEqProofs(disch:=omega)only[Nat.reduceEqDiff,↓reduceIte,vcu,↓vcd]
   refine⟨keep_of rfl (fun p hp=>by simp only[List.mem_singleton] at hp;subst hp;exact .inr sp),?_⟩
   refine tree_one rfl ?_
   try simp -implicitDefEqProofs(disch:=omega)only[Nat.reduceEqDiff,↓reduceIte,vcu,↓vcd]
   refine (hexdo T1 sp).mono ?_
   rintro _ T2 ⟨_,rfl,p1,y1,y2,rfl,oy1,oy2⟩
   have hoy:OwnX T1 T2 (exV y1 y2 y) y:=⟨y1,y2,rfl,oy1,oy2⟩
   have hone:=exC_one hoy
   unfold exV
   have P2:=sp.trans p1
   simp -implicitDefEqProofs(disch:=omega)only[Nat.reduceEqDiff,↓reduceIte,vcu,↓vcd,opK_some]
   refine⟨keep_of rfl (fun p hp=>by simp only[List.mem_singleton] at hp;subst hp;exact .inr P2),?_⟩
   refine tree_quiets _ _ _ _ sf0 kr9 kr9 ?_
   simp -implicitDefEqProofs(disch:=omega)only[Nat.reduceEqDiff,↓reduceIte,vcu,↓vcd,vcp,List.getElem?_toArray,List.getElem?_cons_zero,List.getElem?_cons_succ]
   refine tree_one rfl ?_
   refine r_sets (g:=p) (i:=0) (C:=[.int .i64 0,.int .i64 0,.int .i64 0,.slice none 0 0,.slice none 0 0]) z9q z9co33 (by simp -implicitDefEqProofs(disch:=omega)only[Nat.reduceEqDiff,↓reduceIte,vcu,↓vcd];exact hone) z9z (p1 _ _ ep) z9l fun T3 k3 e3=>?_
   replace e3:T3 p=some ⟨exC y1 y2 y,false⟩:=e3
   have P3:Sub τ T3:=k3.sub P2 np
   have hoy3:OwnX τ T3 (exV y1 y2 y) y:=(hoy.kept k3 ep).older sp
   simp -implicitDefEqProofs(disch:=omega)only[Nat.reduceEqDiff,↓reduceIte,vcu,↓vcd]
   refine⟨keep_of rfl (fun p hp=>by simp only[List.mem_singleton] at hp;subst hp;exact .inr P3),?_⟩
   refine tree_quiets _ _ _ _ sf0 kr9 kr9 ?_
   simp -implicitDefEqProofs(disch:=omega)only[Nat.reduceEqDiff,↓reduceIte,vcu,↓vcd,vcp]
   refine tree_stop ?_
   exact⟨by first|trivial|rfl,⟨by first|trivial|rfl|simp -implicitDefEqProofs(disch:=omega)only[Nat.reduceEqDiff,↓reduceIte,vcu,↓vcd],by first|trivial|rfl|simp -implicitDefEqProofs(disch:=omega)only[Nat.reduceEqDiff,↓reduceIte,vcu,↓vcd],by first|trivial|rfl|simp -implicitDefEqProofs(disch:=omega)only[Nat.reduceEqDiff,↓reduceIte,vcu,↓vcd],by first|trivial|rfl|simp -implicitDefEqProofs(disch:=omega)only[Nat.reduceEqDiff,↓reduceIte,vcu,↓vcd],by first|trivial|rfl|simp -implicitDefEqProofs(disch:=omega)only[Nat.reduceEqDiff,↓reduceIte,vcu,↓vcd]⟩,p,y1,y2,by first|trivial|rfl|simp -implicitDefEqProofs(disch:=omega)only[Nat.reduceEqDiff,↓reduceIte,vcu,↓vcd],by first|trivial|rfl|simp -implicitDefEqProofs(disch:=omega)only[Nat.reduceEqDiff,↓reduceIte,vcu,↓vcd],P3,e3,hoy3⟩
 rintro _ a' T ⟨rfl,⟨r1,r4,r6,r7,r8⟩,p,y1,y2,r9,r10,PT,ep,hoy⟩
 rw[h1] at r1
 rw[h4'] at r4
 rw[h6'] at r6
 rw[h7] at r7
 rw[h8] at r8
 have q6':=PT _ _ q6
 have q4':=PT _ _ q4
 have hone:=exC_one hoy
 have hoB:=hoy.bs hs q4 q6
 have lp:lds T p 0 5=some [.int .i64 y.s.O,.int .i64 y.s.E,.int .i64 y.s.M,y1,y2]:=by rw[lds_of ep (by simp [exC])];rfl
 cases hdo:doO x ⟨dk,dl,dt⟩ with
 | none =>
  rw[hdo] at hE
  cases hE
  simp -implicitDefEqProofs(disch:=omega)only[Nat.reduceEqDiff,↓reduceIte,vcu,↓vcd,r1,r4,r6,r7,r8,r10]
  refine⟨⟨?_,?_,?_,trivial⟩,m - 1,by omega,k+1,n,x,u1,u2,by omega,by simp,rfl,by omega,hxo,hs2 hdo,hs.trans PT,q6',q4',hox.sub PT⟩
  all_goals first|trivial|exact h1.symm|exact h4'.symm|exact h6'.symm
 | some y' =>
  rw[hdo] at hE
  cases hE
  have D:=doO_did hxo hdo
  simp -implicitDefEqProofs(disch:=omega)only[Nat.reduceEqDiff,↓reduceIte,vcu,↓vcd,r1,r4,r6,r7,r8,r9,r10,lp,co33]
  refine r_sets (g:=h6) (i:=0) (C:=exC u1 u2 x) (by simp -implicitDefEqProofs(disch:=omega)only[Nat.reduceEqDiff,↓reduceIte,vcu,↓vcd,r6]) z9co33 (by simp -implicitDefEqProofs(disch:=omega)only[Nat.reduceEqDiff,↓reduceIte,vcu,↓vcd];exact hone) z9z q6' z9l fun T9 k9 e9=>?_
  replace e9:T9 h6=some ⟨exC y1 y2 y,false⟩:=e9
  simp -implicitDefEqProofs(disch:=omega)only[Nat.reduceEqDiff,↓reduceIte,vcu,↓vcd,r1,r4,r6,r7,r8]
  refine⟨⟨?_,?_,?_,trivial⟩,m - 1,by omega,k+1,n+1,y,y1,y2,by omega,by simp,by simp,by omega,D.ok,hs1 _ hdo,k9.sub (hs.trans PT) z6,e9,k9.at q4' d46,hoB.kept k9 Bs_6⟩
  all_goals first|trivial|exact h1.symm|exact h4'.symm|exact h6'.symm
theorem joinT_len {ps:List (List UInt8)} (h:∀x∈ps,x.length≤1048576):∀k,(joinT ps k).length≤1048577 * (k+1)
 | 0=>by
  have:(ps.getD 0 []).length≤1048576:=by
   by_cases h0:0 < ps.length
   ·exact h _ (by simp [List.getD,h0])
   ·have:ps=[]:=List.eq_nil_of_length_eq_zero om9
    subst this;simp
  show (ps.getD 0 []).length≤_;omega
 | k+1=>by
  have ih:=joinT_len h k
  have:(ps.getD (k+1) []).length≤1048576:=by
   by_cases h0:k+1 < ps.length
   ·exact h _ (by simp [List.getD,h0])
   ·simp [List.getD,List.getElem?_eq_none (show ps.length≤k+1 by omega)]
  show (joinT ps k++([44]++ps.getD (k+1) [])).length≤_
  rw[List.length_append,List.length_append,List.length_singleton];omega
theorem kept_erase {σ τ:AHeap} {h:Nat} (hk:Kept h σ τ):Sub (σ.upd h none) τ:=fun x o e=>by
 by_cases hx:x=h
 ·subst hx;rw[AHeap.upd_same] at e;cases e
 ·rw[AHeap.upd_ne _ _ hx] at e;exact hk x o hx e
theorem ownX_store {β σ τ υ:AHeap} {v:Value} {e:Ex} {p:Nat} (h:OwnX β σ v e) (hp:σ p=none) (hs:Sub σ τ) (hk:Kept p τ υ):OwnX β υ v e:=by
 obtain⟨v1,v2,rfl,h1,h2⟩:=h
 exact⟨v1,v2,rfl,h1.imp id fun⟨g,a,b,c⟩=>⟨g,a,hk.at (hs _ _ b) (ne_of' hp b),c⟩,h2.imp id fun⟨g,a,b,c⟩=>⟨g,a,hk.at (hs _ _ b) (ne_of' hp b),c⟩⟩
theorem peerS_lt {s:Sp} {cs:List Cl} (h:CV s cs) {x:Int}:peerS cs x≤11:=by
 have hL:=h.1.lines
 rcases peerS_spec cs x with hh |⟨hh,_⟩
 ·have:=(Pr.lines h hh).2;omega
 ·omega
theorem viaS_lt {s:Sp}:∀{cs:List Cl},(∀c∈cs,Rg s c)→SV s→∀{x:Int},viaS cs x≤4
 | [],_,_,x=>by simp [viaS]
 | c :: cs,h,hS,x=>by
  unfold viaS
  split
  ·have:=(h c (by simp)).2.2.2;have:=hS.2.2.2;omega
  ·exact viaS_lt (fun d hd=>h d (by simp [hd])) hS
set_option maxRecDepth 8000 in
set_option maxHeartbeats 3200000 in
theorem exLine_calls (σ:AHeap) (v:Value) (e:Ex) (t:List UInt8) (hv:ExV σ v e) (hb:ExB e) (hl:t.length≤1048576) :
  ACall Tryz.prog w0 19 [v,.string (tx t)] σ fun r σ'=>∃w,r=.tuple #[w,.string (tx (exLine e t).2)]∧Sub σ σ'∧OwnX σ σ' w (exLine e t).1:=by
 have hv0:=hv
 obtain⟨v1,v2,rfl,t1,t2⟩:=hv
 unfold exV
 refine acall_goc mixed Tryz.func19 rfl goodc19 fun pr=>?_
 simp -implicitDefEqProofs(disch:=omega)only[Nat.reduceEqDiff,↓reduceIte,vcu,↓vcd]
 refine r_boxed fun b τ1 nb s1 eb=>?_
 replace eb:τ1 b=some ⟨[.int .i64 e.s.O,.int .i64 e.s.E,.int .i64 e.s.M,v1,v2],false⟩:=eb
 refine r_new ze33 fun h4 τ3 n4 s3 e4=>?_
 replace e4:τ3 h4=some ⟨[.int .i64 0,.int .i64 0,.int .i64 0,.slice none 0 0,.slice none 0 0],false⟩:=e4
 have nb4:b≠h4:=ne_of' n4 eb
 replace eb:=s3 _ _ eb
 have S3:Sub σ τ3:=s1.trans s3
 have z4:σ h4=none:=free_sub s1 n4
 have hX3:=hv0.sub S3
 have x5:lds τ3 b 0 5=some [.int .i64 e.s.O,.int .i64 e.s.E,.int .i64 e.s.M,v1,v2]:=by rw[lds_of eb (by simp)];rfl
 have hval:=exVal_calls (w0:=w0) τ3 _ _ hX3 hb
 unfold exV at hval
 simp -implicitDefEqProofs(disch:=omega)only[Nat.reduceEqDiff,↓reduceIte,vcu,↓vcd,x5,co33]
 refine hval.mono ?_
 rintro _ _ ⟨rfl,rfl⟩
 rename_i τ3
 by_cases hok:ExOk e
 case neg =>
  rw[decide_eq_false hok]
  have hx:exLine e t=(ex0,[]):=if_neg hok
  simp -implicitDefEqProofs(disch:=omega)only[Nat.reduceEqDiff,↓reduceIte,vcu,↓vcd,opK_some,Bool.not_false]
  rw[r_build]
  refine⟨(_,#[.int .i64 0,.int .i64 0,.int .i64 0,.slice none 0 0,.slice none 0 0]),⟨ze33,by first|kernel_rfl | (simp -implicitDefEqProofs(disch:=omega)only[Nat.reduceEqDiff,↓reduceIte,vcu,↓vcd];kernel_rfl)⟩,?_⟩
  simp -implicitDefEqProofs(disch:=omega)only[Nat.reduceEqDiff,↓reduceIte,vcu,↓vcd]
  refine r_sets (g:=h4) (i:=0) (C:=[.int .i64 0,.int .i64 0,.int .i64 0,.slice none 0 0,.slice none 0 0]) z9q z9co33 z9r z9z e4 z9l fun T9 k9 e9=>?_
  replace e9:T9 h4=some ⟨[.int .i64 0,.int .i64 0,.int .i64 0,.slice none 0 0,.slice none 0 0],false⟩:=e9
  have l9:lds T9 h4 0 5=some [.int .i64 0,.int .i64 0,.int .i64 0,.slice none 0 0,.slice none 0 0]:=by rw[lds_of e9 (by simp)];rfl
  simp -implicitDefEqProofs(disch:=omega)only[Nat.reduceEqDiff,↓reduceIte,vcu,↓vcd]
  refine fin_ct8 Tryz.results19 T9 (Sub.refl _) (v:=exV (.slice none 0 0) (.slice none 0 0) ex0) (by simp -implicitDefEqProofs(disch:=omega)only[Nat.reduceEqDiff,↓reduceIte,vcu,↓vcd,l9,co33];rfl) ⟨exV (.slice none 0 0) (.slice none 0 0) ex0,?_,k9.sub S3 z4,?_⟩
  ·simp -implicitDefEqProofs(disch:=omega)only[Nat.reduceEqDiff,↓reduceIte,vcu,↓vcd]
   rw[hx]
   try rfl
  ·rw[hx]
   exact⟨_,_,rfl,.inl ⟨rfl,rfl⟩,.inl ⟨rfl,rfl⟩⟩
 rw[decide_eq_true hok]
 obtain⟨hE0,hP,hL,hC,hSep⟩:=id hok
 have hc12:=hC.len
 have hp10:=hP.2
 simp -implicitDefEqProofs(disch:=omega)only[Nat.reduceEqDiff,↓reduceIte,vcu,↓vcd,opK_some,Bool.not_true]
 refine (readDeed_calls τ3 t hl).mono ?_
 rintro _ _ ⟨rfl,rfl⟩
 rename_i τ3
 unfold ddA
 simp -implicitDefEqProofs(disch:=omega)only[Nat.reduceEqDiff,↓reduceIte,vcu,↓vcd,opK_some,List.getElem?_toArray,List.getElem?_cons_zero,List.getElem?_cons_succ]
 refine r_new ze41 fun c6 τ4 n6 s4 e6=>?_
 replace e6:τ4 c6=some ⟨[.int .i64 0,.int .i64 0,.string (tx [])],false⟩:=e6
 refine r_sets (g:=c6) (i:=0) (C:=[.int .i64 0,.int .i64 0,.string (tx [])]) z9q z9co41 z9r z9z e6 z9l fun τ5 k5 ec=>?_
 replace ec:τ5 c6=some ⟨[.int .i64 (rdP t).1.k,.int .i64 (rdP t).1.l,.string (tx (rdP t).1.t)],false⟩:=ec
 have S5:Sub τ3 τ5:=k5.sub s4 n6
 simp -implicitDefEqProofs(disch:=omega)only[Nat.reduceEqDiff,↓reduceIte,vcu,↓vcd]
 refine (cut_calls τ5 t 32 hl).mono ?_
 rintro _ τ6 ⟨gw,rfl,s6,ww,mw⟩
 have S6:=S5.trans s6
 have x56:lds τ6 b 0 5=some [.int .i64 e.s.O,.int .i64 e.s.E,.int .i64 e.s.M,v1,v2]:=by rw[lds_of (S6 _ _ eb) (by simp)];rfl
 have hcopy:=copyX_rows (w0:=w0) τ6 (exV v1 v2 e) e (hX3.sub S6) hb
 unfold exV at hcopy
 simp -implicitDefEqProofs(disch:=omega)only[Nat.reduceEqDiff,↓reduceIte,vcu,↓vcd,opK_some,x56,co33]
 refine hcopy.mono ?_
 rintro _ τ7 ⟨g1,g2,rfl,s7,w1,w2,m1,m2⟩
 simp -implicitDefEqProofs(disch:=omega)only[Nat.reduceEqDiff,↓reduceIte,vcu,↓vcd,opK_some]
 refine r_new ze33 fun h9 τ8 n9 s8 e9=>?_
 replace e9:τ8 h9=some ⟨[.int .i64 0,.int .i64 0,.int .i64 0,.slice none 0 0,.slice none 0 0],false⟩:=e9
 have d91:g1≠h9:=ne_of' n9 w1
 have d92:g2≠h9:=ne_of' n9 w2
 refine r_sets (g:=h9) (i:=0) (C:=[.int .i64 0,.int .i64 0,.int .i64 0,.slice none 0 0,.slice none 0 0]) z9q z9co33 z9r z9z e9 z9l fun T0 k9 f9=>?_
 replace f9:T0 h9=some ⟨exC (.slice (some ⟨g1,0,none⟩) e.ps.length 1) (.slice (some ⟨g2,0,none⟩) e.cs.length 3) e,false⟩:=f9
 have SB:Sub τ3 T0:=k9.sub ((S6.trans s7).trans s8) (free_sub (S6.trans s7) n9)
 have SBw:Sub τ6 T0:=k9.sub (s7.trans s8) (free_sub s7 n9)
 have S0:=S3.trans SB
 have r1:=k9.at (s8 _ _ w1) d91
 have r2:=k9.at (s8 _ _ w2) d92
 have f4:=SB _ _ e4
 have wg:=SBw _ _ ww
 replace ec:=SBw _ _ (s6 _ _ ec)
 have hown:OwnX τ3 T0 (exV (.slice (some ⟨g1,0,none⟩) e.ps.length 1) (.slice (some ⟨g2,0,none⟩) e.cs.length 3) e) e :=
  ⟨_,_,rfl,.inr ⟨g1,rfl,r1,free_sub S6 m1⟩,.inr ⟨g2,rfl,r2,free_sub S6 m2⟩⟩
 have hX0:=hX3.sub SB
 have t10:=t1.sub S0
 have t20:=t2.sub S0
 have ln1:=lenT t10
 have ln2:=lenC t20
 have lnw:=lenT (own_textsI wg)
 have y5:∀T,Sub T0 T→lds T b 0 5=some [.int .i64 e.s.O,.int .i64 e.s.E,.int .i64 e.s.M,v1,v2]:=fun T h=>by rw[lds_of (h _ _ (SB _ _ eb)) (by simp)];rfl
 have y3:∀T,Sub T0 T→ld T b (0+3)=some v1:=fun T h=>ld_of (h _ _ (SB _ _ eb)) rfl
 have y4:∀T,Sub T0 T→ld T b (0+4)=some v2:=fun T h=>ld_of (h _ _ (SB _ _ eb)) rfl
 have y5s:=y5 T0 (Sub.refl _)
 have l9s:lds T0 h9 0 5=some [.int .i64 e.s.O,.int .i64 e.s.E,.int .i64 e.s.M,.slice (some ⟨g1,0,none⟩) e.ps.length 1,.slice (some ⟨g2,0,none⟩) e.cs.length 3]:=by rw[lds_of f9 (by simp [exC])];rfl
 have n94:h9≠h4:=ne_of n9 ((S6.trans s7) _ _ e4)
 have b0:(T0.upd h4 none) b=some ⟨[.int .i64 e.s.O,.int .i64 e.s.E,.int .i64 e.s.M,v1,v2],false⟩:=by rw[AHeap.upd_ne _ _ nb4];exact SB _ _ eb
 have b9:(T0.upd h4 none) h9=some ⟨exC (.slice (some ⟨g1,0,none⟩) e.ps.length 1) (.slice (some ⟨g2,0,none⟩) e.cs.length 3) e,false⟩:=by rw[AHeap.upd_ne _ _ n94];exact f9
 have y5u:lds (T0.upd h4 none) b 0 5=some [.int .i64 e.s.O,.int .i64 e.s.E,.int .i64 e.s.M,v1,v2]:=by rw[lds_of b0 (by simp)];rfl
 have y4u:ld (T0.upd h4 none) b (0+4)=some v2:=ld_of b0 rfl
 have l9u:lds (T0.upd h4 none) h9 0 5=some [.int .i64 e.s.O,.int .i64 e.s.E,.int .i64 e.s.M,.slice (some ⟨g1,0,none⟩) e.ps.length 1,.slice (some ⟨g2,0,none⟩) e.cs.length 3]:=by rw[lds_of b9 (by simp [exC])];rfl
 have qni:abin Tryz.prog 9 .eql (.string (tx t)) (.string { data:=#[110,105,103,104,116] })=some (.bool (decide (t=w_night))):=abin_seql (ys:=w_night)
 have qca:abin Tryz.prog 9 .eql (.string (tx t)) (.string { data:=#[99,97,108,108,115] })=some (.bool (decide (t=w_calls))):=abin_seql (ys:=w_calls)
 have qpl:abin Tryz.prog 9 .eql (.string (tx t)) (.string { data:=#[112,108,97,110] })=some (.bool (decide (t=w_plan))):=abin_seql (ys:=w_plan)
 simp -implicitDefEqProofs(disch:=omega)only[Nat.reduceEqDiff,↓reduceIte,vcu,↓vcd]
 by_cases hw:(cutT 32 t).length=2
 case neg =>
  have hask:askN t=-1:=by unfold askN;rw[if_neg hw]
  cases hro:readO t with
  | some d =>
   have hrd:rdP t=(d,true):=by unfold rdP;rw[hro]
   rw[hrd] at ec
   dsimp only at ec
   have hdt:d.t.length≤1048576:=by
    have:=(deedT_ok (d:=d) (by rw[(readO_some hro).1];exact (readO_some hro).2)).2.2
    rcases this with h|h
    ·rw[h.2];simp
    ·have:=h.2.2.2;omega
   have hexdo:=exDo_calls (w0:=w0) T0 (exV v1 v2 e) e d hX0 hb hdt
   have hE:exDo e d=(match doO e d with|some y=>(y,true)|none=>(e,false)):=if_pos hok
   have hLX:exLine e t=(match doO e d with|some x=>(x,w_ok)|none=>(e,refuse e d)):=by unfold exLine lineX;rw[if_pos hok,hro];dsimp only;cases doO e d<;>rfl
   have lc:lds T0 c6 0 3=some [.int .i64 d.k,.int .i64 d.l,.string (tx d.t)]:=lds_three (ld_of ec rfl) (ld_of ec rfl) (ld_of ec rfl)
   have c0:∀T,Sub T0 T→ld T c6 0=some (.int .i64 d.k):=fun T h=>ld_of (h _ _ ec) rfl
   have c1:∀T,Sub T0 T→ld T c6 1=some (.int .i64 d.l):=fun T h=>ld_of (h _ _ ec) rfl
   have c2:∀T,Sub T0 T→ld T c6 2=some (.string (tx d.t)):=fun T h=>ld_of (h _ _ ec) rfl
   have hline:=fun (T:AHeap) (h:Sub T0 T)=>lineOf_calls (w0:=w0) T (exV v1 v2 e) e d.t (hX0.sub h) hb
   rw[show lineV e d.t=lineS e.ps d.t from if_pos hok] at hline
   generalize hyb:exDo e d=yb at hexdo hE
   obtain⟨y,bo⟩:=yb
   unfold ddA exV at hexdo
   unfold exV at hline
   dsimp only at hexdo
   have htt:(rdP t).2=true:=by rw[hrd]
   simp -implicitDefEqProofs(disch:=omega)only[Nat.reduceEqDiff,↓reduceIte,vcu,↓vcd,hrd,y5s,lc,co33,co41]
   refine hexdo.mono ?_
   rintro _ T1 ⟨_,rfl,p1,y1,y2,rfl,oy1,oy2⟩
   have hoy:OwnX T0 T1 (exV y1 y2 y) y:=⟨y1,y2,rfl,oy1,oy2⟩
   have hone:=exC_one hoy
   unfold exV
   simp -implicitDefEqProofs(disch:=omega)only[Nat.reduceEqDiff,↓reduceIte,vcu,↓vcd,opK_some,List.getElem?_toArray,List.getElem?_cons_zero,List.getElem?_cons_succ]
   refine r_new ze33 fun p T2 np sp ep=>?_
   replace ep:T2 p=some ⟨[.int .i64 0,.int .i64 0,.int .i64 0,.slice none 0 0,.slice none 0 0],false⟩:=ep
   refine r_sets (g:=p) (i:=0) (C:=[.int .i64 0,.int .i64 0,.int .i64 0,.slice none 0 0,.slice none 0 0]) z9q z9co33 (by simp -implicitDefEqProofs(disch:=omega)only[Nat.reduceEqDiff,↓reduceIte,vcu,↓vcd];exact hone) z9z ep z9l fun T3 k3 e3=>?_
   replace e3:T3 p=some ⟨exC y1 y2 y,false⟩:=e3
   have P2:=p1.trans sp
   have P3:Sub T0 T3:=k3.sub P2 (free_sub p1 np)
   have hoy3:OwnX T0 T3 (exV y1 y2 y) y:=⟨y1,y2,rfl,(oy1.sub sp).imp id fun⟨g,a1,a2,a3⟩=>⟨g,a1,k3.at a2 (by
     rcases oy1 with ⟨h,_⟩ |⟨g',h,h2,_⟩
     ·rw[a1] at h;cases h
     ·rw[a1] at h;cases h;exact ne_of' np h2),a3⟩,(oy2.sub sp).imp id fun⟨g,a1,a2,a3⟩=>⟨g,a1,k3.at a2 (by
     rcases oy2 with ⟨h,_⟩ |⟨g',h,h2,_⟩
     ·rw[a1] at h;cases h
     ·rw[a1] at h;cases h;exact ne_of' np h2),a3⟩⟩
   have f43:=P3 _ _ f4
   have lp:lds T3 p 0 5=some [.int .i64 y.s.O,.int .i64 y.s.E,.int .i64 y.s.M,y1,y2]:=by rw[lds_of e3 (by simp [exC])];rfl
   cases hdo:doO e d with
   | some y' =>
    rw[hdo] at hE
    cases hE
    have hx:exLine e t=(y,w_ok):=by rw[hLX,hdo]
    simp -implicitDefEqProofs(disch:=omega)only[Nat.reduceEqDiff,↓reduceIte,vcu,↓vcd,lp,co33]
    have hone9:=exC_one hoy3
    try simp -implicitDefEqProofs(disch:=omega)only[Nat.reduceEqDiff,↓reduceIte,vcu,↓vcd,lp,co33]
    refine r_sets (g:=h4) (i:=0) (C:=[.int .i64 0,.int .i64 0,.int .i64 0,.slice none 0 0,.slice none 0 0]) z9q z9co33 (by simp -implicitDefEqProofs(disch:=omega)only[Nat.reduceEqDiff,↓reduceIte,vcu,↓vcd];exact hone9) z9z f43 z9l fun T9 k9 e9=>?_
    replace e9:T9 h4=some ⟨exC y1 y2 y,false⟩:=e9
    have l9:lds T9 h4 0 5=some [.int .i64 y.s.O,.int .i64 y.s.E,.int .i64 y.s.M,y1,y2]:=by rw[lds_of e9 (by simp [exC])];rfl
    try simp -implicitDefEqProofs(disch:=omega)only[Nat.reduceEqDiff,↓reduceIte,vcu,↓vcd]
    refine fin_ct8 Tryz.results19 T9 (Sub.refl _) (v:=exV y1 y2 y) (by simp -implicitDefEqProofs(disch:=omega)only[Nat.reduceEqDiff,↓reduceIte,vcu,↓vcd,l9,co33];rfl) ⟨exV y1 y2 y,?_,k9.sub (S0.trans P3) z4,?_⟩
    ·try simp -implicitDefEqProofs(disch:=omega)only[Nat.reduceEqDiff,↓reduceIte,vcu,↓vcd]
     rw[hx]
     try rfl
    ·rw[hx]
     exact (OwnX.kept hoy3 k9 f4).older S0
   | none =>
    rw[hdo] at hE
    cases hE
    have c03:=c0 T3 P3
    have c13:=c1 T3 P3
    have c23:=c2 T3 P3
    have y33:=y3 T3 P3
    have y53:=y5 T3 P3
    by_cases hk:d.k=0
    case neg =>
     have dk:decide (d.k≠0)=true:=decide_eq_true hk
     have hx:exLine e t=(e,w_no):=by rw[hLX,hdo];show (e,refuse e d)=_;unfold refuse;rw[if_pos (.inl hk)]
     simp -implicitDefEqProofs(disch:=omega)only[Nat.reduceEqDiff,↓reduceIte,vcu,↓vcd,c03,dk,lp,co33]
     have hone9:=exC_one hoy3
     try simp -implicitDefEqProofs(disch:=omega)only[Nat.reduceEqDiff,↓reduceIte,vcu,↓vcd,lp,co33]
     refine r_sets (g:=h4) (i:=0) (C:=[.int .i64 0,.int .i64 0,.int .i64 0,.slice none 0 0,.slice none 0 0]) z9q z9co33 (by simp -implicitDefEqProofs(disch:=omega)only[Nat.reduceEqDiff,↓reduceIte,vcu,↓vcd];exact hone9) z9z f43 z9l fun T9 k9 e9=>?_
     replace e9:T9 h4=some ⟨exC y1 y2 e,false⟩:=e9
     have l9:lds T9 h4 0 5=some [.int .i64 e.s.O,.int .i64 e.s.E,.int .i64 e.s.M,y1,y2]:=by rw[lds_of e9 (by simp [exC])];rfl
     try simp -implicitDefEqProofs(disch:=omega)only[Nat.reduceEqDiff,↓reduceIte,vcu,↓vcd]
     refine fin_ct8 Tryz.results19 T9 (Sub.refl _) (v:=exV y1 y2 e) (by simp -implicitDefEqProofs(disch:=omega)only[Nat.reduceEqDiff,↓reduceIte,vcu,↓vcd,l9,co33];rfl) ⟨exV y1 y2 e,?_,k9.sub (S0.trans P3) z4,?_⟩
     ·try simp -implicitDefEqProofs(disch:=omega)only[Nat.reduceEqDiff,↓reduceIte,vcu,↓vcd]
      rw[hx]
      try rfl
     ·rw[hx]
      exact (OwnX.kept hoy3 k9 f4).older S0
    have dk:decide (d.k≠0)=false:=decide_eq_false fun h=>h hk
    by_cases hl2:(e.ps.length:Int)≤d.l
    ·have dl:decide (d.l ≥ (e.ps.length:Int))=true:=decide_eq_true hl2
     have hx:exLine e t=(e,w_no):=by rw[hLX,hdo];show (e,refuse e d)=_;unfold refuse;rw[if_pos (.inr hl2)]
     simp -implicitDefEqProofs(disch:=omega)only[Nat.reduceEqDiff,↓reduceIte,vcu,↓vcd,c03,c13,y33,ln1,dk,dl,lp,co33]
     have hone9:=exC_one hoy3
     try simp -implicitDefEqProofs(disch:=omega)only[Nat.reduceEqDiff,↓reduceIte,vcu,↓vcd,lp,co33]
     refine r_sets (g:=h4) (i:=0) (C:=[.int .i64 0,.int .i64 0,.int .i64 0,.slice none 0 0,.slice none 0 0]) z9q z9co33 (by simp -implicitDefEqProofs(disch:=omega)only[Nat.reduceEqDiff,↓reduceIte,vcu,↓vcd];exact hone9) z9z f43 z9l fun T9 k9 e9=>?_
     replace e9:T9 h4=some ⟨exC y1 y2 e,false⟩:=e9
     have l9:lds T9 h4 0 5=some [.int .i64 e.s.O,.int .i64 e.s.E,.int .i64 e.s.M,y1,y2]:=by rw[lds_of e9 (by simp [exC])];rfl
     try simp -implicitDefEqProofs(disch:=omega)only[Nat.reduceEqDiff,↓reduceIte,vcu,↓vcd]
     refine fin_ct8 Tryz.results19 T9 (Sub.refl _) (v:=exV y1 y2 e) (by simp -implicitDefEqProofs(disch:=omega)only[Nat.reduceEqDiff,↓reduceIte,vcu,↓vcd,l9,co33];rfl) ⟨exV y1 y2 e,?_,k9.sub (S0.trans P3) z4,?_⟩
     ·try simp -implicitDefEqProofs(disch:=omega)only[Nat.reduceEqDiff,↓reduceIte,vcu,↓vcd]
      rw[hx]
      try rfl
     ·rw[hx]
      exact (OwnX.kept hoy3 k9 f4).older S0
    have dl:decide (d.l ≥ (e.ps.length:Int))=false:=decide_eq_false hl2
    have hrf:refuse e d=if lineS e.ps d.t < 0 then w_wrong else w_busy:=by unfold refuse;rw[if_neg (by rintro (h|h)<;>first|exact h hk|exact hl2 h)]
    simp -implicitDefEqProofs(disch:=omega)only[Nat.reduceEqDiff,↓reduceIte,vcu,↓vcd,c03,c13,c23,y33,y53,ln1,dk,dl,co33]
    refine (hline T3 P3).mono ?_
    rintro _ _ ⟨rfl,rfl⟩
    rename_i T3
    by_cases hln:lineS e.ps d.t < 0
    ·have dn:decide (lineS e.ps d.t < 0)=true:=decide_eq_true hln
     have hx:exLine e t=(e,w_wrong):=by rw[hLX,hdo];show (e,refuse e d)=_;rw[hrf,if_pos hln]
     simp -implicitDefEqProofs(disch:=omega)only[Nat.reduceEqDiff,↓reduceIte,vcu,↓vcd,opK_some,dn,lp,co33]
     have hone9:=exC_one hoy3
     try simp -implicitDefEqProofs(disch:=omega)only[Nat.reduceEqDiff,↓reduceIte,vcu,↓vcd,lp,co33]
     refine r_sets (g:=h4) (i:=0) (C:=[.int .i64 0,.int .i64 0,.int .i64 0,.slice none 0 0,.slice none 0 0]) z9q z9co33 (by simp -implicitDefEqProofs(disch:=omega)only[Nat.reduceEqDiff,↓reduceIte,vcu,↓vcd];exact hone9) z9z f43 z9l fun T9 k9 e9=>?_
     replace e9:T9 h4=some ⟨exC y1 y2 e,false⟩:=e9
     have l9:lds T9 h4 0 5=some [.int .i64 e.s.O,.int .i64 e.s.E,.int .i64 e.s.M,y1,y2]:=by rw[lds_of e9 (by simp [exC])];rfl
     try simp -implicitDefEqProofs(disch:=omega)only[Nat.reduceEqDiff,↓reduceIte,vcu,↓vcd]
     refine fin_ct8 Tryz.results19 T9 (Sub.refl _) (v:=exV y1 y2 e) (by simp -implicitDefEqProofs(disch:=omega)only[Nat.reduceEqDiff,↓reduceIte,vcu,↓vcd,l9,co33];rfl) ⟨exV y1 y2 e,?_,k9.sub (S0.trans P3) z4,?_⟩
     ·try simp -implicitDefEqProofs(disch:=omega)only[Nat.reduceEqDiff,↓reduceIte,vcu,↓vcd]
      rw[hx]
      try rfl
     ·rw[hx]
      exact (OwnX.kept hoy3 k9 f4).older S0
    have dn:decide (lineS e.ps d.t < 0)=false:=decide_eq_false hln
    have hx:exLine e t=(e,w_busy):=by rw[hLX,hdo];show (e,refuse e d)=_;rw[hrf,if_neg hln]
    simp -implicitDefEqProofs(disch:=omega)only[Nat.reduceEqDiff,↓reduceIte,vcu,↓vcd,opK_some,dn,lp,co33]
    have hone9:=exC_one hoy3
    try simp -implicitDefEqProofs(disch:=omega)only[Nat.reduceEqDiff,↓reduceIte,vcu,↓vcd,lp,co33]
    refine r_sets (g:=h4) (i:=0) (C:=[.int .i64 0,.int .i64 0,.int .i64 0,.slice none 0 0,.slice none 0 0]) z9q z9co33 (by simp -implicitDefEqProofs(disch:=omega)only[Nat.reduceEqDiff,↓reduceIte,vcu,↓vcd];exact hone9) z9z f43 z9l fun T9 k9 e9=>?_
    replace e9:T9 h4=some ⟨exC y1 y2 e,false⟩:=e9
    have l9:lds T9 h4 0 5=some [.int .i64 e.s.O,.int .i64 e.s.E,.int .i64 e.s.M,y1,y2]:=by rw[lds_of e9 (by simp [exC])];rfl
    try simp -implicitDefEqProofs(disch:=omega)only[Nat.reduceEqDiff,↓reduceIte,vcu,↓vcd]
    refine fin_ct8 Tryz.results19 T9 (Sub.refl _) (v:=exV y1 y2 e) (by simp -implicitDefEqProofs(disch:=omega)only[Nat.reduceEqDiff,↓reduceIte,vcu,↓vcd,l9,co33];rfl) ⟨exV y1 y2 e,?_,k9.sub (S0.trans P3) z4,?_⟩
    ·try simp -implicitDefEqProofs(disch:=omega)only[Nat.reduceEqDiff,↓reduceIte,vcu,↓vcd]
     rw[hx]
     try rfl
    ·rw[hx]
     exact (OwnX.kept hoy3 k9 f4).older S0
  | none =>
   have hrd:rdP t=(⟨0,0,[]⟩,false):=by unfold rdP;rw[hro]
   by_cases hnt:t=w_night
   ·have dn:decide (t=w_night)=true:=decide_eq_true hnt
    simp -implicitDefEqProofs(disch:=omega)only[Nat.reduceEqDiff,↓reduceIte,vcu,↓vcd,hrd,qni,dn]
    have hni':nightV e=nightL e.cs:=if_pos hok
    have hnr:exRun e (nightL e.cs)=(⟨e.s,e.ps,[]⟩,e.cs.length):=by rw[exRun,if_pos hok,night_is hok]
    have hx:exLine e t=(⟨e.s,e.ps,[]⟩,w_ok):=by rw[exLine,if_pos hok,hnt,lineX_night]
    have hnl:(nightL e.cs).length≤1048576:=by simp [nightL];omega
    have hnt2:∀d∈nightL e.cs,d.t.length≤1048576:=by
     intro d hd
     simp only[nightL,List.mem_map] at hd
     obtain⟨c,_,rfl⟩:=hd
     simp
    have hnc:=fun (T:AHeap) (h:Sub T0 T)=>night_calls (w0:=w0) T (exV v1 v2 e) e (hX0.sub h) hb
    rw[hni'] at hnc
    have hrc:=fun (T:AHeap) (h:Sub T0 T) (vd:Value) (hd:Dds T vd (nightL e.cs))=>exRun_calls (w0:=w0) T (exV v1 v2 e) vd e (nightL e.cs) (hX0.sub h) hb hd hnl hnt2
    rw[hnr] at hrc
    unfold exV at hnc hrc
    dsimp only at hrc
    refine acodeB_monoX (Q':=fun en a' T=>en=.normal∧a' 4=.pointer (some ⟨h4,0,none⟩)∧∃p y1 y2,a' 13=.pointer (some ⟨p,0,none⟩)∧Sub T0 T∧T p=some ⟨exC y1 y2 ⟨e.s,e.ps,[]⟩,false⟩∧OwnX T0 T (exV y1 y2 ⟨e.s,e.ps,[]⟩) ⟨e.s,e.ps,[]⟩)
     (region_tree mixed (quiets [0,1] (.two 2 (.two 3 (quiets [4,5,6] (.one 7 (.one 8 (quiets [9] .stop)))) 7 (.one 3 (quiets [4,5,6] (.one 8 (quiets [9] .stop))))) 7 (.one 2 (.one 3 (quiets [4,5,6] (.one 8 (quiets [9] .stop))))))) [([0,1],Sub T0)] kr9 kr9 (fun p hp=>by simp only[List.mem_singleton] at hp;subst hp;exact Sub.refl _) ?_) ?_
    ·refine tree_quiets T0 _ _ _ sf1 kr9 kr9 ?_
     simp -implicitDefEqProofs(disch:=omega)only[Nat.reduceEqDiff,↓reduceIte,vcu,↓vcd,vcp,y5s,co33]
     refine tree_two rfl rfl ?_ ?_
     ·try simp -implicitDefEqProofs(disch:=omega)only[Nat.reduceEqDiff,↓reduceIte,vcu,↓vcd]
      refine (hnc T0 (Sub.refl T0)).mono ?_
      rintro vd1 A1 ⟨a1,od1⟩
      try simp -implicitDefEqProofs(disch:=omega)only[Nat.reduceEqDiff,↓reduceIte,vcu,↓vcd,opK_some]
      have B1:=Sub.trans (Sub.refl T0) a1
      refine⟨keep_of rfl (fun p hp=>by simp only[List.mem_singleton] at hp;subst hp;exact .inr B1),?_⟩
      refine tree_two rfl rfl ?_ ?_
      ·try simp -implicitDefEqProofs(disch:=omega)only[Nat.reduceEqDiff,↓reduceIte,vcu,↓vcd]
       refine (hrc A1 B1 vd1 od1.dds).mono ?_
       rintro _ A2 ⟨_,rfl,a2,y1,y2,rfl,oy1,oy2⟩
       have own2:OwnX T0 A2 (exV y1 y2 ⟨e.s,e.ps,[]⟩) ⟨e.s,e.ps,[]⟩:=OwnX.older ⟨y1,y2,rfl,oy1,oy2⟩ B1
       have hone:=exC_one own2
       unfold exV
       dsimp only
       simp -implicitDefEqProofs(disch:=omega)only[Nat.reduceEqDiff,↓reduceIte,vcu,↓vcd,opK_some]
       have B2:=Sub.trans B1 a2
       refine⟨keep_of rfl (fun p hp=>by simp only[List.mem_singleton] at hp;subst hp;exact .inr B2),?_⟩
       refine tree_quiets _ _ _ _ sf0 kr9 kr9 ?_
       simp -implicitDefEqProofs(disch:=omega)only[Nat.reduceEqDiff,↓reduceIte,vcu,↓vcd,vcp,List.getElem?_toArray,List.getElem?_cons_zero,List.getElem?_cons_succ]
       refine tree_one rfl ?_
       try simp -implicitDefEqProofs(disch:=omega)only[Nat.reduceEqDiff,↓reduceIte,vcu,↓vcd]
       refine r_new ze33 fun p A3 np3 a3 ep3=>?_
       replace ep3:A3 p=some ⟨[.int .i64 0,.int .i64 0,.int .i64 0,.slice none 0 0,.slice none 0 0],false⟩:=ep3
       simp -implicitDefEqProofs(disch:=omega)only[Nat.reduceEqDiff,↓reduceIte,vcu,↓vcd]
       have B3:=Sub.trans B2 a3
       have fp3:=free_sub B2 np3
       have own3:OwnX T0 A3 (exV y1 y2 ⟨e.s,e.ps,[]⟩) ⟨e.s,e.ps,[]⟩:=OwnX.sub own2 a3
       refine⟨keep_of rfl (fun p hp=>by simp only[List.mem_singleton] at hp;subst hp;exact .inr B3),?_⟩
       refine tree_one rfl ?_
       refine r_sets (g:=p) (i:=0) (C:=[.int .i64 0,.int .i64 0,.int .i64 0,.slice none 0 0,.slice none 0 0]) z9q z9co33 (by simp -implicitDefEqProofs(disch:=omega)only[Nat.reduceEqDiff,↓reduceIte,vcu,↓vcd];exact hone) z9z ep3 z9l fun T3 k3 e3=>?_
       replace e3:T3 p=some ⟨exC y1 y2 ⟨e.s,e.ps,[]⟩,false⟩:=e3
       have P3:Sub T0 T3:=k3.sub B3 fp3
       have own9:OwnX T0 T3 (exV y1 y2 ⟨e.s,e.ps,[]⟩) ⟨e.s,e.ps,[]⟩:=ownX_store own2 np3 a3 k3
       simp -implicitDefEqProofs(disch:=omega)only[Nat.reduceEqDiff,↓reduceIte,vcu,↓vcd]
       refine⟨keep_of rfl (fun p hp=>by simp only[List.mem_singleton] at hp;subst hp;exact .inr P3),?_⟩
       refine tree_quiets _ _ _ _ sf0 kr9 kr9 ?_
       simp -implicitDefEqProofs(disch:=omega)only[Nat.reduceEqDiff,↓reduceIte,vcu,↓vcd,vcp]
       refine tree_stop ?_
       exact⟨by first|trivial|rfl,by first|trivial|rfl|simp -implicitDefEqProofs(disch:=omega)only[Nat.reduceEqDiff,↓reduceIte,vcu,↓vcd],p,y1,y2,by first|trivial|rfl|simp -implicitDefEqProofs(disch:=omega)only[Nat.reduceEqDiff,↓reduceIte,vcu,↓vcd],P3,e3,own9⟩
      ·try simp -implicitDefEqProofs(disch:=omega)only[Nat.reduceEqDiff,↓reduceIte,vcu,↓vcd]
       refine r_new ze33 fun p A4 np4 a4 ep4=>?_
       replace ep4:A4 p=some ⟨[.int .i64 0,.int .i64 0,.int .i64 0,.slice none 0 0,.slice none 0 0],false⟩:=ep4
       simp -implicitDefEqProofs(disch:=omega)only[Nat.reduceEqDiff,↓reduceIte,vcu,↓vcd]
       have B4:=Sub.trans B1 a4
       have fp4:=free_sub B1 np4
       have od4:=OwnD.sub od1 a4
       refine⟨keep_of rfl (fun p hp=>by simp only[List.mem_singleton] at hp;subst hp;exact .inr B4),?_⟩
       refine tree_one rfl ?_
       try simp -implicitDefEqProofs(disch:=omega)only[Nat.reduceEqDiff,↓reduceIte,vcu,↓vcd]
       refine (hrc A4 B4 vd1 od4.dds).mono ?_
       rintro _ A5 ⟨_,rfl,a5,y1,y2,rfl,oy1,oy2⟩
       have own5:OwnX T0 A5 (exV y1 y2 ⟨e.s,e.ps,[]⟩) ⟨e.s,e.ps,[]⟩:=OwnX.older ⟨y1,y2,rfl,oy1,oy2⟩ B4
       have ownp5:OwnX A4 A5 (exV y1 y2 ⟨e.s,e.ps,[]⟩) ⟨e.s,e.ps,[]⟩:=⟨y1,y2,rfl,oy1,oy2⟩
       have hone:=exC_one own5
       unfold exV
       dsimp only
       simp -implicitDefEqProofs(disch:=omega)only[Nat.reduceEqDiff,↓reduceIte,vcu,↓vcd,opK_some]
       have B5:=Sub.trans B4 a5
       have ep5:=a5 _ _ ep4
       refine⟨keep_of rfl (fun p hp=>by simp only[List.mem_singleton] at hp;subst hp;exact .inr B5),?_⟩
       refine tree_quiets _ _ _ _ sf0 kr9 kr9 ?_
       simp -implicitDefEqProofs(disch:=omega)only[Nat.reduceEqDiff,↓reduceIte,vcu,↓vcd,vcp,List.getElem?_toArray,List.getElem?_cons_zero,List.getElem?_cons_succ]
       refine tree_one rfl ?_
       refine r_sets (g:=p) (i:=0) (C:=[.int .i64 0,.int .i64 0,.int .i64 0,.slice none 0 0,.slice none 0 0]) z9q z9co33 (by simp -implicitDefEqProofs(disch:=omega)only[Nat.reduceEqDiff,↓reduceIte,vcu,↓vcd];exact hone) z9z ep5 z9l fun T3 k3 e3=>?_
       replace e3:T3 p=some ⟨exC y1 y2 ⟨e.s,e.ps,[]⟩,false⟩:=e3
       have P3:Sub T0 T3:=k3.sub B5 fp4
       have own9:OwnX T0 T3 (exV y1 y2 ⟨e.s,e.ps,[]⟩) ⟨e.s,e.ps,[]⟩:=(ownp5.kept k3 ep4).older B4
       simp -implicitDefEqProofs(disch:=omega)only[Nat.reduceEqDiff,↓reduceIte,vcu,↓vcd]
       refine⟨keep_of rfl (fun p hp=>by simp only[List.mem_singleton] at hp;subst hp;exact .inr P3),?_⟩
       refine tree_quiets _ _ _ _ sf0 kr9 kr9 ?_
       simp -implicitDefEqProofs(disch:=omega)only[Nat.reduceEqDiff,↓reduceIte,vcu,↓vcd,vcp]
       refine tree_stop ?_
       exact⟨by first|trivial|rfl,by first|trivial|rfl|simp -implicitDefEqProofs(disch:=omega)only[Nat.reduceEqDiff,↓reduceIte,vcu,↓vcd],p,y1,y2,by first|trivial|rfl|simp -implicitDefEqProofs(disch:=omega)only[Nat.reduceEqDiff,↓reduceIte,vcu,↓vcd],P3,e3,own9⟩
     ·try simp -implicitDefEqProofs(disch:=omega)only[Nat.reduceEqDiff,↓reduceIte,vcu,↓vcd]
      refine r_new ze33 fun p A6 np6 a6 ep6=>?_
      replace ep6:A6 p=some ⟨[.int .i64 0,.int .i64 0,.int .i64 0,.slice none 0 0,.slice none 0 0],false⟩:=ep6
      simp -implicitDefEqProofs(disch:=omega)only[Nat.reduceEqDiff,↓reduceIte,vcu,↓vcd]
      have B6:=Sub.trans (Sub.refl T0) a6
      have fp6:=free_sub (Sub.refl T0) np6
      refine⟨keep_of rfl (fun p hp=>by simp only[List.mem_singleton] at hp;subst hp;exact .inr B6),?_⟩
      refine tree_one rfl ?_
      try simp -implicitDefEqProofs(disch:=omega)only[Nat.reduceEqDiff,↓reduceIte,vcu,↓vcd]
      refine (hnc A6 B6).mono ?_
      rintro vd7 A7 ⟨a7,od7⟩
      try simp -implicitDefEqProofs(disch:=omega)only[Nat.reduceEqDiff,↓reduceIte,vcu,↓vcd,opK_some]
      have B7:=Sub.trans B6 a7
      have ep7:=a7 _ _ ep6
      refine⟨keep_of rfl (fun p hp=>by simp only[List.mem_singleton] at hp;subst hp;exact .inr B7),?_⟩
      refine tree_one rfl ?_
      try simp -implicitDefEqProofs(disch:=omega)only[Nat.reduceEqDiff,↓reduceIte,vcu,↓vcd]
      refine (hrc A7 B7 vd7 od7.dds).mono ?_
      rintro _ A8 ⟨_,rfl,a8,y1,y2,rfl,oy1,oy2⟩
      have own8:OwnX T0 A8 (exV y1 y2 ⟨e.s,e.ps,[]⟩) ⟨e.s,e.ps,[]⟩:=OwnX.older ⟨y1,y2,rfl,oy1,oy2⟩ B7
      have ownp8:OwnX A7 A8 (exV y1 y2 ⟨e.s,e.ps,[]⟩) ⟨e.s,e.ps,[]⟩:=⟨y1,y2,rfl,oy1,oy2⟩
      have hone:=exC_one own8
      unfold exV
      dsimp only
      simp -implicitDefEqProofs(disch:=omega)only[Nat.reduceEqDiff,↓reduceIte,vcu,↓vcd,opK_some]
      have B8:=Sub.trans B7 a8
      have ep8:=a8 _ _ ep7
      refine⟨keep_of rfl (fun p hp=>by simp only[List.mem_singleton] at hp;subst hp;exact .inr B8),?_⟩
      refine tree_quiets _ _ _ _ sf0 kr9 kr9 ?_
      simp -implicitDefEqProofs(disch:=omega)only[Nat.reduceEqDiff,↓reduceIte,vcu,↓vcd,vcp,List.getElem?_toArray,List.getElem?_cons_zero,List.getElem?_cons_succ]
      refine tree_one rfl ?_
      refine r_sets (g:=p) (i:=0) (C:=[.int .i64 0,.int .i64 0,.int .i64 0,.slice none 0 0,.slice none 0 0]) z9q z9co33 (by simp -implicitDefEqProofs(disch:=omega)only[Nat.reduceEqDiff,↓reduceIte,vcu,↓vcd];exact hone) z9z ep8 z9l fun T3 k3 e3=>?_
      replace e3:T3 p=some ⟨exC y1 y2 ⟨e.s,e.ps,[]⟩,false⟩:=e3
      have P3:Sub T0 T3:=k3.sub B8 fp6
      have own9:OwnX T0 T3 (exV y1 y2 ⟨e.s,e.ps,[]⟩) ⟨e.s,e.ps,[]⟩:=(ownp8.kept k3 ep7).older B7
      simp -implicitDefEqProofs(disch:=omega)only[Nat.reduceEqDiff,↓reduceIte,vcu,↓vcd]
      refine⟨keep_of rfl (fun p hp=>by simp only[List.mem_singleton] at hp;subst hp;exact .inr P3),?_⟩
      refine tree_quiets _ _ _ _ sf0 kr9 kr9 ?_
      simp -implicitDefEqProofs(disch:=omega)only[Nat.reduceEqDiff,↓reduceIte,vcu,↓vcd,vcp]
      refine tree_stop ?_
      exact⟨by first|trivial|rfl,by first|trivial|rfl|simp -implicitDefEqProofs(disch:=omega)only[Nat.reduceEqDiff,↓reduceIte,vcu,↓vcd],p,y1,y2,by first|trivial|rfl|simp -implicitDefEqProofs(disch:=omega)only[Nat.reduceEqDiff,↓reduceIte,vcu,↓vcd],P3,e3,own9⟩
    rintro _ a' T ⟨rfl,r4,p,y1,y2,r13,PT,ep,hoy⟩
    have f4T:=PT _ _ f4
    have lp:lds T p 0 5=some [.int .i64 e.s.O,.int .i64 e.s.E,.int .i64 e.s.M,y1,y2]:=by rw[lds_of ep (by simp [exC])];rfl
    simp -implicitDefEqProofs(disch:=omega)only[Nat.reduceEqDiff,↓reduceIte,vcu,↓vcd,r4,r13,lp,co33]
    have hone9:=exC_one hoy
    refine r_sets (g:=h4) (i:=0) (C:=[.int .i64 0,.int .i64 0,.int .i64 0,.slice none 0 0,.slice none 0 0]) (by simp -implicitDefEqProofs(disch:=omega)only[Nat.reduceEqDiff,↓reduceIte,vcu,↓vcd,r4]) z9co33 (by simp -implicitDefEqProofs(disch:=omega)only[Nat.reduceEqDiff,↓reduceIte,vcu,↓vcd];exact hone9) z9z f4T z9l fun T9 k9 e9=>?_
    replace e9:T9 h4=some ⟨exC y1 y2 ⟨e.s,e.ps,[]⟩,false⟩:=e9
    have l9:lds T9 h4 0 5=some [.int .i64 e.s.O,.int .i64 e.s.E,.int .i64 e.s.M,y1,y2]:=by rw[lds_of e9 (by simp [exC])];rfl
    simp -implicitDefEqProofs(disch:=omega)only[Nat.reduceEqDiff,↓reduceIte,vcu,↓vcd,r4]
    refine fin_ct8 Tryz.results19 T9 (Sub.refl _) (v:=exV y1 y2 ⟨e.s,e.ps,[]⟩) (by simp -implicitDefEqProofs(disch:=omega)only[Nat.reduceEqDiff,↓reduceIte,vcu,↓vcd,r4,l9,co33];rfl) ⟨exV y1 y2 ⟨e.s,e.ps,[]⟩,?_,k9.sub (S0.trans PT) z4,?_⟩
    ·try simp -implicitDefEqProofs(disch:=omega)only[Nat.reduceEqDiff,↓reduceIte,vcu,↓vcd]
     rw[hx]
     try rfl
    ·rw[hx]
     exact (hoy.kept k9 f4).older S0
   have dn:decide (t=w_night)=false:=decide_eq_false hnt
   have hX:exLine e t=(e,askT e t):=by unfold exLine lineX;rw[if_pos hok,hro];dsimp only;rw[if_neg hnt]
   by_cases hca:t=w_calls
   ·have dc:decide (t=w_calls)=true:=decide_eq_true hca
    have hx:exLine e t=(e,decN e.cs.length):=by rw[hX,askT,if_pos hca]
    simp -implicitDefEqProofs(disch:=omega)only[Nat.reduceEqDiff,↓reduceIte,vcu,↓vcd,hrd,qni,dn,qca,dc]
    refine region_tree mixed (quiets [1] (quiets [0,2] (quiets [3] (.one 4 (.one 5 (quiets [6] .stop)))))) [([0,2],Sub (T0.upd h4 none))] kr9 kr9 (fun p hp=>by simp only[List.mem_singleton] at hp;subst hp;exact sub_erase _ _) ?_
    refine tree_quiets _ _ _ _ sf0 kr9 kr9 ?_
    simp -implicitDefEqProofs(disch:=omega)only[Nat.reduceEqDiff,↓reduceIte,vcu,↓vcd,vcp]
    refine tree_quiets (T0.upd h4 none) _ _ _ sf1 kr9 kr9 ?_
    simp -implicitDefEqProofs(disch:=omega)only[Nat.reduceEqDiff,↓reduceIte,vcu,↓vcd,vcp,y5u,y4u,l9u,co33]
    refine tree_quiets _ _ _ _ sf0 kr9 kr9 ?_
    simp -implicitDefEqProofs(disch:=omega)only[Nat.reduceEqDiff,↓reduceIte,vcu,↓vcd,vcp,ln2]
    refine tree_one rfl ?_
    try simp -implicitDefEqProofs(disch:=omega)only[Nat.reduceEqDiff,↓reduceIte,vcu,↓vcd]
    refine (number_calls e.cs.length om9 T0).mono ?_
    rintro _ _ ⟨rfl,rfl⟩
    rename_i T0
    simp -implicitDefEqProofs(disch:=omega)only[Nat.reduceEqDiff,↓reduceIte,vcu,↓vcd,opK_some]
    refine⟨.inl rfl,?_⟩
    refine tree_one rfl ?_
    have hone9:=exC_one hown
    refine r_sets (g:=h4) (i:=0) (C:=[.int .i64 0,.int .i64 0,.int .i64 0,.slice none 0 0,.slice none 0 0]) z9q z9co33 (by simp -implicitDefEqProofs(disch:=omega)only[Nat.reduceEqDiff,↓reduceIte,vcu,↓vcd];exact hone9) z9z f4 z9l fun T9 k9 e9=>?_
    replace e9:T9 h4=some ⟨exC (.slice (some ⟨g1,0,none⟩) e.ps.length 1) (.slice (some ⟨g2,0,none⟩) e.cs.length 3) e,false⟩:=e9
    have l9:lds T9 h4 0 5=some [.int .i64 e.s.O,.int .i64 e.s.E,.int .i64 e.s.M,.slice (some ⟨g1,0,none⟩) e.ps.length 1,.slice (some ⟨g2,0,none⟩) e.cs.length 3]:=by rw[lds_of e9 (by simp [exC])];rfl
    simp -implicitDefEqProofs(disch:=omega)only[Nat.reduceEqDiff,↓reduceIte,vcu,↓vcd]
    refine⟨keep_of rfl (fun p hp=>by simp only[List.mem_singleton] at hp;subst hp;exact .inr (kept_erase k9)),?_⟩
    refine tree_quiets _ _ _ _ sf0 kr9 kr9 ?_
    simp -implicitDefEqProofs(disch:=omega)only[Nat.reduceEqDiff,↓reduceIte,vcu,↓vcd,vcp]
    refine tree_stop ?_
    try simp -implicitDefEqProofs(disch:=omega)only[Nat.reduceEqDiff,↓reduceIte,vcu,↓vcd]
    refine fin_ct8 Tryz.results19 T9 (Sub.refl _) (v:=exV (.slice (some ⟨g1,0,none⟩) e.ps.length 1) (.slice (some ⟨g2,0,none⟩) e.cs.length 3) e) (by simp -implicitDefEqProofs(disch:=omega)only[Nat.reduceEqDiff,↓reduceIte,vcu,↓vcd,l9,co33];rfl) ⟨exV (.slice (some ⟨g1,0,none⟩) e.ps.length 1) (.slice (some ⟨g2,0,none⟩) e.cs.length 3) e,?_,k9.sub S0 z4,?_⟩
    ·try simp -implicitDefEqProofs(disch:=omega)only[Nat.reduceEqDiff,↓reduceIte,vcu,↓vcd]
     rw[hx]
     try rfl
    ·rw[hx]
     exact (hown.kept k9 e4).older S3
   have dc:decide (t=w_calls)=false:=decide_eq_false hca
   by_cases hpl:t=w_plan
   ·have dp:decide (t=w_plan)=true:=decide_eq_true hpl
    have hx:exLine e t=(e,joinT e.ps (e.ps.length - 1)):=by rw[hX,askT,if_neg hca,if_pos hpl]
    have hp1:=(ex_plan hok).1
    obtain⟨gp,op,rfl,hrow⟩:=rowT t10 om9
    have y3s:=y3 T0 (Sub.refl _)
    have hx0:=hrow 0 om9
    simp -implicitDefEqProofs(disch:=omega)only[Nat.reduceEqDiff,↓reduceIte,vcu,↓vcd,hrd,qni,dn,qca,dc,qpl,dp,y3s,hx0,Int.toNat_zero]
    refine vc_loop_c mixed kr9 [2,4,9] (fun m a T=>∃k:Nat,m+(k+1)=e.ps.length∧a 16=.int .i64 ((k+1:Nat):Int)∧a 15=.string (tx (joinT e.ps k))∧T=T0) (e.ps.length - 1) ⟨0,by omega,rfl,rfl,rfl⟩ ?_
    rintro m a _ hc ⟨k,hk,h16,h15,rfl⟩
    rename_i T0
    simp -implicitDefEqProofs(disch:=omega)only[Nat.reduceEqDiff,↓reduceIte,vcu,↓vcd] at hc
    obtain⟨h2,h4',h9',-⟩:=hc
    by_cases hlt:k+1 < e.ps.length
    ·have hxk:=hrow (k+1) hlt
     have hjl:=joinT_len hb.2.1 k
     have hbk:=hb.2.1 (e.ps.getD (k+1) []) (by simp [List.getD,hlt])
     have hk10:k≤10:=by omega
     have ha1:abin Tryz.prog 9 .add (.string (tx (joinT e.ps k))) (.string { data:=#[44] })=some (.string (tx (joinT e.ps k++[44]))):=abin_sadd (ys:=[44]) (by rw[List.length_singleton];omega)
     have ha2:abin Tryz.prog 9 .add (.string (tx (joinT e.ps k++[44]))) (.string (tx (e.ps.getD (k+1) [])))=some (.string (tx (joinT e.ps k++[44]++e.ps.getD (k+1) []))):=abin_sadd (by rw[List.length_append,List.length_singleton];omega)
     simp -implicitDefEqProofs(disch:=omega)only[Nat.reduceEqDiff,↓reduceIte,vcu,↓vcd,h2,h4',h9',h15,h16,y3s,ln1,hxk,ha1,ha2,Int.toNat_natCast]
     exact⟨⟨trivial,trivial,trivial,trivial⟩,m - 1,by omega,k+1,by omega,by simp,by rw[List.append_assoc];rfl,trivial⟩
    ·obtain rfl:k=e.ps.length - 1:=by omega
     simp -implicitDefEqProofs(disch:=omega)only[Nat.reduceEqDiff,↓reduceIte,vcu,↓vcd,h2,h4',h9',h15,h16,y3s,ln1,l9s,co33]
     have hone9:=exC_one hown
     refine r_sets (g:=h4) (i:=0) (C:=[.int .i64 0,.int .i64 0,.int .i64 0,.slice none 0 0,.slice none 0 0]) (by simp -implicitDefEqProofs(disch:=omega)only[Nat.reduceEqDiff,↓reduceIte,vcu,↓vcd,h4']) z9co33 (by simp -implicitDefEqProofs(disch:=omega)only[Nat.reduceEqDiff,↓reduceIte,vcu,↓vcd];exact hone9) z9z f4 z9l fun T9 k9 e9=>?_
     replace e9:T9 h4=some ⟨exC (.slice (some ⟨g1,0,none⟩) e.ps.length 1) (.slice (some ⟨g2,0,none⟩) e.cs.length 3) e,false⟩:=e9
     have l9:lds T9 h4 0 5=some [.int .i64 e.s.O,.int .i64 e.s.E,.int .i64 e.s.M,.slice (some ⟨g1,0,none⟩) e.ps.length 1,.slice (some ⟨g2,0,none⟩) e.cs.length 3]:=by rw[lds_of e9 (by simp [exC])];rfl
     simp -implicitDefEqProofs(disch:=omega)only[Nat.reduceEqDiff,↓reduceIte,vcu,↓vcd,h4',h15]
     refine fin_ct8 Tryz.results19 T9 (Sub.refl _) (v:=exV (.slice (some ⟨g1,0,none⟩) e.ps.length 1) (.slice (some ⟨g2,0,none⟩) e.cs.length 3) e) (by simp -implicitDefEqProofs(disch:=omega)only[Nat.reduceEqDiff,↓reduceIte,vcu,↓vcd,h4',l9,co33];rfl) ⟨exV (.slice (some ⟨g1,0,none⟩) e.ps.length 1) (.slice (some ⟨g2,0,none⟩) e.cs.length 3) e,?_,k9.sub S0 z4,?_⟩
     ·try simp -implicitDefEqProofs(disch:=omega)only[Nat.reduceEqDiff,↓reduceIte,vcu,↓vcd]
      rw[hx]
      try rfl
     ·rw[hx]
      exact (hown.kept k9 e4).older S3
   have dp:decide (t=w_plan)=false:=decide_eq_false hpl
   have hx:exLine e t=(e,w_what):=by rw[hX,askT,if_neg hca,if_neg hpl,hask];simp
   have dmn:decide ((-1:Int) ≥ 0)=false:=rfl
   simp -implicitDefEqProofs(disch:=omega)only[Nat.reduceEqDiff,↓reduceIte,vcu,↓vcd,hrd,qni,dn,qca,dc,qpl,dp,dmn,l9s,co33]
   have hone9:=exC_one hown
   try simp -implicitDefEqProofs(disch:=omega)only[Nat.reduceEqDiff,↓reduceIte,vcu,↓vcd,l9s,co33]
   refine r_sets (g:=h4) (i:=0) (C:=[.int .i64 0,.int .i64 0,.int .i64 0,.slice none 0 0,.slice none 0 0]) z9q z9co33 (by simp -implicitDefEqProofs(disch:=omega)only[Nat.reduceEqDiff,↓reduceIte,vcu,↓vcd];exact hone9) z9z f4 z9l fun T9 k9 e9=>?_
   replace e9:T9 h4=some ⟨exC (.slice (some ⟨g1,0,none⟩) e.ps.length 1) (.slice (some ⟨g2,0,none⟩) e.cs.length 3) e,false⟩:=e9
   have l9:lds T9 h4 0 5=some [.int .i64 e.s.O,.int .i64 e.s.E,.int .i64 e.s.M,(.slice (some ⟨g1,0,none⟩) e.ps.length 1),(.slice (some ⟨g2,0,none⟩) e.cs.length 3)]:=by rw[lds_of e9 (by simp [exC])];rfl
   try simp -implicitDefEqProofs(disch:=omega)only[Nat.reduceEqDiff,↓reduceIte,vcu,↓vcd]
   refine fin_ct8 Tryz.results19 T9 (Sub.refl _) (v:=exV (.slice (some ⟨g1,0,none⟩) e.ps.length 1) (.slice (some ⟨g2,0,none⟩) e.cs.length 3) e) (by simp -implicitDefEqProofs(disch:=omega)only[Nat.reduceEqDiff,↓reduceIte,vcu,↓vcd,l9,co33];rfl) ⟨exV (.slice (some ⟨g1,0,none⟩) e.ps.length 1) (.slice (some ⟨g2,0,none⟩) e.cs.length 3) e,?_,k9.sub S0 z4,?_⟩
   ·try simp -implicitDefEqProofs(disch:=omega)only[Nat.reduceEqDiff,↓reduceIte,vcu,↓vcd]
    rw[hx]
    try rfl
   ·rw[hx]
    exact (OwnX.kept hown k9 e4).older S3
 have hask:askN t=rdN ((cutT 32 t).getD 1 []):=by unfold askN;rw[if_pos hw]
 have hwl1:((cutT 32 t).getD 1 []).length≤1048576:=by
  have:=cutF_len t [] ((cutT 32 t).getD 1 []) (by show _∈cutT 32 t;simp [List.getD,show 1 < (cutT 32 t).length by omega])
  rw[List.length_nil] at this;omega
 have k0:=textsAt_own wg 0 om9
 have k1:=textsAt_own wg 1 om9
 rw[Nat.zero_add] at k0 k1
 have hw0:(cutT 32 t).getD 0 []=ask0 t:=rfl
 rw[hw0] at k0
 have e1:(1:Int).toNat=1:=rfl
 have wi:(((cutT 32 t).length:Nat):Int)=2:=by omega
 simp -implicitDefEqProofs(disch:=omega)only[Nat.reduceEqDiff,↓reduceIte,vcu,↓vcd,k1,e1,Nat.zero_add]
 refine (read_calls T0 ((cutT 32 t).getD 1 []) hwl1).mono ?_
 rintro _ _ ⟨rfl,rfl⟩
 rename_i T0
 rw[←hask]
 cases hro:readO t with
 | some d =>
  simp -implicitDefEqProofs(disch:=omega)only[Nat.reduceEqDiff,↓reduceIte,vcu,↓vcd,opK_some]
  have hrd:rdP t=(d,true):=by unfold rdP;rw[hro]
  rw[hrd] at ec
  dsimp only at ec
  have hdt:d.t.length≤1048576:=by
   have:=(deedT_ok (d:=d) (by rw[(readO_some hro).1];exact (readO_some hro).2)).2.2
   rcases this with h|h
   ·rw[h.2];simp
   ·have:=h.2.2.2;omega
  have hexdo:=exDo_calls (w0:=w0) T0 (exV v1 v2 e) e d hX0 hb hdt
  have hE:exDo e d=(match doO e d with|some y=>(y,true)|none=>(e,false)):=if_pos hok
  have hLX:exLine e t=(match doO e d with|some x=>(x,w_ok)|none=>(e,refuse e d)):=by unfold exLine lineX;rw[if_pos hok,hro];dsimp only;cases doO e d<;>rfl
  have lc:lds T0 c6 0 3=some [.int .i64 d.k,.int .i64 d.l,.string (tx d.t)]:=lds_three (ld_of ec rfl) (ld_of ec rfl) (ld_of ec rfl)
  have c0:∀T,Sub T0 T→ld T c6 0=some (.int .i64 d.k):=fun T h=>ld_of (h _ _ ec) rfl
  have c1:∀T,Sub T0 T→ld T c6 1=some (.int .i64 d.l):=fun T h=>ld_of (h _ _ ec) rfl
  have c2:∀T,Sub T0 T→ld T c6 2=some (.string (tx d.t)):=fun T h=>ld_of (h _ _ ec) rfl
  have hline:=fun (T:AHeap) (h:Sub T0 T)=>lineOf_calls (w0:=w0) T (exV v1 v2 e) e d.t (hX0.sub h) hb
  rw[show lineV e d.t=lineS e.ps d.t from if_pos hok] at hline
  generalize hyb:exDo e d=yb at hexdo hE
  obtain⟨y,bo⟩:=yb
  unfold ddA exV at hexdo
  unfold exV at hline
  dsimp only at hexdo
  have htt:(rdP t).2=true:=by rw[hrd]
  simp -implicitDefEqProofs(disch:=omega)only[Nat.reduceEqDiff,↓reduceIte,vcu,↓vcd,hrd,y5s,lc,co33,co41]
  refine hexdo.mono ?_
  rintro _ T1 ⟨_,rfl,p1,y1,y2,rfl,oy1,oy2⟩
  have hoy:OwnX T0 T1 (exV y1 y2 y) y:=⟨y1,y2,rfl,oy1,oy2⟩
  have hone:=exC_one hoy
  unfold exV
  simp -implicitDefEqProofs(disch:=omega)only[Nat.reduceEqDiff,↓reduceIte,vcu,↓vcd,opK_some,List.getElem?_toArray,List.getElem?_cons_zero,List.getElem?_cons_succ]
  refine r_new ze33 fun p T2 np sp ep=>?_
  replace ep:T2 p=some ⟨[.int .i64 0,.int .i64 0,.int .i64 0,.slice none 0 0,.slice none 0 0],false⟩:=ep
  refine r_sets (g:=p) (i:=0) (C:=[.int .i64 0,.int .i64 0,.int .i64 0,.slice none 0 0,.slice none 0 0]) z9q z9co33 (by simp -implicitDefEqProofs(disch:=omega)only[Nat.reduceEqDiff,↓reduceIte,vcu,↓vcd];exact hone) z9z ep z9l fun T3 k3 e3=>?_
  replace e3:T3 p=some ⟨exC y1 y2 y,false⟩:=e3
  have P2:=p1.trans sp
  have P3:Sub T0 T3:=k3.sub P2 (free_sub p1 np)
  have hoy3:OwnX T0 T3 (exV y1 y2 y) y:=⟨y1,y2,rfl,(oy1.sub sp).imp id fun⟨g,a1,a2,a3⟩=>⟨g,a1,k3.at a2 (by
    rcases oy1 with ⟨h,_⟩ |⟨g',h,h2,_⟩
    ·rw[a1] at h;cases h
    ·rw[a1] at h;cases h;exact ne_of' np h2),a3⟩,(oy2.sub sp).imp id fun⟨g,a1,a2,a3⟩=>⟨g,a1,k3.at a2 (by
    rcases oy2 with ⟨h,_⟩ |⟨g',h,h2,_⟩
    ·rw[a1] at h;cases h
    ·rw[a1] at h;cases h;exact ne_of' np h2),a3⟩⟩
  have f43:=P3 _ _ f4
  have lp:lds T3 p 0 5=some [.int .i64 y.s.O,.int .i64 y.s.E,.int .i64 y.s.M,y1,y2]:=by rw[lds_of e3 (by simp [exC])];rfl
  cases hdo:doO e d with
  | some y' =>
   rw[hdo] at hE
   cases hE
   have hx:exLine e t=(y,w_ok):=by rw[hLX,hdo]
   simp -implicitDefEqProofs(disch:=omega)only[Nat.reduceEqDiff,↓reduceIte,vcu,↓vcd,lp,co33]
   have hone9:=exC_one hoy3
   try simp -implicitDefEqProofs(disch:=omega)only[Nat.reduceEqDiff,↓reduceIte,vcu,↓vcd,lp,co33]
   refine r_sets (g:=h4) (i:=0) (C:=[.int .i64 0,.int .i64 0,.int .i64 0,.slice none 0 0,.slice none 0 0]) z9q z9co33 (by simp -implicitDefEqProofs(disch:=omega)only[Nat.reduceEqDiff,↓reduceIte,vcu,↓vcd];exact hone9) z9z f43 z9l fun T9 k9 e9=>?_
   replace e9:T9 h4=some ⟨exC y1 y2 y,false⟩:=e9
   have l9:lds T9 h4 0 5=some [.int .i64 y.s.O,.int .i64 y.s.E,.int .i64 y.s.M,y1,y2]:=by rw[lds_of e9 (by simp [exC])];rfl
   try simp -implicitDefEqProofs(disch:=omega)only[Nat.reduceEqDiff,↓reduceIte,vcu,↓vcd]
   refine fin_ct8 Tryz.results19 T9 (Sub.refl _) (v:=exV y1 y2 y) (by simp -implicitDefEqProofs(disch:=omega)only[Nat.reduceEqDiff,↓reduceIte,vcu,↓vcd,l9,co33];rfl) ⟨exV y1 y2 y,?_,k9.sub (S0.trans P3) z4,?_⟩
   ·try simp -implicitDefEqProofs(disch:=omega)only[Nat.reduceEqDiff,↓reduceIte,vcu,↓vcd]
    rw[hx]
    try rfl
   ·rw[hx]
    exact (OwnX.kept hoy3 k9 f4).older S0
  | none =>
   rw[hdo] at hE
   cases hE
   have c03:=c0 T3 P3
   have c13:=c1 T3 P3
   have c23:=c2 T3 P3
   have y33:=y3 T3 P3
   have y53:=y5 T3 P3
   by_cases hk:d.k=0
   case neg =>
    have dk:decide (d.k≠0)=true:=decide_eq_true hk
    have hx:exLine e t=(e,w_no):=by rw[hLX,hdo];show (e,refuse e d)=_;unfold refuse;rw[if_pos (.inl hk)]
    simp -implicitDefEqProofs(disch:=omega)only[Nat.reduceEqDiff,↓reduceIte,vcu,↓vcd,c03,dk,lp,co33]
    have hone9:=exC_one hoy3
    try simp -implicitDefEqProofs(disch:=omega)only[Nat.reduceEqDiff,↓reduceIte,vcu,↓vcd,lp,co33]
    refine r_sets (g:=h4) (i:=0) (C:=[.int .i64 0,.int .i64 0,.int .i64 0,.slice none 0 0,.slice none 0 0]) z9q z9co33 (by simp -implicitDefEqProofs(disch:=omega)only[Nat.reduceEqDiff,↓reduceIte,vcu,↓vcd];exact hone9) z9z f43 z9l fun T9 k9 e9=>?_
    replace e9:T9 h4=some ⟨exC y1 y2 e,false⟩:=e9
    have l9:lds T9 h4 0 5=some [.int .i64 e.s.O,.int .i64 e.s.E,.int .i64 e.s.M,y1,y2]:=by rw[lds_of e9 (by simp [exC])];rfl
    try simp -implicitDefEqProofs(disch:=omega)only[Nat.reduceEqDiff,↓reduceIte,vcu,↓vcd]
    refine fin_ct8 Tryz.results19 T9 (Sub.refl _) (v:=exV y1 y2 e) (by simp -implicitDefEqProofs(disch:=omega)only[Nat.reduceEqDiff,↓reduceIte,vcu,↓vcd,l9,co33];rfl) ⟨exV y1 y2 e,?_,k9.sub (S0.trans P3) z4,?_⟩
    ·try simp -implicitDefEqProofs(disch:=omega)only[Nat.reduceEqDiff,↓reduceIte,vcu,↓vcd]
     rw[hx]
     try rfl
    ·rw[hx]
     exact (OwnX.kept hoy3 k9 f4).older S0
   have dk:decide (d.k≠0)=false:=decide_eq_false fun h=>h hk
   by_cases hl2:(e.ps.length:Int)≤d.l
   ·have dl:decide (d.l ≥ (e.ps.length:Int))=true:=decide_eq_true hl2
    have hx:exLine e t=(e,w_no):=by rw[hLX,hdo];show (e,refuse e d)=_;unfold refuse;rw[if_pos (.inr hl2)]
    simp -implicitDefEqProofs(disch:=omega)only[Nat.reduceEqDiff,↓reduceIte,vcu,↓vcd,c03,c13,y33,ln1,dk,dl,lp,co33]
    have hone9:=exC_one hoy3
    try simp -implicitDefEqProofs(disch:=omega)only[Nat.reduceEqDiff,↓reduceIte,vcu,↓vcd,lp,co33]
    refine r_sets (g:=h4) (i:=0) (C:=[.int .i64 0,.int .i64 0,.int .i64 0,.slice none 0 0,.slice none 0 0]) z9q z9co33 (by simp -implicitDefEqProofs(disch:=omega)only[Nat.reduceEqDiff,↓reduceIte,vcu,↓vcd];exact hone9) z9z f43 z9l fun T9 k9 e9=>?_
    replace e9:T9 h4=some ⟨exC y1 y2 e,false⟩:=e9
    have l9:lds T9 h4 0 5=some [.int .i64 e.s.O,.int .i64 e.s.E,.int .i64 e.s.M,y1,y2]:=by rw[lds_of e9 (by simp [exC])];rfl
    try simp -implicitDefEqProofs(disch:=omega)only[Nat.reduceEqDiff,↓reduceIte,vcu,↓vcd]
    refine fin_ct8 Tryz.results19 T9 (Sub.refl _) (v:=exV y1 y2 e) (by simp -implicitDefEqProofs(disch:=omega)only[Nat.reduceEqDiff,↓reduceIte,vcu,↓vcd,l9,co33];rfl) ⟨exV y1 y2 e,?_,k9.sub (S0.trans P3) z4,?_⟩
    ·try simp -implicitDefEqProofs(disch:=omega)only[Nat.reduceEqDiff,↓reduceIte,vcu,↓vcd]
     rw[hx]
     try rfl
    ·rw[hx]
     exact (OwnX.kept hoy3 k9 f4).older S0
   have dl:decide (d.l ≥ (e.ps.length:Int))=false:=decide_eq_false hl2
   have hrf:refuse e d=if lineS e.ps d.t < 0 then w_wrong else w_busy:=by unfold refuse;rw[if_neg (by rintro (h|h)<;>first|exact h hk|exact hl2 h)]
   simp -implicitDefEqProofs(disch:=omega)only[Nat.reduceEqDiff,↓reduceIte,vcu,↓vcd,c03,c13,c23,y33,y53,ln1,dk,dl,co33]
   refine (hline T3 P3).mono ?_
   rintro _ _ ⟨rfl,rfl⟩
   rename_i T3
   by_cases hln:lineS e.ps d.t < 0
   ·have dn:decide (lineS e.ps d.t < 0)=true:=decide_eq_true hln
    have hx:exLine e t=(e,w_wrong):=by rw[hLX,hdo];show (e,refuse e d)=_;rw[hrf,if_pos hln]
    simp -implicitDefEqProofs(disch:=omega)only[Nat.reduceEqDiff,↓reduceIte,vcu,↓vcd,opK_some,dn,lp,co33]
    have hone9:=exC_one hoy3
    try simp -implicitDefEqProofs(disch:=omega)only[Nat.reduceEqDiff,↓reduceIte,vcu,↓vcd,lp,co33]
    refine r_sets (g:=h4) (i:=0) (C:=[.int .i64 0,.int .i64 0,.int .i64 0,.slice none 0 0,.slice none 0 0]) z9q z9co33 (by simp -implicitDefEqProofs(disch:=omega)only[Nat.reduceEqDiff,↓reduceIte,vcu,↓vcd];exact hone9) z9z f43 z9l fun T9 k9 e9=>?_
    replace e9:T9 h4=some ⟨exC y1 y2 e,false⟩:=e9
    have l9:lds T9 h4 0 5=some [.int .i64 e.s.O,.int .i64 e.s.E,.int .i64 e.s.M,y1,y2]:=by rw[lds_of e9 (by simp [exC])];rfl
    try simp -implicitDefEqProofs(disch:=omega)only[Nat.reduceEqDiff,↓reduceIte,vcu,↓vcd]
    refine fin_ct8 Tryz.results19 T9 (Sub.refl _) (v:=exV y1 y2 e) (by simp -implicitDefEqProofs(disch:=omega)only[Nat.reduceEqDiff,↓reduceIte,vcu,↓vcd,l9,co33];rfl) ⟨exV y1 y2 e,?_,k9.sub (S0.trans P3) z4,?_⟩
    ·try simp -implicitDefEqProofs(disch:=omega)only[Nat.reduceEqDiff,↓reduceIte,vcu,↓vcd]
     rw[hx]
     try rfl
    ·rw[hx]
     exact (OwnX.kept hoy3 k9 f4).older S0
   have dn:decide (lineS e.ps d.t < 0)=false:=decide_eq_false hln
   have hx:exLine e t=(e,w_busy):=by rw[hLX,hdo];show (e,refuse e d)=_;rw[hrf,if_neg hln]
   simp -implicitDefEqProofs(disch:=omega)only[Nat.reduceEqDiff,↓reduceIte,vcu,↓vcd,opK_some,dn,lp,co33]
   have hone9:=exC_one hoy3
   try simp -implicitDefEqProofs(disch:=omega)only[Nat.reduceEqDiff,↓reduceIte,vcu,↓vcd,lp,co33]
   refine r_sets (g:=h4) (i:=0) (C:=[.int .i64 0,.int .i64 0,.int .i64 0,.slice none 0 0,.slice none 0 0]) z9q z9co33 (by simp -implicitDefEqProofs(disch:=omega)only[Nat.reduceEqDiff,↓reduceIte,vcu,↓vcd];exact hone9) z9z f43 z9l fun T9 k9 e9=>?_
   replace e9:T9 h4=some ⟨exC y1 y2 e,false⟩:=e9
   have l9:lds T9 h4 0 5=some [.int .i64 e.s.O,.int .i64 e.s.E,.int .i64 e.s.M,y1,y2]:=by rw[lds_of e9 (by simp [exC])];rfl
   try simp -implicitDefEqProofs(disch:=omega)only[Nat.reduceEqDiff,↓reduceIte,vcu,↓vcd]
   refine fin_ct8 Tryz.results19 T9 (Sub.refl _) (v:=exV y1 y2 e) (by simp -implicitDefEqProofs(disch:=omega)only[Nat.reduceEqDiff,↓reduceIte,vcu,↓vcd,l9,co33];rfl) ⟨exV y1 y2 e,?_,k9.sub (S0.trans P3) z4,?_⟩
   ·try simp -implicitDefEqProofs(disch:=omega)only[Nat.reduceEqDiff,↓reduceIte,vcu,↓vcd]
    rw[hx]
    try rfl
   ·rw[hx]
    exact (OwnX.kept hoy3 k9 f4).older S0
 | none =>
  have hrd:rdP t=(⟨0,0,[]⟩,false):=by unfold rdP;rw[hro]
  by_cases hnt:t=w_night
  ·have dn:decide (t=w_night)=true:=decide_eq_true hnt
   simp -implicitDefEqProofs(disch:=omega)only[Nat.reduceEqDiff,↓reduceIte,vcu,↓vcd,opK_some,hrd,qni,dn]
   have hni':nightV e=nightL e.cs:=if_pos hok
   have hnr:exRun e (nightL e.cs)=(⟨e.s,e.ps,[]⟩,e.cs.length):=by rw[exRun,if_pos hok,night_is hok]
   have hx:exLine e t=(⟨e.s,e.ps,[]⟩,w_ok):=by rw[exLine,if_pos hok,hnt,lineX_night]
   have hnl:(nightL e.cs).length≤1048576:=by simp [nightL];omega
   have hnt2:∀d∈nightL e.cs,d.t.length≤1048576:=by
    intro d hd
    simp only[nightL,List.mem_map] at hd
    obtain⟨c,_,rfl⟩:=hd
    simp
   have hnc:=fun (T:AHeap) (h:Sub T0 T)=>night_calls (w0:=w0) T (exV v1 v2 e) e (hX0.sub h) hb
   rw[hni'] at hnc
   have hrc:=fun (T:AHeap) (h:Sub T0 T) (vd:Value) (hd:Dds T vd (nightL e.cs))=>exRun_calls (w0:=w0) T (exV v1 v2 e) vd e (nightL e.cs) (hX0.sub h) hb hd hnl hnt2
   rw[hnr] at hrc
   unfold exV at hnc hrc
   dsimp only at hrc
   refine acodeB_monoX (Q':=fun en a' T=>en=.normal∧a' 4=.pointer (some ⟨h4,0,none⟩)∧∃p y1 y2,a' 13=.pointer (some ⟨p,0,none⟩)∧Sub T0 T∧T p=some ⟨exC y1 y2 ⟨e.s,e.ps,[]⟩,false⟩∧OwnX T0 T (exV y1 y2 ⟨e.s,e.ps,[]⟩) ⟨e.s,e.ps,[]⟩)
    (region_tree mixed (quiets [0,1] (.two 2 (.two 3 (quiets [4,5,6] (.one 7 (.one 8 (quiets [9] .stop)))) 7 (.one 3 (quiets [4,5,6] (.one 8 (quiets [9] .stop))))) 7 (.one 2 (.one 3 (quiets [4,5,6] (.one 8 (quiets [9] .stop))))))) [([0,1],Sub T0)] kr9 kr9 (fun p hp=>by simp only[List.mem_singleton] at hp;subst hp;exact Sub.refl _) ?_) ?_
   ·refine tree_quiets T0 _ _ _ sf1 kr9 kr9 ?_
    simp -implicitDefEqProofs(disch:=omega)only[Nat.reduceEqDiff,↓reduceIte,vcu,↓vcd,vcp,y5s,co33]
    refine tree_two rfl rfl ?_ ?_
    ·try simp -implicitDefEqProofs(disch:=omega)only[Nat.reduceEqDiff,↓reduceIte,vcu,↓vcd]
     refine (hnc T0 (Sub.refl T0)).mono ?_
     rintro vd1 A1 ⟨a1,od1⟩
     try simp -implicitDefEqProofs(disch:=omega)only[Nat.reduceEqDiff,↓reduceIte,vcu,↓vcd,opK_some]
     have B1:=Sub.trans (Sub.refl T0) a1
     refine⟨keep_of rfl (fun p hp=>by simp only[List.mem_singleton] at hp;subst hp;exact .inr B1),?_⟩
     refine tree_two rfl rfl ?_ ?_
     ·try simp -implicitDefEqProofs(disch:=omega)only[Nat.reduceEqDiff,↓reduceIte,vcu,↓vcd]
      refine (hrc A1 B1 vd1 od1.dds).mono ?_
      rintro _ A2 ⟨_,rfl,a2,y1,y2,rfl,oy1,oy2⟩
      have own2:OwnX T0 A2 (exV y1 y2 ⟨e.s,e.ps,[]⟩) ⟨e.s,e.ps,[]⟩:=OwnX.older ⟨y1,y2,rfl,oy1,oy2⟩ B1
      have hone:=exC_one own2
      unfold exV
      dsimp only
      simp -implicitDefEqProofs(disch:=omega)only[Nat.reduceEqDiff,↓reduceIte,vcu,↓vcd,opK_some]
      have B2:=Sub.trans B1 a2
      refine⟨keep_of rfl (fun p hp=>by simp only[List.mem_singleton] at hp;subst hp;exact .inr B2),?_⟩
      refine tree_quiets _ _ _ _ sf0 kr9 kr9 ?_
      simp -implicitDefEqProofs(disch:=omega)only[Nat.reduceEqDiff,↓reduceIte,vcu,↓vcd,vcp,List.getElem?_toArray,List.getElem?_cons_zero,List.getElem?_cons_succ]
      refine tree_one rfl ?_
      try simp -implicitDefEqProofs(disch:=omega)only[Nat.reduceEqDiff,↓reduceIte,vcu,↓vcd]
      refine r_new ze33 fun p A3 np3 a3 ep3=>?_
      replace ep3:A3 p=some ⟨[.int .i64 0,.int .i64 0,.int .i64 0,.slice none 0 0,.slice none 0 0],false⟩:=ep3
      simp -implicitDefEqProofs(disch:=omega)only[Nat.reduceEqDiff,↓reduceIte,vcu,↓vcd]
      have B3:=Sub.trans B2 a3
      have fp3:=free_sub B2 np3
      have own3:OwnX T0 A3 (exV y1 y2 ⟨e.s,e.ps,[]⟩) ⟨e.s,e.ps,[]⟩:=OwnX.sub own2 a3
      refine⟨keep_of rfl (fun p hp=>by simp only[List.mem_singleton] at hp;subst hp;exact .inr B3),?_⟩
      refine tree_one rfl ?_
      refine r_sets (g:=p) (i:=0) (C:=[.int .i64 0,.int .i64 0,.int .i64 0,.slice none 0 0,.slice none 0 0]) z9q z9co33 (by simp -implicitDefEqProofs(disch:=omega)only[Nat.reduceEqDiff,↓reduceIte,vcu,↓vcd];exact hone) z9z ep3 z9l fun T3 k3 e3=>?_
      replace e3:T3 p=some ⟨exC y1 y2 ⟨e.s,e.ps,[]⟩,false⟩:=e3
      have P3:Sub T0 T3:=k3.sub B3 fp3
      have own9:OwnX T0 T3 (exV y1 y2 ⟨e.s,e.ps,[]⟩) ⟨e.s,e.ps,[]⟩:=ownX_store own2 np3 a3 k3
      simp -implicitDefEqProofs(disch:=omega)only[Nat.reduceEqDiff,↓reduceIte,vcu,↓vcd]
      refine⟨keep_of rfl (fun p hp=>by simp only[List.mem_singleton] at hp;subst hp;exact .inr P3),?_⟩
      refine tree_quiets _ _ _ _ sf0 kr9 kr9 ?_
      simp -implicitDefEqProofs(disch:=omega)only[Nat.reduceEqDiff,↓reduceIte,vcu,↓vcd,vcp]
      refine tree_stop ?_
      exact⟨by first|trivial|rfl,by first|trivial|rfl|simp -implicitDefEqProofs(disch:=omega)only[Nat.reduceEqDiff,↓reduceIte,vcu,↓vcd],p,y1,y2,by first|trivial|rfl|simp -implicitDefEqProofs(disch:=omega)only[Nat.reduceEqDiff,↓reduceIte,vcu,↓vcd],P3,e3,own9⟩
     ·try simp -implicitDefEqProofs(disch:=omega)only[Nat.reduceEqDiff,↓reduceIte,vcu,↓vcd]
      refine r_new ze33 fun p A4 np4 a4 ep4=>?_
      replace ep4:A4 p=some ⟨[.int .i64 0,.int .i64 0,.int .i64 0,.slice none 0 0,.slice none 0 0],false⟩:=ep4
      simp -implicitDefEqProofs(disch:=omega)only[Nat.reduceEqDiff,↓reduceIte,vcu,↓vcd]
      have B4:=Sub.trans B1 a4
      have fp4:=free_sub B1 np4
      have od4:=OwnD.sub od1 a4
      refine⟨keep_of rfl (fun p hp=>by simp only[List.mem_singleton] at hp;subst hp;exact .inr B4),?_⟩
      refine tree_one rfl ?_
      try simp -implicitDefEqProofs(disch:=omega)only[Nat.reduceEqDiff,↓reduceIte,vcu,↓vcd]
      refine (hrc A4 B4 vd1 od4.dds).mono ?_
      rintro _ A5 ⟨_,rfl,a5,y1,y2,rfl,oy1,oy2⟩
      have own5:OwnX T0 A5 (exV y1 y2 ⟨e.s,e.ps,[]⟩) ⟨e.s,e.ps,[]⟩:=OwnX.older ⟨y1,y2,rfl,oy1,oy2⟩ B4
      have ownp5:OwnX A4 A5 (exV y1 y2 ⟨e.s,e.ps,[]⟩) ⟨e.s,e.ps,[]⟩:=⟨y1,y2,rfl,oy1,oy2⟩
      have hone:=exC_one own5
      unfold exV
      dsimp only
      simp -implicitDefEqProofs(disch:=omega)only[Nat.reduceEqDiff,↓reduceIte,vcu,↓vcd,opK_some]
      have B5:=Sub.trans B4 a5
      have ep5:=a5 _ _ ep4
      refine⟨keep_of rfl (fun p hp=>by simp only[List.mem_singleton] at hp;subst hp;exact .inr B5),?_⟩
      refine tree_quiets _ _ _ _ sf0 kr9 kr9 ?_
      simp -implicitDefEqProofs(disch:=omega)only[Nat.reduceEqDiff,↓reduceIte,vcu,↓vcd,vcp,List.getElem?_toArray,List.getElem?_cons_zero,List.getElem?_cons_succ]
      refine tree_one rfl ?_
      refine r_sets (g:=p) (i:=0) (C:=[.int .i64 0,.int .i64 0,.int .i64 0,.slice none 0 0,.slice none 0 0]) z9q z9co33 (by simp -implicitDefEqProofs(disch:=omega)only[Nat.reduceEqDiff,↓reduceIte,vcu,↓vcd];exact hone) z9z ep5 z9l fun T3 k3 e3=>?_
      replace e3:T3 p=some ⟨exC y1 y2 ⟨e.s,e.ps,[]⟩,false⟩:=e3
      have P3:Sub T0 T3:=k3.sub B5 fp4
      have own9:OwnX T0 T3 (exV y1 y2 ⟨e.s,e.ps,[]⟩) ⟨e.s,e.ps,[]⟩:=(ownp5.kept k3 ep4).older B4
      simp -implicitDefEqProofs(disch:=omega)only[Nat.reduceEqDiff,↓reduceIte,vcu,↓vcd]
      refine⟨keep_of rfl (fun p hp=>by simp only[List.mem_singleton] at hp;subst hp;exact .inr P3),?_⟩
      refine tree_quiets _ _ _ _ sf0 kr9 kr9 ?_
      simp -implicitDefEqProofs(disch:=omega)only[Nat.reduceEqDiff,↓reduceIte,vcu,↓vcd,vcp]
      refine tree_stop ?_
      exact⟨by first|trivial|rfl,by first|trivial|rfl|simp -implicitDefEqProofs(disch:=omega)only[Nat.reduceEqDiff,↓reduceIte,vcu,↓vcd],p,y1,y2,by first|trivial|rfl|simp -implicitDefEqProofs(disch:=omega)only[Nat.reduceEqDiff,↓reduceIte,vcu,↓vcd],P3,e3,own9⟩
    ·try simp -implicitDefEqProofs(disch:=omega)only[Nat.reduceEqDiff,↓reduceIte,vcu,↓vcd]
     refine r_new ze33 fun p A6 np6 a6 ep6=>?_
     replace ep6:A6 p=some ⟨[.int .i64 0,.int .i64 0,.int .i64 0,.slice none 0 0,.slice none 0 0],false⟩:=ep6
     simp -implicitDefEqProofs(disch:=omega)only[Nat.reduceEqDiff,↓reduceIte,vcu,↓vcd]
     have B6:=Sub.trans (Sub.refl T0) a6
     have fp6:=free_sub (Sub.refl T0) np6
     refine⟨keep_of rfl (fun p hp=>by simp only[List.mem_singleton] at hp;subst hp;exact .inr B6),?_⟩
     refine tree_one rfl ?_
     try simp -implicitDefEqProofs(disch:=omega)only[Nat.reduceEqDiff,↓reduceIte,vcu,↓vcd]
     refine (hnc A6 B6).mono ?_
     rintro vd7 A7 ⟨a7,od7⟩
     try simp -implicitDefEqProofs(disch:=omega)only[Nat.reduceEqDiff,↓reduceIte,vcu,↓vcd,opK_some]
     have B7:=Sub.trans B6 a7
     have ep7:=a7 _ _ ep6
     refine⟨keep_of rfl (fun p hp=>by simp only[List.mem_singleton] at hp;subst hp;exact .inr B7),?_⟩
     refine tree_one rfl ?_
     try simp -implicitDefEqProofs(disch:=omega)only[Nat.reduceEqDiff,↓reduceIte,vcu,↓vcd]
     refine (hrc A7 B7 vd7 od7.dds).mono ?_
     rintro _ A8 ⟨_,rfl,a8,y1,y2,rfl,oy1,oy2⟩
     have own8:OwnX T0 A8 (exV y1 y2 ⟨e.s,e.ps,[]⟩) ⟨e.s,e.ps,[]⟩:=OwnX.older ⟨y1,y2,rfl,oy1,oy2⟩ B7
     have ownp8:OwnX A7 A8 (exV y1 y2 ⟨e.s,e.ps,[]⟩) ⟨e.s,e.ps,[]⟩:=⟨y1,y2,rfl,oy1,oy2⟩
     have hone:=exC_one own8
     unfold exV
     dsimp only
     simp -implicitDefEqProofs(disch:=omega)only[Nat.reduceEqDiff,↓reduceIte,vcu,↓vcd,opK_some]
     have B8:=Sub.trans B7 a8
     have ep8:=a8 _ _ ep7
     refine⟨keep_of rfl (fun p hp=>by simp only[List.mem_singleton] at hp;subst hp;exact .inr B8),?_⟩
     refine tree_quiets _ _ _ _ sf0 kr9 kr9 ?_
     simp -implicitDefEqProofs(disch:=omega)only[Nat.reduceEqDiff,↓reduceIte,vcu,↓vcd,vcp,List.getElem?_toArray,List.getElem?_cons_zero,List.getElem?_cons_succ]
     refine tree_one rfl ?_
     refine r_sets (g:=p) (i:=0) (C:=[.int .i64 0,.int .i64 0,.int .i64 0,.slice none 0 0,.slice none 0 0]) z9q z9co33 (by simp -implicitDefEqProofs(disch:=omega)only[Nat.reduceEqDiff,↓reduceIte,vcu,↓vcd];exact hone) z9z ep8 z9l fun T3 k3 e3=>?_
     replace e3:T3 p=some ⟨exC y1 y2 ⟨e.s,e.ps,[]⟩,false⟩:=e3
     have P3:Sub T0 T3:=k3.sub B8 fp6
     have own9:OwnX T0 T3 (exV y1 y2 ⟨e.s,e.ps,[]⟩) ⟨e.s,e.ps,[]⟩:=(ownp8.kept k3 ep7).older B7
     simp -implicitDefEqProofs(disch:=omega)only[Nat.reduceEqDiff,↓reduceIte,vcu,↓vcd]
     refine⟨keep_of rfl (fun p hp=>by simp only[List.mem_singleton] at hp;subst hp;exact .inr P3),?_⟩
     refine tree_quiets _ _ _ _ sf0 kr9 kr9 ?_
     simp -implicitDefEqProofs(disch:=omega)only[Nat.reduceEqDiff,↓reduceIte,vcu,↓vcd,vcp]
     refine tree_stop ?_
     exact⟨by first|trivial|rfl,by first|trivial|rfl|simp -implicitDefEqProofs(disch:=omega)only[Nat.reduceEqDiff,↓reduceIte,vcu,↓vcd],p,y1,y2,by first|trivial|rfl|simp -implicitDefEqProofs(disch:=omega)only[Nat.reduceEqDiff,↓reduceIte,vcu,↓vcd],P3,e3,own9⟩
   rintro _ a' T ⟨rfl,r4,p,y1,y2,r13,PT,ep,hoy⟩
   have f4T:=PT _ _ f4
   have lp:lds T p 0 5=some [.int .i64 e.s.O,.int .i64 e.s.E,.int .i64 e.s.M,y1,y2]:=by rw[lds_of ep (by simp [exC])];rfl
   simp -implicitDefEqProofs(disch:=omega)only[Nat.reduceEqDiff,↓reduceIte,vcu,↓vcd,r4,r13,lp,co33]
   have hone9:=exC_one hoy
   refine r_sets (g:=h4) (i:=0) (C:=[.int .i64 0,.int .i64 0,.int .i64 0,.slice none 0 0,.slice none 0 0]) (by simp -implicitDefEqProofs(disch:=omega)only[Nat.reduceEqDiff,↓reduceIte,vcu,↓vcd,r4]) z9co33 (by simp -implicitDefEqProofs(disch:=omega)only[Nat.reduceEqDiff,↓reduceIte,vcu,↓vcd];exact hone9) z9z f4T z9l fun T9 k9 e9=>?_
   replace e9:T9 h4=some ⟨exC y1 y2 ⟨e.s,e.ps,[]⟩,false⟩:=e9
   have l9:lds T9 h4 0 5=some [.int .i64 e.s.O,.int .i64 e.s.E,.int .i64 e.s.M,y1,y2]:=by rw[lds_of e9 (by simp [exC])];rfl
   simp -implicitDefEqProofs(disch:=omega)only[Nat.reduceEqDiff,↓reduceIte,vcu,↓vcd,r4]
   refine fin_ct8 Tryz.results19 T9 (Sub.refl _) (v:=exV y1 y2 ⟨e.s,e.ps,[]⟩) (by simp -implicitDefEqProofs(disch:=omega)only[Nat.reduceEqDiff,↓reduceIte,vcu,↓vcd,r4,l9,co33];rfl) ⟨exV y1 y2 ⟨e.s,e.ps,[]⟩,?_,k9.sub (S0.trans PT) z4,?_⟩
   ·try simp -implicitDefEqProofs(disch:=omega)only[Nat.reduceEqDiff,↓reduceIte,vcu,↓vcd]
    rw[hx]
    try rfl
   ·rw[hx]
    exact (hoy.kept k9 f4).older S0
  have dn:decide (t=w_night)=false:=decide_eq_false hnt
  have hX:exLine e t=(e,askT e t):=by unfold exLine lineX;rw[if_pos hok,hro];dsimp only;rw[if_neg hnt]
  by_cases hca:t=w_calls
  ·have dc:decide (t=w_calls)=true:=decide_eq_true hca
   have hx:exLine e t=(e,decN e.cs.length):=by rw[hX,askT,if_pos hca]
   simp -implicitDefEqProofs(disch:=omega)only[Nat.reduceEqDiff,↓reduceIte,vcu,↓vcd,opK_some,hrd,qni,dn,qca,dc]
   refine region_tree mixed (quiets [1] (quiets [0,2] (quiets [3] (.one 4 (.one 5 (quiets [6] .stop)))))) [([0,2],Sub (T0.upd h4 none))] kr9 kr9 (fun p hp=>by simp only[List.mem_singleton] at hp;subst hp;exact sub_erase _ _) ?_
   refine tree_quiets _ _ _ _ sf0 kr9 kr9 ?_
   simp -implicitDefEqProofs(disch:=omega)only[Nat.reduceEqDiff,↓reduceIte,vcu,↓vcd,vcp]
   refine tree_quiets (T0.upd h4 none) _ _ _ sf1 kr9 kr9 ?_
   simp -implicitDefEqProofs(disch:=omega)only[Nat.reduceEqDiff,↓reduceIte,vcu,↓vcd,vcp,y5u,y4u,l9u,co33]
   refine tree_quiets _ _ _ _ sf0 kr9 kr9 ?_
   simp -implicitDefEqProofs(disch:=omega)only[Nat.reduceEqDiff,↓reduceIte,vcu,↓vcd,vcp,ln2]
   refine tree_one rfl ?_
   try simp -implicitDefEqProofs(disch:=omega)only[Nat.reduceEqDiff,↓reduceIte,vcu,↓vcd]
   refine (number_calls e.cs.length om9 T0).mono ?_
   rintro _ _ ⟨rfl,rfl⟩
   rename_i T0
   simp -implicitDefEqProofs(disch:=omega)only[Nat.reduceEqDiff,↓reduceIte,vcu,↓vcd,opK_some]
   refine⟨.inl rfl,?_⟩
   refine tree_one rfl ?_
   have hone9:=exC_one hown
   refine r_sets (g:=h4) (i:=0) (C:=[.int .i64 0,.int .i64 0,.int .i64 0,.slice none 0 0,.slice none 0 0]) z9q z9co33 (by simp -implicitDefEqProofs(disch:=omega)only[Nat.reduceEqDiff,↓reduceIte,vcu,↓vcd];exact hone9) z9z f4 z9l fun T9 k9 e9=>?_
   replace e9:T9 h4=some ⟨exC (.slice (some ⟨g1,0,none⟩) e.ps.length 1) (.slice (some ⟨g2,0,none⟩) e.cs.length 3) e,false⟩:=e9
   have l9:lds T9 h4 0 5=some [.int .i64 e.s.O,.int .i64 e.s.E,.int .i64 e.s.M,.slice (some ⟨g1,0,none⟩) e.ps.length 1,.slice (some ⟨g2,0,none⟩) e.cs.length 3]:=by rw[lds_of e9 (by simp [exC])];rfl
   simp -implicitDefEqProofs(disch:=omega)only[Nat.reduceEqDiff,↓reduceIte,vcu,↓vcd]
   refine⟨keep_of rfl (fun p hp=>by simp only[List.mem_singleton] at hp;subst hp;exact .inr (kept_erase k9)),?_⟩
   refine tree_quiets _ _ _ _ sf0 kr9 kr9 ?_
   simp -implicitDefEqProofs(disch:=omega)only[Nat.reduceEqDiff,↓reduceIte,vcu,↓vcd,vcp]
   refine tree_stop ?_
   try simp -implicitDefEqProofs(disch:=omega)only[Nat.reduceEqDiff,↓reduceIte,vcu,↓vcd]
   refine fin_ct8 Tryz.results19 T9 (Sub.refl _) (v:=exV (.slice (some ⟨g1,0,none⟩) e.ps.length 1) (.slice (some ⟨g2,0,none⟩) e.cs.length 3) e) (by simp -implicitDefEqProofs(disch:=omega)only[Nat.reduceEqDiff,↓reduceIte,vcu,↓vcd,l9,co33];rfl) ⟨exV (.slice (some ⟨g1,0,none⟩) e.ps.length 1) (.slice (some ⟨g2,0,none⟩) e.cs.length 3) e,?_,k9.sub S0 z4,?_⟩
   ·try simp -implicitDefEqProofs(disch:=omega)only[Nat.reduceEqDiff,↓reduceIte,vcu,↓vcd]
    rw[hx]
    try rfl
   ·rw[hx]
    exact (hown.kept k9 e4).older S3
  have dc:decide (t=w_calls)=false:=decide_eq_false hca
  by_cases hpl:t=w_plan
  ·have dp:decide (t=w_plan)=true:=decide_eq_true hpl
   have hx:exLine e t=(e,joinT e.ps (e.ps.length - 1)):=by rw[hX,askT,if_neg hca,if_pos hpl]
   have hp1:=(ex_plan hok).1
   obtain⟨gp,op,rfl,hrow⟩:=rowT t10 om9
   have y3s:=y3 T0 (Sub.refl _)
   have hx0:=hrow 0 om9
   simp -implicitDefEqProofs(disch:=omega)only[Nat.reduceEqDiff,↓reduceIte,vcu,↓vcd,opK_some,hrd,qni,dn,qca,dc,qpl,dp,y3s,hx0,Int.toNat_zero]
   refine vc_loop_c mixed kr9 [2,4,9] (fun m a T=>∃k:Nat,m+(k+1)=e.ps.length∧a 16=.int .i64 ((k+1:Nat):Int)∧a 15=.string (tx (joinT e.ps k))∧T=T0) (e.ps.length - 1) ⟨0,by omega,rfl,rfl,rfl⟩ ?_
   rintro m a _ hc ⟨k,hk,h16,h15,rfl⟩
   rename_i T0
   simp -implicitDefEqProofs(disch:=omega)only[Nat.reduceEqDiff,↓reduceIte,vcu,↓vcd] at hc
   obtain⟨h2,h4',h9',-⟩:=hc
   by_cases hlt:k+1 < e.ps.length
   ·have hxk:=hrow (k+1) hlt
    have hjl:=joinT_len hb.2.1 k
    have hbk:=hb.2.1 (e.ps.getD (k+1) []) (by simp [List.getD,hlt])
    have hk10:k≤10:=by omega
    have ha1:abin Tryz.prog 9 .add (.string (tx (joinT e.ps k))) (.string { data:=#[44] })=some (.string (tx (joinT e.ps k++[44]))):=abin_sadd (ys:=[44]) (by rw[List.length_singleton];omega)
    have ha2:abin Tryz.prog 9 .add (.string (tx (joinT e.ps k++[44]))) (.string (tx (e.ps.getD (k+1) [])))=some (.string (tx (joinT e.ps k++[44]++e.ps.getD (k+1) []))):=abin_sadd (by rw[List.length_append,List.length_singleton];omega)
    simp -implicitDefEqProofs(disch:=omega)only[Nat.reduceEqDiff,↓reduceIte,vcu,↓vcd,h2,h4',h9',h15,h16,y3s,ln1,hxk,ha1,ha2,Int.toNat_natCast]
    exact⟨⟨trivial,trivial,trivial,trivial⟩,m - 1,by omega,k+1,by omega,by simp,by rw[List.append_assoc];rfl,trivial⟩
   ·obtain rfl:k=e.ps.length - 1:=by omega
    simp -implicitDefEqProofs(disch:=omega)only[Nat.reduceEqDiff,↓reduceIte,vcu,↓vcd,h2,h4',h9',h15,h16,y3s,ln1,l9s,co33]
    have hone9:=exC_one hown
    refine r_sets (g:=h4) (i:=0) (C:=[.int .i64 0,.int .i64 0,.int .i64 0,.slice none 0 0,.slice none 0 0]) (by simp -implicitDefEqProofs(disch:=omega)only[Nat.reduceEqDiff,↓reduceIte,vcu,↓vcd,h4']) z9co33 (by simp -implicitDefEqProofs(disch:=omega)only[Nat.reduceEqDiff,↓reduceIte,vcu,↓vcd];exact hone9) z9z f4 z9l fun T9 k9 e9=>?_
    replace e9:T9 h4=some ⟨exC (.slice (some ⟨g1,0,none⟩) e.ps.length 1) (.slice (some ⟨g2,0,none⟩) e.cs.length 3) e,false⟩:=e9
    have l9:lds T9 h4 0 5=some [.int .i64 e.s.O,.int .i64 e.s.E,.int .i64 e.s.M,.slice (some ⟨g1,0,none⟩) e.ps.length 1,.slice (some ⟨g2,0,none⟩) e.cs.length 3]:=by rw[lds_of e9 (by simp [exC])];rfl
    simp -implicitDefEqProofs(disch:=omega)only[Nat.reduceEqDiff,↓reduceIte,vcu,↓vcd,h4',h15]
    refine fin_ct8 Tryz.results19 T9 (Sub.refl _) (v:=exV (.slice (some ⟨g1,0,none⟩) e.ps.length 1) (.slice (some ⟨g2,0,none⟩) e.cs.length 3) e) (by simp -implicitDefEqProofs(disch:=omega)only[Nat.reduceEqDiff,↓reduceIte,vcu,↓vcd,h4',l9,co33];rfl) ⟨exV (.slice (some ⟨g1,0,none⟩) e.ps.length 1) (.slice (some ⟨g2,0,none⟩) e.cs.length 3) e,?_,k9.sub S0 z4,?_⟩
    ·try simp -implicitDefEqProofs(disch:=omega)only[Nat.reduceEqDiff,↓reduceIte,vcu,↓vcd]
     rw[hx]
     try rfl
    ·rw[hx]
     exact (hown.kept k9 e4).older S3
  have dp:decide (t=w_plan)=false:=decide_eq_false hpl
  have qwh:abin Tryz.prog 9 .eql (.string (tx (ask0 t))) (.string { data:=#[119,104,111] })=some (.bool (decide (ask0 t=w_who))):=abin_seql (ys:=w_who)
  have qvi:abin Tryz.prog 9 .eql (.string (tx (ask0 t))) (.string { data:=#[118,105,97] })=some (.bool (decide (ask0 t=w_via))):=abin_seql (ys:=w_via)
  have hA:askT e t=if 0≤askN t∧(ask0 t=w_who∨ask0 t=w_via)∧peerS e.cs (askN t) < 0 then w_none else if 0≤askN t∧ask0 t=w_who then decN (peerS e.cs (askN t)).toNat else if 0≤askN t∧ask0 t=w_via then decN (viaS e.cs (askN t)).toNat else w_what:=by rw[askT,if_neg hca,if_neg hpl]
  have hpeer:=peerOf_calls (w0:=w0) T0 (exV v1 v2 e) e (askN t) hX0 hb
  rw[show peerV e (askN t)=peerS e.cs (askN t) from if_pos hok] at hpeer
  unfold exV at hpeer
  have hvia:=via_calls (w0:=w0) T0 (exV v1 v2 e) e (askN t) hX0 hb
  unfold exV at hvia
  have hp11:=peerS_lt hC (x:=askN t)
  have hv4:=viaS_lt (s:=e.s) hC.2.1 hC.1 (x:=askN t)
  generalize hNN:askN t=NN at *
  by_cases hn0:0≤NN
  case neg =>
   have dnn:decide (NN ≥ 0)=false:=decide_eq_false hn0
   have hx:exLine e t=(e,w_what):=by rw[hX,hA,if_neg (fun h=>hn0 h.1),if_neg (fun h=>hn0 h.1),if_neg (fun h=>hn0 h.1)]
   simp -implicitDefEqProofs(disch:=omega)only[Nat.reduceEqDiff,↓reduceIte,vcu,↓vcd,opK_some,hrd,qni,dn,qca,dc,qpl,dp,dnn,l9s,co33]
   have hone9:=exC_one hown
   try simp -implicitDefEqProofs(disch:=omega)only[Nat.reduceEqDiff,↓reduceIte,vcu,↓vcd,l9s,co33]
   refine r_sets (g:=h4) (i:=0) (C:=[.int .i64 0,.int .i64 0,.int .i64 0,.slice none 0 0,.slice none 0 0]) z9q z9co33 (by simp -implicitDefEqProofs(disch:=omega)only[Nat.reduceEqDiff,↓reduceIte,vcu,↓vcd];exact hone9) z9z f4 z9l fun T9 k9 e9=>?_
   replace e9:T9 h4=some ⟨exC (.slice (some ⟨g1,0,none⟩) e.ps.length 1) (.slice (some ⟨g2,0,none⟩) e.cs.length 3) e,false⟩:=e9
   have l9:lds T9 h4 0 5=some [.int .i64 e.s.O,.int .i64 e.s.E,.int .i64 e.s.M,(.slice (some ⟨g1,0,none⟩) e.ps.length 1),(.slice (some ⟨g2,0,none⟩) e.cs.length 3)]:=by rw[lds_of e9 (by simp [exC])];rfl
   try simp -implicitDefEqProofs(disch:=omega)only[Nat.reduceEqDiff,↓reduceIte,vcu,↓vcd]
   refine fin_ct8 Tryz.results19 T9 (Sub.refl _) (v:=exV (.slice (some ⟨g1,0,none⟩) e.ps.length 1) (.slice (some ⟨g2,0,none⟩) e.cs.length 3) e) (by simp -implicitDefEqProofs(disch:=omega)only[Nat.reduceEqDiff,↓reduceIte,vcu,↓vcd,l9,co33];rfl) ⟨exV (.slice (some ⟨g1,0,none⟩) e.ps.length 1) (.slice (some ⟨g2,0,none⟩) e.cs.length 3) e,?_,k9.sub S0 z4,?_⟩
   ·try simp -implicitDefEqProofs(disch:=omega)only[Nat.reduceEqDiff,↓reduceIte,vcu,↓vcd]
    rw[hx]
    try rfl
   ·rw[hx]
    exact (OwnX.kept hown k9 e4).older S3
  have dnn:decide (NN ≥ 0)=true:=decide_eq_true hn0
  by_cases hwho:ask0 t=w_who
  ·have dw:decide (ask0 t=w_who)=true:=decide_eq_true hwho
   simp -implicitDefEqProofs(disch:=omega)only[Nat.reduceEqDiff,↓reduceIte,vcu,↓vcd,opK_some,hrd,qni,dn,qca,dc,qpl,dp,dnn,k0,qwh,dw,y5s,Int.toNat_zero,Nat.zero_add,co33]
   refine hpeer.mono ?_
   rintro _ _ ⟨rfl,rfl⟩
   rename_i T0
   by_cases hpn:peerS e.cs NN < 0
   ·have dpn:decide (peerS e.cs NN < 0)=true:=decide_eq_true hpn
    have hx:exLine e t=(e,w_none):=by rw[hX,hA,if_pos ⟨hn0,.inl hwho,hpn⟩]
    simp -implicitDefEqProofs(disch:=omega)only[Nat.reduceEqDiff,↓reduceIte,vcu,↓vcd,opK_some,dpn,l9s,co33]
    have hone9:=exC_one hown
    try simp -implicitDefEqProofs(disch:=omega)only[Nat.reduceEqDiff,↓reduceIte,vcu,↓vcd,l9s,co33]
    refine r_sets (g:=h4) (i:=0) (C:=[.int .i64 0,.int .i64 0,.int .i64 0,.slice none 0 0,.slice none 0 0]) z9q z9co33 (by simp -implicitDefEqProofs(disch:=omega)only[Nat.reduceEqDiff,↓reduceIte,vcu,↓vcd];exact hone9) z9z f4 z9l fun T9 k9 e9=>?_
    replace e9:T9 h4=some ⟨exC (.slice (some ⟨g1,0,none⟩) e.ps.length 1) (.slice (some ⟨g2,0,none⟩) e.cs.length 3) e,false⟩:=e9
    have l9:lds T9 h4 0 5=some [.int .i64 e.s.O,.int .i64 e.s.E,.int .i64 e.s.M,(.slice (some ⟨g1,0,none⟩) e.ps.length 1),(.slice (some ⟨g2,0,none⟩) e.cs.length 3)]:=by rw[lds_of e9 (by simp [exC])];rfl
    try simp -implicitDefEqProofs(disch:=omega)only[Nat.reduceEqDiff,↓reduceIte,vcu,↓vcd]
    refine fin_ct8 Tryz.results19 T9 (Sub.refl _) (v:=exV (.slice (some ⟨g1,0,none⟩) e.ps.length 1) (.slice (some ⟨g2,0,none⟩) e.cs.length 3) e) (by simp -implicitDefEqProofs(disch:=omega)only[Nat.reduceEqDiff,↓reduceIte,vcu,↓vcd,l9,co33];rfl) ⟨exV (.slice (some ⟨g1,0,none⟩) e.ps.length 1) (.slice (some ⟨g2,0,none⟩) e.cs.length 3) e,?_,k9.sub S0 z4,?_⟩
    ·try simp -implicitDefEqProofs(disch:=omega)only[Nat.reduceEqDiff,↓reduceIte,vcu,↓vcd]
     rw[hx]
     try rfl
    ·rw[hx]
     exact (OwnX.kept hown k9 e4).older S3
   have dpn:decide (peerS e.cs NN < 0)=false:=decide_eq_false hpn
   have hx:exLine e t=(e,decN (peerS e.cs NN).toNat):=by rw[hX,hA,if_neg (fun h=>hpn h.2.2),if_pos ⟨hn0,hwho⟩]
   simp -implicitDefEqProofs(disch:=omega)only[Nat.reduceEqDiff,↓reduceIte,vcu,↓vcd,opK_some,dpn,dnn,k0,qwh,dw,Int.toNat_zero,Nat.zero_add]
   refine region_tree mixed (quiets [2] (quiets [0,1] (.one 3 (.one 4 (.one 5 (quiets [6] .stop)))))) [([0,1],Sub (T0.upd h4 none))] kr9 kr9 (fun p hp=>by simp only[List.mem_singleton] at hp;subst hp;exact sub_erase _ _) ?_
   refine tree_quiets _ _ _ _ sf0 kr9 kr9 ?_
   simp -implicitDefEqProofs(disch:=omega)only[Nat.reduceEqDiff,↓reduceIte,vcu,↓vcd,vcp]
   refine tree_quiets (T0.upd h4 none) _ _ _ sf1 kr9 kr9 ?_
   simp -implicitDefEqProofs(disch:=omega)only[Nat.reduceEqDiff,↓reduceIte,vcu,↓vcd,vcp,y5u,y4u,l9u,co33]
   refine tree_one rfl ?_
   try simp -implicitDefEqProofs(disch:=omega)only[Nat.reduceEqDiff,↓reduceIte,vcu,↓vcd]
   refine (hpeer).mono ?_
   rintro _ _ ⟨rfl,rfl⟩
   rename_i T0
   simp -implicitDefEqProofs(disch:=omega)only[Nat.reduceEqDiff,↓reduceIte,vcu,↓vcd,opK_some]
   refine⟨.inl rfl,?_⟩
   refine tree_one rfl ?_
   try simp -implicitDefEqProofs(disch:=omega)only[Nat.reduceEqDiff,↓reduceIte,vcu,↓vcd]
   rw[show peerS e.cs NN=(((peerS e.cs NN).toNat:Nat):Int) by omega]
   refine (number_calls (peerS e.cs NN).toNat om9 T0).mono ?_
   rintro _ _ ⟨rfl,rfl⟩
   rename_i T0
   simp -implicitDefEqProofs(disch:=omega)only[Nat.reduceEqDiff,↓reduceIte,vcu,↓vcd,opK_some]
   refine⟨.inl rfl,?_⟩
   refine tree_one rfl ?_
   have hone9:=exC_one hown
   refine r_sets (g:=h4) (i:=0) (C:=[.int .i64 0,.int .i64 0,.int .i64 0,.slice none 0 0,.slice none 0 0]) z9q z9co33 (by simp -implicitDefEqProofs(disch:=omega)only[Nat.reduceEqDiff,↓reduceIte,vcu,↓vcd];exact hone9) z9z f4 z9l fun T9 k9 e9=>?_
   replace e9:T9 h4=some ⟨exC (.slice (some ⟨g1,0,none⟩) e.ps.length 1) (.slice (some ⟨g2,0,none⟩) e.cs.length 3) e,false⟩:=e9
   have l9:lds T9 h4 0 5=some [.int .i64 e.s.O,.int .i64 e.s.E,.int .i64 e.s.M,.slice (some ⟨g1,0,none⟩) e.ps.length 1,.slice (some ⟨g2,0,none⟩) e.cs.length 3]:=by rw[lds_of e9 (by simp [exC])];rfl
   simp -implicitDefEqProofs(disch:=omega)only[Nat.reduceEqDiff,↓reduceIte,vcu,↓vcd]
   refine⟨keep_of rfl (fun p hp=>by simp only[List.mem_singleton] at hp;subst hp;exact .inr (kept_erase k9)),?_⟩
   refine tree_quiets _ _ _ _ sf0 kr9 kr9 ?_
   simp -implicitDefEqProofs(disch:=omega)only[Nat.reduceEqDiff,↓reduceIte,vcu,↓vcd,vcp]
   refine tree_stop ?_
   try simp -implicitDefEqProofs(disch:=omega)only[Nat.reduceEqDiff,↓reduceIte,vcu,↓vcd]
   refine fin_ct8 Tryz.results19 T9 (Sub.refl _) (v:=exV (.slice (some ⟨g1,0,none⟩) e.ps.length 1) (.slice (some ⟨g2,0,none⟩) e.cs.length 3) e) (by simp -implicitDefEqProofs(disch:=omega)only[Nat.reduceEqDiff,↓reduceIte,vcu,↓vcd,l9,co33];rfl) ⟨exV (.slice (some ⟨g1,0,none⟩) e.ps.length 1) (.slice (some ⟨g2,0,none⟩) e.cs.length 3) e,?_,k9.sub S0 z4,?_⟩
   ·try simp -implicitDefEqProofs(disch:=omega)only[Nat.reduceEqDiff,↓reduceIte,vcu,↓vcd]
    rw[hx]
    try rfl
   ·rw[hx]
    exact (hown.kept k9 e4).older S3
  have dw:decide (ask0 t=w_who)=false:=decide_eq_false hwho
  by_cases hvi:ask0 t=w_via
  ·have dv:decide (ask0 t=w_via)=true:=decide_eq_true hvi
   simp -implicitDefEqProofs(disch:=omega)only[Nat.reduceEqDiff,↓reduceIte,vcu,↓vcd,opK_some,hrd,qni,dn,qca,dc,qpl,dp,dnn,k0,qwh,qvi,dw,dv,y5s,Int.toNat_zero,Nat.zero_add,co33]
   refine hpeer.mono ?_
   rintro _ _ ⟨rfl,rfl⟩
   rename_i T0
   by_cases hpn:peerS e.cs NN < 0
   ·have dpn:decide (peerS e.cs NN < 0)=true:=decide_eq_true hpn
    have hx:exLine e t=(e,w_none):=by rw[hX,hA,if_pos ⟨hn0,.inr hvi,hpn⟩]
    simp -implicitDefEqProofs(disch:=omega)only[Nat.reduceEqDiff,↓reduceIte,vcu,↓vcd,opK_some,dpn,l9s,co33]
    have hone9:=exC_one hown
    try simp -implicitDefEqProofs(disch:=omega)only[Nat.reduceEqDiff,↓reduceIte,vcu,↓vcd,l9s,co33]
    refine r_sets (g:=h4) (i:=0) (C:=[.int .i64 0,.int .i64 0,.int .i64 0,.slice none 0 0,.slice none 0 0]) z9q z9co33 (by simp -implicitDefEqProofs(disch:=omega)only[Nat.reduceEqDiff,↓reduceIte,vcu,↓vcd];exact hone9) z9z f4 z9l fun T9 k9 e9=>?_
    replace e9:T9 h4=some ⟨exC (.slice (some ⟨g1,0,none⟩) e.ps.length 1) (.slice (some ⟨g2,0,none⟩) e.cs.length 3) e,false⟩:=e9
    have l9:lds T9 h4 0 5=some [.int .i64 e.s.O,.int .i64 e.s.E,.int .i64 e.s.M,(.slice (some ⟨g1,0,none⟩) e.ps.length 1),(.slice (some ⟨g2,0,none⟩) e.cs.length 3)]:=by rw[lds_of e9 (by simp [exC])];rfl
    try simp -implicitDefEqProofs(disch:=omega)only[Nat.reduceEqDiff,↓reduceIte,vcu,↓vcd]
    refine fin_ct8 Tryz.results19 T9 (Sub.refl _) (v:=exV (.slice (some ⟨g1,0,none⟩) e.ps.length 1) (.slice (some ⟨g2,0,none⟩) e.cs.length 3) e) (by simp -implicitDefEqProofs(disch:=omega)only[Nat.reduceEqDiff,↓reduceIte,vcu,↓vcd,l9,co33];rfl) ⟨exV (.slice (some ⟨g1,0,none⟩) e.ps.length 1) (.slice (some ⟨g2,0,none⟩) e.cs.length 3) e,?_,k9.sub S0 z4,?_⟩
    ·try simp -implicitDefEqProofs(disch:=omega)only[Nat.reduceEqDiff,↓reduceIte,vcu,↓vcd]
     rw[hx]
     try rfl
    ·rw[hx]
     exact (OwnX.kept hown k9 e4).older S3
   have dpn:decide (peerS e.cs NN < 0)=false:=decide_eq_false hpn
   have hv0':=viaS_ge (s:=e.s) hC.2.1 (x:=NN) om9
   have hx:exLine e t=(e,decN (viaS e.cs NN).toNat):=by rw[hX,hA,if_neg (fun h=>hpn h.2.2),if_neg (fun h=>hwho h.2),if_pos ⟨hn0,hvi⟩]
   simp -implicitDefEqProofs(disch:=omega)only[Nat.reduceEqDiff,↓reduceIte,vcu,↓vcd,opK_some,dpn,dnn,k0,qwh,qvi,dw,dv,Int.toNat_zero,Nat.zero_add]
   refine region_tree mixed (quiets [2] (quiets [0,1] (.one 3 (.one 4 (.one 5 (quiets [6] .stop)))))) [([0,1],Sub (T0.upd h4 none))] kr9 kr9 (fun p hp=>by simp only[List.mem_singleton] at hp;subst hp;exact sub_erase _ _) ?_
   refine tree_quiets _ _ _ _ sf0 kr9 kr9 ?_
   simp -implicitDefEqProofs(disch:=omega)only[Nat.reduceEqDiff,↓reduceIte,vcu,↓vcd,vcp]
   refine tree_quiets (T0.upd h4 none) _ _ _ sf1 kr9 kr9 ?_
   simp -implicitDefEqProofs(disch:=omega)only[Nat.reduceEqDiff,↓reduceIte,vcu,↓vcd,vcp,y5u,y4u,l9u,co33]
   refine tree_one rfl ?_
   try simp -implicitDefEqProofs(disch:=omega)only[Nat.reduceEqDiff,↓reduceIte,vcu,↓vcd]
   refine (hvia).mono ?_
   rintro _ _ ⟨rfl,rfl⟩
   rename_i T0
   simp -implicitDefEqProofs(disch:=omega)only[Nat.reduceEqDiff,↓reduceIte,vcu,↓vcd,opK_some]
   refine⟨.inl rfl,?_⟩
   refine tree_one rfl ?_
   try simp -implicitDefEqProofs(disch:=omega)only[Nat.reduceEqDiff,↓reduceIte,vcu,↓vcd]
   rw[show viaS e.cs NN=(((viaS e.cs NN).toNat:Nat):Int) by omega]
   refine (number_calls (viaS e.cs NN).toNat om9 T0).mono ?_
   rintro _ _ ⟨rfl,rfl⟩
   rename_i T0
   simp -implicitDefEqProofs(disch:=omega)only[Nat.reduceEqDiff,↓reduceIte,vcu,↓vcd,opK_some]
   refine⟨.inl rfl,?_⟩
   refine tree_one rfl ?_
   have hone9:=exC_one hown
   refine r_sets (g:=h4) (i:=0) (C:=[.int .i64 0,.int .i64 0,.int .i64 0,.slice none 0 0,.slice none 0 0]) z9q z9co33 (by simp -implicitDefEqProofs(disch:=omega)only[Nat.reduceEqDiff,↓reduceIte,vcu,↓vcd];exact hone9) z9z f4 z9l fun T9 k9 e9=>?_
   replace e9:T9 h4=some ⟨exC (.slice (some ⟨g1,0,none⟩) e.ps.length 1) (.slice (some ⟨g2,0,none⟩) e.cs.length 3) e,false⟩:=e9
   have l9:lds T9 h4 0 5=some [.int .i64 e.s.O,.int .i64 e.s.E,.int .i64 e.s.M,.slice (some ⟨g1,0,none⟩) e.ps.length 1,.slice (some ⟨g2,0,none⟩) e.cs.length 3]:=by rw[lds_of e9 (by simp [exC])];rfl
   simp -implicitDefEqProofs(disch:=omega)only[Nat.reduceEqDiff,↓reduceIte,vcu,↓vcd]
   refine⟨keep_of rfl (fun p hp=>by simp only[List.mem_singleton] at hp;subst hp;exact .inr (kept_erase k9)),?_⟩
   refine tree_quiets _ _ _ _ sf0 kr9 kr9 ?_
   simp -implicitDefEqProofs(disch:=omega)only[Nat.reduceEqDiff,↓reduceIte,vcu,↓vcd,vcp]
   refine tree_stop ?_
   try simp -implicitDefEqProofs(disch:=omega)only[Nat.reduceEqDiff,↓reduceIte,vcu,↓vcd]
   refine fin_ct8 Tryz.results19 T9 (Sub.refl _) (v:=exV (.slice (some ⟨g1,0,none⟩) e.ps.length 1) (.slice (some ⟨g2,0,none⟩) e.cs.length 3) e) (by simp -implicitDefEqProofs(disch:=omega)only[Nat.reduceEqDiff,↓reduceIte,vcu,↓vcd,l9,co33];rfl) ⟨exV (.slice (some ⟨g1,0,none⟩) e.ps.length 1) (.slice (some ⟨g2,0,none⟩) e.cs.length 3) e,?_,k9.sub S0 z4,?_⟩
   ·try simp -implicitDefEqProofs(disch:=omega)only[Nat.reduceEqDiff,↓reduceIte,vcu,↓vcd]
    rw[hx]
    try rfl
   ·rw[hx]
    exact (hown.kept k9 e4).older S3
  have dv:decide (ask0 t=w_via)=false:=decide_eq_false hvi
  have hx:exLine e t=(e,w_what):=by rw[hX,hA,if_neg (by rintro ⟨_,h|h,_⟩<;>first|exact hwho h|exact hvi h),if_neg (fun h=>hwho h.2),if_neg (fun h=>hvi h.2)]
  simp -implicitDefEqProofs(disch:=omega)only[Nat.reduceEqDiff,↓reduceIte,vcu,↓vcd,opK_some,hrd,qni,dn,qca,dc,qpl,dp,dnn,k0,qwh,qvi,dw,dv,l9s,Int.toNat_zero,Nat.zero_add,co33]
  have hone9:=exC_one hown
  try simp -implicitDefEqProofs(disch:=omega)only[Nat.reduceEqDiff,↓reduceIte,vcu,↓vcd,l9s,co33]
  refine r_sets (g:=h4) (i:=0) (C:=[.int .i64 0,.int .i64 0,.int .i64 0,.slice none 0 0,.slice none 0 0]) z9q z9co33 (by simp -implicitDefEqProofs(disch:=omega)only[Nat.reduceEqDiff,↓reduceIte,vcu,↓vcd];exact hone9) z9z f4 z9l fun T9 k9 e9=>?_
  replace e9:T9 h4=some ⟨exC (.slice (some ⟨g1,0,none⟩) e.ps.length 1) (.slice (some ⟨g2,0,none⟩) e.cs.length 3) e,false⟩:=e9
  have l9:lds T9 h4 0 5=some [.int .i64 e.s.O,.int .i64 e.s.E,.int .i64 e.s.M,(.slice (some ⟨g1,0,none⟩) e.ps.length 1),(.slice (some ⟨g2,0,none⟩) e.cs.length 3)]:=by rw[lds_of e9 (by simp [exC])];rfl
  try simp -implicitDefEqProofs(disch:=omega)only[Nat.reduceEqDiff,↓reduceIte,vcu,↓vcd]
  refine fin_ct8 Tryz.results19 T9 (Sub.refl _) (v:=exV (.slice (some ⟨g1,0,none⟩) e.ps.length 1) (.slice (some ⟨g2,0,none⟩) e.cs.length 3) e) (by simp -implicitDefEqProofs(disch:=omega)only[Nat.reduceEqDiff,↓reduceIte,vcu,↓vcd,l9,co33];rfl) ⟨exV (.slice (some ⟨g1,0,none⟩) e.ps.length 1) (.slice (some ⟨g2,0,none⟩) e.cs.length 3) e,?_,k9.sub S0 z4,?_⟩
  ·try simp -implicitDefEqProofs(disch:=omega)only[Nat.reduceEqDiff,↓reduceIte,vcu,↓vcd]
   rw[hx]
   try rfl
  ·rw[hx]
   exact (OwnX.kept hown k9 e4).older S3
theorem linesN_step {e x:Ex} {ts qs:List (List UInt8)} {k:Nat} (hlt:k < ts.length) (h:linesN e ts=((linesN x (ts.drop k)).1,qs++(linesN x (ts.drop k)).2)) :
  linesN e ts=((linesN (lineX x (ts.getD k [])).1 (ts.drop (k+1))).1,(qs++[(lineX x (ts.getD k [])).2])++(linesN (lineX x (ts.getD k [])).1 (ts.drop (k+1))).2):=by
 have hd:ts.drop k=ts.getD k [] :: ts.drop (k+1):=by rw[List.drop_eq_getElem_cons hlt];simp [List.getD,hlt]
 rw[hd] at h
 rw[h,linesN,List.append_assoc];rfl
def Bt (σ:AHeap) (h4 h7 ga:Nat):AHeap:=Bs (Bs σ h4 h7) ga ga
theorem Bt_4 {σ:AHeap} {h4 h7 ga:Nat} (h:h4≠ga):Bt σ h4 h7 ga h4=some ⟨[],false⟩:=by
 unfold Bt;rw[Bs,AHeap.upd_ne _ _ h,AHeap.upd_ne _ _ h];exact Bs_4
theorem Bt_7 {σ:AHeap} {h4 h7 ga:Nat} (h:h7≠ga):Bt σ h4 h7 ga h7=some ⟨[],false⟩:=by
 unfold Bt;rw[Bs,AHeap.upd_ne _ _ h,AHeap.upd_ne _ _ h];exact Bs_6
theorem OwnX.bt {σ τ τ':AHeap} {h4 h7 ga:Nat} {v:Value} {e:Ex} {o4 o7 oa:AObj} (h:OwnX τ τ' v e) (hs:Sub σ τ) (e4:τ h4=some o4) (e7:τ h7=some o7) (ea:τ ga=some oa):OwnX (Bt σ h4 h7 ga) τ' v e:=by
 obtain⟨v1,v2,rfl,h1,h2⟩:=h
 refine⟨v1,v2,rfl,?_,?_⟩
 ·exact h1.imp id fun⟨g,a,b,c⟩=>⟨g,a,b,Bs_free (Bs_free (free_sub hs c) (ne_of c e4) (ne_of c e7)) (ne_of c ea) (ne_of c ea)⟩
 ·exact h2.imp id fun⟨g,a,b,c⟩=>⟨g,a,b,Bs_free (Bs_free (free_sub hs c) (ne_of c e4) (ne_of c e7)) (ne_of c ea) (ne_of c ea)⟩
theorem OwnX.unbt {σ τ:AHeap} {h4 h7 ga:Nat} {v:Value} {e:Ex} (h:OwnX (Bt σ h4 h7 ga) τ v e):OwnX σ τ v e:=h.unbs.unbs
theorem OwnX.grow {σ τ τ':AHeap} {h4 h7 ga g':Nat} {v:Value} {e:Ex} (h:OwnX (Bt σ h4 h7 ga) τ v e) (hn:τ g'=none) (hk:Kept ga τ τ'):OwnX (Bt σ h4 h7 g') τ' v e:=by
 obtain⟨v1,v2,rfl,h1,h2⟩:=h
 refine⟨v1,v2,rfl,?_,?_⟩
 ·exact h1.imp id fun⟨g,a,b,c⟩=>⟨g,a,hk.at b (Bs_none c).2.1,Bs_free (Bs_none c).1 (ne_of' hn b) (ne_of' hn b)⟩
 ·exact h2.imp id fun⟨g,a,b,c⟩=>⟨g,a,hk.at b (Bs_none c).2.1,Bs_free (Bs_none c).1 (ne_of' hn b) (ne_of' hn b)⟩
def Aside (w u:Value):Prop:=∀A B C v1 v2 g n z,w=.agg #[.int .i64 A,.int .i64 B,.int .i64 C,v1,v2]→u=.slice (some ⟨g,0,none⟩) n z→(∀n' z',v1≠.slice (some ⟨g,0,none⟩) n' z')∧∀n' z',v2≠.slice (some ⟨g,0,none⟩) n' z'
theorem aside_nil {e:Ex} {u:Value}:Aside (exV (.slice none 0 0) (.slice none 0 0) e) u:=by
 intro A B C v1 v2 g n z h1 h2
 unfold exV at h1
 cases h1
 exact⟨fun _ _ h=>(by cases h),fun _ _ h=>(by cases h)⟩
theorem aside_of {σ τ:AHeap} {h4 h7 gq n z:Nat} {u1 u2:Value} {x:Ex} (h:OwnX (Bt σ h4 h7 gq) τ (exV u1 u2 x) x):Aside (exV u1 u2 x) (.slice (some ⟨gq,0,none⟩) n z):=by
 obtain⟨v1,v2,e0,o1,o2⟩:=h
 unfold exV at e0
 cases e0
 intro A B C w1 w2 g n z h1 h2
 unfold exV at h1
 cases h1
 cases h2
 refine⟨fun n' z' h=>?_,fun n' z' h=>?_⟩
 ·rcases o1 with ⟨h0,_⟩ |⟨g',e,_,hn⟩
  ·rw[h] at h0;cases h0
  ·rw[h] at e;cases e;exact (Bs_none hn).2.1 rfl
 ·rcases o2 with ⟨h0,_⟩ |⟨g',e,_,hn⟩
  ·rw[h] at h0;cases h0
  ·rw[h] at e;cases e;exact (Bs_none hn).2.1 rfl
set_option maxRecDepth 8000 in
set_option maxHeartbeats 3200000 in
theorem exLines_calls (σ:AHeap) (v vt:Value) (e:Ex) (ts:List (List UInt8)) (hv:ExV σ v e) (hb:ExB e) (ht:Texts σ vt ts) (hl:ts.length≤1048576) (hN:∀t∈ts,t.length≤1048576) :
  ACall Tryz.prog w0 24 [v,vt] σ fun r σ'=>∃w u,r=.tuple #[w,u]∧Sub σ σ'∧OwnX σ σ' w (exLines e ts).1∧OwnS σ σ' u (exLines e ts).2∧Aside w u:=by
 have hv0:=hv
 obtain⟨v1,v2,rfl,t1,t2⟩:=hv
 unfold exV
 refine acall_goc mixed Tryz.func24 rfl goodc24 fun pr=>?_
 simp -implicitDefEqProofs(disch:=omega)only[Nat.reduceEqDiff,↓reduceIte,vcu,↓vcd]
 refine r_boxed fun b τ1 nb s1 eb=>?_
 replace eb:τ1 b=some ⟨[.int .i64 e.s.O,.int .i64 e.s.E,.int .i64 e.s.M,v1,v2],false⟩:=eb
 refine r_new ze33 fun h4 τ2 n4 s2 e4=>?_
 replace e4:τ2 h4=some ⟨[.int .i64 0,.int .i64 0,.int .i64 0,.slice none 0 0,.slice none 0 0],false⟩:=e4
 simp -implicitDefEqProofs(disch:=omega)only[Nat.reduceEqDiff,↓reduceIte,vcu,↓vcd]
 refine r_lit el30 (out:=#[]) kr9 kr9 fun ga τ3 na s3 wa=>?_
 replace wa:τ3 ga=some ⟨texts [],false⟩:=wa
 replace eb:=s3 _ _ (s2 _ _ eb)
 have d4a:h4≠ga:=ne_of' na e4
 replace e4:=s3 _ _ e4
 have S3:Sub σ τ3:=(s1.trans s2).trans s3
 have z4:σ h4=none:=free_sub s1 n4
 have za:σ ga=none:=free_sub (s1.trans s2) na
 have hX3:=hv0.sub S3
 have x5:lds τ3 b 0 5=some [.int .i64 e.s.O,.int .i64 e.s.E,.int .i64 e.s.M,v1,v2]:=by rw[lds_of eb (by simp)];rfl
 have hval:=exVal_calls (w0:=w0) τ3 _ _ hX3 hb
 unfold exV at hval
 have lnt0:=lenT (ht.sub S3)
 simp -implicitDefEqProofs(disch:=omega)only[Nat.reduceEqDiff,↓reduceIte,vcu,↓vcd,x5,co33]
 refine hval.mono ?_
 rintro _ _ ⟨rfl,rfl⟩
 rename_i τ3
 by_cases hok2:ExOk e∧ts.length≤40
 case neg =>
  have hx:exLines e ts=(ex0,[]):=if_neg hok2
  by_cases hok:ExOk e
  ·have h40:¬ ts.length≤40:=fun h=>hok2 ⟨hok,h⟩
   rw[decide_eq_true hok]
   simp -implicitDefEqProofs(disch:=omega)only[Nat.reduceEqDiff,↓reduceIte,vcu,↓vcd,opK_some,Bool.not_true,lnt0]
   rw[r_build]
   refine⟨(_,#[.int .i64 0,.int .i64 0,.int .i64 0,.slice none 0 0,.slice none 0 0]),⟨ze33,by first|kernel_rfl | (simp -implicitDefEqProofs(disch:=omega)only[Nat.reduceEqDiff,↓reduceIte,vcu,↓vcd];kernel_rfl)⟩,?_⟩
   simp -implicitDefEqProofs(disch:=omega)only[Nat.reduceEqDiff,↓reduceIte,vcu,↓vcd]
   refine r_sets (g:=h4) (i:=0) (C:=[.int .i64 0,.int .i64 0,.int .i64 0,.slice none 0 0,.slice none 0 0]) z9q z9co33 z9r z9z e4 z9l fun T9 k9 e9=>?_
   replace e9:T9 h4=some ⟨[.int .i64 0,.int .i64 0,.int .i64 0,.slice none 0 0,.slice none 0 0],false⟩:=e9
   have l9:lds T9 h4 0 5=some [.int .i64 0,.int .i64 0,.int .i64 0,.slice none 0 0,.slice none 0 0]:=by rw[lds_of e9 (by simp)];rfl
   simp -implicitDefEqProofs(disch:=omega)only[Nat.reduceEqDiff,↓reduceIte,vcu,↓vcd]
   refine fin_ct8 Tryz.results24 T9 (Sub.refl _) (v:=exV (.slice none 0 0) (.slice none 0 0) ex0) (by simp -implicitDefEqProofs(disch:=omega)only[Nat.reduceEqDiff,↓reduceIte,vcu,↓vcd,l9,co33];rfl) ⟨exV (.slice none 0 0) (.slice none 0 0) ex0,.slice (some ⟨ga,0,none⟩) 0 1,?_,k9.sub S3 z4,?_,?_,aside_nil⟩
   ·simp -implicitDefEqProofs(disch:=omega)only[Nat.reduceEqDiff,↓reduceIte,vcu,↓vcd]
   ·rw[hx]
    exact⟨_,_,rfl,.inl ⟨rfl,rfl⟩,.inl ⟨rfl,rfl⟩⟩
   ·rw[hx]
    exact .inr ⟨ga,rfl,k9.at wa d4a.symm,za⟩
  ·rw[decide_eq_false hok]
   simp -implicitDefEqProofs(disch:=omega)only[Nat.reduceEqDiff,↓reduceIte,vcu,↓vcd,opK_some,Bool.not_false]
   rw[r_build]
   refine⟨(_,#[.int .i64 0,.int .i64 0,.int .i64 0,.slice none 0 0,.slice none 0 0]),⟨ze33,by first|kernel_rfl | (simp -implicitDefEqProofs(disch:=omega)only[Nat.reduceEqDiff,↓reduceIte,vcu,↓vcd];kernel_rfl)⟩,?_⟩
   simp -implicitDefEqProofs(disch:=omega)only[Nat.reduceEqDiff,↓reduceIte,vcu,↓vcd]
   refine r_sets (g:=h4) (i:=0) (C:=[.int .i64 0,.int .i64 0,.int .i64 0,.slice none 0 0,.slice none 0 0]) z9q z9co33 z9r z9z e4 z9l fun T9 k9 e9=>?_
   replace e9:T9 h4=some ⟨[.int .i64 0,.int .i64 0,.int .i64 0,.slice none 0 0,.slice none 0 0],false⟩:=e9
   have l9:lds T9 h4 0 5=some [.int .i64 0,.int .i64 0,.int .i64 0,.slice none 0 0,.slice none 0 0]:=by rw[lds_of e9 (by simp)];rfl
   simp -implicitDefEqProofs(disch:=omega)only[Nat.reduceEqDiff,↓reduceIte,vcu,↓vcd]
   refine fin_ct8 Tryz.results24 T9 (Sub.refl _) (v:=exV (.slice none 0 0) (.slice none 0 0) ex0) (by simp -implicitDefEqProofs(disch:=omega)only[Nat.reduceEqDiff,↓reduceIte,vcu,↓vcd,l9,co33];rfl) ⟨exV (.slice none 0 0) (.slice none 0 0) ex0,.slice (some ⟨ga,0,none⟩) 0 1,?_,k9.sub S3 z4,?_,?_,aside_nil⟩
   ·simp -implicitDefEqProofs(disch:=omega)only[Nat.reduceEqDiff,↓reduceIte,vcu,↓vcd]
   ·rw[hx]
    exact⟨_,_,rfl,.inl ⟨rfl,rfl⟩,.inl ⟨rfl,rfl⟩⟩
   ·rw[hx]
    exact .inr ⟨ga,rfl,k9.at wa d4a.symm,za⟩
 obtain⟨hok,h40⟩:=id hok2
 rw[decide_eq_true hok]
 have hcopy:=copyX_rows (w0:=w0) τ3 (exV v1 v2 e) e hX3 hb
 unfold exV at hcopy
 simp -implicitDefEqProofs(disch:=omega)only[Nat.reduceEqDiff,↓reduceIte,vcu,↓vcd,opK_some,Bool.not_true,lnt0,x5,co33]
 refine hcopy.mono ?_
 rintro _ τ4 ⟨g1,g2,rfl,s4,w1,w2,m1,m2⟩
 simp -implicitDefEqProofs(disch:=omega)only[Nat.reduceEqDiff,↓reduceIte,vcu,↓vcd,opK_some]
 refine r_new ze33 fun h7 τ5 n7 s5 e7=>?_
 replace e7:τ5 h7=some ⟨[.int .i64 0,.int .i64 0,.int .i64 0,.slice none 0 0,.slice none 0 0],false⟩:=e7
 have d71:g1≠h7:=ne_of' n7 w1
 have d72:g2≠h7:=ne_of' n7 w2
 have d47:h4≠h7:=ne_of' n7 (s4 _ _ e4)
 have d7a:h7≠ga:=ne_of n7 (s4 _ _ wa)
 have d14:g1≠h4:=ne_of m1 e4
 have d24:g2≠h4:=ne_of m2 e4
 have d1a:g1≠ga:=ne_of m1 wa
 have d2a:g2≠ga:=ne_of m2 wa
 have z1:σ g1=none:=free_sub S3 m1
 have z2:σ g2=none:=free_sub S3 m2
 have z7:σ h7=none:=free_sub (S3.trans s4) n7
 refine r_sets (g:=h7) (i:=0) (C:=[.int .i64 0,.int .i64 0,.int .i64 0,.slice none 0 0,.slice none 0 0]) z9q z9co33 z9r z9z e7 z9l fun τ6 k6 f7=>?_
 replace f7:τ6 h7=some ⟨exC (.slice (some ⟨g1,0,none⟩) e.ps.length 1) (.slice (some ⟨g2,0,none⟩) e.cs.length 3) e,false⟩:=f7
 have S6:Sub σ τ6:=k6.sub ((S3.trans s4).trans s5) z7
 have w61:=k6.at (s5 _ _ w1) d71
 have w62:=k6.at (s5 _ _ w2) d72
 have f4:=k6.at (s5 _ _ (s4 _ _ e4)) d47
 have fa:=k6.at (s5 _ _ (s4 _ _ wa)) d7a.symm
 have hown:OwnX (Bt σ h4 h7 ga) τ6 (exV (.slice (some ⟨g1,0,none⟩) e.ps.length 1) (.slice (some ⟨g2,0,none⟩) e.cs.length 3) e) e :=
  ⟨_,_,rfl,.inr ⟨g1,rfl,w61,Bs_free (Bs_free z1 d14 d71) d1a d1a⟩,.inr ⟨g2,rfl,w62,Bs_free (Bs_free z2 d24 d72) d2a d2a⟩⟩
 have hR:exLines e ts=linesN e ts:=if_pos hok2
 have lnt:=fun (T:AHeap) (hs:Sub σ T)=>lenT (ht.sub hs)
 simp -implicitDefEqProofs(disch:=omega)only[Nat.reduceEqDiff,↓reduceIte,vcu,↓vcd]
 refine vc_loop_c mixed kr9 [1,4,7] (fun m a τ=>∃(k:Nat) (x:Ex) (u1 u2:Value) (qs:List (List UInt8)) (gq:Nat),m+k=ts.length∧a 8=.int .i64 k∧a 6=.slice (some ⟨gq,0,none⟩) k 1∧qs.length=k∧ExOk x∧linesN e ts=((linesN x (ts.drop k)).1,qs++(linesN x (ts.drop k)).2)∧Sub σ τ∧τ h7=some ⟨exC u1 u2 x,false⟩∧τ h4=some ⟨[.int .i64 0,.int .i64 0,.int .i64 0,.slice none 0 0,.slice none 0 0],false⟩∧τ gq=some ⟨texts qs,false⟩∧h4≠gq∧h7≠gq∧σ gq=none∧OwnX (Bt σ h4 h7 gq) τ (exV u1 u2 x) x) ts.length
  ⟨0,e,_,_,[],ga,by simp,rfl,rfl,rfl,hok,by simp,S6,f7,f4,fa,d4a,d7a,za,hown⟩ ?_
 rintro m a τ hc ⟨k,x,u1,u2,qs,gq,hk,h8,h6,hql,hxo,hrun,hs,q7,q4,qa,d4q,d7q,zq,hox⟩
 simp -implicitDefEqProofs(disch:=omega)only[Nat.reduceEqDiff,↓reduceIte,vcu,↓vcd] at hc
 obtain⟨h1,h4',h7',-⟩:=hc
 have hld:=lnt τ hs
 have l7:lds τ h7 0 5=some [.int .i64 x.s.O,.int .i64 x.s.E,.int .i64 x.s.M,u1,u2]:=by rw[lds_of q7 (by simp [exC])];rfl
 by_cases hlt:k < ts.length
 case neg =>
  obtain rfl:k=ts.length:=by omega
  have hone:=exC_one hox
  rw[List.drop_length] at hrun
  have hrun':exLines e ts=(x,qs):=by rw[hR,hrun];simp [linesN]
  simp -implicitDefEqProofs(disch:=omega)only[Nat.reduceEqDiff,↓reduceIte,vcu,↓vcd,h1,h4',h7',h6,h8,hld,l7,co33]
  refine r_sets (g:=h4) (i:=0) (C:=[.int .i64 0,.int .i64 0,.int .i64 0,.slice none 0 0,.slice none 0 0]) (by simp -implicitDefEqProofs(disch:=omega)only[Nat.reduceEqDiff,↓reduceIte,vcu,↓vcd,h4']) z9co33 (by simp -implicitDefEqProofs(disch:=omega)only[Nat.reduceEqDiff,↓reduceIte,vcu,↓vcd];exact hone) z9z q4 z9l fun T9 k9 e9=>?_
  replace e9:T9 h4=some ⟨exC u1 u2 x,false⟩:=e9
  have l9:lds T9 h4 0 5=some [.int .i64 x.s.O,.int .i64 x.s.E,.int .i64 x.s.M,u1,u2]:=by rw[lds_of e9 (by simp [exC])];rfl
  simp -implicitDefEqProofs(disch:=omega)only[Nat.reduceEqDiff,↓reduceIte,vcu,↓vcd,h4',h6]
  refine fin_ct8 Tryz.results24 T9 (Sub.refl _) (v:=exV u1 u2 x) (by simp -implicitDefEqProofs(disch:=omega)only[Nat.reduceEqDiff,↓reduceIte,vcu,↓vcd,h4',l9,co33];rfl) ⟨exV u1 u2 x,.slice (some ⟨gq,0,none⟩) ts.length 1,?_,k9.sub hs z4,?_,?_,aside_of hox⟩
  ·simp -implicitDefEqProofs(disch:=omega)only[Nat.reduceEqDiff,↓reduceIte,vcu,↓vcd]
  ·rw[hrun']
   exact (hox.kept k9 (Bt_4 d4q)).unbt
  ·rw[hrun']
   exact .inr ⟨gq,by rw[hql],k9.at qa d4q.symm,zq⟩
 have hst:=linesN_step hlt hrun
 have hmem:ts.getD k []∈ts:=by simp [List.getD,hlt]
 have hNt:=hN _ hmem
 obtain⟨gt',ot,rfl,hrow⟩:=rowT (ht.sub hs) om9
 have hxt:=hrow k hlt
 generalize ts.getD k []=t at hst hxt hNt
 have hexl:=fun (T:AHeap) (hT:Sub τ T)=>exLine_calls (w0:=w0) T (exV u1 u2 x) x t (hox.ex.sub hT) (exB_of hxo) hNt
 have hE:exLine x t=lineX x t:=if_pos hxo
 have hlx:=(lineX_ok hxo t).1
 rw[hE] at hexl
 generalize lineX x t=ya at hexl hst hlx
 obtain⟨y,an⟩:=ya
 unfold exV at hexl
 dsimp only at hexl hst hlx
 simp -implicitDefEqProofs(disch:=omega)only[Nat.reduceEqDiff,↓reduceIte,vcu,↓vcd,h1,h4',h7',h6,h8,hld]
 refine acodeB_monoX (Q':=fun en a' T=>en=.normal∧(a' 1=a 1∧a' 4=a 4∧a' 6=a 6∧a' 7=a 7∧a' 8=a 8)∧∃p y1 y2,a' 9=.pointer (some ⟨p,0,none⟩)∧a' 10=.string (tx an)∧Sub τ T∧T p=some ⟨exC y1 y2 y,false⟩∧OwnX τ T (exV y1 y2 y) y)
  (region_tree mixed (quiets [1,2,3] (quiets [0,4] (.two 5 (quiets [6,7,8] (.one 9 (.one 10 (quiets [11] .stop)))) 9 (.one 5 (quiets [6,7,8] (.one 10 (quiets [11] .stop))))))) [([0,4],Sub τ)] kr9 kr9 (fun p hp=>by simp only[List.mem_singleton] at hp;subst hp;exact Sub.refl _) ?_) ?_
 ·refine tree_quiets _ _ _ _ sf0 kr9 kr9 ?_
  simp -implicitDefEqProofs(disch:=omega)only[Nat.reduceEqDiff,↓reduceIte,vcu,↓vcd,vcp,h1,h8,h7']
  refine tree_quiets τ _ _ _ sf1 kr9 kr9 ?_
  simp -implicitDefEqProofs(disch:=omega)only[Nat.reduceEqDiff,↓reduceIte,vcu,↓vcd,vcp,h7',l7,hxt,co33]
  refine tree_two rfl rfl ?_ ?_
  ·try simp -implicitDefEqProofs(disch:=omega)only[Nat.reduceEqDiff,↓reduceIte,vcu,↓vcd]
   refine (hexl τ (Sub.refl _)).mono ?_
   rintro _ T1 ⟨_,rfl,p1,y1,y2,rfl,oy1,oy2⟩
   have hoy:OwnX τ T1 (exV y1 y2 y) y:=⟨y1,y2,rfl,oy1,oy2⟩
   have hone:=exC_one hoy
   unfold exV
   simp -implicitDefEqProofs(disch:=omega)only[Nat.reduceEqDiff,↓reduceIte,vcu,↓vcd,opK_some]
   refine⟨keep_of rfl (fun p hp=>by simp only[List.mem_singleton] at hp;subst hp;exact .inr p1),?_⟩
   refine tree_quiets _ _ _ _ sf0 kr9 kr9 ?_
   simp -implicitDefEqProofs(disch:=omega)only[Nat.reduceEqDiff,↓reduceIte,vcu,↓vcd,vcp,List.getElem?_toArray,List.getElem?_cons_zero,List.getElem?_cons_succ]
   refine tree_one rfl ?_
   refine r_new ze33 fun p T2 np sp ep=>?_
   replace ep:T2 p=some ⟨[.int .i64 0,.int .i64 0,.int .i64 0,.slice none 0 0,.slice none 0 0],false⟩:=ep
   simp -implicitDefEqProofs(disch:=omega)only[Nat.reduceEqDiff,↓reduceIte,vcu,↓vcd]
   have P2:=p1.trans sp
   refine⟨keep_of rfl (fun p hp=>by simp only[List.mem_singleton] at hp;subst hp;exact .inr P2),?_⟩
   refine tree_one rfl ?_
   refine r_sets (g:=p) (i:=0) (C:=[.int .i64 0,.int .i64 0,.int .i64 0,.slice none 0 0,.slice none 0 0]) z9q z9co33 (by simp -implicitDefEqProofs(disch:=omega)only[Nat.reduceEqDiff,↓reduceIte,vcu,↓vcd];exact hone) z9z ep z9l fun T3 k3 e3=>?_
   replace e3:T3 p=some ⟨exC y1 y2 y,false⟩:=e3
   have P3:Sub τ T3:=k3.sub P2 (free_sub p1 np)
   have hoy3:OwnX τ T3 (exV y1 y2 y) y:=⟨y1,y2,rfl,(oy1.sub sp).imp id fun⟨g,a1,a2,a3⟩=>⟨g,a1,k3.at a2 (by
     rcases oy1 with ⟨h,_⟩ |⟨g',h,h2,_⟩
     ·rw[a1] at h;cases h
     ·rw[a1] at h;cases h;exact ne_of' np h2),a3⟩,(oy2.sub sp).imp id fun⟨g,a1,a2,a3⟩=>⟨g,a1,k3.at a2 (by
     rcases oy2 with ⟨h,_⟩ |⟨g',h,h2,_⟩
     ·rw[a1] at h;cases h
     ·rw[a1] at h;cases h;exact ne_of' np h2),a3⟩⟩
   simp -implicitDefEqProofs(disch:=omega)only[Nat.reduceEqDiff,↓reduceIte,vcu,↓vcd]
   refine⟨keep_of rfl (fun p hp=>by simp only[List.mem_singleton] at hp;subst hp;exact .inr P3),?_⟩
   refine tree_quiets _ _ _ _ sf0 kr9 kr9 ?_
   simp -implicitDefEqProofs(disch:=omega)only[Nat.reduceEqDiff,↓reduceIte,vcu,↓vcd,vcp]
   refine tree_stop ?_
   exact⟨by first|trivial|rfl,⟨by first|trivial|rfl|simp -implicitDefEqProofs(disch:=omega)only[Nat.reduceEqDiff,↓reduceIte,vcu,↓vcd],by first|trivial|rfl|simp -implicitDefEqProofs(disch:=omega)only[Nat.reduceEqDiff,↓reduceIte,vcu,↓vcd],by first|trivial|rfl|simp -implicitDefEqProofs(disch:=omega)only[Nat.reduceEqDiff,↓reduceIte,vcu,↓vcd],by first|trivial|rfl|simp -implicitDefEqProofs(disch:=omega)only[Nat.reduceEqDiff,↓reduceIte,vcu,↓vcd],by first|trivial|rfl|simp -implicitDefEqProofs(disch:=omega)only[Nat.reduceEqDiff,↓reduceIte,vcu,↓vcd]⟩,p,y1,y2,by first|trivial|rfl|simp -implicitDefEqProofs(disch:=omega)only[Nat.reduceEqDiff,↓reduceIte,vcu,↓vcd],by first|trivial|rfl|simp -implicitDefEqProofs(disch:=omega)only[Nat.reduceEqDiff,↓reduceIte,vcu,↓vcd],P3,e3,hoy3⟩
  ·try simp -implicitDefEqProofs(disch:=omega)only[Nat.reduceEqDiff,↓reduceIte,vcu,↓vcd]
   refine r_new ze33 fun p T1 np sp ep=>?_
   replace ep:T1 p=some ⟨[.int .i64 0,.int .i64 0,.int .i64 0,.slice none 0 0,.slice none 0 0],false⟩:=ep
   simp -implicitDefEqProofs(disch:=omega)only[Nat.reduceEqDiff,↓reduceIte,vcu,↓vcd]
   refine⟨keep_of rfl (fun p hp=>by simp only[List.mem_singleton] at hp;subst hp;exact .inr sp),?_⟩
   refine tree_one rfl ?_
   try simp -implicitDefEqProofs(disch:=omega)only[Nat.reduceEqDiff,↓reduceIte,vcu,↓vcd]
   refine (hexl T1 sp).mono ?_
   rintro _ T2 ⟨_,rfl,p1,y1,y2,rfl,oy1,oy2⟩
   have hoy:OwnX T1 T2 (exV y1 y2 y) y:=⟨y1,y2,rfl,oy1,oy2⟩
   have hone:=exC_one hoy
   unfold exV
   have P2:=sp.trans p1
   simp -implicitDefEqProofs(disch:=omega)only[Nat.reduceEqDiff,↓reduceIte,vcu,↓vcd,opK_some]
   refine⟨keep_of rfl (fun p hp=>by simp only[List.mem_singleton] at hp;subst hp;exact .inr P2),?_⟩
   refine tree_quiets _ _ _ _ sf0 kr9 kr9 ?_
   simp -implicitDefEqProofs(disch:=omega)only[Nat.reduceEqDiff,↓reduceIte,vcu,↓vcd,vcp,List.getElem?_toArray,List.getElem?_cons_zero,List.getElem?_cons_succ]
   refine tree_one rfl ?_
   refine r_sets (g:=p) (i:=0) (C:=[.int .i64 0,.int .i64 0,.int .i64 0,.slice none 0 0,.slice none 0 0]) z9q z9co33 (by simp -implicitDefEqProofs(disch:=omega)only[Nat.reduceEqDiff,↓reduceIte,vcu,↓vcd];exact hone) z9z (p1 _ _ ep) z9l fun T3 k3 e3=>?_
   replace e3:T3 p=some ⟨exC y1 y2 y,false⟩:=e3
   have P3:Sub τ T3:=k3.sub P2 np
   have hoy3:OwnX τ T3 (exV y1 y2 y) y:=(hoy.kept k3 ep).older sp
   simp -implicitDefEqProofs(disch:=omega)only[Nat.reduceEqDiff,↓reduceIte,vcu,↓vcd]
   refine⟨keep_of rfl (fun p hp=>by simp only[List.mem_singleton] at hp;subst hp;exact .inr P3),?_⟩
   refine tree_quiets _ _ _ _ sf0 kr9 kr9 ?_
   simp -implicitDefEqProofs(disch:=omega)only[Nat.reduceEqDiff,↓reduceIte,vcu,↓vcd,vcp]
   refine tree_stop ?_
   exact⟨by first|trivial|rfl,⟨by first|trivial|rfl|simp -implicitDefEqProofs(disch:=omega)only[Nat.reduceEqDiff,↓reduceIte,vcu,↓vcd],by first|trivial|rfl|simp -implicitDefEqProofs(disch:=omega)only[Nat.reduceEqDiff,↓reduceIte,vcu,↓vcd],by first|trivial|rfl|simp -implicitDefEqProofs(disch:=omega)only[Nat.reduceEqDiff,↓reduceIte,vcu,↓vcd],by first|trivial|rfl|simp -implicitDefEqProofs(disch:=omega)only[Nat.reduceEqDiff,↓reduceIte,vcu,↓vcd],by first|trivial|rfl|simp -implicitDefEqProofs(disch:=omega)only[Nat.reduceEqDiff,↓reduceIte,vcu,↓vcd]⟩,p,y1,y2,by first|trivial|rfl|simp -implicitDefEqProofs(disch:=omega)only[Nat.reduceEqDiff,↓reduceIte,vcu,↓vcd],by first|trivial|rfl|simp -implicitDefEqProofs(disch:=omega)only[Nat.reduceEqDiff,↓reduceIte,vcu,↓vcd],P3,e3,hoy3⟩
 rintro _ a' T ⟨rfl,⟨r1,r4,r6,r7,r8⟩,p,y1,y2,r9,r10,PT,ep,hoy⟩
 rw[h1] at r1
 rw[h4'] at r4
 rw[h6] at r6
 rw[h7'] at r7
 rw[h8] at r8
 have q7':=PT _ _ q7
 have q4':=PT _ _ q4
 have qa':=PT _ _ qa
 have hone:=exC_one hoy
 have hoB:=hoy.bt hs q4 q7 qa
 have lp:lds T p 0 5=some [.int .i64 y.s.O,.int .i64 y.s.E,.int .i64 y.s.M,y1,y2]:=by rw[lds_of ep (by simp [exC])];rfl
 simp -implicitDefEqProofs(disch:=omega)only[Nat.reduceEqDiff,↓reduceIte,vcu,↓vcd,r1,r4,r6,r7,r8,r9,r10,lp,co33]
 refine r_sets (g:=h7) (i:=0) (C:=exC u1 u2 x) (by simp -implicitDefEqProofs(disch:=omega)only[Nat.reduceEqDiff,↓reduceIte,vcu,↓vcd,r7]) z9co33 (by simp -implicitDefEqProofs(disch:=omega)only[Nat.reduceEqDiff,↓reduceIte,vcu,↓vcd];exact hone) z9z q7' z9l fun T9 k9 e9=>?_
 replace e9:T9 h7=some ⟨exC y1 y2 y,false⟩:=e9
 have S9:=k9.sub (hs.trans PT) z7
 have f49:=k9.at q4' d47
 have fa9:=k9.at qa' d7q.symm
 have ho9:=hoB.kept k9 (Bt_7 d7q)
 simp -implicitDefEqProofs(disch:=omega)only[Nat.reduceEqDiff,↓reduceIte,vcu,↓vcd,r1,r4,r6,r7,r8,r10]
 refine r_lit el30 (out:=#[.string (tx an)]) (by first|kernel_rfl | (simp -implicitDefEqProofs(disch:=omega)only[Nat.reduceEqDiff,↓reduceIte,vcu,↓vcd,r10];kernel_rfl)) (by rfl) fun e3 T10 n3 s3' w3=>?_
 replace w3:T10 e3=some ⟨texts [an],false⟩:=w3
 refine r_pushX (g:=gq) (e:=e3) (o:=0) (xs:=qs) (ys:=[an]) (m:=1) (len:=k) el30 om9 sl30 (by simp -implicitDefEqProofs(disch:=omega)only[Nat.reduceEqDiff,↓reduceIte,vcu,↓vcd,r6]) (s3' _ _ fa9) hql z9q (textsAt_own w3) rfl om9 fun g' T11 n11 k11 w11=>?_
 have hg4:h4≠g':=ne_of' n11 (s3' _ _ f49)
 have hg7:h7≠g':=ne_of' n11 (s3' _ _ e9)
 simp -implicitDefEqProofs(disch:=omega)only[Nat.reduceEqDiff,↓reduceIte,vcu,↓vcd,r1,r4,r7,r8]
 refine⟨⟨?_,?_,?_,trivial⟩,m - 1,by omega,k+1,y,y1,y2,qs++[an],g',by omega,by simp,rfl,by rw[List.length_append,hql];rfl,hlx,hst,k11.sub (S9.trans s3') zq,k11.at (s3' _ _ e9) d7q,k11.at (s3' _ _ f49) d4q,w11,hg4,hg7,free_sub (S9.trans s3') n11,(ho9.sub s3').grow n11 k11⟩
 all_goals first|trivial|exact h1.symm|exact h4'.symm|exact h7'.symm
theorem exB_0:ExB ex0:=⟨Nat.zero_le _,⟨fun x hx=>absurd hx (by show x ∉ ([]:List (List UInt8));simp),Nat.zero_le _⟩⟩
theorem exLinesB (e:Ex) (ts:List (List UInt8)):ExB (exLines e ts).1∧(exLines e ts).2.length≤1048576:=by
 unfold exLines;split
 ·rename_i h
  refine⟨exB_of (linesN_ok ts h.1).1,?_⟩
  rw[(linesN_ok ts h.1).2.1];omega
 ·exact⟨exB_0,by simp⟩
end Go.Proofs.YtofdnmlpfagibaaGreatDoor
namespace Go.Proofs.YtofdnmlpfagibaaGreatDoor
open Go Go.Abs Go.RowKit
variable {w0:World}
def Valid (xs:List Int):Prop:=Perm xs∧xs.length≤6
instance (xs:List Int):Decidable (Valid xs):=by unfold Valid;infer_instance
def seenB (xs:List Int):List Value:=(List.range 6).map fun (i:Nat)=>.bool (decide ((i:Int)∈xs))
theorem seenB_length (xs:List Int):(seenB xs).length=6:=by simp [seenB]
theorem seenB_get (xs:List Int) {i:Nat} (h:i < 6):(seenB xs)[i]?=some (.bool (decide ((i:Int)∈xs))):=by simp [seenB,h]
theorem seenB_set (xs:List Int) {x:Int} (h0:0≤x) (h:x < 6):(seenB xs).set x.toNat (.bool true)=seenB (xs++[x]):=by
 apply List.ext_getElem?
 intro i
 rw[List.getElem?_set]
 by_cases hi:i < 6
 ·rw[seenB_get _ hi,seenB_get _ hi,seenB_length]
  by_cases e:x.toNat=i
  ·have:(i:Int)=x:=by omega
   rw[if_pos e,if_pos om9];simp [this]
  ·have:(i:Int)≠x:=by omega
   rw[if_neg e];simp [this]
 ·have:x.toNat≠i:=by omega
  rw[if_neg this,List.getElem?_eq_none (by simp [seenB];omega),List.getElem?_eq_none (by simp [seenB];omega)]
set_option maxRecDepth 8000 in
theorem implValid_at (σ:AHeap) (h o:Nat) (xs:List Int) (hv:IntsAt .i64 σ h o xs) (hl:xs.length≤1048576) :
  ACall Tryz.prog w0 49 [.slice (some ⟨h,o,none⟩) xs.length 1] σ fun r σ'=>r=.bool (decide (Valid xs))∧σ'=σ:=by
 refine acall_go mixed Tryz.func49 rfl good49 fun pr=>?_
 by_cases h6:6 < xs.length
 ·simp -implicitDefEqProofs(disch:=omega)only[Nat.reduceEqDiff,↓reduceIte,vcu,↓vcd]
  refine fin_one Tryz.results49 ⟨?_,rfl⟩
  simp -implicitDefEqProofs(disch:=omega)only[Nat.reduceEqDiff,↓reduceIte,vcu,↓vcd]
  have:¬ Valid xs:=fun hV=>by have:=hV.2;omega
  simp [this]
 ·simp -implicitDefEqProofs(disch:=omega)only[Nat.reduceEqDiff,↓reduceIte,vcu,↓vcd]
  refine r_alloc_at ze124 fun g hg=>?_
  simp -implicitDefEqProofs(disch:=omega)only[Nat.reduceEqDiff,↓reduceIte,vcu,↓vcd]
  refine vc_loop mixed kr9 (fun m a σ'=>∃k:Nat,m+k=xs.length∧a 0=.slice (some ⟨h,o,none⟩) xs.length 1∧a 3=.pointer (some ⟨g,0,none⟩)∧a 9=.slice (some ⟨h,o,none⟩) xs.length 1∧a 10=.int .i64 xs.length∧a 11=.int .i64 k ∧
   σ'=σ.upd g (some ⟨seenB (xs.take k),false⟩)∧∀j,j < k→(0≤xs.getD j 0∧xs.getD j 0 < xs.length)∧xs.getD j 0 ∉ xs.take j) xs.length ⟨0,by simp,rfl,rfl,rfl,rfl,rfl,rfl,by simp⟩ ?_
  rintro m a σ' ⟨k,hk,h0,h3,h9,h10,h11,rfl,hp⟩
  by_cases hlt:k < xs.length
  ·have hx:=(hv.sub (sub_upd (o:=some ⟨seenB (xs.take k),false⟩) hg)) k hlt
   have hxm:xs.getD k 0∈xs:=by simp [List.getD,hlt]
   generalize hxx:xs.getD k 0=x at hx hxm
   by_cases hneg:x < 0
   ·simp -implicitDefEqProofs(disch:=omega)only[Nat.reduceEqDiff,↓reduceIte,vcu,↓vcd,h0,h3,h9,h10,h11,hx]
    refine fin_drop Tryz.results49 σ (sub_upd hg) ⟨?_,rfl⟩
    simp -implicitDefEqProofs(disch:=omega)only[Nat.reduceEqDiff,↓reduceIte,vcu,↓vcd]
    have:¬ Valid xs:=fun hV=>by have:=hV.1.1 _ hxm;omega
    simp [this]
   ·by_cases hbig:(xs.length:Int)≤x
    ·simp -implicitDefEqProofs(disch:=omega)only[Nat.reduceEqDiff,↓reduceIte,vcu,↓vcd,h0,h3,h9,h10,h11,hx]
     refine fin_drop Tryz.results49 σ (sub_upd hg) ⟨?_,rfl⟩
     simp -implicitDefEqProofs(disch:=omega)only[Nat.reduceEqDiff,↓reduceIte,vcu,↓vcd]
     have:¬ Valid xs:=fun hV=>by have:=hV.1.1 _ hxm;omega
     simp [this]
    ·have hs:ld (σ.upd g (some ⟨seenB (xs.take k),false⟩)) g (0+x.toNat)=some (.bool (decide (x∈xs.take k))):=by
      rw[ld_upd_same]
      dsimp only
      rw[Nat.zero_add,seenB_get _ om9]
      have:((x.toNat:Nat):Int)=x:=by omega
      rw[this]
     by_cases hm:x∈xs.take k
     ·rw[decide_eq_true hm] at hs
      simp -implicitDefEqProofs(disch:=omega)only[Nat.reduceEqDiff,↓reduceIte,vcu,↓vcd,h0,h3,h9,h10,h11,hx,hs]
      refine fin_drop Tryz.results49 σ (sub_upd hg) ⟨?_,rfl⟩
      simp -implicitDefEqProofs(disch:=omega)only[Nat.reduceEqDiff,↓reduceIte,vcu,↓vcd]
      have:¬ Valid xs:=fun hV=>(nodup_take.1 hV.1.2) k hlt (by rw[hxx];exact hm)
      simp [this]
     ·rw[decide_eq_false hm] at hs
      simp -implicitDefEqProofs(disch:=omega)only[Nat.reduceEqDiff,↓reduceIte,vcu,↓vcd,h0,h3,h9,h10,h11,hx,hs]
      have hst:=sts_one (σ:=σ.upd g (some ⟨seenB (xs.take k),false⟩)) (h:=g) (cs:=seenB (xs.take k)) (i:=0+x.toNat) (v:=.bool true) (AHeap.upd_same _ _ _) (by rw[seenB_length];omega)
      refine r_store_at (h:=g) (i:=0+x.toNat) (by simp -implicitDefEqProofs(disch:=omega)only[Nat.reduceEqDiff,↓reduceIte,vcu,↓vcd,h3]) (by rfl) (by rfl) hst ?_
      have htk:xs.take k++[x]=xs.take (k+1):=by
       rw[List.take_succ_eq_append_getElem hlt]
       simp [List.getD,hlt] at hxx
       rw[hxx]
      rw[Nat.zero_add,seenB_set _ om9 om9,AHeap.upd_upd,htk]
      simp -implicitDefEqProofs(disch:=omega)only[Nat.reduceEqDiff,↓reduceIte,vcu,↓vcd,h0,h3,h9,h10,h11]
      refine⟨m - 1,by omega,k+1,by omega,trivial,trivial,trivial,trivial,by simp,rfl,fun j hj=>?_⟩
      by_cases e:j=k
      ·subst e;rw[hxx];exact⟨by omega,hm⟩
      ·exact hp j om9
  ·simp -implicitDefEqProofs(disch:=omega)only[Nat.reduceEqDiff,↓reduceIte,vcu,↓vcd,h0,h3,h9,h10,h11]
   refine fin_drop Tryz.results49 σ (sub_upd hg) ⟨?_,rfl⟩
   simp -implicitDefEqProofs(disch:=omega)only[Nat.reduceEqDiff,↓reduceIte,vcu,↓vcd]
   have:Valid xs:=by
    refine⟨⟨fun x hx=>?_,nodup_take.2 fun j hj=>(hp j om9).2⟩,by omega⟩
    obtain⟨i,hi,rfl⟩:=List.getElem_of_mem hx
    have:=(hp i om9).1
    simpa [List.getD,hi] using this
   simp [this]
def xorN (a b:Int):Nat:=a.toNat ^^^ b.toNat
theorem conv_byte {b:Int} (h:0≤b∧b≤255):aconv Tryz.prog 5 3 (.int .u8 b)=some (.int .i64 b):=by
 simp only[aconv,Tryz.underlying5,Tryz.underlying3]
 rw[wrap_i64_ok om9]
theorem xor_ok {a b:Int} {t:TypeId} (ha:0≤a∧a < 4611686018427387904) (hb:0≤b∧b < 4611686018427387904) :
  abin Tryz.prog t .xor (.int .i64 a) (.int .i64 b)=some (.int .i64 (xorN a b:Int))∧xorN a b < 4611686018427387904:=by
 unfold xorN
 have hlt:a.toNat ^^^ b.toNat < 2 ^ 62:=Nat.xor_lt_two_pow om9 om9
 refine⟨?_,hlt⟩
 simp only[abin,if_true]
 have e1:(BitVec.ofInt IntKind.i64.bits a ^^^ BitVec.ofInt IntKind.i64.bits b).toNat=a.toNat ^^^ b.toNat:=by
  rw[BitVec.toNat_xor,BitVec.toNat_ofInt,BitVec.toNat_ofInt]
  have h1:(a % ((2 ^ IntKind.i64.bits:Nat):Int)).toNat=a.toNat:=by rw[Int.emod_eq_of_lt ha.1 (by simp [IntKind.bits];omega)]
  have h2:(b % ((2 ^ IntKind.i64.bits:Nat):Int)).toNat=b.toNat:=by rw[Int.emod_eq_of_lt hb.1 (by simp [IntKind.bits];omega)]
  rw[h1,h2]
 rw[e1,wrap_i64_ok om9]
theorem abin_xor' {a b:Int} {t:TypeId} (h:(0≤a∧a < 4611686018427387904)∧0≤b∧b < 4611686018427387904):abin Tryz.prog t .xor (.int .i64 a) (.int .i64 b)=some (.int .i64 (xorN a b:Int)):=(xor_ok h.1 h.2).1
set_option maxRecDepth 8000 in
theorem open_at (σ:AHeap) (h o:Nat) (bs:List Int) (hl:bs.length≤1048576) :
  ACall Tryz.prog w0 26 [.slice (some ⟨h,o,none⟩) bs.length 1] σ fun r σ'=>∃(g m:Nat),σ g=none∧m≤2000∧m≤bs.length∧r=.pointer (some ⟨g,0,none⟩)∧σ'=σ.upd g (some ⟨[.slice (some ⟨h,o,none⟩) m 1,.int .i64 0],false⟩):=by
 refine acall_go mixed Tryz.func26 rfl good26 fun pr=>?_
 by_cases hb:2000 < bs.length
 ·simp -implicitDefEqProofs(disch:=omega)only[Nat.reduceEqDiff,↓reduceIte,vcu,↓vcd]
  rw[r_build]
  refine⟨(_,#[.slice (some ⟨h,o,none⟩) 2000 1,.int .i64 0]),⟨ze102,by simp -implicitDefEqProofs(disch:=omega)only[Nat.reduceEqDiff,↓reduceIte,vcu,↓vcd];kernel_rfl⟩,?_⟩
  simp -implicitDefEqProofs(disch:=omega)only[Nat.reduceEqDiff,↓reduceIte,vcu,↓vcd]
  rw[r_box]
  intro g hg
  rw[vcRH_eq]
  simp -implicitDefEqProofs(disch:=omega)only[Nat.reduceEqDiff,↓reduceIte,vcu,↓vcd]
  refine fin_one Tryz.results26 ⟨g,2000,hg,by omega,by omega,?_,?_⟩
  ·simp -implicitDefEqProofs(disch:=omega)only[Nat.reduceEqDiff,↓reduceIte,vcu,↓vcd]
  ·rfl
 ·simp -implicitDefEqProofs(disch:=omega)only[Nat.reduceEqDiff,↓reduceIte,vcu,↓vcd]
  rw[r_build]
  refine⟨(_,#[.slice (some ⟨h,o,none⟩) bs.length 1,.int .i64 0]),⟨ze102,by simp -implicitDefEqProofs(disch:=omega)only[Nat.reduceEqDiff,↓reduceIte,vcu,↓vcd];kernel_rfl⟩,?_⟩
  simp -implicitDefEqProofs(disch:=omega)only[Nat.reduceEqDiff,↓reduceIte,vcu,↓vcd]
  rw[r_box]
  intro g hg
  rw[vcRH_eq]
  simp -implicitDefEqProofs(disch:=omega)only[Nat.reduceEqDiff,↓reduceIte,vcu,↓vcd]
  refine fin_one Tryz.results26 ⟨g,bs.length,hg,by omega,by omega,?_,?_⟩
  ·simp -implicitDefEqProofs(disch:=omega)only[Nat.reduceEqDiff,↓reduceIte,vcu,↓vcd]
  ·rfl
structure Rd (β σ:AHeap) (g h o:Nat) (bs:List Int) (p:Int):Prop where
 at_:σ g=some ⟨[.slice (some ⟨h,o,none⟩) bs.length 1,.int .i64 p],false⟩
 sub:Sub β σ
 free:β g=none
 ints:IntsAt .u8 β h o bs
 len:bs.length≤2000
 byte:∀b∈bs,0≤b∧b≤255
set_option maxRecDepth 8000 in
theorem pick_at (β σ:AHeap) (g h o:Nat) (bs:List Int) (p n:Int) (hr:Rd β σ g h o bs p) (hp:0≤p∧p≤1000000) (hn:1≤n∧n≤1000000) :
  ACall Tryz.prog w0 29 [.pointer (some ⟨g,0,none⟩),.int .i64 n] σ fun r σ'=>∃z:Int,r=.int .i64 z∧0≤z∧z < n∧Rd β σ' g h o bs (p+1)∧Kept g σ σ':=by
 refine acall_go mixed Tryz.func29 rfl good29 fun pr=>?_
 have hl0:ld σ g (0+0)=some (.slice (some ⟨h,o,none⟩) bs.length 1):=by unfold ld;rw[hr.at_];rfl
 have hl1:ld σ g (0+1)=some (.int .i64 p):=by unfold ld;rw[hr.at_];rfl
 simp -implicitDefEqProofs(disch:=omega)only[Nat.reduceEqDiff,↓reduceIte,vcu,↓vcd,hl0,hl1]
 refine r_store_at (h:=g) (i:=0+1) z9q z9r z9r (by simp -implicitDefEqProofs(disch:=omega)only[Nat.reduceEqDiff,↓reduceIte,vcu,↓vcd];exact sts_one hr.at_ (by simp)) ?_
 generalize hσ:σ.upd g (some ⟨List.set [.slice (some ⟨h,o,none⟩) bs.length 1,.int .i64 p] (0+1) (.int .i64 (p+1)),false⟩)=τ
 have hm0:ld τ g (0+0)=some (.slice (some ⟨h,o,none⟩) bs.length 1):=by rw[←hσ,ld_upd_same];rfl
 have hm1:ld τ g (0+1)=some (.int .i64 (p+1)):=by rw[←hσ,ld_upd_same];rfl
 have hst:Sub β τ:=by rw[←hσ];exact sub_put hr.sub hr.free
 have hbs:IntsAt .u8 τ h o bs:=hr.ints.sub hst
 have hR:Rd β τ g h o bs (p+1):=⟨by rw[←hσ];exact AHeap.upd_same _ _ _,hst,hr.free,hr.ints,hr.len,hr.byte⟩
 have hK:Kept g σ τ:=by rw[←hσ];exact Kept.put _ _ _
 by_cases h0:bs.length=0
 ·simp -implicitDefEqProofs(disch:=omega)only[Nat.reduceEqDiff,↓reduceIte,vcu,↓vcd,hm0,hm1]
  refine fin_one Tryz.results29 ⟨0,?_,by omega,by omega,hR,hK⟩
  simp -implicitDefEqProofs(disch:=omega)only[Nat.reduceEqDiff,↓reduceIte,vcu,↓vcd]
 ·have byte:∀i:Nat,i < bs.length→∃b:Int,ld τ h (o+i)=some (.int .u8 b)∧0≤b∧b≤255:=fun i hi=>⟨_,hbs i hi,hr.byte _ (by simp [List.getD,hi])⟩
  have hlen:=hr.len
  by_cases hpl:p < bs.length
  ·obtain⟨b,hb,hb0⟩:=byte p.toNat om9
   have hcv:=conv_byte hb0
   simp -implicitDefEqProofs(disch:=omega)only[Nat.reduceEqDiff,↓reduceIte,vcu,↓vcd,hm0,hm1,Int.add_sub_cancel,hb,hcv]
   refine fin_one Tryz.results29 ⟨b % n,?_,Int.emod_nonneg _ om9,Int.emod_lt_of_pos _ om9,hR,hK⟩
   simp -implicitDefEqProofs(disch:=omega)only[Nat.reduceEqDiff,↓reduceIte,vcu,↓vcd]
  ·have h1:0≤p % (bs.length:Int)∧p % (bs.length:Int) < bs.length:=⟨Int.emod_nonneg _ om9,Int.emod_lt_of_pos _ om9⟩
   have h2:0≤(p * 7+3) % (bs.length:Int)∧(p * 7+3) % (bs.length:Int) < bs.length:=⟨Int.emod_nonneg _ om9,Int.emod_lt_of_pos _ om9⟩
   have h3:0≤p / (bs.length:Int)∧p / (bs.length:Int)≤p:=⟨Int.ediv_nonneg om9 om9,Int.ediv_le_self _ om9⟩
   obtain⟨b1,hb1,hc1⟩:=byte (p % (bs.length:Int)).toNat om9
   obtain⟨b2,hb2,hc2⟩:=byte ((p * 7+3) % (bs.length:Int)).toNat om9
   have hcv1:=conv_byte hc1
   have hcv2:=conv_byte hc2
   simp -implicitDefEqProofs(disch:=omega)only[Nat.reduceEqDiff,↓reduceIte,vcu,↓vcd,hm0,hm1,Int.add_sub_cancel,hb1,hb2,hcv1,hcv2,abin_xor']
   refine fin_one Tryz.results29 ?_
   simp -implicitDefEqProofs(disch:=omega)only[Nat.reduceEqDiff,↓reduceIte,vcu,↓vcd]
   exact⟨_,rfl,Int.emod_nonneg _ om9,Int.emod_lt_of_pos _ om9,hR,hK⟩
set_option maxRecDepth 8000 in
theorem odd_at (β σ:AHeap) (g h o:Nat) (bs:List Int) (p n:Int) (hr:Rd β σ g h o bs p) (hp:0≤p∧p≤1000000) (hn:1≤n∧n≤1000000) :
  ACall Tryz.prog w0 66 [.pointer (some ⟨g,0,none⟩),.int .i64 n] σ fun r σ'=>∃b:Bool,r=.bool b∧Rd β σ' g h o bs (p+1)∧Kept g σ σ':=by
 refine acall_go mixed Tryz.func66 rfl good66 fun pr=>?_
 simp -implicitDefEqProofs(disch:=omega)only[Nat.reduceEqDiff,↓reduceIte,vcu,↓vcd]
 refine (pick_at β σ g h o bs p n hr hp hn).mono ?_
 rintro r σ' ⟨z,rfl,hz0,hz1,hR,hK⟩
 simp -implicitDefEqProofs(disch:=omega)only[Nat.reduceEqDiff,↓reduceIte,vcu,↓vcd,opK_some]
 refine fin_one Tryz.results66 ⟨decide (z=n - 1),?_,hR,hK⟩
 simp -implicitDefEqProofs(disch:=omega)only[Nat.reduceEqDiff,↓reduceIte,vcu,↓vcd]
set_option maxRecDepth 8000 in
theorem alive_at (σ:AHeap):ACall Tryz.prog w0 17 [] σ fun r σ'=>r=.bool true∧σ'=σ:=by
 refine acall_go mixed Tryz.func17 rfl good17 fun pr=>?_
 simp -implicitDefEqProofs(disch:=omega)only[Nat.reduceEqDiff,↓reduceIte,vcu,↓vcd]
 refine r_lit_at Tryz.underlying88 ze3 (out:=(ints .i64 [1,0]).toArray) kr9 kr9 fun e1 he1=>?_
 simp -implicitDefEqProofs(disch:=omega)only[Nat.reduceEqDiff,↓reduceIte,vcu,↓vcd,co3]
 refine (implValid_at _ e1 0 [1,0] (intsAt_own (AHeap.upd_same _ _ _)) (by simp)).mono ?_
 rintro r σ1 ⟨rfl,rfl⟩
 have d1:decide (Valid [1,0])=true:=by decide
 rw[d1]
 simp -implicitDefEqProofs(disch:=omega)only[Nat.reduceEqDiff,↓reduceIte,vcu,↓vcd,opK_some]
 refine r_lit_at Tryz.underlying88 ze3 (out:=(ints .i64 [1,1]).toArray) kr9 kr9 fun e2 he2=>?_
 simp -implicitDefEqProofs(disch:=omega)only[Nat.reduceEqDiff,↓reduceIte,vcu,↓vcd,co3]
 refine (implValid_at _ e2 0 [1,1] (intsAt_own (AHeap.upd_same _ _ _)) (by simp)).mono ?_
 rintro r σ1 ⟨rfl,rfl⟩
 have d2:decide (Valid [1,1])=false:=by decide
 rw[d2]
 simp -implicitDefEqProofs(disch:=omega)only[Nat.reduceEqDiff,↓reduceIte,vcu,↓vcd,opK_some]
 refine fin_drop Tryz.results17 σ (sub_put (sub_upd he1) (free_sub (sub_upd he1) he2)) ⟨?_,rfl⟩
 simp -implicitDefEqProofs(disch:=omega)only[Nat.reduceEqDiff,↓reduceIte,vcu,↓vcd]
theorem bytes_of {bs:List Int} (hw:∀z∈bs,(Lit.int .u8 z).wf=true):∀b∈bs,0≤b∧b≤255:=fun b hb=>by
 have:=hw b hb;simpa [Lit.wf,IntKind.min,IntKind.max,IntKind.signed,IntKind.bits] using this
set_option maxRecDepth 8000 in
theorem odd0_at (σ:AHeap) (v:Value):ACall Tryz.prog w0 66 [v,.int .i64 0] σ fun r σ'=>r=.bool false∧σ'=σ:=by
 refine acall_go mixed Tryz.func66 rfl good66 fun pr=>?_
 simp -implicitDefEqProofs(disch:=omega)only[Nat.reduceEqDiff,↓reduceIte,vcu,↓vcd]
 refine fin_one Tryz.results66 ⟨?_,rfl⟩
 simp -implicitDefEqProofs(disch:=omega)only[Nat.reduceEqDiff,↓reduceIte,vcu,↓vcd]
theorem Rd.sub' {β σ τ:AHeap} {g h o:Nat} {bs:List Int} {p:Int} (hr:Rd β σ g h o bs p) (hs:Sub σ τ):Rd β τ g h o bs p :=
 ⟨hs _ _ hr.at_,hr.sub.trans hs,hr.free,hr.ints,hr.len,hr.byte⟩
theorem Rd.put {β σ τ:AHeap} {g g2 h o:Nat} {bs:List Int} {p:Int} (hr:Rd β σ g h o bs p) (hk:Kept g2 σ τ) (hne:g2≠g) (hn:β g2=none):Rd β τ g h o bs p :=
 ⟨hk.at hr.at_ hne.symm,hk.sub hr.sub hn,hr.free,hr.ints,hr.len,hr.byte⟩
theorem opened (σ:AHeap) (h o:Nat) (bs:List Int) (hv:IntsAt .u8 σ h o bs) (hl:bs.length≤1048576) (hb:∀b∈bs,0≤b∧b≤255) :
  ACall Tryz.prog w0 26 [.slice (some ⟨h,o,none⟩) bs.length 1] σ fun r τ=>∃(g m:Nat),r=.pointer (some ⟨g,0,none⟩)∧Sub σ τ∧Rd σ τ g h o (bs.take m) 0 :=
 (open_at σ h o bs hl).mono fun r τ ⟨g,m,hg,hm,hmb,hr,hτ⟩=>by
  have htl:(bs.take m).length=m:=by simp;omega
  have hs0:Sub σ τ:=by rw[hτ];exact sub_upd hg
  exact⟨g,m,hr,hs0,⟨by rw[hτ,htl];exact AHeap.upd_same _ _ _,hs0,hg,hv.take m,by rw[htl];exact hm,fun b hb'=>hb b (List.mem_of_mem_take hb')⟩⟩
theorem acodeB_monoY {P:Program} {b:Base} {n:NR} {c:Code} {a:AFrame} {σ:AHeap} {Q Q':AQ} (h:ACodeB P b n c a σ Q') (hq:∀e a σ,Q' e a σ→Q e a σ):ACodeB P b n c a σ Q:=ACode.mono h hq
theorem less_keptY {g:Nat} {σ τ:AHeap} (h:Kept g σ τ):Sub (σ.upd g none) τ:=fun k ob e=>by
 by_cases hk:k=g
 ·subst hk;rw[AHeap.upd_same] at e;cases e
 ·rw[AHeap.upd_ne _ _ hk] at e;exact h k ob hk e
structure DS (β σ0 σ:AHeap) (g h o:Nat) (bs:List Int) (p:Int):Prop where
 rd:Rd β σ g h o bs p
 kp:Kept g σ0 σ
 s0:Sub β σ0
section
variable {β σ0 σ τ:AHeap} {g h o c:Nat} {bs:List Int} {p p':Int}
theorem DS.start (hr:Rd β σ g h o bs p):DS β σ σ g h o bs p:=⟨hr,Kept.refl _ _,hr.sub⟩
theorem DS.new (d:DS β σ0 σ g h o bs p) (hs:Sub σ τ):DS β σ0 τ g h o bs p:=⟨d.rd.sub' hs,d.kp.trans hs.kept,d.s0⟩
theorem DS.put (d:DS β σ0 σ g h o bs p) (hk:Kept c σ τ) (hc:c≠g) (hn:σ0 c=none):DS β σ0 τ g h o bs p:=⟨d.rd.put hk hc (free_sub d.s0 hn),d.kp.step hk (.inl hn),d.s0⟩
theorem DS.step (d:DS β σ0 σ g h o bs p) (hR:Rd β τ g h o bs p') (hK:Kept g σ τ):DS β σ0 τ g h o bs p':=⟨hR,d.kp.trans hK,d.s0⟩
theorem DS.fresh (d:DS β σ0 σ g h o bs p) (hn:σ c=none):σ0 c=none∧c≠g:=by
 have hc:c≠g:=ne_of hn d.rd.at_
 refine⟨?_,hc⟩
 cases e:σ0 c with
 | none=>rfl
 | some ob=>rw[d.kp c ob hc e] at hn;cases hn
theorem DS.on (d:DS β σ0 σ g h o bs p) (d2:DS β σ τ g h o bs p'):DS β σ0 τ g h o bs p':=⟨d2.rd,d.kp.trans d2.kp,d.s0⟩
end
end Go.Proofs.YtofdnmlpfagibaaGreatDoor
namespace Go.Proofs.YtofdnmlpfagibaaGreatDoor
open Go Go.Abs Go.RowKit
variable {w0:World}
theorem lit_text {τ:AHeap} {q:Nat} {ts:List (List UInt8)} {z:Int} (h:τ q=some ⟨texts ts,false⟩) (h0:0≤z) (h1:z < ts.length):ld τ q (0+z.toNat)=some (.string (tx (ts.getD z.toNat []))):=textsAt_own h z.toNat om9
theorem lit_int {τ:AHeap} {q:Nat} {xs:List Int} {z:Int} (h:τ q=some ⟨ints .i64 xs,false⟩) (h0:0≤z) (h1:z < xs.length):ld τ q (0+z.toNat)=some (.int .i64 (xs.getD z.toNat 0)):=own_at h (i:=z.toNat) om9
theorem getD_len {ts:List (List UInt8)} {M:Nat} (h:∀t∈ts,t.length≤M) (i:Nat):(ts.getD i []).length≤M:=by
 by_cases hi:i < ts.length
 ·have:=h _ (List.getElem_mem hi);simpa [List.getD,hi] using this
 ·simp [List.getD,List.getElem?_eq_none (Nat.le_of_not_lt hi)]
theorem odd_any (β σ:AHeap) (g h o:Nat) (bs:List Int) (p n:Int) (hr:Rd β σ g h o bs p) (hp:0≤p∧p≤1000000) (hn:n=0∨1≤n∧n≤1000000) :
  ACall Tryz.prog w0 66 [.pointer (some ⟨g,0,none⟩),.int .i64 n] σ fun r σ'=>∃(b:Bool) (p':Int),r=.bool b∧p≤p'∧p'≤p+1∧Rd β σ' g h o bs p'∧Kept g σ σ':=by
 rcases hn with rfl|hn
 ·refine (odd0_at σ _).mono ?_
  rintro r _ ⟨rfl,rfl⟩
  exact⟨false,p,rfl,by omega,by omega,hr,Kept.refl _ _⟩
 ·refine (odd_at β σ g h o bs p n hr hp hn).mono ?_
  rintro r σ' ⟨b,rfl,hR,hK⟩
  exact⟨b,p+1,rfl,by omega,by omega,hR,hK⟩
set_option maxRecDepth 8000 in
theorem digits_draw (β σ:AHeap) (g h o:Nat) (bs:List Int) (p:Int) (most:Nat) (hr:Rd β σ g h o bs p) (hp:0≤p∧p≤10000) (hm:most≤100) :
  ACall Tryz.prog w0 108 [.pointer (some ⟨g,0,none⟩),.int .i64 most] σ fun r σ'=>∃(xs:List UInt8) (p':Int),r=.string (tx xs)∧xs.length≤most∧p≤p'∧p'≤p+1+most∧DS β σ σ' g h o bs p':=by
 refine acall_go mixed Tryz.func108 rfl good108 fun pr=>?_
 simp -implicitDefEqProofs(disch:=omega)only[Nat.reduceEqDiff,↓reduceIte,vcu,↓vcd]
 refine (pick_at β σ g h o bs p (most+1) hr om9 om9).mono ?_
 rintro r τ1 ⟨z,rfl,a1,a2,hR,hK⟩
 have d1:=(DS.start hr).step hR hK
 clear hR hK
 obtain⟨z0,rfl⟩:∃z0:Nat,z=z0:=⟨z.toNat,by omega⟩
 simp -implicitDefEqProofs(disch:=omega)only[Nat.reduceEqDiff,↓reduceIte,vcu,↓vcd,opK_some]
 refine vc_loop_c mixed kr9 [0] (fun m a σ'=>∃(xs:List UInt8) (p':Int),a 6=.int .i64 m∧a 5=.string (tx xs)∧xs.length+m≤most∧p+1≤p'∧p'+m≤p+1+most∧DS β σ σ' g h o bs p') z0 ⟨[],p+1,rfl,rfl,by simp;omega,by omega,by omega,d1⟩ ?_
 clear d1 a1 a2
 rintro m a τ hc ⟨xs,p',h6,h5,hl,hp1,hp2,d⟩
 simp -implicitDefEqProofs(disch:=omega)only[Nat.reduceEqDiff,↓reduceIte,vcu,↓vcd] at hc
 obtain⟨h0,-⟩:=hc
 by_cases hlt:0 < m
 ·simp -implicitDefEqProofs(disch:=omega)only[Nat.reduceEqDiff,↓reduceIte,vcu,↓vcd,h0,h5,h6]
  refine r_lit el30 (out:=#[.string (tx [48]),.string (tx [49]),.string (tx [50]),.string (tx [51])]) (by simp -implicitDefEqProofs(disch:=omega)only[Nat.reduceEqDiff,↓reduceIte,vcu,↓vcd];kernel_rfl) kr9 fun q τ2 nq sq eq=>?_
  replace eq:τ2 q=some ⟨texts [[48],[49],[50],[51]],false⟩:=eq
  have d2:=d.new sq
  have gq:=(d.fresh nq).2
  clear sq nq d
  simp -implicitDefEqProofs(disch:=omega)only[Nat.reduceEqDiff,↓reduceIte,vcu,↓vcd,h0]
  refine (pick_at β τ2 g h o bs p' 4 d2.rd om9 om9).mono ?_
  rintro r τ3 ⟨w,rfl,b1,b2,hR,hK⟩
  have d3:=d2.step hR hK
  replace eq:=hK.at eq gq
  clear hR hK d2
  have hx:=lit_text eq b1 (by simpa using b2)
  have hc1:([[48],[49],[50],[51]].getD w.toNat []:List UInt8).length≤1:=getD_len (by decide) _
  generalize ([[48],[49],[50],[51]].getD w.toNat []:List UInt8)=c at hx hc1
  have ha:=abin_sadd (P:=Tryz.prog) (t:=9) (xs:=xs) (ys:=c) om9
  simp -implicitDefEqProofs(disch:=omega)only[Nat.reduceEqDiff,↓reduceIte,vcu,↓vcd,opK_some,h0,h5,h6,hx,ha]
  exact⟨by simp [h0],m - 1,by omega,xs++c,p'+1,by congr 1;omega,by simp,by simp;omega,by omega,by omega,d3⟩
 ·simp -implicitDefEqProofs(disch:=omega)only[Nat.reduceEqDiff,↓reduceIte,vcu,↓vcd,h0,h5,h6]
  refine fin_one Tryz.results108 ⟨xs,p',?_,by omega,by omega,by omega,d⟩
  simp -implicitDefEqProofs(disch:=omega)only[Nat.reduceEqDiff,↓reduceIte,vcu,↓vcd,h5]
def OYI (σ0:AHeap) (g:Nat) (τ:AHeap) (v:Value) (xs:List Int):Prop:=∃q,v=.slice (some ⟨q,0,none⟩) xs.length 1∧τ q=some ⟨ints .i64 xs,false⟩∧σ0 q=none∧q≠g
theorem OYI.ints {σ0 τ:AHeap} {g:Nat} {v:Value} {xs:List Int} (w:OYI σ0 g τ v xs):Ints .i64 τ v xs:=let ⟨q,e,h,_⟩:=w;.inr ⟨q,0,e,intsAt_own h⟩
def OYS (σ0:AHeap) (g:Nat) (τ:AHeap) (v:Value) (xs:List (List UInt8)):Prop:=(v=.slice none 0 0∧xs=[])∨∃q,v=.slice (some ⟨q,0,none⟩) xs.length 1∧τ q=some ⟨texts xs,false⟩∧σ0 q=none∧q≠g
theorem OYS.texts {σ0 τ:AHeap} {g:Nat} {v:Value} {xs:List (List UInt8)} (w:OYS σ0 g τ v xs):Texts τ v xs:=w.imp id fun⟨q,e,h,_⟩=>⟨q,0,e,textsAt_own h⟩
theorem OYS.sub {σ0 τ τ':AHeap} {g:Nat} {v:Value} {xs:List (List UInt8)} (w:OYS σ0 g τ v xs) (hs:Sub τ τ'):OYS σ0 g τ' v xs:=w.imp id fun⟨q,e,h,n⟩=>⟨q,e,hs _ _ h,n⟩
theorem OYS.pick {σ0 τ τ':AHeap} {g:Nat} {v:Value} {xs:List (List UInt8)} (w:OYS σ0 g τ v xs) (hk:Kept g τ τ'):OYS σ0 g τ' v xs:=w.imp id fun⟨q,e,h,n1,n2⟩=>⟨q,e,hk.at h n2,n1,n2⟩
theorem planV_small (xs:List Int):(planV xs).length≤10∧∀t∈planV xs,t.length≤3:=by
 by_cases h:pfOk xs
 ·have hp:=(planV_ok h).1
  refine⟨hp.2,fun t ht=>?_⟩
  obtain⟨i,hi,rfl⟩:=List.mem_iff_getElem.1 ht
  have:=(hp.1 i hi).2.1.2
  simpa [List.getD,hi] using this
 ·have:planV xs=[]:=if_neg h
  rw[this];simp
end Go.Proofs.YtofdnmlpfagibaaGreatDoor
