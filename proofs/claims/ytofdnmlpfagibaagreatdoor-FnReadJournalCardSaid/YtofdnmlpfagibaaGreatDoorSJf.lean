/- Parts. -/
import Derived.Test.YtofdnmlpfagibaaGreatDoorSJe
set_option linter.unusedSimpArgs false
set_option linter.unusedVariables false
set_option linter.unusedSectionVars false
namespace Go.Proofs.YtofdnmlpfagibaaGreatDoor
open Go Go.Abs Go.RowKit Go.Dial Go.Clos
variable {w0:World}
theorem specMove_calls (σ:AHeap) (s:Sp) (v:Value) (cs:List Cl) (I O:Int) (hv:Tris σ v cs) (hl:cs.length≤1048576) :
  ACall Tryz.prog w0 95 [.agg #[.int .i64 s.O,.int .i64 s.E,.int .i64 s.M],v,.int .i64 I,.int .i64 O] σ fun r σ'=>∃v,r=.tuple #[v,.bool (decide (mvOk s cs I O))]∧Sub σ σ'∧OwnC σ σ' v (mvL s cs I O) :=
 ACall.tris_arg (pre:=[_]) (post:=[_,_]) kr9 hv fun σ1 h o hs hg=>(specMove_at σ1 s h o cs I O hg hl).mono fun _ _ ⟨v,e,q,O⟩=>⟨v,e,hs.trans q,O.older hs⟩
theorem specDrop_calls (σ:AHeap) (s:Sp) (v:Value) (cs:List Cl) (I:Int) (hv:Tris σ v cs) (hl:cs.length≤1048576) :
  ACall Tryz.prog w0 96 [.agg #[.int .i64 s.O,.int .i64 s.E,.int .i64 s.M],v,.int .i64 I] σ fun r σ'=>∃v,r=.tuple #[v,.bool (dropOk s cs I)]∧Sub σ σ'∧OwnC σ σ' v (drL s cs I) :=
 ACall.tris_arg (pre:=[_]) (post:=[_]) kr9 hv fun σ1 h o hs hg=>(specDrop_at σ1 s h o cs I hg hl).mono fun _ _ ⟨v,e,q,O⟩=>⟨v,e,hs.trans q,O.older hs⟩
theorem ownC_cellV {β σ:AHeap} {v:Value} {xs:List Cl} (h:OwnC β σ v xs):v.cells=#[v]∧Value.oneCell' v=true:=tris_cellV h.tris
set_option maxRecDepth 8000 in
theorem exDo_calls (σ:AHeap) (v:Value) (e:Ex) (d:Dd) (hv:ExV σ v e) (hb:ExB e) (hN:d.t.length≤1048576) :
  ACall Tryz.prog w0 54 [v,ddA d] σ fun r σ'=>∃w,r=.tuple #[w,.bool (exDo e d).2]∧Sub σ σ'∧OwnX σ σ' w (exDo e d).1:=by
 have hv0:=hv
 obtain⟨⟨O,E,M⟩,ps,cs⟩:=e
 obtain⟨v1,v2,rfl,t1,t2⟩:=hv
 have hb0:=hb
 obtain⟨b1,b2,b3⟩:=hb
 obtain⟨K,L,N⟩:=d
 have hNl:N.length≤1048576:=hN
 dsimp only at t1 t2 b1 b2 b3
 unfold exV ddA
 dsimp only
 refine acall_goc mixed Tryz.func54 rfl goodc54 fun pr=>?_
 simp -implicitDefEqProofs(disch:=omega)only[Nat.reduceEqDiff,↓reduceIte,vcu,↓vcd]
 refine r_boxed fun b τ1 nb s1 eb=>?_
 replace eb:τ1 b=some ⟨[.int .i64 O,.int .i64 E,.int .i64 M,v1,v2],false⟩:=eb
 refine r_boxed fun dd τ2 nd s2 ed=>?_
 replace ed:τ2 dd=some ⟨[.int .i64 K,.int .i64 L,.string (tx N)],false⟩:=ed
 refine r_new ze33 fun h4 τ3 n4 s3 e4=>?_
 replace e4:τ3 h4=some ⟨[.int .i64 0,.int .i64 0,.int .i64 0,.slice none 0 0,.slice none 0 0],false⟩:=e4
 replace eb:=s3 _ _ (s2 _ _ eb)
 replace ed:=s3 _ _ ed
 have S3:Sub σ τ3:=s1.trans (s2.trans s3)
 have z4:σ h4=none:=free_sub (s1.trans s2) n4
 replace t1:=t1.sub S3
 replace t2:=t2.sub S3
 have hX3:ExV τ3 (exV v1 v2 ⟨⟨O,E,M⟩,ps,cs⟩) ⟨⟨O,E,M⟩,ps,cs⟩:=⟨v1,v2,rfl,t1,t2⟩
 -- what is loaded of the two arguments,in any later heap
 have y5:∀T,Sub τ3 T→lds T b 0 5=some [.int .i64 O,.int .i64 E,.int .i64 M,v1,v2]:=fun T h=>by rw[lds_of (h _ _ eb) (by simp)];rfl
 have y0:∀T,Sub τ3 T→lds T b 0 3=some [.int .i64 O,.int .i64 E,.int .i64 M]:=fun T h=>lds_three (ld_of (h _ _ eb) rfl) (ld_of (h _ _ eb) rfl) (ld_of (h _ _ eb) rfl)
 have y3:∀T,Sub τ3 T→ld T b (0+3)=some v1:=fun T h=>ld_of (h _ _ eb) rfl
 have y4:∀T,Sub τ3 T→ld T b (0+4)=some v2:=fun T h=>ld_of (h _ _ eb) rfl
 have u0:∀T,Sub τ3 T→ld T dd 0=some (.int .i64 K):=fun T h=>ld_of (h _ _ ed) rfl
 have u1:∀T,Sub τ3 T→ld T dd 1=some (.int .i64 L):=fun T h=>ld_of (h _ _ ed) rfl
 have u2:∀T,Sub τ3 T→ld T dd 2=some (.string (tx N)):=fun T h=>ld_of (h _ _ ed) rfl
 have hval:=exVal_calls (w0:=w0) τ3 _ _ hX3 hb0
 unfold exV at hval
 dsimp only at hval
 have x5:=y5 τ3 (Sub.refl _)
 simp -implicitDefEqProofs(disch:=omega)only[Nat.reduceEqDiff,↓reduceIte,vcu,↓vcd,x5,co33]
 refine hval.mono ?_
 rintro _ _ ⟨rfl,rfl⟩
 rename_i τ3
 by_cases hok:ExOk ⟨⟨O,E,M⟩,ps,cs⟩
 case neg =>
  rw[decide_eq_false hok]
  have hx:exDo ⟨⟨O,E,M⟩,ps,cs⟩ ⟨K,L,N⟩=(ex0,false):=if_neg hok
  simp -implicitDefEqProofs(disch:=omega)only[Nat.reduceEqDiff,↓reduceIte,vcu,↓vcd,opK_some,Bool.not_false]
  rw[r_build]
  refine⟨(_,#[.int .i64 0,.int .i64 0,.int .i64 0,.slice none 0 0,.slice none 0 0]),⟨ze33,by first|kernel_rfl | (simp -implicitDefEqProofs(disch:=omega)only[Nat.reduceEqDiff,↓reduceIte,vcu,↓vcd];kernel_rfl)⟩,?_⟩
  simp -implicitDefEqProofs(disch:=omega)only[Nat.reduceEqDiff,↓reduceIte,vcu,↓vcd]
  refine r_sets (g:=h4) (i:=0) (C:=[.int .i64 0,.int .i64 0,.int .i64 0,.slice none 0 0,.slice none 0 0]) z9q z9co33 z9r z9z e4 z9l fun T9 k9 e9=>?_
  replace e9:T9 h4=some ⟨[.int .i64 0,.int .i64 0,.int .i64 0,.slice none 0 0,.slice none 0 0],false⟩:=e9
  have l9:lds T9 h4 0 5=some [.int .i64 0,.int .i64 0,.int .i64 0,.slice none 0 0,.slice none 0 0]:=by rw[lds_of e9 (by simp)];rfl
  simp -implicitDefEqProofs(disch:=omega)only[Nat.reduceEqDiff,↓reduceIte,vcu,↓vcd]
  refine fin_ct8 Tryz.results54 T9 (Sub.refl _) (v:=exV (.slice none 0 0) (.slice none 0 0) ex0) (by simp -implicitDefEqProofs(disch:=omega)only[Nat.reduceEqDiff,↓reduceIte,vcu,↓vcd,l9,co33];rfl) ⟨exV (.slice none 0 0) (.slice none 0 0) ex0,?_,k9.sub S3 z4,?_⟩
  ·simp -implicitDefEqProofs(disch:=omega)only[Nat.reduceEqDiff,↓reduceIte,vcu,↓vcd]
   rw[hx]
  ·rw[hx]
   exact⟨_,_,rfl,.inl ⟨rfl,rfl⟩,.inl ⟨rfl,rfl⟩⟩
 rw[decide_eq_true hok]
 obtain⟨hE,hP,hL,hC,hSep⟩:=id hok
 dsimp only at hE hP hL hC hSep
 have hc12:=hC.len
 simp -implicitDefEqProofs(disch:=omega)only[Nat.reduceEqDiff,↓reduceIte,vcu,↓vcd,opK_some,Bool.not_true,x5,co33]
 refine (copyX_rows τ3 (exV v1 v2 ⟨⟨O,E,M⟩,ps,cs⟩) _ hX3 hb0).mono ?_
 rintro _ τ4 ⟨g1,g2,rfl,s4,w1,w2,m1,m2⟩
 dsimp only at w1 w2
 unfold exV
 dsimp only
 simp -implicitDefEqProofs(disch:=omega)only[Nat.reduceEqDiff,↓reduceIte,vcu,↓vcd,opK_some]
 refine r_new ze33 fun h6 τ5 n6 s5 e6=>?_
 replace e6:τ5 h6=some ⟨[.int .i64 0,.int .i64 0,.int .i64 0,.slice none 0 0,.slice none 0 0],false⟩:=e6
 have d61:g1≠h6:=ne_of' n6 w1
 have d62:g2≠h6:=ne_of' n6 w2
 have d64:h4≠h6:=ne_of' n6 (s4 _ _ e4)
 have d14:g1≠h4:=ne_of m1 e4
 have d24:g2≠h4:=ne_of m2 e4
 have z1:σ g1=none:=free_sub S3 m1
 have z2:σ g2=none:=free_sub S3 m2
 have z6:τ3 h6=none:=free_sub s4 n6
 refine r_sets (g:=h6) (i:=0) (C:=[.int .i64 0,.int .i64 0,.int .i64 0,.slice none 0 0,.slice none 0 0]) z9q z9co33 z9r z9z e6 z9l fun τ6 k6 f6=>?_
 replace f6:τ6 h6=some ⟨[.int .i64 O,.int .i64 E,.int .i64 M,.slice (some ⟨g1,0,none⟩) ps.length 1,.slice (some ⟨g2,0,none⟩) cs.length 3],false⟩:=f6
 have S6:Sub τ3 τ6:=k6.sub (s4.trans s5) z6
 replace w1:=k6.at (s5 _ _ w1) d61
 replace w2:=k6.at (s5 _ _ w2) d62
 have f4:=k6.at (s5 _ _ (s4 _ _ e4)) d64
 have l6:lds τ6 h6 0 5=some [.int .i64 O,.int .i64 E,.int .i64 M,.slice (some ⟨g1,0,none⟩) ps.length 1,.slice (some ⟨g2,0,none⟩) cs.length 3]:=by rw[lds_of f6 (by simp)];rfl
 have hS6:=S3.trans S6
 have a0:=u0 τ6 S6
 have a1:=u1 τ6 S6
 have a2:=u2 τ6 S6
 have a3:=y3 τ6 S6
 have a4:=y4 τ6 S6
 have a5:=y5 τ6 S6
 have a00:=y0 τ6 S6
 have ln1:=lenT (t1.sub S6)
 have hX6:=hX3.sub S6
 have hno:∀o,doO ⟨⟨O,E,M⟩,ps,cs⟩ ⟨K,L,N⟩=o→exDo ⟨⟨O,E,M⟩,ps,cs⟩ ⟨K,L,N⟩=(match o with|some x=>(x,true)|none=>(⟨⟨O,E,M⟩,ps,cs⟩,false)):=fun o ho=>by unfold exDo;rw[if_pos hok,ho]<;>cases o<;>rfl
 simp -implicitDefEqProofs(disch:=omega)only[Nat.reduceEqDiff,↓reduceIte,vcu,↓vcd,a1,a3,ln1]
 refine (in_calls τ6 L 0 ((ps.length:Int) - 1)).mono ?_
 rintro _ _ ⟨rfl,rfl⟩
 rename_i τ6
 by_cases hin:0≤L∧L≤(ps.length:Int) - 1
 case neg =>
  rw[decide_eq_false hin]
  have hx:=hno none (if_pos hin)
  dsimp only at hx
  simp -implicitDefEqProofs(disch:=omega)only[Nat.reduceEqDiff,↓reduceIte,vcu,↓vcd,opK_some,Bool.not_false,l6,co33]
  try simp -implicitDefEqProofs(disch:=omega)only[Nat.reduceEqDiff,↓reduceIte,vcu,↓vcd,l6,co33]
  refine r_sets (g:=h4) (i:=0) (C:=[.int .i64 0,.int .i64 0,.int .i64 0,.slice none 0 0,.slice none 0 0]) z9q z9co33 z9r z9z f4 z9l fun T9 k9 e9=>?_
  replace e9:T9 h4=some ⟨[.int .i64 O,.int .i64 E,.int .i64 M,.slice (some ⟨g1,0,none⟩) ps.length 1,.slice (some ⟨g2,0,none⟩) cs.length 3],false⟩:=e9
  have l9:lds T9 h4 0 5=some [.int .i64 O,.int .i64 E,.int .i64 M,.slice (some ⟨g1,0,none⟩) ps.length 1,.slice (some ⟨g2,0,none⟩) cs.length 3]:=by rw[lds_of e9 (by simp)];rfl
  simp -implicitDefEqProofs(disch:=omega)only[Nat.reduceEqDiff,↓reduceIte,vcu,↓vcd]
  refine fin_ct8 Tryz.results54 T9 (Sub.refl _) (v:=exV (.slice (some ⟨g1,0,none⟩) ps.length 1) (.slice (some ⟨g2,0,none⟩) cs.length 3) ⟨⟨O,E,M⟩,ps,cs⟩) (by simp -implicitDefEqProofs(disch:=omega)only[Nat.reduceEqDiff,↓reduceIte,vcu,↓vcd,l9,co33];rfl) ⟨exV (.slice (some ⟨g1,0,none⟩) ps.length 1) (.slice (some ⟨g2,0,none⟩) cs.length 3) ⟨⟨O,E,M⟩,ps,cs⟩,?_,k9.sub hS6 z4,?_⟩
  ·simp -implicitDefEqProofs(disch:=omega)only[Nat.reduceEqDiff,↓reduceIte,vcu,↓vcd]
   rw[hx]
  ·rw[hx]
   exact⟨_,_,rfl,.inr ⟨g1,rfl,k9.at w1 d14,z1⟩,.inr ⟨g2,rfl,k9.at w2 d24,z2⟩⟩
 rw[decide_eq_true hin]
 have hdo:doO ⟨⟨O,E,M⟩,ps,cs⟩ ⟨K,L,N⟩=_:=if_neg (fun h=>h hin)
 dsimp only at hdo
 have hpeer:=peerOf_calls (w0:=w0) τ6 _ _ L hX6 hb0
 unfold exV at hpeer
 dsimp only at hpeer
 rw[show peerV ⟨⟨O,E,M⟩,ps,cs⟩ L=peerS cs L from if_pos hok] at hpeer
 simp -implicitDefEqProofs(disch:=omega)only[Nat.reduceEqDiff,↓reduceIte,vcu,↓vcd,opK_some,Bool.not_true,a1,a5,co33]
 refine hpeer.mono ?_
 rintro _ _ ⟨rfl,rfl⟩
 rename_i τ6
 by_cases hK0:K=0
 ·have dk:decide (K=0)=true:=decide_eq_true hK0
  rw[if_pos hK0] at hdo
  have hline:=lineOf_calls (w0:=w0) τ6 _ _ N hX6 hb0
  unfold exV at hline
  dsimp only at hline
  rw[show lineV ⟨⟨O,E,M⟩,ps,cs⟩ N=lineS ps N from if_pos hok] at hline
  have hge:=lineS_ge (ps:=ps) (t:=N)
  have hltp:=lineS_lt (ps:=ps) (t:=N)
  simp -implicitDefEqProofs(disch:=omega)only[Nat.reduceEqDiff,↓reduceIte,vcu,↓vcd,opK_some,a0,a2,a5,dk,co33]
  refine hline.mono ?_
  rintro _ _ ⟨rfl,rfl⟩
  rename_i τ6
  generalize hto:lineS ps N=to at *
  by_cases h1:to < 0
  ·have hx:=hno none (by rw[hdo,if_pos (.inl h1)])
   dsimp only at hx
   simp -implicitDefEqProofs(disch:=omega)only[Nat.reduceEqDiff,↓reduceIte,vcu,↓vcd,opK_some,a1,a5,l6,co33]
   try simp -implicitDefEqProofs(disch:=omega)only[Nat.reduceEqDiff,↓reduceIte,vcu,↓vcd,l6,co33]
   refine r_sets (g:=h4) (i:=0) (C:=[.int .i64 0,.int .i64 0,.int .i64 0,.slice none 0 0,.slice none 0 0]) z9q z9co33 z9r z9z f4 z9l fun T9 k9 e9=>?_
   replace e9:T9 h4=some ⟨[.int .i64 O,.int .i64 E,.int .i64 M,.slice (some ⟨g1,0,none⟩) ps.length 1,.slice (some ⟨g2,0,none⟩) cs.length 3],false⟩:=e9
   have l9:lds T9 h4 0 5=some [.int .i64 O,.int .i64 E,.int .i64 M,.slice (some ⟨g1,0,none⟩) ps.length 1,.slice (some ⟨g2,0,none⟩) cs.length 3]:=by rw[lds_of e9 (by simp)];rfl
   simp -implicitDefEqProofs(disch:=omega)only[Nat.reduceEqDiff,↓reduceIte,vcu,↓vcd]
   refine fin_ct8 Tryz.results54 T9 (Sub.refl _) (v:=exV (.slice (some ⟨g1,0,none⟩) ps.length 1) (.slice (some ⟨g2,0,none⟩) cs.length 3) ⟨⟨O,E,M⟩,ps,cs⟩) (by simp -implicitDefEqProofs(disch:=omega)only[Nat.reduceEqDiff,↓reduceIte,vcu,↓vcd,l9,co33];rfl) ⟨exV (.slice (some ⟨g1,0,none⟩) ps.length 1) (.slice (some ⟨g2,0,none⟩) cs.length 3) ⟨⟨O,E,M⟩,ps,cs⟩,?_,k9.sub hS6 z4,?_⟩
   ·simp -implicitDefEqProofs(disch:=omega)only[Nat.reduceEqDiff,↓reduceIte,vcu,↓vcd]
    rw[hx]
   ·rw[hx]
    exact⟨_,_,rfl,.inr ⟨g1,rfl,k9.at w1 d14,z1⟩,.inr ⟨g2,rfl,k9.at w2 d24,z2⟩⟩
  by_cases h2:to=L
  ·have dl:decide (to=L)=true:=decide_eq_true h2
   have hx:=hno none (by rw[hdo,if_pos (.inr (.inl h2))])
   dsimp only at hx
   simp -implicitDefEqProofs(disch:=omega)only[Nat.reduceEqDiff,↓reduceIte,vcu,↓vcd,opK_some,a1,a5,l6,dl,co33]
   try simp -implicitDefEqProofs(disch:=omega)only[Nat.reduceEqDiff,↓reduceIte,vcu,↓vcd,l6,co33]
   refine r_sets (g:=h4) (i:=0) (C:=[.int .i64 0,.int .i64 0,.int .i64 0,.slice none 0 0,.slice none 0 0]) z9q z9co33 z9r z9z f4 z9l fun T9 k9 e9=>?_
   replace e9:T9 h4=some ⟨[.int .i64 O,.int .i64 E,.int .i64 M,.slice (some ⟨g1,0,none⟩) ps.length 1,.slice (some ⟨g2,0,none⟩) cs.length 3],false⟩:=e9
   have l9:lds T9 h4 0 5=some [.int .i64 O,.int .i64 E,.int .i64 M,.slice (some ⟨g1,0,none⟩) ps.length 1,.slice (some ⟨g2,0,none⟩) cs.length 3]:=by rw[lds_of e9 (by simp)];rfl
   simp -implicitDefEqProofs(disch:=omega)only[Nat.reduceEqDiff,↓reduceIte,vcu,↓vcd]
   refine fin_ct8 Tryz.results54 T9 (Sub.refl _) (v:=exV (.slice (some ⟨g1,0,none⟩) ps.length 1) (.slice (some ⟨g2,0,none⟩) cs.length 3) ⟨⟨O,E,M⟩,ps,cs⟩) (by simp -implicitDefEqProofs(disch:=omega)only[Nat.reduceEqDiff,↓reduceIte,vcu,↓vcd,l9,co33];rfl) ⟨exV (.slice (some ⟨g1,0,none⟩) ps.length 1) (.slice (some ⟨g2,0,none⟩) cs.length 3) ⟨⟨O,E,M⟩,ps,cs⟩,?_,k9.sub hS6 z4,?_⟩
   ·simp -implicitDefEqProofs(disch:=omega)only[Nat.reduceEqDiff,↓reduceIte,vcu,↓vcd]
    rw[hx]
   ·rw[hx]
    exact⟨_,_,rfl,.inr ⟨g1,rfl,k9.at w1 d14,z1⟩,.inr ⟨g2,rfl,k9.at w2 d24,z2⟩⟩
  have dl:decide (to=L)=false:=decide_eq_false h2
  by_cases h3:0≤peerS cs L
  ·have dp:decide (peerS cs L ≥ 0)=true:=decide_eq_true h3
   have hx:=hno none (by rw[hdo,if_pos (.inr (.inr (.inl h3)))])
   dsimp only at hx
   simp -implicitDefEqProofs(disch:=omega)only[Nat.reduceEqDiff,↓reduceIte,vcu,↓vcd,opK_some,a1,a5,l6,dl,dp,co33]
   try simp -implicitDefEqProofs(disch:=omega)only[Nat.reduceEqDiff,↓reduceIte,vcu,↓vcd,l6,co33]
   refine r_sets (g:=h4) (i:=0) (C:=[.int .i64 0,.int .i64 0,.int .i64 0,.slice none 0 0,.slice none 0 0]) z9q z9co33 z9r z9z f4 z9l fun T9 k9 e9=>?_
   replace e9:T9 h4=some ⟨[.int .i64 O,.int .i64 E,.int .i64 M,.slice (some ⟨g1,0,none⟩) ps.length 1,.slice (some ⟨g2,0,none⟩) cs.length 3],false⟩:=e9
   have l9:lds T9 h4 0 5=some [.int .i64 O,.int .i64 E,.int .i64 M,.slice (some ⟨g1,0,none⟩) ps.length 1,.slice (some ⟨g2,0,none⟩) cs.length 3]:=by rw[lds_of e9 (by simp)];rfl
   simp -implicitDefEqProofs(disch:=omega)only[Nat.reduceEqDiff,↓reduceIte,vcu,↓vcd]
   refine fin_ct8 Tryz.results54 T9 (Sub.refl _) (v:=exV (.slice (some ⟨g1,0,none⟩) ps.length 1) (.slice (some ⟨g2,0,none⟩) cs.length 3) ⟨⟨O,E,M⟩,ps,cs⟩) (by simp -implicitDefEqProofs(disch:=omega)only[Nat.reduceEqDiff,↓reduceIte,vcu,↓vcd,l9,co33];rfl) ⟨exV (.slice (some ⟨g1,0,none⟩) ps.length 1) (.slice (some ⟨g2,0,none⟩) cs.length 3) ⟨⟨O,E,M⟩,ps,cs⟩,?_,k9.sub hS6 z4,?_⟩
   ·simp -implicitDefEqProofs(disch:=omega)only[Nat.reduceEqDiff,↓reduceIte,vcu,↓vcd]
    rw[hx]
   ·rw[hx]
    exact⟨_,_,rfl,.inr ⟨g1,rfl,k9.at w1 d14,z1⟩,.inr ⟨g2,rfl,k9.at w2 d24,z2⟩⟩
  have dp:decide (peerS cs L ≥ 0)=false:=decide_eq_false h3
  have hpeer2:=peerOf_calls (w0:=w0) τ6 _ _ to hX6 hb0
  unfold exV at hpeer2
  dsimp only at hpeer2
  rw[show peerV ⟨⟨O,E,M⟩,ps,cs⟩ to=peerS cs to from if_pos hok] at hpeer2
  simp -implicitDefEqProofs(disch:=omega)only[Nat.reduceEqDiff,↓reduceIte,vcu,↓vcd,opK_some,a1,a5,dl,dp,co33]
  refine hpeer2.mono ?_
  rintro _ _ ⟨rfl,rfl⟩
  rename_i τ6
  by_cases h4':0≤peerS cs to
  ·have dq:decide (peerS cs to ≥ 0)=true:=decide_eq_true h4'
   have hx:=hno none (by rw[hdo,if_pos (.inr (.inr (.inr h4')))])
   dsimp only at hx
   simp -implicitDefEqProofs(disch:=omega)only[Nat.reduceEqDiff,↓reduceIte,vcu,↓vcd,opK_some,l6,dq,co33]
   try simp -implicitDefEqProofs(disch:=omega)only[Nat.reduceEqDiff,↓reduceIte,vcu,↓vcd,l6,co33]
   refine r_sets (g:=h4) (i:=0) (C:=[.int .i64 0,.int .i64 0,.int .i64 0,.slice none 0 0,.slice none 0 0]) z9q z9co33 z9r z9z f4 z9l fun T9 k9 e9=>?_
   replace e9:T9 h4=some ⟨[.int .i64 O,.int .i64 E,.int .i64 M,.slice (some ⟨g1,0,none⟩) ps.length 1,.slice (some ⟨g2,0,none⟩) cs.length 3],false⟩:=e9
   have l9:lds T9 h4 0 5=some [.int .i64 O,.int .i64 E,.int .i64 M,.slice (some ⟨g1,0,none⟩) ps.length 1,.slice (some ⟨g2,0,none⟩) cs.length 3]:=by rw[lds_of e9 (by simp)];rfl
   simp -implicitDefEqProofs(disch:=omega)only[Nat.reduceEqDiff,↓reduceIte,vcu,↓vcd]
   refine fin_ct8 Tryz.results54 T9 (Sub.refl _) (v:=exV (.slice (some ⟨g1,0,none⟩) ps.length 1) (.slice (some ⟨g2,0,none⟩) cs.length 3) ⟨⟨O,E,M⟩,ps,cs⟩) (by simp -implicitDefEqProofs(disch:=omega)only[Nat.reduceEqDiff,↓reduceIte,vcu,↓vcd,l9,co33];rfl) ⟨exV (.slice (some ⟨g1,0,none⟩) ps.length 1) (.slice (some ⟨g2,0,none⟩) cs.length 3) ⟨⟨O,E,M⟩,ps,cs⟩,?_,k9.sub hS6 z4,?_⟩
   ·simp -implicitDefEqProofs(disch:=omega)only[Nat.reduceEqDiff,↓reduceIte,vcu,↓vcd]
    rw[hx]
   ·rw[hx]
    exact⟨_,_,rfl,.inr ⟨g1,rfl,k9.at w1 d14,z1⟩,.inr ⟨g2,rfl,k9.at w2 d24,z2⟩⟩
  have dq:decide (peerS cs to ≥ 0)=false:=decide_eq_false h4'
  have hnp:∀x,¬ 0≤peerS cs x→∀y,¬ Pr cs x y:=fun x hx=>by
   rcases peerS_spec cs x with hh |⟨_,hh⟩
   ·exact absurd ((Pr.lines hC hh).2.1) hx
   ·exact hh
  have hL1:L < (ps.length:Int):=by omega
  have hto0:0≤to:=by omega
  obtain⟨hl1,hl2,-,-⟩:=free_move (e:=⟨⟨O,E,M⟩,ps,cs⟩) hok (i:=L) (o:=to) ⟨hin.1,hL1⟩ ⟨hto0,hltp⟩ (fun h=>h2 h.symm) (hnp L h3) (hnp to h4')
  have hmv:mvOk ⟨O,E,M⟩ cs L to:=⟨⟨hC,hE⟩,hl1,hl2⟩
  have hmL:mvL ⟨O,E,M⟩ cs L to=moveL ⟨O,E,M⟩ cs L to:=mvL_ok hmv
  have hx:=hno (some ⟨⟨O,E,M⟩,ps,moveL ⟨O,E,M⟩ cs L to⟩) (by rw[hdo,if_neg (by rintro (h|h|h|h)<;>first|exact h1 h|exact h2 h|exact h3 h|exact h4' h)])
  dsimp only at hx
  have hmove:=specMove_calls (w0:=w0) τ6 ⟨O,E,M⟩ v2 cs L to (t2.sub S6) b3
  rw[decide_eq_true hmv,hmL] at hmove
  dsimp only at hmove
  simp -implicitDefEqProofs(disch:=omega)only[Nat.reduceEqDiff,↓reduceIte,vcu,↓vcd,opK_some,dq,a00,a4,a1,co29,Nat.add_zero]
  refine hmove.mono ?_
  rintro _ τ7 ⟨vx,rfl,s7,ox⟩
  have hcv:=ownC_cellV ox
  have f6':=s7 _ _ f6
  have w1':=s7 _ _ w1
  have f4':=s7 _ _ f4
  have S7:=hS6.trans s7
  simp -implicitDefEqProofs(disch:=omega)only[Nat.reduceEqDiff,↓reduceIte,vcu,↓vcd,opK_some,List.getElem?_toArray,List.getElem?_cons_zero,List.getElem?_cons_succ,Bool.not_true]
  refine r_set (g:=h6) (i:=4) z9q (by simp -implicitDefEqProofs(disch:=omega)only[Nat.reduceEqDiff,↓reduceIte,vcu,↓vcd];exact hcv.1) co31 (by simp -implicitDefEqProofs(disch:=omega)only[Nat.reduceEqDiff,↓reduceIte,vcu,↓vcd];exact hcv.2) f6' (by simp) fun τ8 k8 e8=>?_
  replace e8:τ8 h6=some ⟨[.int .i64 O,.int .i64 E,.int .i64 M,.slice (some ⟨g1,0,none⟩) ps.length 1,vx],false⟩:=by rw[e8];simp -implicitDefEqProofs(disch:=omega)only[Nat.reduceEqDiff,↓reduceIte,vcu,↓vcd];rfl
  have l8:lds τ8 h6 0 5=some [.int .i64 O,.int .i64 E,.int .i64 M,.slice (some ⟨g1,0,none⟩) ps.length 1,vx]:=by rw[lds_of e8 (by simp)];rfl
  have w8:=k8.at w1' d61
  have f48:=k8.at f4' d64
  have o8:=ox.kept k8 f6
  have S8:=k8.sub S7 (free_sub S3 z6)
  simp -implicitDefEqProofs(disch:=omega)only[Nat.reduceEqDiff,↓reduceIte,vcu,↓vcd,l8,co33]
  refine r_sets (g:=h4) (i:=0) (C:=[.int .i64 0,.int .i64 0,.int .i64 0,.slice none 0 0,.slice none 0 0]) z9q z9co33 (by simp -implicitDefEqProofs(disch:=omega)only[Nat.reduceEqDiff,↓reduceIte,vcu,↓vcd];exact (show ([.int .i64 O,.int .i64 E,.int .i64 M,.slice (some ⟨g1,0,none⟩) ps.length 1,vx]:List Value).all Value.oneCell'=true from by simp only[List.all_cons,List.all_nil,hcv.2];rfl)) z9z f48 z9l fun T9 k9 e9=>?_
  replace e9:T9 h4=some ⟨[.int .i64 O,.int .i64 E,.int .i64 M,.slice (some ⟨g1,0,none⟩) ps.length 1,vx],false⟩:=e9
  have l9:lds T9 h4 0 5=some [.int .i64 O,.int .i64 E,.int .i64 M,.slice (some ⟨g1,0,none⟩) ps.length 1,vx]:=by rw[lds_of e9 (by simp)];rfl
  simp -implicitDefEqProofs(disch:=omega)only[Nat.reduceEqDiff,↓reduceIte,vcu,↓vcd]
  refine fin_ct8 Tryz.results54 T9 (Sub.refl _) (v:=exV (.slice (some ⟨g1,0,none⟩) ps.length 1) vx ⟨⟨O,E,M⟩,ps,moveL ⟨O,E,M⟩ cs L to⟩) (by simp -implicitDefEqProofs(disch:=omega)only[Nat.reduceEqDiff,↓reduceIte,vcu,↓vcd,l9,co33];rfl) ⟨exV (.slice (some ⟨g1,0,none⟩) ps.length 1) vx ⟨⟨O,E,M⟩,ps,moveL ⟨O,E,M⟩ cs L to⟩,?_,k9.sub S8 z4,?_⟩
  ·simp -implicitDefEqProofs(disch:=omega)only[Nat.reduceEqDiff,↓reduceIte,vcu,↓vcd]
   rw[hx]
  ·rw[hx]
   exact⟨_,_,rfl,.inr ⟨g1,rfl,k9.at w8 d14,z1⟩,(o8.kept k9 f4).older hS6⟩
 have dk0:decide (K=0)=false:=decide_eq_false hK0
 rw[if_neg hK0] at hdo
 by_cases hK1:K=1
 ·have dk1:decide (K=1)=true:=decide_eq_true hK1
  rw[if_pos hK1] at hdo
  by_cases h1:peerS cs L < 0
  ·have hx:=hno none (by rw[hdo,if_pos (.inl h1)])
   dsimp only at hx
   simp -implicitDefEqProofs(disch:=omega)only[Nat.reduceEqDiff,↓reduceIte,vcu,↓vcd,opK_some,a0,dk0,dk1,l6,co33]
   try simp -implicitDefEqProofs(disch:=omega)only[Nat.reduceEqDiff,↓reduceIte,vcu,↓vcd,l6,co33]
   refine r_sets (g:=h4) (i:=0) (C:=[.int .i64 0,.int .i64 0,.int .i64 0,.slice none 0 0,.slice none 0 0]) z9q z9co33 z9r z9z f4 z9l fun T9 k9 e9=>?_
   replace e9:T9 h4=some ⟨[.int .i64 O,.int .i64 E,.int .i64 M,.slice (some ⟨g1,0,none⟩) ps.length 1,.slice (some ⟨g2,0,none⟩) cs.length 3],false⟩:=e9
   have l9:lds T9 h4 0 5=some [.int .i64 O,.int .i64 E,.int .i64 M,.slice (some ⟨g1,0,none⟩) ps.length 1,.slice (some ⟨g2,0,none⟩) cs.length 3]:=by rw[lds_of e9 (by simp)];rfl
   simp -implicitDefEqProofs(disch:=omega)only[Nat.reduceEqDiff,↓reduceIte,vcu,↓vcd]
   refine fin_ct8 Tryz.results54 T9 (Sub.refl _) (v:=exV (.slice (some ⟨g1,0,none⟩) ps.length 1) (.slice (some ⟨g2,0,none⟩) cs.length 3) ⟨⟨O,E,M⟩,ps,cs⟩) (by simp -implicitDefEqProofs(disch:=omega)only[Nat.reduceEqDiff,↓reduceIte,vcu,↓vcd,l9,co33];rfl) ⟨exV (.slice (some ⟨g1,0,none⟩) ps.length 1) (.slice (some ⟨g2,0,none⟩) cs.length 3) ⟨⟨O,E,M⟩,ps,cs⟩,?_,k9.sub hS6 z4,?_⟩
   ·simp -implicitDefEqProofs(disch:=omega)only[Nat.reduceEqDiff,↓reduceIte,vcu,↓vcd]
    rw[hx]
   ·rw[hx]
    exact⟨_,_,rfl,.inr ⟨g1,rfl,k9.at w1 d14,z1⟩,.inr ⟨g2,rfl,k9.at w2 d24,z2⟩⟩
  by_cases h2:N=[]
  case neg =>
   have dn:decide (N=[])=false:=decide_eq_false h2
   have hx:=hno none (by rw[hdo,if_pos (.inr h2)])
   dsimp only at hx
   simp -implicitDefEqProofs(disch:=omega)only[Nat.reduceEqDiff,↓reduceIte,vcu,↓vcd,opK_some,a0,a2,dk0,dk1,tx_nil,abin_sneq,dn,Bool.not_false,l6,co33]
   try simp -implicitDefEqProofs(disch:=omega)only[Nat.reduceEqDiff,↓reduceIte,vcu,↓vcd,l6,co33]
   refine r_sets (g:=h4) (i:=0) (C:=[.int .i64 0,.int .i64 0,.int .i64 0,.slice none 0 0,.slice none 0 0]) z9q z9co33 z9r z9z f4 z9l fun T9 k9 e9=>?_
   replace e9:T9 h4=some ⟨[.int .i64 O,.int .i64 E,.int .i64 M,.slice (some ⟨g1,0,none⟩) ps.length 1,.slice (some ⟨g2,0,none⟩) cs.length 3],false⟩:=e9
   have l9:lds T9 h4 0 5=some [.int .i64 O,.int .i64 E,.int .i64 M,.slice (some ⟨g1,0,none⟩) ps.length 1,.slice (some ⟨g2,0,none⟩) cs.length 3]:=by rw[lds_of e9 (by simp)];rfl
   simp -implicitDefEqProofs(disch:=omega)only[Nat.reduceEqDiff,↓reduceIte,vcu,↓vcd]
   refine fin_ct8 Tryz.results54 T9 (Sub.refl _) (v:=exV (.slice (some ⟨g1,0,none⟩) ps.length 1) (.slice (some ⟨g2,0,none⟩) cs.length 3) ⟨⟨O,E,M⟩,ps,cs⟩) (by simp -implicitDefEqProofs(disch:=omega)only[Nat.reduceEqDiff,↓reduceIte,vcu,↓vcd,l9,co33];rfl) ⟨exV (.slice (some ⟨g1,0,none⟩) ps.length 1) (.slice (some ⟨g2,0,none⟩) cs.length 3) ⟨⟨O,E,M⟩,ps,cs⟩,?_,k9.sub hS6 z4,?_⟩
   ·simp -implicitDefEqProofs(disch:=omega)only[Nat.reduceEqDiff,↓reduceIte,vcu,↓vcd]
    rw[hx]
   ·rw[hx]
    exact⟨_,_,rfl,.inr ⟨g1,rfl,k9.at w1 d14,z1⟩,.inr ⟨g2,rfl,k9.at w2 d24,z2⟩⟩
  have dn:decide (N=[])=true:=decide_eq_true h2
  rw[if_neg (by rintro (h|h)<;>first|exact h1 h|exact h h2)] at hdo
  have hdrop:=specDrop_calls (w0:=w0) τ6 ⟨O,E,M⟩ v2 cs L (t2.sub S6) b3
  rw[(drL_ok hC).1,(drL_ok hC).2] at hdrop
  dsimp only at hdrop
  simp -implicitDefEqProofs(disch:=omega)only[Nat.reduceEqDiff,↓reduceIte,vcu,↓vcd,opK_some,a0,a1,a2,a00,a4,dk0,dk1,tx_nil,abin_sneq,dn,Bool.not_true,co29,Nat.add_zero]
  refine hdrop.mono ?_
  rintro _ τ7 ⟨vx,rfl,s7,ox⟩
  have f6':=s7 _ _ f6
  have w1':=s7 _ _ w1
  have f4':=s7 _ _ f4
  have S7:=hS6.trans s7
  by_cases hlen:(dropL cs L).length < cs.length
  ·have dd':decide ((dropL cs L).length < cs.length)=true:=decide_eq_true hlen
   have hcv:=ownC_cellV ox
   have hx:=hno (some ⟨⟨O,E,M⟩,ps,dropL cs L⟩) (by rw[hdo,if_pos hlen])
   dsimp only at hx
   simp -implicitDefEqProofs(disch:=omega)only[Nat.reduceEqDiff,↓reduceIte,vcu,↓vcd,opK_some,List.getElem?_toArray,List.getElem?_cons_zero,List.getElem?_cons_succ,dd',Bool.not_true]
   refine r_set (g:=h6) (i:=4) z9q (by simp -implicitDefEqProofs(disch:=omega)only[Nat.reduceEqDiff,↓reduceIte,vcu,↓vcd];exact hcv.1) co31 (by simp -implicitDefEqProofs(disch:=omega)only[Nat.reduceEqDiff,↓reduceIte,vcu,↓vcd];exact hcv.2) f6' (by simp) fun τ8 k8 e8=>?_
   replace e8:τ8 h6=some ⟨[.int .i64 O,.int .i64 E,.int .i64 M,.slice (some ⟨g1,0,none⟩) ps.length 1,vx],false⟩:=by rw[e8];simp -implicitDefEqProofs(disch:=omega)only[Nat.reduceEqDiff,↓reduceIte,vcu,↓vcd];rfl
   have l8:lds τ8 h6 0 5=some [.int .i64 O,.int .i64 E,.int .i64 M,.slice (some ⟨g1,0,none⟩) ps.length 1,vx]:=by rw[lds_of e8 (by simp)];rfl
   have w8:=k8.at w1' d61
   have f48:=k8.at f4' d64
   have o8:=ox.kept k8 f6
   have S8:=k8.sub S7 (free_sub S3 z6)
   simp -implicitDefEqProofs(disch:=omega)only[Nat.reduceEqDiff,↓reduceIte,vcu,↓vcd,l8,co33]
   refine r_sets (g:=h4) (i:=0) (C:=[.int .i64 0,.int .i64 0,.int .i64 0,.slice none 0 0,.slice none 0 0]) z9q z9co33 (by simp -implicitDefEqProofs(disch:=omega)only[Nat.reduceEqDiff,↓reduceIte,vcu,↓vcd];exact (show ([.int .i64 O,.int .i64 E,.int .i64 M,.slice (some ⟨g1,0,none⟩) ps.length 1,vx]:List Value).all Value.oneCell'=true from by simp only[List.all_cons,List.all_nil,hcv.2];rfl)) z9z f48 z9l fun T9 k9 e9=>?_
   replace e9:T9 h4=some ⟨[.int .i64 O,.int .i64 E,.int .i64 M,.slice (some ⟨g1,0,none⟩) ps.length 1,vx],false⟩:=e9
   have l9:lds T9 h4 0 5=some [.int .i64 O,.int .i64 E,.int .i64 M,.slice (some ⟨g1,0,none⟩) ps.length 1,vx]:=by rw[lds_of e9 (by simp)];rfl
   simp -implicitDefEqProofs(disch:=omega)only[Nat.reduceEqDiff,↓reduceIte,vcu,↓vcd]
   refine fin_ct8 Tryz.results54 T9 (Sub.refl _) (v:=exV (.slice (some ⟨g1,0,none⟩) ps.length 1) vx ⟨⟨O,E,M⟩,ps,dropL cs L⟩) (by simp -implicitDefEqProofs(disch:=omega)only[Nat.reduceEqDiff,↓reduceIte,vcu,↓vcd,l9,co33];rfl) ⟨exV (.slice (some ⟨g1,0,none⟩) ps.length 1) vx ⟨⟨O,E,M⟩,ps,dropL cs L⟩,?_,k9.sub S8 z4,?_⟩
   ·simp -implicitDefEqProofs(disch:=omega)only[Nat.reduceEqDiff,↓reduceIte,vcu,↓vcd]
    rw[hx]
   ·rw[hx]
    exact⟨_,_,rfl,.inr ⟨g1,rfl,k9.at w8 d14,z1⟩,(o8.kept k9 f4).older hS6⟩
  have dd':decide ((dropL cs L).length < cs.length)=false:=decide_eq_false hlen
  have hx:=hno (some ⟨⟨O,E,M⟩,ps,dropL cs (peerS cs L)⟩) (by rw[hdo,if_neg hlen])
  dsimp only at hx
  have hdrop2:=specDrop_calls (w0:=w0) τ7 ⟨O,E,M⟩ v2 cs (peerS cs L) ((t2.sub S6).sub s7) b3
  rw[(drL_ok hC).1,(drL_ok hC).2] at hdrop2
  dsimp only at hdrop2
  have c00:=y0 τ7 (S6.trans s7)
  have c4:=y4 τ7 (S6.trans s7)
  simp -implicitDefEqProofs(disch:=omega)only[Nat.reduceEqDiff,↓reduceIte,vcu,↓vcd,opK_some,List.getElem?_toArray,List.getElem?_cons_zero,List.getElem?_cons_succ,dd',Bool.not_false,c00,c4,co29,Nat.add_zero]
  refine hdrop2.mono ?_
  rintro _ τ8' ⟨vx,rfl,s8',ox'⟩
  have hcv:=ownC_cellV ox'
  have f6'':=s8' _ _ f6'
  have w1'':=s8' _ _ w1'
  have f4'':=s8' _ _ f4'
  have S8':=S7.trans s8'
  simp -implicitDefEqProofs(disch:=omega)only[Nat.reduceEqDiff,↓reduceIte,vcu,↓vcd,opK_some,List.getElem?_toArray,List.getElem?_cons_zero,List.getElem?_cons_succ]
  refine r_set (g:=h6) (i:=4) z9q (by simp -implicitDefEqProofs(disch:=omega)only[Nat.reduceEqDiff,↓reduceIte,vcu,↓vcd];exact hcv.1) co31 (by simp -implicitDefEqProofs(disch:=omega)only[Nat.reduceEqDiff,↓reduceIte,vcu,↓vcd];exact hcv.2) f6'' (by simp) fun τ8 k8 e8=>?_
  replace e8:τ8 h6=some ⟨[.int .i64 O,.int .i64 E,.int .i64 M,.slice (some ⟨g1,0,none⟩) ps.length 1,vx],false⟩:=by rw[e8];simp -implicitDefEqProofs(disch:=omega)only[Nat.reduceEqDiff,↓reduceIte,vcu,↓vcd];rfl
  have l8:lds τ8 h6 0 5=some [.int .i64 O,.int .i64 E,.int .i64 M,.slice (some ⟨g1,0,none⟩) ps.length 1,vx]:=by rw[lds_of e8 (by simp)];rfl
  have w8:=k8.at w1'' d61
  have f48:=k8.at f4'' d64
  have o8:=ox'.kept k8 f6'
  have S8:=k8.sub S8' (free_sub S3 z6)
  simp -implicitDefEqProofs(disch:=omega)only[Nat.reduceEqDiff,↓reduceIte,vcu,↓vcd,l8,co33]
  refine r_sets (g:=h4) (i:=0) (C:=[.int .i64 0,.int .i64 0,.int .i64 0,.slice none 0 0,.slice none 0 0]) z9q z9co33 (by simp -implicitDefEqProofs(disch:=omega)only[Nat.reduceEqDiff,↓reduceIte,vcu,↓vcd];exact (show ([.int .i64 O,.int .i64 E,.int .i64 M,.slice (some ⟨g1,0,none⟩) ps.length 1,vx]:List Value).all Value.oneCell'=true from by simp only[List.all_cons,List.all_nil,hcv.2];rfl)) z9z f48 z9l fun T9 k9 e9=>?_
  replace e9:T9 h4=some ⟨[.int .i64 O,.int .i64 E,.int .i64 M,.slice (some ⟨g1,0,none⟩) ps.length 1,vx],false⟩:=e9
  have l9:lds T9 h4 0 5=some [.int .i64 O,.int .i64 E,.int .i64 M,.slice (some ⟨g1,0,none⟩) ps.length 1,vx]:=by rw[lds_of e9 (by simp)];rfl
  simp -implicitDefEqProofs(disch:=omega)only[Nat.reduceEqDiff,↓reduceIte,vcu,↓vcd]
  refine fin_ct8 Tryz.results54 T9 (Sub.refl _) (v:=exV (.slice (some ⟨g1,0,none⟩) ps.length 1) vx ⟨⟨O,E,M⟩,ps,dropL cs (peerS cs L)⟩) (by simp -implicitDefEqProofs(disch:=omega)only[Nat.reduceEqDiff,↓reduceIte,vcu,↓vcd,l9,co33];rfl) ⟨exV (.slice (some ⟨g1,0,none⟩) ps.length 1) vx ⟨⟨O,E,M⟩,ps,dropL cs (peerS cs L)⟩,?_,k9.sub S8 z4,?_⟩
  ·simp -implicitDefEqProofs(disch:=omega)only[Nat.reduceEqDiff,↓reduceIte,vcu,↓vcd]
   rw[hx]
  ·rw[hx]
   exact⟨_,_,rfl,.inr ⟨g1,rfl,k9.at w8 d14,z1⟩,(o8.kept k9 f4').older S7⟩
 have dk1:decide (K=1)=false:=decide_eq_false hK1
 rw[if_neg hK1] at hdo
 by_cases hK2:K=2
 case neg =>
  have dk2:decide (K=2)=false:=decide_eq_false hK2
  have hx:=hno none (by rw[hdo,if_neg hK2])
  dsimp only at hx
  simp -implicitDefEqProofs(disch:=omega)only[Nat.reduceEqDiff,↓reduceIte,vcu,↓vcd,opK_some,a0,dk0,dk1,dk2,l6,co33]
  try simp -implicitDefEqProofs(disch:=omega)only[Nat.reduceEqDiff,↓reduceIte,vcu,↓vcd,l6,co33]
  refine r_sets (g:=h4) (i:=0) (C:=[.int .i64 0,.int .i64 0,.int .i64 0,.slice none 0 0,.slice none 0 0]) z9q z9co33 z9r z9z f4 z9l fun T9 k9 e9=>?_
  replace e9:T9 h4=some ⟨[.int .i64 O,.int .i64 E,.int .i64 M,.slice (some ⟨g1,0,none⟩) ps.length 1,.slice (some ⟨g2,0,none⟩) cs.length 3],false⟩:=e9
  have l9:lds T9 h4 0 5=some [.int .i64 O,.int .i64 E,.int .i64 M,.slice (some ⟨g1,0,none⟩) ps.length 1,.slice (some ⟨g2,0,none⟩) cs.length 3]:=by rw[lds_of e9 (by simp)];rfl
  simp -implicitDefEqProofs(disch:=omega)only[Nat.reduceEqDiff,↓reduceIte,vcu,↓vcd]
  refine fin_ct8 Tryz.results54 T9 (Sub.refl _) (v:=exV (.slice (some ⟨g1,0,none⟩) ps.length 1) (.slice (some ⟨g2,0,none⟩) cs.length 3) ⟨⟨O,E,M⟩,ps,cs⟩) (by simp -implicitDefEqProofs(disch:=omega)only[Nat.reduceEqDiff,↓reduceIte,vcu,↓vcd,l9,co33];rfl) ⟨exV (.slice (some ⟨g1,0,none⟩) ps.length 1) (.slice (some ⟨g2,0,none⟩) cs.length 3) ⟨⟨O,E,M⟩,ps,cs⟩,?_,k9.sub hS6 z4,?_⟩
  ·simp -implicitDefEqProofs(disch:=omega)only[Nat.reduceEqDiff,↓reduceIte,vcu,↓vcd]
   rw[hx]
  ·rw[hx]
   exact⟨_,_,rfl,.inr ⟨g1,rfl,k9.at w1 d14,z1⟩,.inr ⟨g2,rfl,k9.at w2 d24,z2⟩⟩
 have dk2:decide (K=2)=true:=decide_eq_true hK2
 rw[if_pos hK2] at hdo
 have hLn:L.toNat < ps.length:=by omega
 have c3:ld τ6 h6 (0+3)=some (.slice (some ⟨g1,0,none⟩) ps.length 1):=ld_of f6 rfl
 simp -implicitDefEqProofs(disch:=omega)only[Nat.reduceEqDiff,↓reduceIte,vcu,↓vcd,opK_some,a0,a1,a2,dk0,dk1,dk2,c3]
 refine r_setX (g:=g1) (i:=0+L.toNat) (v:=N) z9q z9q co9 w1 om9 fun τ7 k7 w7=>?_
 rw[Nat.zero_add] at w7
 have hps:ps≠[]:=by rintro rfl;simp at hLn
 have d12:g2≠g1:=by
  rintro rfl
  rw[w1] at w2
  cases ps with
  | nil=>exact hps rfl
  | cons p ps=>cases cs<;>simp [texts,tris,tri] at w2
 have S7':Sub τ3 τ7:=k7.sub S6 m1
 have f67:=k7.at f6 d61.symm
 have f47:=k7.at f4 d14.symm
 have w27:=k7.at w2 d12
 have c5:=y5 τ7 S7'
 have c1:=u1 τ7 S7'
 have c2:=u2 τ7 S7'
 have c3:=y3 τ7 S7'
 have c63:ld τ7 h6 (0+3)=some (.slice (some ⟨g1,0,none⟩) ps.length 1):=ld_of f67 rfl
 obtain⟨hg,ho,hv1,hrow⟩:=rowT (t1.sub S7') om9
 have hx1:=hrow L.toNat hLn
 by_cases h1:N=ps.getD L.toNat []
 ·have dn:decide (N=ps.getD L.toNat [])=true:=decide_eq_true h1
  have hx:=hno none (by rw[hdo,if_pos (.inl h1)])
  dsimp only at hx
  simp -implicitDefEqProofs(disch:=omega)only[Nat.reduceEqDiff,↓reduceIte,vcu,↓vcd,c1,c2,c3,c5,hv1,hx1,abin_seql,dn,co33]
  rw[←hv1]
  refine (copyX_rows τ7 (exV v1 v2 ⟨⟨O,E,M⟩,ps,cs⟩) _ (hX3.sub S7') hb0).mono ?_
  rintro _ τ8 ⟨q1,q2,rfl,s8,r1,r2,p1,p2⟩
  dsimp only at r1 r2
  unfold exV
  dsimp only
  have f48:=s8 _ _ f47
  have dq1:q1≠h4:=ne_of p1 f47
  have dq2:q2≠h4:=ne_of p2 f47
  simp -implicitDefEqProofs(disch:=omega)only[Nat.reduceEqDiff,↓reduceIte,vcu,↓vcd,opK_some]
  refine r_sets (g:=h4) (i:=0) (C:=[.int .i64 0,.int .i64 0,.int .i64 0,.slice none 0 0,.slice none 0 0]) z9q z9co33 z9r z9z f48 z9l fun T9 k9 e9=>?_
  replace e9:T9 h4=some ⟨[.int .i64 O,.int .i64 E,.int .i64 M,.slice (some ⟨q1,0,none⟩) ps.length 1,.slice (some ⟨q2,0,none⟩) cs.length 3],false⟩:=e9
  have l9:lds T9 h4 0 5=some [.int .i64 O,.int .i64 E,.int .i64 M,.slice (some ⟨q1,0,none⟩) ps.length 1,.slice (some ⟨q2,0,none⟩) cs.length 3]:=by rw[lds_of e9 (by simp)];rfl
  simp -implicitDefEqProofs(disch:=omega)only[Nat.reduceEqDiff,↓reduceIte,vcu,↓vcd]
  refine fin_ct8 Tryz.results54 T9 (Sub.refl _) (v:=exV (.slice (some ⟨q1,0,none⟩) ps.length 1) (.slice (some ⟨q2,0,none⟩) cs.length 3) ⟨⟨O,E,M⟩,ps,cs⟩) (by simp -implicitDefEqProofs(disch:=omega)only[Nat.reduceEqDiff,↓reduceIte,vcu,↓vcd,l9,co33];rfl) ⟨exV (.slice (some ⟨q1,0,none⟩) ps.length 1) (.slice (some ⟨q2,0,none⟩) cs.length 3) ⟨⟨O,E,M⟩,ps,cs⟩,?_,k9.sub ((S3.trans S7').trans s8) z4,?_⟩
  ·simp -implicitDefEqProofs(disch:=omega)only[Nat.reduceEqDiff,↓reduceIte,vcu,↓vcd]
   rw[hx]
  ·rw[hx]
   exact⟨_,_,rfl,.inr ⟨q1,rfl,k9.at r1 dq1,free_sub (S3.trans S7') p1⟩,.inr ⟨q2,rfl,k9.at r2 dq2,free_sub (S3.trans S7') p2⟩⟩
 have dn:decide (N=ps.getD L.toNat [])=false:=decide_eq_false h1
 have hpl:=planValid_calls (w0:=w0) τ7 _ (ps.set L.toNat N) (own_textsI w7) (by rw[List.length_set];exact b1) (fun x hx=>by
  rcases List.mem_or_eq_of_mem_set hx with h|h
  ·exact b2 x h
  ·subst h;exact hNl)
 rw[List.length_set] at hpl
 by_cases h2:PlanOk (ps.set L.toNat N)
 case neg =>
  rw[decide_eq_false h2] at hpl
  have hx:=hno none (by rw[hdo,if_pos (.inr h2)])
  dsimp only at hx
  simp -implicitDefEqProofs(disch:=omega)only[Nat.reduceEqDiff,↓reduceIte,vcu,↓vcd,c1,c2,c3,c63,hv1,hx1,abin_seql,dn]
  rw[r_callq]
  refine⟨_,hpl,?_⟩
  simp -implicitDefEqProofs(disch:=omega)only[Nat.reduceEqDiff,↓reduceIte,vcu,↓vcd,Bool.not_false,c5,co33]
  refine (copyX_rows τ7 (exV v1 v2 ⟨⟨O,E,M⟩,ps,cs⟩) _ (hX3.sub S7') hb0).mono ?_
  rintro _ τ8 ⟨q1,q2,rfl,s8,r1,r2,p1,p2⟩
  dsimp only at r1 r2
  unfold exV
  dsimp only
  have f48:=s8 _ _ f47
  have dq1:q1≠h4:=ne_of p1 f47
  have dq2:q2≠h4:=ne_of p2 f47
  simp -implicitDefEqProofs(disch:=omega)only[Nat.reduceEqDiff,↓reduceIte,vcu,↓vcd,opK_some]
  refine r_sets (g:=h4) (i:=0) (C:=[.int .i64 0,.int .i64 0,.int .i64 0,.slice none 0 0,.slice none 0 0]) z9q z9co33 z9r z9z f48 z9l fun T9 k9 e9=>?_
  replace e9:T9 h4=some ⟨[.int .i64 O,.int .i64 E,.int .i64 M,.slice (some ⟨q1,0,none⟩) ps.length 1,.slice (some ⟨q2,0,none⟩) cs.length 3],false⟩:=e9
  have l9:lds T9 h4 0 5=some [.int .i64 O,.int .i64 E,.int .i64 M,.slice (some ⟨q1,0,none⟩) ps.length 1,.slice (some ⟨q2,0,none⟩) cs.length 3]:=by rw[lds_of e9 (by simp)];rfl
  simp -implicitDefEqProofs(disch:=omega)only[Nat.reduceEqDiff,↓reduceIte,vcu,↓vcd]
  refine fin_ct8 Tryz.results54 T9 (Sub.refl _) (v:=exV (.slice (some ⟨q1,0,none⟩) ps.length 1) (.slice (some ⟨q2,0,none⟩) cs.length 3) ⟨⟨O,E,M⟩,ps,cs⟩) (by simp -implicitDefEqProofs(disch:=omega)only[Nat.reduceEqDiff,↓reduceIte,vcu,↓vcd,l9,co33];rfl) ⟨exV (.slice (some ⟨q1,0,none⟩) ps.length 1) (.slice (some ⟨q2,0,none⟩) cs.length 3) ⟨⟨O,E,M⟩,ps,cs⟩,?_,k9.sub ((S3.trans S7').trans s8) z4,?_⟩
  ·simp -implicitDefEqProofs(disch:=omega)only[Nat.reduceEqDiff,↓reduceIte,vcu,↓vcd]
   rw[hx]
  ·rw[hx]
   exact⟨_,_,rfl,.inr ⟨q1,rfl,k9.at r1 dq1,free_sub (S3.trans S7') p1⟩,.inr ⟨q2,rfl,k9.at r2 dq2,free_sub (S3.trans S7') p2⟩⟩
 rw[decide_eq_true h2] at hpl
 have hx:=hno (some ⟨⟨O,E,M⟩,ps.set L.toNat N,cs⟩) (by rw[hdo,if_neg (by rintro (h|h)<;>first|exact h1 h|exact h h2)])
 dsimp only at hx
 have l7:lds τ7 h6 0 5=some [.int .i64 O,.int .i64 E,.int .i64 M,.slice (some ⟨g1,0,none⟩) ps.length 1,.slice (some ⟨g2,0,none⟩) cs.length 3]:=by rw[lds_of f67 (by simp)];rfl
 simp -implicitDefEqProofs(disch:=omega)only[Nat.reduceEqDiff,↓reduceIte,vcu,↓vcd,c1,c2,c3,c63,hv1,hx1,abin_seql,dn]
 rw[r_callq]
 refine⟨_,hpl,?_⟩
 simp -implicitDefEqProofs(disch:=omega)only[Nat.reduceEqDiff,↓reduceIte,vcu,↓vcd,Bool.not_true,l7,co33]
 try simp -implicitDefEqProofs(disch:=omega)only[Nat.reduceEqDiff,↓reduceIte,vcu,↓vcd,l7,co33]
 refine r_sets (g:=h4) (i:=0) (C:=[.int .i64 0,.int .i64 0,.int .i64 0,.slice none 0 0,.slice none 0 0]) z9q z9co33 z9r z9z f47 z9l fun T9 k9 e9=>?_
 replace e9:T9 h4=some ⟨[.int .i64 O,.int .i64 E,.int .i64 M,.slice (some ⟨g1,0,none⟩) ps.length 1,.slice (some ⟨g2,0,none⟩) cs.length 3],false⟩:=e9
 have l9:lds T9 h4 0 5=some [.int .i64 O,.int .i64 E,.int .i64 M,.slice (some ⟨g1,0,none⟩) ps.length 1,.slice (some ⟨g2,0,none⟩) cs.length 3]:=by rw[lds_of e9 (by simp)];rfl
 simp -implicitDefEqProofs(disch:=omega)only[Nat.reduceEqDiff,↓reduceIte,vcu,↓vcd]
 refine fin_ct8 Tryz.results54 T9 (Sub.refl _) (v:=exV (.slice (some ⟨g1,0,none⟩) ps.length 1) (.slice (some ⟨g2,0,none⟩) cs.length 3) ⟨⟨O,E,M⟩,ps.set L.toNat N,cs⟩) (by simp -implicitDefEqProofs(disch:=omega)only[Nat.reduceEqDiff,↓reduceIte,vcu,↓vcd,l9,co33];rfl) ⟨exV (.slice (some ⟨g1,0,none⟩) ps.length 1) (.slice (some ⟨g2,0,none⟩) cs.length 3) ⟨⟨O,E,M⟩,ps.set L.toNat N,cs⟩,?_,k9.sub (S3.trans S7') z4,?_⟩
 ·simp -implicitDefEqProofs(disch:=omega)only[Nat.reduceEqDiff,↓reduceIte,vcu,↓vcd]
  rw[hx]
 ·rw[hx]
  exact⟨_,_,rfl,.inr ⟨g1,by rw[List.length_set],k9.at w7 d14,z1⟩,.inr ⟨g2,rfl,k9.at w27 d24,z2⟩⟩
theorem exB_of {e:Ex} (h:ExOk e):ExB e:=by
 obtain⟨h1,h2,h3,h4,h5⟩:=h
 have:=h4.len
 have:=h2.2
 refine⟨by omega,fun x hx=>?_,by omega⟩
 obtain⟨k,hk,rfl⟩:=List.mem_iff_getElem.1 hx
 have:=(h2.1 k hk).2.1.2
 simp only[List.getD,List.getElem?_eq_getElem hk,Option.getD_some] at this
 omega
def Bs (σ:AHeap) (h4 h6:Nat):AHeap:=(σ.upd h4 (some ⟨[],false⟩)).upd h6 (some ⟨[],false⟩)
theorem Bs_6 {σ:AHeap} {h4 h6:Nat}:Bs σ h4 h6 h6=some ⟨[],false⟩:=AHeap.upd_same _ _ _
theorem Bs_4 {σ:AHeap} {h4 h6:Nat}:Bs σ h4 h6 h4=some ⟨[],false⟩:=by
 unfold Bs
 by_cases e:h4=h6
 ·subst e;exact AHeap.upd_same _ _ _
 ·rw[AHeap.upd_ne _ _ e];exact AHeap.upd_same _ _ _
theorem Bs_free {σ:AHeap} {h4 h6 g:Nat} (h:σ g=none) (n4:g≠h4) (n6:g≠h6):Bs σ h4 h6 g=none:=by
 unfold Bs;rw[AHeap.upd_ne _ _ n6,AHeap.upd_ne _ _ n4];exact h
theorem Bs_none {σ:AHeap} {h4 h6 g:Nat} (h:Bs σ h4 h6 g=none):σ g=none∧g≠h4∧g≠h6:=by
 have n6:g≠h6:=by rintro rfl;rw[Bs_6] at h;cases h
 have n4:g≠h4:=by rintro rfl;rw[Bs_4] at h;cases h
 unfold Bs at h
 rw[AHeap.upd_ne _ _ n6,AHeap.upd_ne _ _ n4] at h
 exact⟨h,n4,n6⟩
theorem rowD {σ:AHeap} {v:Value} {xs:List Dd} (h:Dds σ v xs) (h0:0 < xs.length):∃g o,v=.slice (some ⟨g,o,none⟩) xs.length 3∧DdsAt σ g o xs:=by
 rcases h with ⟨_,rfl⟩|h
 ·simp at h0
 ·exact h
theorem lenD {σ:AHeap} {v:Value} {xs:List Dd} (h:Dds σ v xs):alenV Tryz.prog 24 v=some (.int .i64 (xs.length:Int)):=by
 rcases h with ⟨rfl,rfl⟩ |⟨g,o,rfl,-⟩<;>exact alenV_slice Tryz.underlying24
def exC (v1 v2:Value) (e:Ex):List Value:=[.int .i64 e.s.O,.int .i64 e.s.E,.int .i64 e.s.M,v1,v2]
theorem exC_one {β σ:AHeap} {v1 v2:Value} {e:Ex} (h:OwnX β σ (exV v1 v2 e) e):(exC v1 v2 e).all Value.oneCell'=true:=by
 obtain⟨u1,u2,e1,h1,h2⟩:=h
 unfold exV at e1
 cases e1
 have a:=(texts_cellV h1.texts).2
 have b:=(tris_cellV h2.tris).2
 unfold exC
 simp only[List.all_cons,List.all_nil,a,b]
 rfl
theorem runN_step {e x:Ex} {ds:List Dd} {n k:Nat} (hlt:k < ds.length) (h:runN e ds=((runN x (ds.drop k)).1,n+(runN x (ds.drop k)).2)) :
  (∀y,doO x (ds.getD k dd0)=some y→runN e ds=((runN y (ds.drop (k+1))).1,(n+1)+(runN y (ds.drop (k+1))).2)) ∧
  (doO x (ds.getD k dd0)=none→runN e ds=((runN x (ds.drop (k+1))).1,n+(runN x (ds.drop (k+1))).2)):=by
 have hd:ds.drop k=ds.getD k dd0 :: ds.drop (k+1):=by rw[List.drop_eq_getElem_cons hlt];simp [List.getD,hlt]
 rw[hd] at h
 refine⟨fun y hy=>?_,fun hy=>?_⟩
 ·rw[h,runN,hy];simp only;refine Prod.ext rfl ?_;simp only;omega
 ·rw[h,runN,hy]
theorem exB_0:ExB ex0:=⟨Nat.zero_le _,⟨fun x hx=>absurd hx (by show x ∉ ([]:List (List UInt8));simp),Nat.zero_le _⟩⟩
theorem exLineB (e:Ex) (t:List UInt8):ExB (exLine e t).1:=by
 unfold exLine;split
 ·exact exB_of (lineX_ok (by assumption) t).1
 ·exact exB_0
theorem exRunB (e:Ex) (ds:List Dd):ExB (exRun e ds).1:=by
 unfold exRun;split
 ·exact exB_of (runN_ok ds (by assumption)).1
 ·exact exB_0
end Go.Proofs.YtofdnmlpfagibaaGreatDoor
namespace Go.Proofs.YtofdnmlpfagibaaGreatDoor
open Go Go.Abs Go.RowKit
variable {w0:World}
def Valid (xs:List Int):Prop:=Perm xs∧xs.length≤6
instance (xs:List Int):Decidable (Valid xs):=by unfold Valid;infer_instance
def seenB (xs:List Int):List Value:=(List.range 6).map fun (i:Nat)=>.bool (decide ((i:Int)∈xs))
theorem seenB_length (xs:List Int):(seenB xs).length=6:=by simp [seenB]
theorem seenB_get (xs:List Int) {i:Nat} (h:i < 6):(seenB xs)[i]?=some (.bool (decide ((i:Int)∈xs))):=by simp [seenB,h]
theorem seenB_set (xs:List Int) {x:Int} (h0:0≤x) (h:x < 6):(seenB xs).set x.toNat (.bool true)=seenB (xs++[x]):=by
 apply List.ext_getElem?
 intro i
 rw[List.getElem?_set]
 by_cases hi:i < 6
 ·rw[seenB_get _ hi,seenB_get _ hi,seenB_length]
  by_cases e:x.toNat=i
  ·have:(i:Int)=x:=by omega
   rw[if_pos e,if_pos om9];simp [this]
  ·have:(i:Int)≠x:=by omega
   rw[if_neg e];simp [this]
 ·have:x.toNat≠i:=by omega
  rw[if_neg this,List.getElem?_eq_none (by simp [seenB];omega),List.getElem?_eq_none (by simp [seenB];omega)]
set_option maxRecDepth 8000 in
theorem implValid_at (σ:AHeap) (h o:Nat) (xs:List Int) (hv:IntsAt .i64 σ h o xs) (hl:xs.length≤1048576) :
  ACall Tryz.prog w0 49 [.slice (some ⟨h,o,none⟩) xs.length 1] σ fun r σ'=>r=.bool (decide (Valid xs))∧σ'=σ:=by
 refine acall_go mixed Tryz.func49 rfl good49 fun pr=>?_
 by_cases h6:6 < xs.length
 ·simp -implicitDefEqProofs(disch:=omega)only[Nat.reduceEqDiff,↓reduceIte,vcu,↓vcd]
  refine fin_one Tryz.results49 ⟨?_,rfl⟩
  simp -implicitDefEqProofs(disch:=omega)only[Nat.reduceEqDiff,↓reduceIte,vcu,↓vcd]
  have:¬ Valid xs:=fun hV=>by have:=hV.2;omega
  simp [this]
 ·simp -implicitDefEqProofs(disch:=omega)only[Nat.reduceEqDiff,↓reduceIte,vcu,↓vcd]
  refine r_alloc_at ze124 fun g hg=>?_
  simp -implicitDefEqProofs(disch:=omega)only[Nat.reduceEqDiff,↓reduceIte,vcu,↓vcd]
  refine vc_loop mixed kr9 (fun m a σ'=>∃k:Nat,m+k=xs.length∧a 0=.slice (some ⟨h,o,none⟩) xs.length 1∧a 3=.pointer (some ⟨g,0,none⟩)∧a 9=.slice (some ⟨h,o,none⟩) xs.length 1∧a 10=.int .i64 xs.length∧a 11=.int .i64 k ∧
   σ'=σ.upd g (some ⟨seenB (xs.take k),false⟩)∧∀j,j < k→(0≤xs.getD j 0∧xs.getD j 0 < xs.length)∧xs.getD j 0 ∉ xs.take j) xs.length ⟨0,by simp,rfl,rfl,rfl,rfl,rfl,rfl,by simp⟩ ?_
  rintro m a σ' ⟨k,hk,h0,h3,h9,h10,h11,rfl,hp⟩
  by_cases hlt:k < xs.length
  ·have hx:=(hv.sub (sub_upd (o:=some ⟨seenB (xs.take k),false⟩) hg)) k hlt
   have hxm:xs.getD k 0∈xs:=by simp [List.getD,hlt]
   generalize hxx:xs.getD k 0=x at hx hxm
   by_cases hneg:x < 0
   ·simp -implicitDefEqProofs(disch:=omega)only[Nat.reduceEqDiff,↓reduceIte,vcu,↓vcd,h0,h3,h9,h10,h11,hx]
    refine fin_drop Tryz.results49 σ (sub_upd hg) ⟨?_,rfl⟩
    simp -implicitDefEqProofs(disch:=omega)only[Nat.reduceEqDiff,↓reduceIte,vcu,↓vcd]
    have:¬ Valid xs:=fun hV=>by have:=hV.1.1 _ hxm;omega
    simp [this]
   ·by_cases hbig:(xs.length:Int)≤x
    ·simp -implicitDefEqProofs(disch:=omega)only[Nat.reduceEqDiff,↓reduceIte,vcu,↓vcd,h0,h3,h9,h10,h11,hx]
     refine fin_drop Tryz.results49 σ (sub_upd hg) ⟨?_,rfl⟩
     simp -implicitDefEqProofs(disch:=omega)only[Nat.reduceEqDiff,↓reduceIte,vcu,↓vcd]
     have:¬ Valid xs:=fun hV=>by have:=hV.1.1 _ hxm;omega
     simp [this]
    ·have hs:ld (σ.upd g (some ⟨seenB (xs.take k),false⟩)) g (0+x.toNat)=some (.bool (decide (x∈xs.take k))):=by
      rw[ld_upd_same]
      dsimp only
      rw[Nat.zero_add,seenB_get _ om9]
      have:((x.toNat:Nat):Int)=x:=by omega
      rw[this]
     by_cases hm:x∈xs.take k
     ·rw[decide_eq_true hm] at hs
      simp -implicitDefEqProofs(disch:=omega)only[Nat.reduceEqDiff,↓reduceIte,vcu,↓vcd,h0,h3,h9,h10,h11,hx,hs]
      refine fin_drop Tryz.results49 σ (sub_upd hg) ⟨?_,rfl⟩
      simp -implicitDefEqProofs(disch:=omega)only[Nat.reduceEqDiff,↓reduceIte,vcu,↓vcd]
      have:¬ Valid xs:=fun hV=>(nodup_take.1 hV.1.2) k hlt (by rw[hxx];exact hm)
      simp [this]
     ·rw[decide_eq_false hm] at hs
      simp -implicitDefEqProofs(disch:=omega)only[Nat.reduceEqDiff,↓reduceIte,vcu,↓vcd,h0,h3,h9,h10,h11,hx,hs]
      have hst:=sts_one (σ:=σ.upd g (some ⟨seenB (xs.take k),false⟩)) (h:=g) (cs:=seenB (xs.take k)) (i:=0+x.toNat) (v:=.bool true) (AHeap.upd_same _ _ _) (by rw[seenB_length];omega)
      refine r_store_at (h:=g) (i:=0+x.toNat) (by simp -implicitDefEqProofs(disch:=omega)only[Nat.reduceEqDiff,↓reduceIte,vcu,↓vcd,h3]) (by rfl) (by rfl) hst ?_
      have htk:xs.take k++[x]=xs.take (k+1):=by
       rw[List.take_succ_eq_append_getElem hlt]
       simp [List.getD,hlt] at hxx
       rw[hxx]
      rw[Nat.zero_add,seenB_set _ om9 om9,AHeap.upd_upd,htk]
      simp -implicitDefEqProofs(disch:=omega)only[Nat.reduceEqDiff,↓reduceIte,vcu,↓vcd,h0,h3,h9,h10,h11]
      refine⟨m - 1,by omega,k+1,by omega,trivial,trivial,trivial,trivial,by simp,rfl,fun j hj=>?_⟩
      by_cases e:j=k
      ·subst e;rw[hxx];exact⟨by omega,hm⟩
      ·exact hp j om9
  ·simp -implicitDefEqProofs(disch:=omega)only[Nat.reduceEqDiff,↓reduceIte,vcu,↓vcd,h0,h3,h9,h10,h11]
   refine fin_drop Tryz.results49 σ (sub_upd hg) ⟨?_,rfl⟩
   simp -implicitDefEqProofs(disch:=omega)only[Nat.reduceEqDiff,↓reduceIte,vcu,↓vcd]
   have:Valid xs:=by
    refine⟨⟨fun x hx=>?_,nodup_take.2 fun j hj=>(hp j om9).2⟩,by omega⟩
    obtain⟨i,hi,rfl⟩:=List.getElem_of_mem hx
    have:=(hp i om9).1
    simpa [List.getD,hi] using this
   simp [this]
def xorN (a b:Int):Nat:=a.toNat ^^^ b.toNat
theorem conv_byte {b:Int} (h:0≤b∧b≤255):aconv Tryz.prog 5 3 (.int .u8 b)=some (.int .i64 b):=by
 simp only[aconv,Tryz.underlying5,Tryz.underlying3]
 rw[wrap_i64_ok om9]
theorem xor_ok {a b:Int} {t:TypeId} (ha:0≤a∧a < 4611686018427387904) (hb:0≤b∧b < 4611686018427387904) :
  abin Tryz.prog t .xor (.int .i64 a) (.int .i64 b)=some (.int .i64 (xorN a b:Int))∧xorN a b < 4611686018427387904:=by
 unfold xorN
 have hlt:a.toNat ^^^ b.toNat < 2 ^ 62:=Nat.xor_lt_two_pow om9 om9
 refine⟨?_,hlt⟩
 simp only[abin,if_true]
 have e1:(BitVec.ofInt IntKind.i64.bits a ^^^ BitVec.ofInt IntKind.i64.bits b).toNat=a.toNat ^^^ b.toNat:=by
  rw[BitVec.toNat_xor,BitVec.toNat_ofInt,BitVec.toNat_ofInt]
  have h1:(a % ((2 ^ IntKind.i64.bits:Nat):Int)).toNat=a.toNat:=by rw[Int.emod_eq_of_lt ha.1 (by simp [IntKind.bits];omega)]
  have h2:(b % ((2 ^ IntKind.i64.bits:Nat):Int)).toNat=b.toNat:=by rw[Int.emod_eq_of_lt hb.1 (by simp [IntKind.bits];omega)]
  rw[h1,h2]
 rw[e1,wrap_i64_ok om9]
theorem abin_xor' {a b:Int} {t:TypeId} (h:(0≤a∧a < 4611686018427387904)∧0≤b∧b < 4611686018427387904):abin Tryz.prog t .xor (.int .i64 a) (.int .i64 b)=some (.int .i64 (xorN a b:Int)):=(xor_ok h.1 h.2).1
set_option maxRecDepth 8000 in
theorem open_at (σ:AHeap) (h o:Nat) (bs:List Int) (hl:bs.length≤1048576) :
  ACall Tryz.prog w0 26 [.slice (some ⟨h,o,none⟩) bs.length 1] σ fun r σ'=>∃(g m:Nat),σ g=none∧m≤2000∧m≤bs.length∧r=.pointer (some ⟨g,0,none⟩)∧σ'=σ.upd g (some ⟨[.slice (some ⟨h,o,none⟩) m 1,.int .i64 0],false⟩):=by
 refine acall_go mixed Tryz.func26 rfl good26 fun pr=>?_
 by_cases hb:2000 < bs.length
 ·simp -implicitDefEqProofs(disch:=omega)only[Nat.reduceEqDiff,↓reduceIte,vcu,↓vcd]
  rw[r_build]
  refine⟨(_,#[.slice (some ⟨h,o,none⟩) 2000 1,.int .i64 0]),⟨ze102,by simp -implicitDefEqProofs(disch:=omega)only[Nat.reduceEqDiff,↓reduceIte,vcu,↓vcd];kernel_rfl⟩,?_⟩
  simp -implicitDefEqProofs(disch:=omega)only[Nat.reduceEqDiff,↓reduceIte,vcu,↓vcd]
  rw[r_box]
  intro g hg
  rw[vcRH_eq]
  simp -implicitDefEqProofs(disch:=omega)only[Nat.reduceEqDiff,↓reduceIte,vcu,↓vcd]
  refine fin_one Tryz.results26 ⟨g,2000,hg,by omega,by omega,?_,?_⟩
  ·simp -implicitDefEqProofs(disch:=omega)only[Nat.reduceEqDiff,↓reduceIte,vcu,↓vcd]
  ·rfl
 ·simp -implicitDefEqProofs(disch:=omega)only[Nat.reduceEqDiff,↓reduceIte,vcu,↓vcd]
  rw[r_build]
  refine⟨(_,#[.slice (some ⟨h,o,none⟩) bs.length 1,.int .i64 0]),⟨ze102,by simp -implicitDefEqProofs(disch:=omega)only[Nat.reduceEqDiff,↓reduceIte,vcu,↓vcd];kernel_rfl⟩,?_⟩
  simp -implicitDefEqProofs(disch:=omega)only[Nat.reduceEqDiff,↓reduceIte,vcu,↓vcd]
  rw[r_box]
  intro g hg
  rw[vcRH_eq]
  simp -implicitDefEqProofs(disch:=omega)only[Nat.reduceEqDiff,↓reduceIte,vcu,↓vcd]
  refine fin_one Tryz.results26 ⟨g,bs.length,hg,by omega,by omega,?_,?_⟩
  ·simp -implicitDefEqProofs(disch:=omega)only[Nat.reduceEqDiff,↓reduceIte,vcu,↓vcd]
  ·rfl
structure Rd (β σ:AHeap) (g h o:Nat) (bs:List Int) (p:Int):Prop where
 at_:σ g=some ⟨[.slice (some ⟨h,o,none⟩) bs.length 1,.int .i64 p],false⟩
 sub:Sub β σ
 free:β g=none
 ints:IntsAt .u8 β h o bs
 len:bs.length≤2000
 byte:∀b∈bs,0≤b∧b≤255
set_option maxRecDepth 8000 in
theorem pick_at (β σ:AHeap) (g h o:Nat) (bs:List Int) (p n:Int) (hr:Rd β σ g h o bs p) (hp:0≤p∧p≤1000000) (hn:1≤n∧n≤1000000) :
  ACall Tryz.prog w0 29 [.pointer (some ⟨g,0,none⟩),.int .i64 n] σ fun r σ'=>∃z:Int,r=.int .i64 z∧0≤z∧z < n∧Rd β σ' g h o bs (p+1)∧Kept g σ σ':=by
 refine acall_go mixed Tryz.func29 rfl good29 fun pr=>?_
 have hl0:ld σ g (0+0)=some (.slice (some ⟨h,o,none⟩) bs.length 1):=by unfold ld;rw[hr.at_];rfl
 have hl1:ld σ g (0+1)=some (.int .i64 p):=by unfold ld;rw[hr.at_];rfl
 simp -implicitDefEqProofs(disch:=omega)only[Nat.reduceEqDiff,↓reduceIte,vcu,↓vcd,hl0,hl1]
 refine r_store_at (h:=g) (i:=0+1) z9q z9r z9r (by simp -implicitDefEqProofs(disch:=omega)only[Nat.reduceEqDiff,↓reduceIte,vcu,↓vcd];exact sts_one hr.at_ (by simp)) ?_
 generalize hσ:σ.upd g (some ⟨List.set [.slice (some ⟨h,o,none⟩) bs.length 1,.int .i64 p] (0+1) (.int .i64 (p+1)),false⟩)=τ
 have hm0:ld τ g (0+0)=some (.slice (some ⟨h,o,none⟩) bs.length 1):=by rw[←hσ,ld_upd_same];rfl
 have hm1:ld τ g (0+1)=some (.int .i64 (p+1)):=by rw[←hσ,ld_upd_same];rfl
 have hst:Sub β τ:=by rw[←hσ];exact sub_put hr.sub hr.free
 have hbs:IntsAt .u8 τ h o bs:=hr.ints.sub hst
 have hR:Rd β τ g h o bs (p+1):=⟨by rw[←hσ];exact AHeap.upd_same _ _ _,hst,hr.free,hr.ints,hr.len,hr.byte⟩
 have hK:Kept g σ τ:=by rw[←hσ];exact Kept.put _ _ _
 by_cases h0:bs.length=0
 ·simp -implicitDefEqProofs(disch:=omega)only[Nat.reduceEqDiff,↓reduceIte,vcu,↓vcd,hm0,hm1]
  refine fin_one Tryz.results29 ⟨0,?_,by omega,by omega,hR,hK⟩
  simp -implicitDefEqProofs(disch:=omega)only[Nat.reduceEqDiff,↓reduceIte,vcu,↓vcd]
 ·have byte:∀i:Nat,i < bs.length→∃b:Int,ld τ h (o+i)=some (.int .u8 b)∧0≤b∧b≤255:=fun i hi=>⟨_,hbs i hi,hr.byte _ (by simp [List.getD,hi])⟩
  have hlen:=hr.len
  by_cases hpl:p < bs.length
  ·obtain⟨b,hb,hb0⟩:=byte p.toNat om9
   have hcv:=conv_byte hb0
   simp -implicitDefEqProofs(disch:=omega)only[Nat.reduceEqDiff,↓reduceIte,vcu,↓vcd,hm0,hm1,Int.add_sub_cancel,hb,hcv]
   refine fin_one Tryz.results29 ⟨b % n,?_,Int.emod_nonneg _ om9,Int.emod_lt_of_pos _ om9,hR,hK⟩
   simp -implicitDefEqProofs(disch:=omega)only[Nat.reduceEqDiff,↓reduceIte,vcu,↓vcd]
  ·have h1:0≤p % (bs.length:Int)∧p % (bs.length:Int) < bs.length:=⟨Int.emod_nonneg _ om9,Int.emod_lt_of_pos _ om9⟩
   have h2:0≤(p * 7+3) % (bs.length:Int)∧(p * 7+3) % (bs.length:Int) < bs.length:=⟨Int.emod_nonneg _ om9,Int.emod_lt_of_pos _ om9⟩
   have h3:0≤p / (bs.length:Int)∧p / (bs.length:Int)≤p:=⟨Int.ediv_nonneg om9 om9,Int.ediv_le_self _ om9⟩
   obtain⟨b1,hb1,hc1⟩:=byte (p % (bs.length:Int)).toNat om9
   obtain⟨b2,hb2,hc2⟩:=byte ((p * 7+3) % (bs.length:Int)).toNat om9
   have hcv1:=conv_byte hc1
   have hcv2:=conv_byte hc2
   simp -implicitDefEqProofs(disch:=omega)only[Nat.reduceEqDiff,↓reduceIte,vcu,↓vcd,hm0,hm1,Int.add_sub_cancel,hb1,hb2,hcv1,hcv2,abin_xor']
   refine fin_one Tryz.results29 ?_
   simp -implicitDefEqProofs(disch:=omega)only[Nat.reduceEqDiff,↓reduceIte,vcu,↓vcd]
   exact⟨_,rfl,Int.emod_nonneg _ om9,Int.emod_lt_of_pos _ om9,hR,hK⟩
set_option maxRecDepth 8000 in
theorem odd_at (β σ:AHeap) (g h o:Nat) (bs:List Int) (p n:Int) (hr:Rd β σ g h o bs p) (hp:0≤p∧p≤1000000) (hn:1≤n∧n≤1000000) :
  ACall Tryz.prog w0 66 [.pointer (some ⟨g,0,none⟩),.int .i64 n] σ fun r σ'=>∃b:Bool,r=.bool b∧Rd β σ' g h o bs (p+1)∧Kept g σ σ':=by
 refine acall_go mixed Tryz.func66 rfl good66 fun pr=>?_
 simp -implicitDefEqProofs(disch:=omega)only[Nat.reduceEqDiff,↓reduceIte,vcu,↓vcd]
 refine (pick_at β σ g h o bs p n hr hp hn).mono ?_
 rintro r σ' ⟨z,rfl,hz0,hz1,hR,hK⟩
 simp -implicitDefEqProofs(disch:=omega)only[Nat.reduceEqDiff,↓reduceIte,vcu,↓vcd,opK_some]
 refine fin_one Tryz.results66 ⟨decide (z=n - 1),?_,hR,hK⟩
 simp -implicitDefEqProofs(disch:=omega)only[Nat.reduceEqDiff,↓reduceIte,vcu,↓vcd]
set_option maxRecDepth 8000 in
theorem alive_at (σ:AHeap):ACall Tryz.prog w0 17 [] σ fun r σ'=>r=.bool true∧σ'=σ:=by
 refine acall_go mixed Tryz.func17 rfl good17 fun pr=>?_
 simp -implicitDefEqProofs(disch:=omega)only[Nat.reduceEqDiff,↓reduceIte,vcu,↓vcd]
 refine r_lit_at Tryz.underlying88 ze3 (out:=(ints .i64 [1,0]).toArray) kr9 kr9 fun e1 he1=>?_
 simp -implicitDefEqProofs(disch:=omega)only[Nat.reduceEqDiff,↓reduceIte,vcu,↓vcd,co3]
 refine (implValid_at _ e1 0 [1,0] (intsAt_own (AHeap.upd_same _ _ _)) (by simp)).mono ?_
 rintro r σ1 ⟨rfl,rfl⟩
 have d1:decide (Valid [1,0])=true:=by decide
 rw[d1]
 simp -implicitDefEqProofs(disch:=omega)only[Nat.reduceEqDiff,↓reduceIte,vcu,↓vcd,opK_some]
 refine r_lit_at Tryz.underlying88 ze3 (out:=(ints .i64 [1,1]).toArray) kr9 kr9 fun e2 he2=>?_
 simp -implicitDefEqProofs(disch:=omega)only[Nat.reduceEqDiff,↓reduceIte,vcu,↓vcd,co3]
 refine (implValid_at _ e2 0 [1,1] (intsAt_own (AHeap.upd_same _ _ _)) (by simp)).mono ?_
 rintro r σ1 ⟨rfl,rfl⟩
 have d2:decide (Valid [1,1])=false:=by decide
 rw[d2]
 simp -implicitDefEqProofs(disch:=omega)only[Nat.reduceEqDiff,↓reduceIte,vcu,↓vcd,opK_some]
 refine fin_drop Tryz.results17 σ (sub_put (sub_upd he1) (free_sub (sub_upd he1) he2)) ⟨?_,rfl⟩
 simp -implicitDefEqProofs(disch:=omega)only[Nat.reduceEqDiff,↓reduceIte,vcu,↓vcd]
theorem bytes_of {bs:List Int} (hw:∀z∈bs,(Lit.int .u8 z).wf=true):∀b∈bs,0≤b∧b≤255:=fun b hb=>by
 have:=hw b hb;simpa [Lit.wf,IntKind.min,IntKind.max,IntKind.signed,IntKind.bits] using this
set_option maxRecDepth 8000 in
theorem odd0_at (σ:AHeap) (v:Value):ACall Tryz.prog w0 66 [v,.int .i64 0] σ fun r σ'=>r=.bool false∧σ'=σ:=by
 refine acall_go mixed Tryz.func66 rfl good66 fun pr=>?_
 simp -implicitDefEqProofs(disch:=omega)only[Nat.reduceEqDiff,↓reduceIte,vcu,↓vcd]
 refine fin_one Tryz.results66 ⟨?_,rfl⟩
 simp -implicitDefEqProofs(disch:=omega)only[Nat.reduceEqDiff,↓reduceIte,vcu,↓vcd]
theorem Rd.sub' {β σ τ:AHeap} {g h o:Nat} {bs:List Int} {p:Int} (hr:Rd β σ g h o bs p) (hs:Sub σ τ):Rd β τ g h o bs p :=
 ⟨hs _ _ hr.at_,hr.sub.trans hs,hr.free,hr.ints,hr.len,hr.byte⟩
theorem Rd.put {β σ τ:AHeap} {g g2 h o:Nat} {bs:List Int} {p:Int} (hr:Rd β σ g h o bs p) (hk:Kept g2 σ τ) (hne:g2≠g) (hn:β g2=none):Rd β τ g h o bs p :=
 ⟨hk.at hr.at_ hne.symm,hk.sub hr.sub hn,hr.free,hr.ints,hr.len,hr.byte⟩
theorem opened (σ:AHeap) (h o:Nat) (bs:List Int) (hv:IntsAt .u8 σ h o bs) (hl:bs.length≤1048576) (hb:∀b∈bs,0≤b∧b≤255) :
  ACall Tryz.prog w0 26 [.slice (some ⟨h,o,none⟩) bs.length 1] σ fun r τ=>∃(g m:Nat),r=.pointer (some ⟨g,0,none⟩)∧Sub σ τ∧Rd σ τ g h o (bs.take m) 0 :=
 (open_at σ h o bs hl).mono fun r τ ⟨g,m,hg,hm,hmb,hr,hτ⟩=>by
  have htl:(bs.take m).length=m:=by simp;omega
  have hs0:Sub σ τ:=by rw[hτ];exact sub_upd hg
  exact⟨g,m,hr,hs0,⟨by rw[hτ,htl];exact AHeap.upd_same _ _ _,hs0,hg,hv.take m,by rw[htl];exact hm,fun b hb'=>hb b (List.mem_of_mem_take hb')⟩⟩
theorem acodeB_monoY {P:Program} {b:Base} {n:NR} {c:Code} {a:AFrame} {σ:AHeap} {Q Q':AQ} (h:ACodeB P b n c a σ Q') (hq:∀e a σ,Q' e a σ→Q e a σ):ACodeB P b n c a σ Q:=ACode.mono h hq
theorem less_keptY {g:Nat} {σ τ:AHeap} (h:Kept g σ τ):Sub (σ.upd g none) τ:=fun k ob e=>by
 by_cases hk:k=g
 ·subst hk;rw[AHeap.upd_same] at e;cases e
 ·rw[AHeap.upd_ne _ _ hk] at e;exact h k ob hk e
structure DS (β σ0 σ:AHeap) (g h o:Nat) (bs:List Int) (p:Int):Prop where
 rd:Rd β σ g h o bs p
 kp:Kept g σ0 σ
 s0:Sub β σ0
section
variable {β σ0 σ τ:AHeap} {g h o c:Nat} {bs:List Int} {p p':Int}
theorem DS.start (hr:Rd β σ g h o bs p):DS β σ σ g h o bs p:=⟨hr,Kept.refl _ _,hr.sub⟩
theorem DS.new (d:DS β σ0 σ g h o bs p) (hs:Sub σ τ):DS β σ0 τ g h o bs p:=⟨d.rd.sub' hs,d.kp.trans hs.kept,d.s0⟩
theorem DS.put (d:DS β σ0 σ g h o bs p) (hk:Kept c σ τ) (hc:c≠g) (hn:σ0 c=none):DS β σ0 τ g h o bs p:=⟨d.rd.put hk hc (free_sub d.s0 hn),d.kp.step hk (.inl hn),d.s0⟩
theorem DS.step (d:DS β σ0 σ g h o bs p) (hR:Rd β τ g h o bs p') (hK:Kept g σ τ):DS β σ0 τ g h o bs p':=⟨hR,d.kp.trans hK,d.s0⟩
theorem DS.fresh (d:DS β σ0 σ g h o bs p) (hn:σ c=none):σ0 c=none∧c≠g:=by
 have hc:c≠g:=ne_of hn d.rd.at_
 refine⟨?_,hc⟩
 cases e:σ0 c with
 | none=>rfl
 | some ob=>rw[d.kp c ob hc e] at hn;cases hn
theorem DS.on (d:DS β σ0 σ g h o bs p) (d2:DS β σ τ g h o bs p'):DS β σ0 τ g h o bs p':=⟨d2.rd,d.kp.trans d2.kp,d.s0⟩
end
end Go.Proofs.YtofdnmlpfagibaaGreatDoor
namespace Go.Proofs.YtofdnmlpfagibaaGreatDoor
open Go Go.Abs Go.RowKit
variable {w0:World}
theorem lit_text {τ:AHeap} {q:Nat} {ts:List (List UInt8)} {z:Int} (h:τ q=some ⟨texts ts,false⟩) (h0:0≤z) (h1:z < ts.length):ld τ q (0+z.toNat)=some (.string (tx (ts.getD z.toNat []))):=textsAt_own h z.toNat om9
theorem lit_int {τ:AHeap} {q:Nat} {xs:List Int} {z:Int} (h:τ q=some ⟨ints .i64 xs,false⟩) (h0:0≤z) (h1:z < xs.length):ld τ q (0+z.toNat)=some (.int .i64 (xs.getD z.toNat 0)):=own_at h (i:=z.toNat) om9
theorem getD_len {ts:List (List UInt8)} {M:Nat} (h:∀t∈ts,t.length≤M) (i:Nat):(ts.getD i []).length≤M:=by
 by_cases hi:i < ts.length
 ·have:=h _ (List.getElem_mem hi);simpa [List.getD,hi] using this
 ·simp [List.getD,List.getElem?_eq_none (Nat.le_of_not_lt hi)]
theorem odd_any (β σ:AHeap) (g h o:Nat) (bs:List Int) (p n:Int) (hr:Rd β σ g h o bs p) (hp:0≤p∧p≤1000000) (hn:n=0∨1≤n∧n≤1000000) :
  ACall Tryz.prog w0 66 [.pointer (some ⟨g,0,none⟩),.int .i64 n] σ fun r σ'=>∃(b:Bool) (p':Int),r=.bool b∧p≤p'∧p'≤p+1∧Rd β σ' g h o bs p'∧Kept g σ σ':=by
 rcases hn with rfl|hn
 ·refine (odd0_at σ _).mono ?_
  rintro r _ ⟨rfl,rfl⟩
  exact⟨false,p,rfl,by omega,by omega,hr,Kept.refl _ _⟩
 ·refine (odd_at β σ g h o bs p n hr hp hn).mono ?_
  rintro r σ' ⟨b,rfl,hR,hK⟩
  exact⟨b,p+1,rfl,by omega,by omega,hR,hK⟩
set_option maxRecDepth 8000 in
theorem digits_draw (β σ:AHeap) (g h o:Nat) (bs:List Int) (p:Int) (most:Nat) (hr:Rd β σ g h o bs p) (hp:0≤p∧p≤10000) (hm:most≤100) :
  ACall Tryz.prog w0 108 [.pointer (some ⟨g,0,none⟩),.int .i64 most] σ fun r σ'=>∃(xs:List UInt8) (p':Int),r=.string (tx xs)∧xs.length≤most∧p≤p'∧p'≤p+1+most∧DS β σ σ' g h o bs p':=by
 refine acall_go mixed Tryz.func108 rfl good108 fun pr=>?_
 simp -implicitDefEqProofs(disch:=omega)only[Nat.reduceEqDiff,↓reduceIte,vcu,↓vcd]
 refine (pick_at β σ g h o bs p (most+1) hr om9 om9).mono ?_
 rintro r τ1 ⟨z,rfl,a1,a2,hR,hK⟩
 have d1:=(DS.start hr).step hR hK
 clear hR hK
 obtain⟨z0,rfl⟩:∃z0:Nat,z=z0:=⟨z.toNat,by omega⟩
 simp -implicitDefEqProofs(disch:=omega)only[Nat.reduceEqDiff,↓reduceIte,vcu,↓vcd,opK_some]
 refine vc_loop_c mixed kr9 [0] (fun m a σ'=>∃(xs:List UInt8) (p':Int),a 6=.int .i64 m∧a 5=.string (tx xs)∧xs.length+m≤most∧p+1≤p'∧p'+m≤p+1+most∧DS β σ σ' g h o bs p') z0 ⟨[],p+1,rfl,rfl,by simp;omega,by omega,by omega,d1⟩ ?_
 clear d1 a1 a2
 rintro m a τ hc ⟨xs,p',h6,h5,hl,hp1,hp2,d⟩
 simp -implicitDefEqProofs(disch:=omega)only[Nat.reduceEqDiff,↓reduceIte,vcu,↓vcd] at hc
 obtain⟨h0,-⟩:=hc
 by_cases hlt:0 < m
 ·simp -implicitDefEqProofs(disch:=omega)only[Nat.reduceEqDiff,↓reduceIte,vcu,↓vcd,h0,h5,h6]
  refine r_lit el30 (out:=#[.string (tx [48]),.string (tx [49]),.string (tx [50]),.string (tx [51])]) (by simp -implicitDefEqProofs(disch:=omega)only[Nat.reduceEqDiff,↓reduceIte,vcu,↓vcd];kernel_rfl) kr9 fun q τ2 nq sq eq=>?_
  replace eq:τ2 q=some ⟨texts [[48],[49],[50],[51]],false⟩:=eq
  have d2:=d.new sq
  have gq:=(d.fresh nq).2
  clear sq nq d
  simp -implicitDefEqProofs(disch:=omega)only[Nat.reduceEqDiff,↓reduceIte,vcu,↓vcd,h0]
  refine (pick_at β τ2 g h o bs p' 4 d2.rd om9 om9).mono ?_
  rintro r τ3 ⟨w,rfl,b1,b2,hR,hK⟩
  have d3:=d2.step hR hK
  replace eq:=hK.at eq gq
  clear hR hK d2
  have hx:=lit_text eq b1 (by simpa using b2)
  have hc1:([[48],[49],[50],[51]].getD w.toNat []:List UInt8).length≤1:=getD_len (by decide) _
  generalize ([[48],[49],[50],[51]].getD w.toNat []:List UInt8)=c at hx hc1
  have ha:=abin_sadd (P:=Tryz.prog) (t:=9) (xs:=xs) (ys:=c) om9
  simp -implicitDefEqProofs(disch:=omega)only[Nat.reduceEqDiff,↓reduceIte,vcu,↓vcd,opK_some,h0,h5,h6,hx,ha]
  exact⟨by simp [h0],m - 1,by omega,xs++c,p'+1,by congr 1;omega,by simp,by simp;omega,by omega,by omega,d3⟩
 ·simp -implicitDefEqProofs(disch:=omega)only[Nat.reduceEqDiff,↓reduceIte,vcu,↓vcd,h0,h5,h6]
  refine fin_one Tryz.results108 ⟨xs,p',?_,by omega,by omega,by omega,d⟩
  simp -implicitDefEqProofs(disch:=omega)only[Nat.reduceEqDiff,↓reduceIte,vcu,↓vcd,h5]
def OYI (σ0:AHeap) (g:Nat) (τ:AHeap) (v:Value) (xs:List Int):Prop:=∃q,v=.slice (some ⟨q,0,none⟩) xs.length 1∧τ q=some ⟨ints .i64 xs,false⟩∧σ0 q=none∧q≠g
theorem OYI.ints {σ0 τ:AHeap} {g:Nat} {v:Value} {xs:List Int} (w:OYI σ0 g τ v xs):Ints .i64 τ v xs:=let ⟨q,e,h,_⟩:=w;.inr ⟨q,0,e,intsAt_own h⟩
def OYS (σ0:AHeap) (g:Nat) (τ:AHeap) (v:Value) (xs:List (List UInt8)):Prop:=(v=.slice none 0 0∧xs=[])∨∃q,v=.slice (some ⟨q,0,none⟩) xs.length 1∧τ q=some ⟨texts xs,false⟩∧σ0 q=none∧q≠g
theorem OYS.texts {σ0 τ:AHeap} {g:Nat} {v:Value} {xs:List (List UInt8)} (w:OYS σ0 g τ v xs):Texts τ v xs:=w.imp id fun⟨q,e,h,_⟩=>⟨q,0,e,textsAt_own h⟩
theorem OYS.sub {σ0 τ τ':AHeap} {g:Nat} {v:Value} {xs:List (List UInt8)} (w:OYS σ0 g τ v xs) (hs:Sub τ τ'):OYS σ0 g τ' v xs:=w.imp id fun⟨q,e,h,n⟩=>⟨q,e,hs _ _ h,n⟩
theorem OYS.pick {σ0 τ τ':AHeap} {g:Nat} {v:Value} {xs:List (List UInt8)} (w:OYS σ0 g τ v xs) (hk:Kept g τ τ'):OYS σ0 g τ' v xs:=w.imp id fun⟨q,e,h,n1,n2⟩=>⟨q,e,hk.at h n2,n1,n2⟩
theorem planV_small (xs:List Int):(planV xs).length≤10∧∀t∈planV xs,t.length≤3:=by
 by_cases h:pfOk xs
 ·have hp:=(planV_ok h).1
  refine⟨hp.2,fun t ht=>?_⟩
  obtain⟨i,hi,rfl⟩:=List.mem_iff_getElem.1 ht
  have:=(hp.1 i hi).2.1.2
  simpa [List.getD,hi] using this
 ·have:planV xs=[]:=if_neg h
  rw[this];simp
end Go.Proofs.YtofdnmlpfagibaaGreatDoor
set_option maxHeartbeats 6400000
namespace Go.Proofs.YtofdnmlpfagibaaGreatDoor
open Go Go.Abs Go.RowKit Go.Dial Go.Clos
variable {w0:World}
theorem part_n {z n:Int} (h0:0≤z) (h1:z < 40) (n1:1≤n) (n2:n≤11):0≤z / 39 * n∧z / 39 * n≤11:=by
 have h:z / 39=0∨z / 39=1:=by omega
 rcases h with h|h<;>rw[h]<;>omega
theorem lit7 {τ:AHeap} {q:Nat} {z:Int} (h:τ q=some ⟨ints .i64 [0,0,0,0,1,1,2],false⟩) (h0:0≤z) (h1:z < 7):∃kx:Int,ld τ q (0+z.toNat)=some (.int .i64 kx)∧0≤kx∧kx≤2:=by
 refine⟨_,lit_int h h0 (by simpa using h1),?_⟩
 have:z=0∨z=1∨z=2∨z=3∨z=4∨z=5∨z=6:=by omega
 rcases this with rfl|rfl|rfl|rfl|rfl|rfl|rfl<;>decide
theorem sfIn {l0 l:List Nat} {S:AHeap→Prop} {r:List (List Nat × (AHeap→Prop))} (hd:(l.all fun i=>l0.contains i)=true):∀i∈l,∀τ,Abs.sfOf ((l0,S) :: r) i τ→S τ:=fun i hi τ h=>by
 have h1:=List.all_eq_true.1 hd i hi
 unfold Abs.sfOf at h
 rw[if_pos (by simpa using h1)] at h
 exact h
theorem kept_less {g:Nat} {σ τ:AHeap} (h:Kept g σ τ):Sub (σ.upd g none) (τ.upd g none):=fun k ob e=>by
 by_cases hk:k=g
 ·subst hk;rw[AHeap.upd_same] at e;cases e
 ·rw[AHeap.upd_ne _ _ hk] at e ⊢;exact h k ob hk e
def w8_larbcdun:Abs.Way:=.one 21 .stop
def w8_larbcdu:Abs.Way:=.one 20 w8_larbcdun
def w8_larbcdn:Abs.Way:=.one 19 w8_larbcdun
def w8_larbcd:Abs.Way:=.two 19 w8_larbcdu 20 w8_larbcdn
def w8_larbcn:Abs.Way:=.one 14 (quiets [15,17,18] w8_larbcdn)
def w8_larbc:Abs.Way:=.two 14 (quiets [15,17,18] w8_larbcd) 20 w8_larbcn
def w8_larbn:Abs.Way:=.one 12 w8_larbcn
def w8_larb:Abs.Way:=.two 12 w8_larbc 20 w8_larbn
def w8_larn:Abs.Way:=.one 6 (quiets [7,8,9] w8_larbn)
def w8_lar:Abs.Way:=.two 6 (quiets [7,8,9] w8_larb) 20 w8_larn
def w8_labcdn:Abs.Way:=.one 4 (quiets [9] w8_larbcdn)
def w8_labcd:Abs.Way:=.two 4 (quiets [9] w8_larbcd) 20 w8_labcdn
def w8_labcn:Abs.Way:=.two 4 (quiets [9] w8_larbcn) 14 (quiets [15,17,18] w8_labcdn)
def w8_labc:Abs.Way:=.three 4 (quiets [9] w8_larbc) 14 (quiets [15,17,18] w8_labcd) 20 w8_labcn
def w8_labn:Abs.Way:=.two 4 (quiets [9] w8_larbn) 12 w8_labcn
def w8_lab:Abs.Way:=.three 4 (quiets [9] w8_larb) 12 w8_labc 20 w8_labn
def w8_lan:Abs.Way:=.two 4 w8_larn 6 (quiets [7,8] w8_labn)
def w8_la:Abs.Way:=.three 4 w8_lar 6 (quiets [7,8] w8_lab) 20 w8_lan
def w8_ln:Abs.Way:=.one 2 (quiets [3] w8_lan)
def w8_l:Abs.Way:=.two 2 (quiets [3] w8_la) 20 w8_ln
def w8_abcdn:Abs.Way:=.one 0 (quiets [3] w8_labcdn)
def w8_abcd:Abs.Way:=.two 0 (quiets [3] w8_labcd) 20 w8_abcdn
def w8_abcn:Abs.Way:=.two 0 (quiets [3] w8_labcn) 14 (quiets [15,17,18] w8_abcdn)
def w8_abc:Abs.Way:=.three 0 (quiets [3] w8_labc) 14 (quiets [15,17,18] w8_abcd) 20 w8_abcn
def w8_abn:Abs.Way:=.two 0 (quiets [3] w8_labn) 12 w8_abcn
def w8_ab:Abs.Way:=.three 0 (quiets [3] w8_lab) 12 w8_abc 20 w8_abn
def w8_an:Abs.Way:=.two 0 (quiets [3] w8_lan) 6 (quiets [7,8] w8_abn)
def w8_a:Abs.Way:=.three 0 (quiets [3] w8_la) 6 (quiets [7,8] w8_ab) 20 w8_an
def w8_n:Abs.Way:=.two 0 w8_ln 2 w8_an
def w8_z:Abs.Way:=.three 0 w8_l 2 w8_a 20 w8_n
theorem tree_via {P:Program} {b:Base} {md:Region.Mode} {ops:Array Oper} {Sf:Nat→AHeap→Prop} {K:AK} {way:Abs.Way} {a:AFrame} {σ:AHeap} (h:∀G:Abs.Way→AFrame→AHeap→Prop,G=aTree P b md ops Sf K→G way a σ):aTree P b md ops Sf K way a σ:=h _ rfl
set_option maxRecDepth 16000 in
theorem deed_draw (β σ:AHeap) (g h o:Nat) (bs:List Int) (p:Int) (v1 v2:Value) (e:Ex) (hr:Rd β σ g h o bs p) (hp:0≤p∧p≤9000) (ht:Texts (σ.upd g none) v1 e.ps) (hl:e.ps.length≤11) (hx:∀t∈e.ps,t.length≤5) :
  ACall Tryz.prog w0 73 [.pointer (some ⟨g,0,none⟩),exV v1 v2 e] σ fun r σ'=>∃(d:Dd) (p':Int),r=ddA d∧d.t.length≤5∧p≤p'∧p'≤p+10∧DS β σ σ' g h o bs p':=by
 obtain⟨n,hn,n1,n2,n3⟩:∃n:Int,max (e.ps.length:Int) 1=n∧1≤n∧n≤11∧(0 < e.ps.length→n=e.ps.length):=⟨_,rfl,by omega,by omega,by omega⟩
 obtain⟨⟨O,E,M⟩,ps,cs⟩:=e
 dsimp only at ht hl hx hn n3
 unfold exV
 refine acall_goc mixed Tryz.func73 rfl goodc73 fun pr=>?_
 simp -implicitDefEqProofs(disch:=omega)only[Nat.reduceEqDiff,↓reduceIte,vcu,↓vcd]
 refine r_boxed fun hb τ1 nb s1 eb=>?_
 replace eb:τ1 hb=some ⟨[.int .i64 O,.int .i64 E,.int .i64 M,v1,v2],false⟩:=eb
 refine r_new ze41 fun c4 τ2 n4 s2 e4=>?_
 replace e4:τ2 c4=some ⟨[.int .i64 0,.int .i64 0,.string (tx [])],false⟩:=e4
 have d1:=(DS.start hr).new s1
 have gb:=((DS.start hr).fresh nb)
 have g4:=d1.fresh n4
 have d2:=d1.new s2
 replace eb:=s2 _ _ eb
 have x3:ld τ2 hb (0+3)=some v1:=ld_of eb rfl
 have l1:=lenT ht
 simp -implicitDefEqProofs(disch:=omega)only[Nat.reduceEqDiff,↓reduceIte,vcu,↓vcd,x3,l1,hn]
 have D0:=DS.start d2.rd
 refine acodeB_monoY (Q':=fun en a' T=>en=.normal∧(a' 0=.pointer (some ⟨g,0,none⟩)∧a' 3=.pointer (some ⟨hb,0,none⟩)∧a' 4=.pointer (some ⟨c4,0,none⟩)∧a' 5=.int .i64 n)∧∃(c:Nat) (k l p':Int),a' 6=.pointer (some ⟨c,0,none⟩)∧T c=some ⟨[.int .i64 k,.int .i64 l,.string (tx [])],false⟩∧τ2 c=none∧c≠g∧p≤p'∧p'≤p+4∧DS β τ2 T g h o bs p')
  (region_tree mixed (quiets [1,5,10,11,13,16] w8_z) [] kr9 kr9 (fun p hp=>by cases hp) ?_) ?_
 ·clear eb e4 x3 l1 d2 g4 gb d1 s1 s2 nb n4 n3 ht hx hn hr
  refine tree_quiets (fun _=>none) _ _ _ sf0 kr9 kr9 ?_
  simp -implicitDefEqProofs(disch:=omega)only[Nat.reduceEqDiff,↓reduceIte,vcu,↓vcd,vcp]
  refine tree_via fun G hG=>?_
  have N_larbcdun:∀(a:AFrame) (T:AHeap) (c:Nat) (K0:Int) (L0:Int),(a 0=.pointer (some ⟨g,0,none⟩)∧a 3=.pointer (some ⟨hb,0,none⟩)∧a 4=.pointer (some ⟨c4,0,none⟩)∧a 5=.int .i64 n∧a 6=.pointer (some ⟨c,0,none⟩)∧a 30=.agg #[.int .i64 K0,.int .i64 L0,.string (tx [])])→DS β τ2 T g h o bs (p+1+1+1+1)→T c=some ⟨[.int .i64 0,.int .i64 0,.string (tx [])],false⟩→τ2 c=none∧c≠g→G w8_larbcdun a T:=by
   rintro a T c K0 L0 ⟨h0,h3,h4,h5,h6,h30⟩ d ec fc
   rw[hG]
   refine tree_one rfl ?_
   refine r_sets (g:=c) (i:=0) (C:=[.int .i64 0,.int .i64 0,.string (tx [])]) (by simp -implicitDefEqProofs(disch:=omega)only[Nat.reduceEqDiff,↓reduceIte,vcu,↓vcd,h0,h3,h4,h5,h6,h30]) (by simp -implicitDefEqProofs(disch:=omega)only[Nat.reduceEqDiff,↓reduceIte,vcu,↓vcd,h0,h3,h4,h5,h6,h30,co41];rfl) (by simp -implicitDefEqProofs(disch:=omega)only[Nat.reduceEqDiff,↓reduceIte,vcu,↓vcd,h0,h3,h4,h5,h6,h30];rfl) (by simp -implicitDefEqProofs(disch:=omega)only[Nat.reduceEqDiff,↓reduceIte,vcu,↓vcd,h0,h3,h4,h5,h6,h30];exact Nat.zero_lt_succ _) ec (by simp -implicitDefEqProofs(disch:=omega)only[Nat.reduceEqDiff,↓reduceIte,vcu,↓vcd,h0,h3,h4,h5,h6,h30];exact Nat.le_refl _) fun T' k' e'=>?_
   replace e':T' c=some ⟨[.int .i64 K0,.int .i64 L0,.string (tx [])],false⟩:=by rw[e'];simp -implicitDefEqProofs(disch:=omega)only[Nat.reduceEqDiff,↓reduceIte,vcu,↓vcd,h0,h3,h4,h5,h6,h30];rfl
   replace d:=d.put k' fc.2 fc.1
   try simp -implicitDefEqProofs(disch:=omega)only[Nat.reduceEqDiff,↓reduceIte,vcu,↓vcd,h0,h3,h4,h5,h6,h30]
   refine⟨keep_of rfl (fun p hp=>by cases hp),tree_stop ?_⟩
   exact⟨by first|trivial|rfl,⟨by simp -implicitDefEqProofs(disch:=omega)only[Nat.reduceEqDiff,↓reduceIte,vcu,↓vcd,h0],by simp -implicitDefEqProofs(disch:=omega)only[Nat.reduceEqDiff,↓reduceIte,vcu,↓vcd,h3],by simp -implicitDefEqProofs(disch:=omega)only[Nat.reduceEqDiff,↓reduceIte,vcu,↓vcd,h4],by simp -implicitDefEqProofs(disch:=omega)only[Nat.reduceEqDiff,↓reduceIte,vcu,↓vcd,h5]⟩,c,_,_,_,by simp -implicitDefEqProofs(disch:=omega)only[Nat.reduceEqDiff,↓reduceIte,vcu,↓vcd,h6],e',fc.1,fc.2,by omega,by omega,d⟩
  have N_larbcdu:∀(a:AFrame) (T:AHeap) (K0:Int) (L0:Int),(a 0=.pointer (some ⟨g,0,none⟩)∧a 3=.pointer (some ⟨hb,0,none⟩)∧a 4=.pointer (some ⟨c4,0,none⟩)∧a 5=.int .i64 n∧a 30=.agg #[.int .i64 K0,.int .i64 L0,.string (tx [])])→DS β τ2 T g h o bs (p+1+1+1+1)→G w8_larbcdu a T:=by
   rintro a T K0 L0 ⟨h0,h3,h4,h5,h30⟩ d
   rw[hG]
   refine tree_one rfl ?_
   refine r_new ze41 fun c T' nc sc ec=>?_
   replace ec:T' c=some ⟨[.int .i64 0,.int .i64 0,.string (tx [])],false⟩:=ec
   have fc:=d.fresh nc
   replace d:=d.new sc
   simp -implicitDefEqProofs(disch:=omega)only[Nat.reduceEqDiff,↓reduceIte,vcu,↓vcd]
   refine⟨keep_of rfl (fun p hp=>by cases hp),?_⟩
   rw[←hG]
   exact N_larbcdun _ _ c K0 L0 (by refine⟨?_,?_,?_,?_,?_,?_⟩<;>first|rfl|simp -implicitDefEqProofs(disch:=omega)only[Nat.reduceEqDiff,↓reduceIte,vcu,↓vcd,h0,h3,h4,h5,h30]) d ec fc
  have N_larbcdn:∀(a:AFrame) (T:AHeap) (c:Nat) (K0:Int) (L0:Int),(a 0=.pointer (some ⟨g,0,none⟩)∧a 3=.pointer (some ⟨hb,0,none⟩)∧a 4=.pointer (some ⟨c4,0,none⟩)∧a 5=.int .i64 n∧a 6=.pointer (some ⟨c,0,none⟩)∧a 20=.int .i64 K0∧a 29=.int .i64 L0)→DS β τ2 T g h o bs (p+1+1+1+1)→T c=some ⟨[.int .i64 0,.int .i64 0,.string (tx [])],false⟩→τ2 c=none∧c≠g→G w8_larbcdn a T:=by
   rintro a T c K0 L0 ⟨h0,h3,h4,h5,h6,h20,h29⟩ d ec fc
   rw[hG]
   refine tree_one rfl ?_
   rw[r_build]
   refine⟨(_,#[.int .i64 K0,.int .i64 L0,.string (tx [])]),⟨ze41,by simp -implicitDefEqProofs(disch:=omega)only[Nat.reduceEqDiff,↓reduceIte,vcu,↓vcd,h0,h3,h4,h5,h6,h20,h29];kernel_rfl⟩,?_⟩
   simp -implicitDefEqProofs(disch:=omega)only[Nat.reduceEqDiff,↓reduceIte,vcu,↓vcd]
   refine⟨keep_of rfl (fun p hp=>by cases hp),?_⟩
   rw[←hG]
   exact N_larbcdun _ _ c K0 L0 (by refine⟨?_,?_,?_,?_,?_,?_⟩<;>first|rfl|simp -implicitDefEqProofs(disch:=omega)only[Nat.reduceEqDiff,↓reduceIte,vcu,↓vcd,h0,h3,h4,h5,h6,h20,h29]) d ec fc
  have N_larbcd:∀(a:AFrame) (T:AHeap) (K0:Int) (L0:Int),(a 0=.pointer (some ⟨g,0,none⟩)∧a 3=.pointer (some ⟨hb,0,none⟩)∧a 4=.pointer (some ⟨c4,0,none⟩)∧a 5=.int .i64 n∧a 20=.int .i64 K0∧a 29=.int .i64 L0)→DS β τ2 T g h o bs (p+1+1+1+1)→G w8_larbcd a T:=by
   rintro a T K0 L0 ⟨h0,h3,h4,h5,h20,h29⟩ d
   rw[hG]
   refine tree_two rfl rfl ?_ ?_
   ·skip
    rw[r_build]
    refine⟨(_,#[.int .i64 K0,.int .i64 L0,.string (tx [])]),⟨ze41,by simp -implicitDefEqProofs(disch:=omega)only[Nat.reduceEqDiff,↓reduceIte,vcu,↓vcd,h0,h3,h4,h5,h20,h29];kernel_rfl⟩,?_⟩
    simp -implicitDefEqProofs(disch:=omega)only[Nat.reduceEqDiff,↓reduceIte,vcu,↓vcd]
    refine⟨keep_of rfl (fun p hp=>by cases hp),?_⟩
    rw[←hG]
    exact N_larbcdu _ _ K0 L0 (by refine⟨?_,?_,?_,?_,?_⟩<;>first|rfl|simp -implicitDefEqProofs(disch:=omega)only[Nat.reduceEqDiff,↓reduceIte,vcu,↓vcd,h0,h3,h4,h5,h20,h29]) d
   ·skip
    refine r_new ze41 fun c T' nc sc ec=>?_
    replace ec:T' c=some ⟨[.int .i64 0,.int .i64 0,.string (tx [])],false⟩:=ec
    have fc:=d.fresh nc
    replace d:=d.new sc
    simp -implicitDefEqProofs(disch:=omega)only[Nat.reduceEqDiff,↓reduceIte,vcu,↓vcd]
    refine⟨keep_of rfl (fun p hp=>by cases hp),?_⟩
    rw[←hG]
    exact N_larbcdn _ _ c K0 L0 (by refine⟨?_,?_,?_,?_,?_,?_,?_⟩<;>first|rfl|simp -implicitDefEqProofs(disch:=omega)only[Nat.reduceEqDiff,↓reduceIte,vcu,↓vcd,h0,h3,h4,h5,h20,h29]) d ec fc
  have N_larbcn:∀(a:AFrame) (T:AHeap) (c:Nat) (K0:Int) (z3:Int),(a 0=.pointer (some ⟨g,0,none⟩)∧a 3=.pointer (some ⟨hb,0,none⟩)∧a 4=.pointer (some ⟨c4,0,none⟩)∧a 5=.int .i64 n∧a 6=.pointer (some ⟨c,0,none⟩)∧a 20=.int .i64 K0∧a 23=.int .i64 z3∧a 24=.pointer (some ⟨g,0,none⟩)∧a 27=.int .i64 n)→0≤z3→z3 < n→DS β τ2 T g h o bs (p+1+1+1)→T c=some ⟨[.int .i64 0,.int .i64 0,.string (tx [])],false⟩→τ2 c=none∧c≠g→G w8_larbcn a T:=by
   rintro a T c K0 z3 ⟨h0,h3,h4,h5,h6,h20,h23,h24,h27⟩ z3a z3b d ec fc
   rw[hG]
   refine tree_one rfl ?_
   try simp -implicitDefEqProofs(disch:=omega)only[Nat.reduceEqDiff,↓reduceIte,vcu,↓vcd,h0,h3,h4,h5,h6,h20,h23,h24,h27]
   refine (pick_at β T g h o bs (p+1+1+1) 40 d.rd om9 om9).mono ?_
   rintro _ T' ⟨z4,rfl,z4a,z4b,hR,hK⟩
   replace d:=d.step hR hK
   replace ec:=hK.at ec fc.2
   simp -implicitDefEqProofs(disch:=omega)only[Nat.reduceEqDiff,↓reduceIte,vcu,↓vcd,opK_some,h0,h3,h4,h5,h6,h20,h23,h24,h27]
   refine⟨keep_of rfl (fun p hp=>by cases hp),?_⟩
   have hw:=part_n z4a z4b n1 n2
   refine tree_quiets (fun _=>none) _ _ _ sf0 kr9 kr9 ?_
   simp -implicitDefEqProofs(disch:=omega)only[Nat.reduceEqDiff,↓reduceIte,vcu,↓vcd,vcp,h0,h3,h4,h5,h6,h20,h23,h24,h27]
   rw[←hG]
   exact N_larbcdn _ _ c K0 (z3+z4 / 39 * n) (by refine⟨?_,?_,?_,?_,?_,?_,?_⟩<;>first|rfl|simp -implicitDefEqProofs(disch:=omega)only[Nat.reduceEqDiff,↓reduceIte,vcu,↓vcd,h0,h3,h4,h5,h6,h20,h23,h24,h27]) d ec fc
  have N_larbc:∀(a:AFrame) (T:AHeap) (K0:Int) (z3:Int),(a 0=.pointer (some ⟨g,0,none⟩)∧a 3=.pointer (some ⟨hb,0,none⟩)∧a 4=.pointer (some ⟨c4,0,none⟩)∧a 5=.int .i64 n∧a 20=.int .i64 K0∧a 23=.int .i64 z3∧a 24=.pointer (some ⟨g,0,none⟩)∧a 27=.int .i64 n)→0≤z3→z3 < n→DS β τ2 T g h o bs (p+1+1+1)→G w8_larbc a T:=by
   rintro a T K0 z3 ⟨h0,h3,h4,h5,h20,h23,h24,h27⟩ z3a z3b d
   rw[hG]
   refine tree_two rfl rfl ?_ ?_
   ·skip
    try simp -implicitDefEqProofs(disch:=omega)only[Nat.reduceEqDiff,↓reduceIte,vcu,↓vcd,h0,h3,h4,h5,h20,h23,h24,h27]
    refine (pick_at β T g h o bs (p+1+1+1) 40 d.rd om9 om9).mono ?_
    rintro _ T' ⟨z4,rfl,z4a,z4b,hR,hK⟩
    replace d:=d.step hR hK
    simp -implicitDefEqProofs(disch:=omega)only[Nat.reduceEqDiff,↓reduceIte,vcu,↓vcd,opK_some,h0,h3,h4,h5,h20,h23,h24,h27]
    refine⟨keep_of rfl (fun p hp=>by cases hp),?_⟩
    have hw:=part_n z4a z4b n1 n2
    refine tree_quiets (fun _=>none) _ _ _ sf0 kr9 kr9 ?_
    simp -implicitDefEqProofs(disch:=omega)only[Nat.reduceEqDiff,↓reduceIte,vcu,↓vcd,vcp,h0,h3,h4,h5,h20,h23,h24,h27]
    rw[←hG]
    exact N_larbcd _ _ K0 (z3+z4 / 39 * n) (by refine⟨?_,?_,?_,?_,?_,?_⟩<;>first|rfl|simp -implicitDefEqProofs(disch:=omega)only[Nat.reduceEqDiff,↓reduceIte,vcu,↓vcd,h0,h3,h4,h5,h20,h23,h24,h27]) d
   ·skip
    refine r_new ze41 fun c T' nc sc ec=>?_
    replace ec:T' c=some ⟨[.int .i64 0,.int .i64 0,.string (tx [])],false⟩:=ec
    have fc:=d.fresh nc
    replace d:=d.new sc
    simp -implicitDefEqProofs(disch:=omega)only[Nat.reduceEqDiff,↓reduceIte,vcu,↓vcd]
    refine⟨keep_of rfl (fun p hp=>by cases hp),?_⟩
    rw[←hG]
    exact N_larbcn _ _ c K0 z3 (by refine⟨?_,?_,?_,?_,?_,?_,?_,?_,?_⟩<;>first|rfl|simp -implicitDefEqProofs(disch:=omega)only[Nat.reduceEqDiff,↓reduceIte,vcu,↓vcd,h0,h3,h4,h5,h20,h23,h24,h27]) z3a z3b d ec fc
  have N_larbn:∀(a:AFrame) (T:AHeap) (c:Nat) (K0:Int),(a 0=.pointer (some ⟨g,0,none⟩)∧a 3=.pointer (some ⟨hb,0,none⟩)∧a 4=.pointer (some ⟨c4,0,none⟩)∧a 5=.int .i64 n∧a 6=.pointer (some ⟨c,0,none⟩)∧a 20=.int .i64 K0∧a 21=.pointer (some ⟨g,0,none⟩)∧a 22=.int .i64 n∧a 24=.pointer (some ⟨g,0,none⟩)∧a 27=.int .i64 n)→DS β τ2 T g h o bs (p+1+1)→T c=some ⟨[.int .i64 0,.int .i64 0,.string (tx [])],false⟩→τ2 c=none∧c≠g→G w8_larbn a T:=by
   rintro a T c K0 ⟨h0,h3,h4,h5,h6,h20,h21,h22,h24,h27⟩ d ec fc
   rw[hG]
   refine tree_one rfl ?_
   try simp -implicitDefEqProofs(disch:=omega)only[Nat.reduceEqDiff,↓reduceIte,vcu,↓vcd,h0,h3,h4,h5,h6,h20,h21,h22,h24,h27]
   refine (pick_at β T g h o bs (p+1+1) n d.rd om9 om9).mono ?_
   rintro _ T' ⟨z3,rfl,z3a,z3b,hR,hK⟩
   replace d:=d.step hR hK
   replace ec:=hK.at ec fc.2
   simp -implicitDefEqProofs(disch:=omega)only[Nat.reduceEqDiff,↓reduceIte,vcu,↓vcd,opK_some,h0,h3,h4,h5,h6,h20,h21,h22,h24,h27]
   refine⟨keep_of rfl (fun p hp=>by cases hp),?_⟩
   rw[←hG]
   exact N_larbcn _ _ c K0 z3 (by refine⟨?_,?_,?_,?_,?_,?_,?_,?_,?_⟩<;>first|rfl|simp -implicitDefEqProofs(disch:=omega)only[Nat.reduceEqDiff,↓reduceIte,vcu,↓vcd,h0,h3,h4,h5,h6,h20,h21,h22,h24,h27]) z3a z3b d ec fc
  have N_larb:∀(a:AFrame) (T:AHeap) (K0:Int),(a 0=.pointer (some ⟨g,0,none⟩)∧a 3=.pointer (some ⟨hb,0,none⟩)∧a 4=.pointer (some ⟨c4,0,none⟩)∧a 5=.int .i64 n∧a 20=.int .i64 K0∧a 21=.pointer (some ⟨g,0,none⟩)∧a 22=.int .i64 n∧a 24=.pointer (some ⟨g,0,none⟩)∧a 27=.int .i64 n)→DS β τ2 T g h o bs (p+1+1)→G w8_larb a T:=by
   rintro a T K0 ⟨h0,h3,h4,h5,h20,h21,h22,h24,h27⟩ d
   rw[hG]
   refine tree_two rfl rfl ?_ ?_
   ·skip
    try simp -implicitDefEqProofs(disch:=omega)only[Nat.reduceEqDiff,↓reduceIte,vcu,↓vcd,h0,h3,h4,h5,h20,h21,h22,h24,h27]
    refine (pick_at β T g h o bs (p+1+1) n d.rd om9 om9).mono ?_
    rintro _ T' ⟨z3,rfl,z3a,z3b,hR,hK⟩
    replace d:=d.step hR hK
    simp -implicitDefEqProofs(disch:=omega)only[Nat.reduceEqDiff,↓reduceIte,vcu,↓vcd,opK_some,h0,h3,h4,h5,h20,h21,h22,h24,h27]
    refine⟨keep_of rfl (fun p hp=>by cases hp),?_⟩
    rw[←hG]
    exact N_larbc _ _ K0 z3 (by refine⟨?_,?_,?_,?_,?_,?_,?_,?_⟩<;>first|rfl|simp -implicitDefEqProofs(disch:=omega)only[Nat.reduceEqDiff,↓reduceIte,vcu,↓vcd,h0,h3,h4,h5,h20,h21,h22,h24,h27]) z3a z3b d
   ·skip
    refine r_new ze41 fun c T' nc sc ec=>?_
    replace ec:T' c=some ⟨[.int .i64 0,.int .i64 0,.string (tx [])],false⟩:=ec
    have fc:=d.fresh nc
    replace d:=d.new sc
    simp -implicitDefEqProofs(disch:=omega)only[Nat.reduceEqDiff,↓reduceIte,vcu,↓vcd]
    refine⟨keep_of rfl (fun p hp=>by cases hp),?_⟩
    rw[←hG]
    exact N_larbn _ _ c K0 (by refine⟨?_,?_,?_,?_,?_,?_,?_,?_,?_,?_⟩<;>first|rfl|simp -implicitDefEqProofs(disch:=omega)only[Nat.reduceEqDiff,↓reduceIte,vcu,↓vcd,h0,h3,h4,h5,h20,h21,h22,h24,h27]) d ec fc
  have N_larn:∀(a:AFrame) (T:AHeap) (c:Nat) (kx:Int),(a 0=.pointer (some ⟨g,0,none⟩)∧a 3=.pointer (some ⟨hb,0,none⟩)∧a 4=.pointer (some ⟨c4,0,none⟩)∧a 5=.int .i64 n∧a 6=.pointer (some ⟨c,0,none⟩)∧a 15=.int .i64 kx∧a 16=.pointer (some ⟨g,0,none⟩)∧a 21=.pointer (some ⟨g,0,none⟩)∧a 22=.int .i64 n∧a 24=.pointer (some ⟨g,0,none⟩)∧a 27=.int .i64 n)→0≤kx→kx≤2→DS β τ2 T g h o bs (p+1)→T c=some ⟨[.int .i64 0,.int .i64 0,.string (tx [])],false⟩→τ2 c=none∧c≠g→G w8_larn a T:=by
   rintro a T c kx ⟨h0,h3,h4,h5,h6,h15,h16,h21,h22,h24,h27⟩ kxa kxb d ec fc
   rw[hG]
   refine tree_one rfl ?_
   try simp -implicitDefEqProofs(disch:=omega)only[Nat.reduceEqDiff,↓reduceIte,vcu,↓vcd,h0,h3,h4,h5,h6,h15,h16,h21,h22,h24,h27]
   refine (pick_at β T g h o bs (p+1) 60 d.rd om9 om9).mono ?_
   rintro _ T' ⟨z2,rfl,z2a,z2b,hR,hK⟩
   replace d:=d.step hR hK
   replace ec:=hK.at ec fc.2
   simp -implicitDefEqProofs(disch:=omega)only[Nat.reduceEqDiff,↓reduceIte,vcu,↓vcd,opK_some,h0,h3,h4,h5,h6,h15,h16,h21,h22,h24,h27]
   refine⟨keep_of rfl (fun p hp=>by cases hp),?_⟩
   refine tree_quiets (fun _=>none) _ _ _ sf0 kr9 kr9 ?_
   simp -implicitDefEqProofs(disch:=omega)only[Nat.reduceEqDiff,↓reduceIte,vcu,↓vcd,vcp,h0,h3,h4,h5,h6,h15,h16,h21,h22,h24,h27]
   rw[←hG]
   exact N_larbn _ _ c (kx+z2 / 59 * 3) (by refine⟨?_,?_,?_,?_,?_,?_,?_,?_,?_,?_⟩<;>first|rfl|simp -implicitDefEqProofs(disch:=omega)only[Nat.reduceEqDiff,↓reduceIte,vcu,↓vcd,h0,h3,h4,h5,h6,h15,h16,h21,h22,h24,h27]) d ec fc
  have N_lar:∀(a:AFrame) (T:AHeap) (kx:Int),(a 0=.pointer (some ⟨g,0,none⟩)∧a 3=.pointer (some ⟨hb,0,none⟩)∧a 4=.pointer (some ⟨c4,0,none⟩)∧a 5=.int .i64 n∧a 15=.int .i64 kx∧a 16=.pointer (some ⟨g,0,none⟩)∧a 21=.pointer (some ⟨g,0,none⟩)∧a 22=.int .i64 n∧a 24=.pointer (some ⟨g,0,none⟩)∧a 27=.int .i64 n)→0≤kx→kx≤2→DS β τ2 T g h o bs (p+1)→G w8_lar a T:=by
   rintro a T kx ⟨h0,h3,h4,h5,h15,h16,h21,h22,h24,h27⟩ kxa kxb d
   rw[hG]
   refine tree_two rfl rfl ?_ ?_
   ·skip
    try simp -implicitDefEqProofs(disch:=omega)only[Nat.reduceEqDiff,↓reduceIte,vcu,↓vcd,h0,h3,h4,h5,h15,h16,h21,h22,h24,h27]
    refine (pick_at β T g h o bs (p+1) 60 d.rd om9 om9).mono ?_
    rintro _ T' ⟨z2,rfl,z2a,z2b,hR,hK⟩
    replace d:=d.step hR hK
    simp -implicitDefEqProofs(disch:=omega)only[Nat.reduceEqDiff,↓reduceIte,vcu,↓vcd,opK_some,h0,h3,h4,h5,h15,h16,h21,h22,h24,h27]
    refine⟨keep_of rfl (fun p hp=>by cases hp),?_⟩
    refine tree_quiets (fun _=>none) _ _ _ sf0 kr9 kr9 ?_
    simp -implicitDefEqProofs(disch:=omega)only[Nat.reduceEqDiff,↓reduceIte,vcu,↓vcd,vcp,h0,h3,h4,h5,h15,h16,h21,h22,h24,h27]
    rw[←hG]
    exact N_larb _ _ (kx+z2 / 59 * 3) (by refine⟨?_,?_,?_,?_,?_,?_,?_,?_,?_⟩<;>first|rfl|simp -implicitDefEqProofs(disch:=omega)only[Nat.reduceEqDiff,↓reduceIte,vcu,↓vcd,h0,h3,h4,h5,h15,h16,h21,h22,h24,h27]) d
   ·skip
    refine r_new ze41 fun c T' nc sc ec=>?_
    replace ec:T' c=some ⟨[.int .i64 0,.int .i64 0,.string (tx [])],false⟩:=ec
    have fc:=d.fresh nc
    replace d:=d.new sc
    simp -implicitDefEqProofs(disch:=omega)only[Nat.reduceEqDiff,↓reduceIte,vcu,↓vcd]
    refine⟨keep_of rfl (fun p hp=>by cases hp),?_⟩
    rw[←hG]
    exact N_larn _ _ c kx (by refine⟨?_,?_,?_,?_,?_,?_,?_,?_,?_,?_,?_⟩<;>first|rfl|simp -implicitDefEqProofs(disch:=omega)only[Nat.reduceEqDiff,↓reduceIte,vcu,↓vcd,h0,h3,h4,h5,h15,h16,h21,h22,h24,h27]) kxa kxb d ec fc
  have N_labcdn:∀(a:AFrame) (T:AHeap) (q:Nat) (c:Nat) (z1:Int) (xb:Int) (L0:Int),(a 0=.pointer (some ⟨g,0,none⟩)∧a 3=.pointer (some ⟨hb,0,none⟩)∧a 4=.pointer (some ⟨c4,0,none⟩)∧a 5=.int .i64 n∧a 6=.pointer (some ⟨c,0,none⟩)∧a 14=.pointer (some ⟨q,0+z1.toNat,none⟩)∧a 19=.int .i64 xb∧a 29=.int .i64 L0)→0≤z1→z1 < 7→0≤xb→xb≤3→DS β τ2 T g h o bs (p+1+1+1+1)→T q=some ⟨ints .i64 [0,0,0,0,1,1,2],false⟩→τ2 q=none∧q≠g→T c=some ⟨[.int .i64 0,.int .i64 0,.string (tx [])],false⟩→τ2 c=none∧c≠g→G w8_labcdn a T:=by
   rintro a T q c z1 xb L0 ⟨h0,h3,h4,h5,h6,h14,h19,h29⟩ z1a z1b xba xbb d eq fq ec fc
   rw[hG]
   refine tree_one rfl ?_
   obtain⟨kx,hx,kxa,kxb⟩:=lit7 eq z1a z1b
   simp -implicitDefEqProofs(disch:=omega)only[Nat.reduceEqDiff,↓reduceIte,vcu,↓vcd,h0,h3,h4,h5,h6,h14,h19,h29,hx]
   refine⟨keep_of rfl (fun p hp=>by cases hp),?_⟩
   refine tree_quiets (fun _=>none) _ _ _ sf0 kr9 kr9 ?_
   simp -implicitDefEqProofs(disch:=omega)only[Nat.reduceEqDiff,↓reduceIte,vcu,↓vcd,vcp,h0,h3,h4,h5,h6,h14,h19,h29]
   rw[←hG]
   exact N_larbcdn _ _ c (kx+xb) L0 (by refine⟨?_,?_,?_,?_,?_,?_,?_⟩<;>first|rfl|simp -implicitDefEqProofs(disch:=omega)only[Nat.reduceEqDiff,↓reduceIte,vcu,↓vcd,h0,h3,h4,h5,h6,h14,h19,h29]) d ec fc
  have N_labcd:∀(a:AFrame) (T:AHeap) (q:Nat) (z1:Int) (xb:Int) (L0:Int),(a 0=.pointer (some ⟨g,0,none⟩)∧a 3=.pointer (some ⟨hb,0,none⟩)∧a 4=.pointer (some ⟨c4,0,none⟩)∧a 5=.int .i64 n∧a 14=.pointer (some ⟨q,0+z1.toNat,none⟩)∧a 19=.int .i64 xb∧a 29=.int .i64 L0)→0≤z1→z1 < 7→0≤xb→xb≤3→DS β τ2 T g h o bs (p+1+1+1+1)→T q=some ⟨ints .i64 [0,0,0,0,1,1,2],false⟩→τ2 q=none∧q≠g→G w8_labcd a T:=by
   rintro a T q z1 xb L0 ⟨h0,h3,h4,h5,h14,h19,h29⟩ z1a z1b xba xbb d eq fq
   rw[hG]
   refine tree_two rfl rfl ?_ ?_
   ·skip
    obtain⟨kx,hx,kxa,kxb⟩:=lit7 eq z1a z1b
    simp -implicitDefEqProofs(disch:=omega)only[Nat.reduceEqDiff,↓reduceIte,vcu,↓vcd,h0,h3,h4,h5,h14,h19,h29,hx]
    refine⟨keep_of rfl (fun p hp=>by cases hp),?_⟩
    refine tree_quiets (fun _=>none) _ _ _ sf0 kr9 kr9 ?_
    simp -implicitDefEqProofs(disch:=omega)only[Nat.reduceEqDiff,↓reduceIte,vcu,↓vcd,vcp,h0,h3,h4,h5,h14,h19,h29]
    rw[←hG]
    exact N_larbcd _ _ (kx+xb) L0 (by refine⟨?_,?_,?_,?_,?_,?_⟩<;>first|rfl|simp -implicitDefEqProofs(disch:=omega)only[Nat.reduceEqDiff,↓reduceIte,vcu,↓vcd,h0,h3,h4,h5,h14,h19,h29]) d
   ·skip
    refine r_new ze41 fun c T' nc sc ec=>?_
    replace ec:T' c=some ⟨[.int .i64 0,.int .i64 0,.string (tx [])],false⟩:=ec
    have fc:=d.fresh nc
    replace d:=d.new sc
    replace eq:=sc _ _ eq
    simp -implicitDefEqProofs(disch:=omega)only[Nat.reduceEqDiff,↓reduceIte,vcu,↓vcd]
    refine⟨keep_of rfl (fun p hp=>by cases hp),?_⟩
    rw[←hG]
    exact N_labcdn _ _ q c z1 xb L0 (by refine⟨?_,?_,?_,?_,?_,?_,?_,?_⟩<;>first|rfl|simp -implicitDefEqProofs(disch:=omega)only[Nat.reduceEqDiff,↓reduceIte,vcu,↓vcd,h0,h3,h4,h5,h14,h19,h29]) z1a z1b xba xbb d eq fq ec fc
  have N_labcn:∀(a:AFrame) (T:AHeap) (q:Nat) (c:Nat) (z1:Int) (xb:Int) (z3:Int),(a 0=.pointer (some ⟨g,0,none⟩)∧a 3=.pointer (some ⟨hb,0,none⟩)∧a 4=.pointer (some ⟨c4,0,none⟩)∧a 5=.int .i64 n∧a 6=.pointer (some ⟨c,0,none⟩)∧a 14=.pointer (some ⟨q,0+z1.toNat,none⟩)∧a 19=.int .i64 xb∧a 23=.int .i64 z3∧a 24=.pointer (some ⟨g,0,none⟩)∧a 27=.int .i64 n)→0≤z1→z1 < 7→0≤xb→xb≤3→0≤z3→z3 < n→DS β τ2 T g h o bs (p+1+1+1)→T q=some ⟨ints .i64 [0,0,0,0,1,1,2],false⟩→τ2 q=none∧q≠g→T c=some ⟨[.int .i64 0,.int .i64 0,.string (tx [])],false⟩→τ2 c=none∧c≠g→G w8_labcn a T:=by
   rintro a T q c z1 xb z3 ⟨h0,h3,h4,h5,h6,h14,h19,h23,h24,h27⟩ z1a z1b xba xbb z3a z3b d eq fq ec fc
   rw[hG]
   refine tree_two rfl rfl ?_ ?_
   ·skip
    obtain⟨kx,hx,kxa,kxb⟩:=lit7 eq z1a z1b
    simp -implicitDefEqProofs(disch:=omega)only[Nat.reduceEqDiff,↓reduceIte,vcu,↓vcd,h0,h3,h4,h5,h6,h14,h19,h23,h24,h27,hx]
    refine⟨keep_of rfl (fun p hp=>by cases hp),?_⟩
    refine tree_quiets (fun _=>none) _ _ _ sf0 kr9 kr9 ?_
    simp -implicitDefEqProofs(disch:=omega)only[Nat.reduceEqDiff,↓reduceIte,vcu,↓vcd,vcp,h0,h3,h4,h5,h6,h14,h19,h23,h24,h27]
    rw[←hG]
    exact N_larbcn _ _ c (kx+xb) z3 (by refine⟨?_,?_,?_,?_,?_,?_,?_,?_,?_⟩<;>first|rfl|simp -implicitDefEqProofs(disch:=omega)only[Nat.reduceEqDiff,↓reduceIte,vcu,↓vcd,h0,h3,h4,h5,h6,h14,h19,h23,h24,h27]) z3a z3b d ec fc
   ·skip
    try simp -implicitDefEqProofs(disch:=omega)only[Nat.reduceEqDiff,↓reduceIte,vcu,↓vcd,h0,h3,h4,h5,h6,h14,h19,h23,h24,h27]
    refine (pick_at β T g h o bs (p+1+1+1) 40 d.rd om9 om9).mono ?_
    rintro _ T' ⟨z4,rfl,z4a,z4b,hR,hK⟩
    replace d:=d.step hR hK
    replace eq:=hK.at eq fq.2
    replace ec:=hK.at ec fc.2
    simp -implicitDefEqProofs(disch:=omega)only[Nat.reduceEqDiff,↓reduceIte,vcu,↓vcd,opK_some,h0,h3,h4,h5,h6,h14,h19,h23,h24,h27]
    refine⟨keep_of rfl (fun p hp=>by cases hp),?_⟩
    have hw:=part_n z4a z4b n1 n2
    refine tree_quiets (fun _=>none) _ _ _ sf0 kr9 kr9 ?_
    simp -implicitDefEqProofs(disch:=omega)only[Nat.reduceEqDiff,↓reduceIte,vcu,↓vcd,vcp,h0,h3,h4,h5,h6,h14,h19,h23,h24,h27]
    rw[←hG]
    exact N_labcdn _ _ q c z1 xb (z3+z4 / 39 * n) (by refine⟨?_,?_,?_,?_,?_,?_,?_,?_⟩<;>first|rfl|simp -implicitDefEqProofs(disch:=omega)only[Nat.reduceEqDiff,↓reduceIte,vcu,↓vcd,h0,h3,h4,h5,h6,h14,h19,h23,h24,h27]) z1a z1b xba xbb d eq fq ec fc
  have N_labc:∀(a:AFrame) (T:AHeap) (q:Nat) (z1:Int) (xb:Int) (z3:Int),(a 0=.pointer (some ⟨g,0,none⟩)∧a 3=.pointer (some ⟨hb,0,none⟩)∧a 4=.pointer (some ⟨c4,0,none⟩)∧a 5=.int .i64 n∧a 14=.pointer (some ⟨q,0+z1.toNat,none⟩)∧a 19=.int .i64 xb∧a 23=.int .i64 z3∧a 24=.pointer (some ⟨g,0,none⟩)∧a 27=.int .i64 n)→0≤z1→z1 < 7→0≤xb→xb≤3→0≤z3→z3 < n→DS β τ2 T g h o bs (p+1+1+1)→T q=some ⟨ints .i64 [0,0,0,0,1,1,2],false⟩→τ2 q=none∧q≠g→G w8_labc a T:=by
   rintro a T q z1 xb z3 ⟨h0,h3,h4,h5,h14,h19,h23,h24,h27⟩ z1a z1b xba xbb z3a z3b d eq fq
   rw[hG]
   refine tree_three rfl rfl rfl ?_ ?_ ?_
   ·skip
    obtain⟨kx,hx,kxa,kxb⟩:=lit7 eq z1a z1b
    simp -implicitDefEqProofs(disch:=omega)only[Nat.reduceEqDiff,↓reduceIte,vcu,↓vcd,h0,h3,h4,h5,h14,h19,h23,h24,h27,hx]
    refine⟨keep_of rfl (fun p hp=>by cases hp),?_⟩
    refine tree_quiets (fun _=>none) _ _ _ sf0 kr9 kr9 ?_
    simp -implicitDefEqProofs(disch:=omega)only[Nat.reduceEqDiff,↓reduceIte,vcu,↓vcd,vcp,h0,h3,h4,h5,h14,h19,h23,h24,h27]
    rw[←hG]
    exact N_larbc _ _ (kx+xb) z3 (by refine⟨?_,?_,?_,?_,?_,?_,?_,?_⟩<;>first|rfl|simp -implicitDefEqProofs(disch:=omega)only[Nat.reduceEqDiff,↓reduceIte,vcu,↓vcd,h0,h3,h4,h5,h14,h19,h23,h24,h27]) z3a z3b d
   ·skip
    try simp -implicitDefEqProofs(disch:=omega)only[Nat.reduceEqDiff,↓reduceIte,vcu,↓vcd,h0,h3,h4,h5,h14,h19,h23,h24,h27]
    refine (pick_at β T g h o bs (p+1+1+1) 40 d.rd om9 om9).mono ?_
    rintro _ T' ⟨z4,rfl,z4a,z4b,hR,hK⟩
    replace d:=d.step hR hK
    replace eq:=hK.at eq fq.2
    simp -implicitDefEqProofs(disch:=omega)only[Nat.reduceEqDiff,↓reduceIte,vcu,↓vcd,opK_some,h0,h3,h4,h5,h14,h19,h23,h24,h27]
    refine⟨keep_of rfl (fun p hp=>by cases hp),?_⟩
    have hw:=part_n z4a z4b n1 n2
    refine tree_quiets (fun _=>none) _ _ _ sf0 kr9 kr9 ?_
    simp -implicitDefEqProofs(disch:=omega)only[Nat.reduceEqDiff,↓reduceIte,vcu,↓vcd,vcp,h0,h3,h4,h5,h14,h19,h23,h24,h27]
    rw[←hG]
    exact N_labcd _ _ q z1 xb (z3+z4 / 39 * n) (by refine⟨?_,?_,?_,?_,?_,?_,?_⟩<;>first|rfl|simp -implicitDefEqProofs(disch:=omega)only[Nat.reduceEqDiff,↓reduceIte,vcu,↓vcd,h0,h3,h4,h5,h14,h19,h23,h24,h27]) z1a z1b xba xbb d eq fq
   ·skip
    refine r_new ze41 fun c T' nc sc ec=>?_
    replace ec:T' c=some ⟨[.int .i64 0,.int .i64 0,.string (tx [])],false⟩:=ec
    have fc:=d.fresh nc
    replace d:=d.new sc
    replace eq:=sc _ _ eq
    simp -implicitDefEqProofs(disch:=omega)only[Nat.reduceEqDiff,↓reduceIte,vcu,↓vcd]
    refine⟨keep_of rfl (fun p hp=>by cases hp),?_⟩
    rw[←hG]
    exact N_labcn _ _ q c z1 xb z3 (by refine⟨?_,?_,?_,?_,?_,?_,?_,?_,?_,?_⟩<;>first|rfl|simp -implicitDefEqProofs(disch:=omega)only[Nat.reduceEqDiff,↓reduceIte,vcu,↓vcd,h0,h3,h4,h5,h14,h19,h23,h24,h27]) z1a z1b xba xbb z3a z3b d eq fq ec fc
  have N_labn:∀(a:AFrame) (T:AHeap) (q:Nat) (c:Nat) (z1:Int) (xb:Int),(a 0=.pointer (some ⟨g,0,none⟩)∧a 3=.pointer (some ⟨hb,0,none⟩)∧a 4=.pointer (some ⟨c4,0,none⟩)∧a 5=.int .i64 n∧a 6=.pointer (some ⟨c,0,none⟩)∧a 14=.pointer (some ⟨q,0+z1.toNat,none⟩)∧a 19=.int .i64 xb∧a 21=.pointer (some ⟨g,0,none⟩)∧a 22=.int .i64 n∧a 24=.pointer (some ⟨g,0,none⟩)∧a 27=.int .i64 n)→0≤z1→z1 < 7→0≤xb→xb≤3→DS β τ2 T g h o bs (p+1+1)→T q=some ⟨ints .i64 [0,0,0,0,1,1,2],false⟩→τ2 q=none∧q≠g→T c=some ⟨[.int .i64 0,.int .i64 0,.string (tx [])],false⟩→τ2 c=none∧c≠g→G w8_labn a T:=by
   rintro a T q c z1 xb ⟨h0,h3,h4,h5,h6,h14,h19,h21,h22,h24,h27⟩ z1a z1b xba xbb d eq fq ec fc
   rw[hG]
   refine tree_two rfl rfl ?_ ?_
   ·skip
    obtain⟨kx,hx,kxa,kxb⟩:=lit7 eq z1a z1b
    simp -implicitDefEqProofs(disch:=omega)only[Nat.reduceEqDiff,↓reduceIte,vcu,↓vcd,h0,h3,h4,h5,h6,h14,h19,h21,h22,h24,h27,hx]
    refine⟨keep_of rfl (fun p hp=>by cases hp),?_⟩
    refine tree_quiets (fun _=>none) _ _ _ sf0 kr9 kr9 ?_
    simp -implicitDefEqProofs(disch:=omega)only[Nat.reduceEqDiff,↓reduceIte,vcu,↓vcd,vcp,h0,h3,h4,h5,h6,h14,h19,h21,h22,h24,h27]
    rw[←hG]
    exact N_larbn _ _ c (kx+xb) (by refine⟨?_,?_,?_,?_,?_,?_,?_,?_,?_,?_⟩<;>first|rfl|simp -implicitDefEqProofs(disch:=omega)only[Nat.reduceEqDiff,↓reduceIte,vcu,↓vcd,h0,h3,h4,h5,h6,h14,h19,h21,h22,h24,h27]) d ec fc
   ·skip
    try simp -implicitDefEqProofs(disch:=omega)only[Nat.reduceEqDiff,↓reduceIte,vcu,↓vcd,h0,h3,h4,h5,h6,h14,h19,h21,h22,h24,h27]
    refine (pick_at β T g h o bs (p+1+1) n d.rd om9 om9).mono ?_
    rintro _ T' ⟨z3,rfl,z3a,z3b,hR,hK⟩
    replace d:=d.step hR hK
    replace eq:=hK.at eq fq.2
    replace ec:=hK.at ec fc.2
    simp -implicitDefEqProofs(disch:=omega)only[Nat.reduceEqDiff,↓reduceIte,vcu,↓vcd,opK_some,h0,h3,h4,h5,h6,h14,h19,h21,h22,h24,h27]
    refine⟨keep_of rfl (fun p hp=>by cases hp),?_⟩
    rw[←hG]
    exact N_labcn _ _ q c z1 xb z3 (by refine⟨?_,?_,?_,?_,?_,?_,?_,?_,?_,?_⟩<;>first|rfl|simp -implicitDefEqProofs(disch:=omega)only[Nat.reduceEqDiff,↓reduceIte,vcu,↓vcd,h0,h3,h4,h5,h6,h14,h19,h21,h22,h24,h27]) z1a z1b xba xbb z3a z3b d eq fq ec fc
  have N_lab:∀(a:AFrame) (T:AHeap) (q:Nat) (z1:Int) (xb:Int),(a 0=.pointer (some ⟨g,0,none⟩)∧a 3=.pointer (some ⟨hb,0,none⟩)∧a 4=.pointer (some ⟨c4,0,none⟩)∧a 5=.int .i64 n∧a 14=.pointer (some ⟨q,0+z1.toNat,none⟩)∧a 19=.int .i64 xb∧a 21=.pointer (some ⟨g,0,none⟩)∧a 22=.int .i64 n∧a 24=.pointer (some ⟨g,0,none⟩)∧a 27=.int .i64 n)→0≤z1→z1 < 7→0≤xb→xb≤3→DS β τ2 T g h o bs (p+1+1)→T q=some ⟨ints .i64 [0,0,0,0,1,1,2],false⟩→τ2 q=none∧q≠g→G w8_lab a T:=by
   rintro a T q z1 xb ⟨h0,h3,h4,h5,h14,h19,h21,h22,h24,h27⟩ z1a z1b xba xbb d eq fq
   rw[hG]
   refine tree_three rfl rfl rfl ?_ ?_ ?_
   ·skip
    obtain⟨kx,hx,kxa,kxb⟩:=lit7 eq z1a z1b
    simp -implicitDefEqProofs(disch:=omega)only[Nat.reduceEqDiff,↓reduceIte,vcu,↓vcd,h0,h3,h4,h5,h14,h19,h21,h22,h24,h27,hx]
    refine⟨keep_of rfl (fun p hp=>by cases hp),?_⟩
    refine tree_quiets (fun _=>none) _ _ _ sf0 kr9 kr9 ?_
    simp -implicitDefEqProofs(disch:=omega)only[Nat.reduceEqDiff,↓reduceIte,vcu,↓vcd,vcp,h0,h3,h4,h5,h14,h19,h21,h22,h24,h27]
    rw[←hG]
    exact N_larb _ _ (kx+xb) (by refine⟨?_,?_,?_,?_,?_,?_,?_,?_,?_⟩<;>first|rfl|simp -implicitDefEqProofs(disch:=omega)only[Nat.reduceEqDiff,↓reduceIte,vcu,↓vcd,h0,h3,h4,h5,h14,h19,h21,h22,h24,h27]) d
   ·skip
    try simp -implicitDefEqProofs(disch:=omega)only[Nat.reduceEqDiff,↓reduceIte,vcu,↓vcd,h0,h3,h4,h5,h14,h19,h21,h22,h24,h27]
    refine (pick_at β T g h o bs (p+1+1) n d.rd om9 om9).mono ?_
    rintro _ T' ⟨z3,rfl,z3a,z3b,hR,hK⟩
    replace d:=d.step hR hK
    replace eq:=hK.at eq fq.2
    simp -implicitDefEqProofs(disch:=omega)only[Nat.reduceEqDiff,↓reduceIte,vcu,↓vcd,opK_some,h0,h3,h4,h5,h14,h19,h21,h22,h24,h27]
    refine⟨keep_of rfl (fun p hp=>by cases hp),?_⟩
    rw[←hG]
    exact N_labc _ _ q z1 xb z3 (by refine⟨?_,?_,?_,?_,?_,?_,?_,?_,?_⟩<;>first|rfl|simp -implicitDefEqProofs(disch:=omega)only[Nat.reduceEqDiff,↓reduceIte,vcu,↓vcd,h0,h3,h4,h5,h14,h19,h21,h22,h24,h27]) z1a z1b xba xbb z3a z3b d eq fq
   ·skip
    refine r_new ze41 fun c T' nc sc ec=>?_
    replace ec:T' c=some ⟨[.int .i64 0,.int .i64 0,.string (tx [])],false⟩:=ec
    have fc:=d.fresh nc
    replace d:=d.new sc
    replace eq:=sc _ _ eq
    simp -implicitDefEqProofs(disch:=omega)only[Nat.reduceEqDiff,↓reduceIte,vcu,↓vcd]
    refine⟨keep_of rfl (fun p hp=>by cases hp),?_⟩
    rw[←hG]
    exact N_labn _ _ q c z1 xb (by refine⟨?_,?_,?_,?_,?_,?_,?_,?_,?_,?_,?_⟩<;>first|rfl|simp -implicitDefEqProofs(disch:=omega)only[Nat.reduceEqDiff,↓reduceIte,vcu,↓vcd,h0,h3,h4,h5,h14,h19,h21,h22,h24,h27]) z1a z1b xba xbb d eq fq ec fc
  have N_lan:∀(a:AFrame) (T:AHeap) (q:Nat) (c:Nat) (z1:Int),(a 0=.pointer (some ⟨g,0,none⟩)∧a 3=.pointer (some ⟨hb,0,none⟩)∧a 4=.pointer (some ⟨c4,0,none⟩)∧a 5=.int .i64 n∧a 6=.pointer (some ⟨c,0,none⟩)∧a 14=.pointer (some ⟨q,0+z1.toNat,none⟩)∧a 16=.pointer (some ⟨g,0,none⟩)∧a 21=.pointer (some ⟨g,0,none⟩)∧a 22=.int .i64 n∧a 24=.pointer (some ⟨g,0,none⟩)∧a 27=.int .i64 n)→0≤z1→z1 < 7→DS β τ2 T g h o bs (p+1)→T q=some ⟨ints .i64 [0,0,0,0,1,1,2],false⟩→τ2 q=none∧q≠g→T c=some ⟨[.int .i64 0,.int .i64 0,.string (tx [])],false⟩→τ2 c=none∧c≠g→G w8_lan a T:=by
   rintro a T q c z1 ⟨h0,h3,h4,h5,h6,h14,h16,h21,h22,h24,h27⟩ z1a z1b d eq fq ec fc
   rw[hG]
   refine tree_two rfl rfl ?_ ?_
   ·skip
    obtain⟨kx,hx,kxa,kxb⟩:=lit7 eq z1a z1b
    simp -implicitDefEqProofs(disch:=omega)only[Nat.reduceEqDiff,↓reduceIte,vcu,↓vcd,h0,h3,h4,h5,h6,h14,h16,h21,h22,h24,h27,hx]
    refine⟨keep_of rfl (fun p hp=>by cases hp),?_⟩
    rw[←hG]
    exact N_larn _ _ c kx (by refine⟨?_,?_,?_,?_,?_,?_,?_,?_,?_,?_,?_⟩<;>first|rfl|simp -implicitDefEqProofs(disch:=omega)only[Nat.reduceEqDiff,↓reduceIte,vcu,↓vcd,h0,h3,h4,h5,h6,h14,h16,h21,h22,h24,h27]) kxa kxb d ec fc
   ·skip
    try simp -implicitDefEqProofs(disch:=omega)only[Nat.reduceEqDiff,↓reduceIte,vcu,↓vcd,h0,h3,h4,h5,h6,h14,h16,h21,h22,h24,h27]
    refine (pick_at β T g h o bs (p+1) 60 d.rd om9 om9).mono ?_
    rintro _ T' ⟨z2,rfl,z2a,z2b,hR,hK⟩
    replace d:=d.step hR hK
    replace eq:=hK.at eq fq.2
    replace ec:=hK.at ec fc.2
    simp -implicitDefEqProofs(disch:=omega)only[Nat.reduceEqDiff,↓reduceIte,vcu,↓vcd,opK_some,h0,h3,h4,h5,h6,h14,h16,h21,h22,h24,h27]
    refine⟨keep_of rfl (fun p hp=>by cases hp),?_⟩
    refine tree_quiets (fun _=>none) _ _ _ sf0 kr9 kr9 ?_
    simp -implicitDefEqProofs(disch:=omega)only[Nat.reduceEqDiff,↓reduceIte,vcu,↓vcd,vcp,h0,h3,h4,h5,h6,h14,h16,h21,h22,h24,h27]
    rw[←hG]
    exact N_labn _ _ q c z1 (z2 / 59 * 3) (by refine⟨?_,?_,?_,?_,?_,?_,?_,?_,?_,?_,?_⟩<;>first|rfl|simp -implicitDefEqProofs(disch:=omega)only[Nat.reduceEqDiff,↓reduceIte,vcu,↓vcd,h0,h3,h4,h5,h6,h14,h16,h21,h22,h24,h27]) z1a z1b om9 om9 d eq fq ec fc
  have N_la:∀(a:AFrame) (T:AHeap) (q:Nat) (z1:Int),(a 0=.pointer (some ⟨g,0,none⟩)∧a 3=.pointer (some ⟨hb,0,none⟩)∧a 4=.pointer (some ⟨c4,0,none⟩)∧a 5=.int .i64 n∧a 14=.pointer (some ⟨q,0+z1.toNat,none⟩)∧a 16=.pointer (some ⟨g,0,none⟩)∧a 21=.pointer (some ⟨g,0,none⟩)∧a 22=.int .i64 n∧a 24=.pointer (some ⟨g,0,none⟩)∧a 27=.int .i64 n)→0≤z1→z1 < 7→DS β τ2 T g h o bs (p+1)→T q=some ⟨ints .i64 [0,0,0,0,1,1,2],false⟩→τ2 q=none∧q≠g→G w8_la a T:=by
   rintro a T q z1 ⟨h0,h3,h4,h5,h14,h16,h21,h22,h24,h27⟩ z1a z1b d eq fq
   rw[hG]
   refine tree_three rfl rfl rfl ?_ ?_ ?_
   ·skip
    obtain⟨kx,hx,kxa,kxb⟩:=lit7 eq z1a z1b
    simp -implicitDefEqProofs(disch:=omega)only[Nat.reduceEqDiff,↓reduceIte,vcu,↓vcd,h0,h3,h4,h5,h14,h16,h21,h22,h24,h27,hx]
    refine⟨keep_of rfl (fun p hp=>by cases hp),?_⟩
    rw[←hG]
    exact N_lar _ _ kx (by refine⟨?_,?_,?_,?_,?_,?_,?_,?_,?_,?_⟩<;>first|rfl|simp -implicitDefEqProofs(disch:=omega)only[Nat.reduceEqDiff,↓reduceIte,vcu,↓vcd,h0,h3,h4,h5,h14,h16,h21,h22,h24,h27]) kxa kxb d
   ·skip
    try simp -implicitDefEqProofs(disch:=omega)only[Nat.reduceEqDiff,↓reduceIte,vcu,↓vcd,h0,h3,h4,h5,h14,h16,h21,h22,h24,h27]
    refine (pick_at β T g h o bs (p+1) 60 d.rd om9 om9).mono ?_
    rintro _ T' ⟨z2,rfl,z2a,z2b,hR,hK⟩
    replace d:=d.step hR hK
    replace eq:=hK.at eq fq.2
    simp -implicitDefEqProofs(disch:=omega)only[Nat.reduceEqDiff,↓reduceIte,vcu,↓vcd,opK_some,h0,h3,h4,h5,h14,h16,h21,h22,h24,h27]
    refine⟨keep_of rfl (fun p hp=>by cases hp),?_⟩
    refine tree_quiets (fun _=>none) _ _ _ sf0 kr9 kr9 ?_
    simp -implicitDefEqProofs(disch:=omega)only[Nat.reduceEqDiff,↓reduceIte,vcu,↓vcd,vcp,h0,h3,h4,h5,h14,h16,h21,h22,h24,h27]
    rw[←hG]
    exact N_lab _ _ q z1 (z2 / 59 * 3) (by refine⟨?_,?_,?_,?_,?_,?_,?_,?_,?_,?_⟩<;>first|rfl|simp -implicitDefEqProofs(disch:=omega)only[Nat.reduceEqDiff,↓reduceIte,vcu,↓vcd,h0,h3,h4,h5,h14,h16,h21,h22,h24,h27]) z1a z1b om9 om9 d eq fq
   ·skip
    refine r_new ze41 fun c T' nc sc ec=>?_
    replace ec:T' c=some ⟨[.int .i64 0,.int .i64 0,.string (tx [])],false⟩:=ec
    have fc:=d.fresh nc
    replace d:=d.new sc
    replace eq:=sc _ _ eq
    simp -implicitDefEqProofs(disch:=omega)only[Nat.reduceEqDiff,↓reduceIte,vcu,↓vcd]
    refine⟨keep_of rfl (fun p hp=>by cases hp),?_⟩
    rw[←hG]
    exact N_lan _ _ q c z1 (by refine⟨?_,?_,?_,?_,?_,?_,?_,?_,?_,?_,?_⟩<;>first|rfl|simp -implicitDefEqProofs(disch:=omega)only[Nat.reduceEqDiff,↓reduceIte,vcu,↓vcd,h0,h3,h4,h5,h14,h16,h21,h22,h24,h27]) z1a z1b d eq fq ec fc
  have N_ln:∀(a:AFrame) (T:AHeap) (q:Nat) (c:Nat),(a 0=.pointer (some ⟨g,0,none⟩)∧a 3=.pointer (some ⟨hb,0,none⟩)∧a 4=.pointer (some ⟨c4,0,none⟩)∧a 5=.int .i64 n∧a 6=.pointer (some ⟨c,0,none⟩)∧a 11=.slice (some ⟨q,0,none⟩) 7 1∧a 12=.pointer (some ⟨g,0,none⟩)∧a 16=.pointer (some ⟨g,0,none⟩)∧a 21=.pointer (some ⟨g,0,none⟩)∧a 22=.int .i64 n∧a 24=.pointer (some ⟨g,0,none⟩)∧a 27=.int .i64 n)→DS β τ2 T g h o bs (p)→T q=some ⟨ints .i64 [0,0,0,0,1,1,2],false⟩→τ2 q=none∧q≠g→T c=some ⟨[.int .i64 0,.int .i64 0,.string (tx [])],false⟩→τ2 c=none∧c≠g→G w8_ln a T:=by
   rintro a T q c ⟨h0,h3,h4,h5,h6,h11,h12,h16,h21,h22,h24,h27⟩ d eq fq ec fc
   rw[hG]
   refine tree_one rfl ?_
   try simp -implicitDefEqProofs(disch:=omega)only[Nat.reduceEqDiff,↓reduceIte,vcu,↓vcd,h0,h3,h4,h5,h6,h11,h12,h16,h21,h22,h24,h27]
   refine (pick_at β T g h o bs (p) 7 d.rd om9 om9).mono ?_
   rintro _ T' ⟨z1,rfl,z1a,z1b,hR,hK⟩
   replace d:=d.step hR hK
   replace eq:=hK.at eq fq.2
   replace ec:=hK.at ec fc.2
   simp -implicitDefEqProofs(disch:=omega)only[Nat.reduceEqDiff,↓reduceIte,vcu,↓vcd,opK_some,h0,h3,h4,h5,h6,h11,h12,h16,h21,h22,h24,h27]
   refine⟨keep_of rfl (fun p hp=>by cases hp),?_⟩
   refine tree_quiets (fun _=>none) _ _ _ sf0 kr9 kr9 ?_
   simp -implicitDefEqProofs(disch:=omega)only[Nat.reduceEqDiff,↓reduceIte,vcu,↓vcd,vcp,h0,h3,h4,h5,h6,h11,h12,h16,h21,h22,h24,h27]
   rw[←hG]
   exact N_lan _ _ q c z1 (by refine⟨?_,?_,?_,?_,?_,?_,?_,?_,?_,?_,?_⟩<;>first|rfl|simp -implicitDefEqProofs(disch:=omega)only[Nat.reduceEqDiff,↓reduceIte,vcu,↓vcd,h0,h3,h4,h5,h6,h11,h12,h16,h21,h22,h24,h27]) z1a z1b d eq fq ec fc
  have N_l:∀(a:AFrame) (T:AHeap) (q:Nat),(a 0=.pointer (some ⟨g,0,none⟩)∧a 3=.pointer (some ⟨hb,0,none⟩)∧a 4=.pointer (some ⟨c4,0,none⟩)∧a 5=.int .i64 n∧a 11=.slice (some ⟨q,0,none⟩) 7 1∧a 12=.pointer (some ⟨g,0,none⟩)∧a 16=.pointer (some ⟨g,0,none⟩)∧a 21=.pointer (some ⟨g,0,none⟩)∧a 22=.int .i64 n∧a 24=.pointer (some ⟨g,0,none⟩)∧a 27=.int .i64 n)→DS β τ2 T g h o bs (p)→T q=some ⟨ints .i64 [0,0,0,0,1,1,2],false⟩→τ2 q=none∧q≠g→G w8_l a T:=by
   rintro a T q ⟨h0,h3,h4,h5,h11,h12,h16,h21,h22,h24,h27⟩ d eq fq
   rw[hG]
   refine tree_two rfl rfl ?_ ?_
   ·skip
    try simp -implicitDefEqProofs(disch:=omega)only[Nat.reduceEqDiff,↓reduceIte,vcu,↓vcd,h0,h3,h4,h5,h11,h12,h16,h21,h22,h24,h27]
    refine (pick_at β T g h o bs (p) 7 d.rd om9 om9).mono ?_
    rintro _ T' ⟨z1,rfl,z1a,z1b,hR,hK⟩
    replace d:=d.step hR hK
    replace eq:=hK.at eq fq.2
    simp -implicitDefEqProofs(disch:=omega)only[Nat.reduceEqDiff,↓reduceIte,vcu,↓vcd,opK_some,h0,h3,h4,h5,h11,h12,h16,h21,h22,h24,h27]
    refine⟨keep_of rfl (fun p hp=>by cases hp),?_⟩
    refine tree_quiets (fun _=>none) _ _ _ sf0 kr9 kr9 ?_
    simp -implicitDefEqProofs(disch:=omega)only[Nat.reduceEqDiff,↓reduceIte,vcu,↓vcd,vcp,h0,h3,h4,h5,h11,h12,h16,h21,h22,h24,h27]
    rw[←hG]
    exact N_la _ _ q z1 (by refine⟨?_,?_,?_,?_,?_,?_,?_,?_,?_,?_⟩<;>first|rfl|simp -implicitDefEqProofs(disch:=omega)only[Nat.reduceEqDiff,↓reduceIte,vcu,↓vcd,h0,h3,h4,h5,h11,h12,h16,h21,h22,h24,h27]) z1a z1b d eq fq
   ·skip
    refine r_new ze41 fun c T' nc sc ec=>?_
    replace ec:T' c=some ⟨[.int .i64 0,.int .i64 0,.string (tx [])],false⟩:=ec
    have fc:=d.fresh nc
    replace d:=d.new sc
    replace eq:=sc _ _ eq
    simp -implicitDefEqProofs(disch:=omega)only[Nat.reduceEqDiff,↓reduceIte,vcu,↓vcd]
    refine⟨keep_of rfl (fun p hp=>by cases hp),?_⟩
    rw[←hG]
    exact N_ln _ _ q c (by refine⟨?_,?_,?_,?_,?_,?_,?_,?_,?_,?_,?_,?_⟩<;>first|rfl|simp -implicitDefEqProofs(disch:=omega)only[Nat.reduceEqDiff,↓reduceIte,vcu,↓vcd,h0,h3,h4,h5,h11,h12,h16,h21,h22,h24,h27]) d eq fq ec fc
  have N_abcdn:∀(a:AFrame) (T:AHeap) (c:Nat) (z1:Int) (xb:Int) (L0:Int),(a 0=.pointer (some ⟨g,0,none⟩)∧a 3=.pointer (some ⟨hb,0,none⟩)∧a 4=.pointer (some ⟨c4,0,none⟩)∧a 5=.int .i64 n∧a 6=.pointer (some ⟨c,0,none⟩)∧a 13=.int .i64 z1∧a 19=.int .i64 xb∧a 29=.int .i64 L0)→0≤z1→z1 < 7→0≤xb→xb≤3→DS β τ2 T g h o bs (p+1+1+1+1)→T c=some ⟨[.int .i64 0,.int .i64 0,.string (tx [])],false⟩→τ2 c=none∧c≠g→G w8_abcdn a T:=by
   rintro a T c z1 xb L0 ⟨h0,h3,h4,h5,h6,h13,h19,h29⟩ z1a z1b xba xbb d ec fc
   rw[hG]
   refine tree_one rfl ?_
   refine r_lit el88 (out:=(ints .i64 [0,0,0,0,1,1,2]).toArray) (by first|kernel_rfl | (simp -implicitDefEqProofs(disch:=omega)only[Nat.reduceEqDiff,↓reduceIte,vcu,↓vcd];kernel_rfl)) kr9 fun q T' nq sq eq=>?_
   replace eq:T' q=some ⟨ints .i64 [0,0,0,0,1,1,2],false⟩:=eq
   have fq:=d.fresh nq
   replace d:=d.new sq
   replace ec:=sq _ _ ec
   simp -implicitDefEqProofs(disch:=omega)only[Nat.reduceEqDiff,↓reduceIte,vcu,↓vcd]
   refine⟨keep_of rfl (fun p hp=>by cases hp),?_⟩
   refine tree_quiets (fun _=>none) _ _ _ sf0 kr9 kr9 ?_
   simp -implicitDefEqProofs(disch:=omega)only[Nat.reduceEqDiff,↓reduceIte,vcu,↓vcd,vcp,h0,h3,h4,h5,h6,h13,h19,h29]
   rw[←hG]
   exact N_labcdn _ _ q c z1 xb L0 (by refine⟨?_,?_,?_,?_,?_,?_,?_,?_⟩<;>first|rfl|simp -implicitDefEqProofs(disch:=omega)only[Nat.reduceEqDiff,↓reduceIte,vcu,↓vcd,h0,h3,h4,h5,h6,h13,h19,h29]) z1a z1b xba xbb d eq fq ec fc
  have N_abcd:∀(a:AFrame) (T:AHeap) (z1:Int) (xb:Int) (L0:Int),(a 0=.pointer (some ⟨g,0,none⟩)∧a 3=.pointer (some ⟨hb,0,none⟩)∧a 4=.pointer (some ⟨c4,0,none⟩)∧a 5=.int .i64 n∧a 13=.int .i64 z1∧a 19=.int .i64 xb∧a 29=.int .i64 L0)→0≤z1→z1 < 7→0≤xb→xb≤3→DS β τ2 T g h o bs (p+1+1+1+1)→G w8_abcd a T:=by
   rintro a T z1 xb L0 ⟨h0,h3,h4,h5,h13,h19,h29⟩ z1a z1b xba xbb d
   rw[hG]
   refine tree_two rfl rfl ?_ ?_
   ·skip
    refine r_lit el88 (out:=(ints .i64 [0,0,0,0,1,1,2]).toArray) (by first|kernel_rfl | (simp -implicitDefEqProofs(disch:=omega)only[Nat.reduceEqDiff,↓reduceIte,vcu,↓vcd];kernel_rfl)) kr9 fun q T' nq sq eq=>?_
    replace eq:T' q=some ⟨ints .i64 [0,0,0,0,1,1,2],false⟩:=eq
    have fq:=d.fresh nq
    replace d:=d.new sq
    simp -implicitDefEqProofs(disch:=omega)only[Nat.reduceEqDiff,↓reduceIte,vcu,↓vcd]
    refine⟨keep_of rfl (fun p hp=>by cases hp),?_⟩
    refine tree_quiets (fun _=>none) _ _ _ sf0 kr9 kr9 ?_
    simp -implicitDefEqProofs(disch:=omega)only[Nat.reduceEqDiff,↓reduceIte,vcu,↓vcd,vcp,h0,h3,h4,h5,h13,h19,h29]
    rw[←hG]
    exact N_labcd _ _ q z1 xb L0 (by refine⟨?_,?_,?_,?_,?_,?_,?_⟩<;>first|rfl|simp -implicitDefEqProofs(disch:=omega)only[Nat.reduceEqDiff,↓reduceIte,vcu,↓vcd,h0,h3,h4,h5,h13,h19,h29]) z1a z1b xba xbb d eq fq
   ·skip
    refine r_new ze41 fun c T' nc sc ec=>?_
    replace ec:T' c=some ⟨[.int .i64 0,.int .i64 0,.string (tx [])],false⟩:=ec
    have fc:=d.fresh nc
    replace d:=d.new sc
    simp -implicitDefEqProofs(disch:=omega)only[Nat.reduceEqDiff,↓reduceIte,vcu,↓vcd]
    refine⟨keep_of rfl (fun p hp=>by cases hp),?_⟩
    rw[←hG]
    exact N_abcdn _ _ c z1 xb L0 (by refine⟨?_,?_,?_,?_,?_,?_,?_,?_⟩<;>first|rfl|simp -implicitDefEqProofs(disch:=omega)only[Nat.reduceEqDiff,↓reduceIte,vcu,↓vcd,h0,h3,h4,h5,h13,h19,h29]) z1a z1b xba xbb d ec fc
  have N_abcn:∀(a:AFrame) (T:AHeap) (c:Nat) (z1:Int) (xb:Int) (z3:Int),(a 0=.pointer (some ⟨g,0,none⟩)∧a 3=.pointer (some ⟨hb,0,none⟩)∧a 4=.pointer (some ⟨c4,0,none⟩)∧a 5=.int .i64 n∧a 6=.pointer (some ⟨c,0,none⟩)∧a 13=.int .i64 z1∧a 19=.int .i64 xb∧a 23=.int .i64 z3∧a 24=.pointer (some ⟨g,0,none⟩)∧a 27=.int .i64 n)→0≤z1→z1 < 7→0≤xb→xb≤3→0≤z3→z3 < n→DS β τ2 T g h o bs (p+1+1+1)→T c=some ⟨[.int .i64 0,.int .i64 0,.string (tx [])],false⟩→τ2 c=none∧c≠g→G w8_abcn a T:=by
   rintro a T c z1 xb z3 ⟨h0,h3,h4,h5,h6,h13,h19,h23,h24,h27⟩ z1a z1b xba xbb z3a z3b d ec fc
   rw[hG]
   refine tree_two rfl rfl ?_ ?_
   ·skip
    refine r_lit el88 (out:=(ints .i64 [0,0,0,0,1,1,2]).toArray) (by first|kernel_rfl | (simp -implicitDefEqProofs(disch:=omega)only[Nat.reduceEqDiff,↓reduceIte,vcu,↓vcd];kernel_rfl)) kr9 fun q T' nq sq eq=>?_
    replace eq:T' q=some ⟨ints .i64 [0,0,0,0,1,1,2],false⟩:=eq
    have fq:=d.fresh nq
    replace d:=d.new sq
    replace ec:=sq _ _ ec
    simp -implicitDefEqProofs(disch:=omega)only[Nat.reduceEqDiff,↓reduceIte,vcu,↓vcd]
    refine⟨keep_of rfl (fun p hp=>by cases hp),?_⟩
    refine tree_quiets (fun _=>none) _ _ _ sf0 kr9 kr9 ?_
    simp -implicitDefEqProofs(disch:=omega)only[Nat.reduceEqDiff,↓reduceIte,vcu,↓vcd,vcp,h0,h3,h4,h5,h6,h13,h19,h23,h24,h27]
    rw[←hG]
    exact N_labcn _ _ q c z1 xb z3 (by refine⟨?_,?_,?_,?_,?_,?_,?_,?_,?_,?_⟩<;>first|rfl|simp -implicitDefEqProofs(disch:=omega)only[Nat.reduceEqDiff,↓reduceIte,vcu,↓vcd,h0,h3,h4,h5,h6,h13,h19,h23,h24,h27]) z1a z1b xba xbb z3a z3b d eq fq ec fc
   ·skip
    try simp -implicitDefEqProofs(disch:=omega)only[Nat.reduceEqDiff,↓reduceIte,vcu,↓vcd,h0,h3,h4,h5,h6,h13,h19,h23,h24,h27]
    refine (pick_at β T g h o bs (p+1+1+1) 40 d.rd om9 om9).mono ?_
    rintro _ T' ⟨z4,rfl,z4a,z4b,hR,hK⟩
    replace d:=d.step hR hK
    replace ec:=hK.at ec fc.2
    simp -implicitDefEqProofs(disch:=omega)only[Nat.reduceEqDiff,↓reduceIte,vcu,↓vcd,opK_some,h0,h3,h4,h5,h6,h13,h19,h23,h24,h27]
    refine⟨keep_of rfl (fun p hp=>by cases hp),?_⟩
    have hw:=part_n z4a z4b n1 n2
    refine tree_quiets (fun _=>none) _ _ _ sf0 kr9 kr9 ?_
    simp -implicitDefEqProofs(disch:=omega)only[Nat.reduceEqDiff,↓reduceIte,vcu,↓vcd,vcp,h0,h3,h4,h5,h6,h13,h19,h23,h24,h27]
    rw[←hG]
    exact N_abcdn _ _ c z1 xb (z3+z4 / 39 * n) (by refine⟨?_,?_,?_,?_,?_,?_,?_,?_⟩<;>first|rfl|simp -implicitDefEqProofs(disch:=omega)only[Nat.reduceEqDiff,↓reduceIte,vcu,↓vcd,h0,h3,h4,h5,h6,h13,h19,h23,h24,h27]) z1a z1b xba xbb d ec fc
  have N_abc:∀(a:AFrame) (T:AHeap) (z1:Int) (xb:Int) (z3:Int),(a 0=.pointer (some ⟨g,0,none⟩)∧a 3=.pointer (some ⟨hb,0,none⟩)∧a 4=.pointer (some ⟨c4,0,none⟩)∧a 5=.int .i64 n∧a 13=.int .i64 z1∧a 19=.int .i64 xb∧a 23=.int .i64 z3∧a 24=.pointer (some ⟨g,0,none⟩)∧a 27=.int .i64 n)→0≤z1→z1 < 7→0≤xb→xb≤3→0≤z3→z3 < n→DS β τ2 T g h o bs (p+1+1+1)→G w8_abc a T:=by
   rintro a T z1 xb z3 ⟨h0,h3,h4,h5,h13,h19,h23,h24,h27⟩ z1a z1b xba xbb z3a z3b d
   rw[hG]
   refine tree_three rfl rfl rfl ?_ ?_ ?_
   ·skip
    refine r_lit el88 (out:=(ints .i64 [0,0,0,0,1,1,2]).toArray) (by first|kernel_rfl | (simp -implicitDefEqProofs(disch:=omega)only[Nat.reduceEqDiff,↓reduceIte,vcu,↓vcd];kernel_rfl)) kr9 fun q T' nq sq eq=>?_
    replace eq:T' q=some ⟨ints .i64 [0,0,0,0,1,1,2],false⟩:=eq
    have fq:=d.fresh nq
    replace d:=d.new sq
    simp -implicitDefEqProofs(disch:=omega)only[Nat.reduceEqDiff,↓reduceIte,vcu,↓vcd]
    refine⟨keep_of rfl (fun p hp=>by cases hp),?_⟩
    refine tree_quiets (fun _=>none) _ _ _ sf0 kr9 kr9 ?_
    simp -implicitDefEqProofs(disch:=omega)only[Nat.reduceEqDiff,↓reduceIte,vcu,↓vcd,vcp,h0,h3,h4,h5,h13,h19,h23,h24,h27]
    rw[←hG]
    exact N_labc _ _ q z1 xb z3 (by refine⟨?_,?_,?_,?_,?_,?_,?_,?_,?_⟩<;>first|rfl|simp -implicitDefEqProofs(disch:=omega)only[Nat.reduceEqDiff,↓reduceIte,vcu,↓vcd,h0,h3,h4,h5,h13,h19,h23,h24,h27]) z1a z1b xba xbb z3a z3b d eq fq
   ·skip
    try simp -implicitDefEqProofs(disch:=omega)only[Nat.reduceEqDiff,↓reduceIte,vcu,↓vcd,h0,h3,h4,h5,h13,h19,h23,h24,h27]
    refine (pick_at β T g h o bs (p+1+1+1) 40 d.rd om9 om9).mono ?_
    rintro _ T' ⟨z4,rfl,z4a,z4b,hR,hK⟩
    replace d:=d.step hR hK
    simp -implicitDefEqProofs(disch:=omega)only[Nat.reduceEqDiff,↓reduceIte,vcu,↓vcd,opK_some,h0,h3,h4,h5,h13,h19,h23,h24,h27]
    refine⟨keep_of rfl (fun p hp=>by cases hp),?_⟩
    have hw:=part_n z4a z4b n1 n2
    refine tree_quiets (fun _=>none) _ _ _ sf0 kr9 kr9 ?_
    simp -implicitDefEqProofs(disch:=omega)only[Nat.reduceEqDiff,↓reduceIte,vcu,↓vcd,vcp,h0,h3,h4,h5,h13,h19,h23,h24,h27]
    rw[←hG]
    exact N_abcd _ _ z1 xb (z3+z4 / 39 * n) (by refine⟨?_,?_,?_,?_,?_,?_,?_⟩<;>first|rfl|simp -implicitDefEqProofs(disch:=omega)only[Nat.reduceEqDiff,↓reduceIte,vcu,↓vcd,h0,h3,h4,h5,h13,h19,h23,h24,h27]) z1a z1b xba xbb d
   ·skip
    refine r_new ze41 fun c T' nc sc ec=>?_
    replace ec:T' c=some ⟨[.int .i64 0,.int .i64 0,.string (tx [])],false⟩:=ec
    have fc:=d.fresh nc
    replace d:=d.new sc
    simp -implicitDefEqProofs(disch:=omega)only[Nat.reduceEqDiff,↓reduceIte,vcu,↓vcd]
    refine⟨keep_of rfl (fun p hp=>by cases hp),?_⟩
    rw[←hG]
    exact N_abcn _ _ c z1 xb z3 (by refine⟨?_,?_,?_,?_,?_,?_,?_,?_,?_,?_⟩<;>first|rfl|simp -implicitDefEqProofs(disch:=omega)only[Nat.reduceEqDiff,↓reduceIte,vcu,↓vcd,h0,h3,h4,h5,h13,h19,h23,h24,h27]) z1a z1b xba xbb z3a z3b d ec fc
  have N_abn:∀(a:AFrame) (T:AHeap) (c:Nat) (z1:Int) (xb:Int),(a 0=.pointer (some ⟨g,0,none⟩)∧a 3=.pointer (some ⟨hb,0,none⟩)∧a 4=.pointer (some ⟨c4,0,none⟩)∧a 5=.int .i64 n∧a 6=.pointer (some ⟨c,0,none⟩)∧a 13=.int .i64 z1∧a 19=.int .i64 xb∧a 21=.pointer (some ⟨g,0,none⟩)∧a 22=.int .i64 n∧a 24=.pointer (some ⟨g,0,none⟩)∧a 27=.int .i64 n)→0≤z1→z1 < 7→0≤xb→xb≤3→DS β τ2 T g h o bs (p+1+1)→T c=some ⟨[.int .i64 0,.int .i64 0,.string (tx [])],false⟩→τ2 c=none∧c≠g→G w8_abn a T:=by
   rintro a T c z1 xb ⟨h0,h3,h4,h5,h6,h13,h19,h21,h22,h24,h27⟩ z1a z1b xba xbb d ec fc
   rw[hG]
   refine tree_two rfl rfl ?_ ?_
   ·skip
    refine r_lit el88 (out:=(ints .i64 [0,0,0,0,1,1,2]).toArray) (by first|kernel_rfl | (simp -implicitDefEqProofs(disch:=omega)only[Nat.reduceEqDiff,↓reduceIte,vcu,↓vcd];kernel_rfl)) kr9 fun q T' nq sq eq=>?_
    replace eq:T' q=some ⟨ints .i64 [0,0,0,0,1,1,2],false⟩:=eq
    have fq:=d.fresh nq
    replace d:=d.new sq
    replace ec:=sq _ _ ec
    simp -implicitDefEqProofs(disch:=omega)only[Nat.reduceEqDiff,↓reduceIte,vcu,↓vcd]
    refine⟨keep_of rfl (fun p hp=>by cases hp),?_⟩
    refine tree_quiets (fun _=>none) _ _ _ sf0 kr9 kr9 ?_
    simp -implicitDefEqProofs(disch:=omega)only[Nat.reduceEqDiff,↓reduceIte,vcu,↓vcd,vcp,h0,h3,h4,h5,h6,h13,h19,h21,h22,h24,h27]
    rw[←hG]
    exact N_labn _ _ q c z1 xb (by refine⟨?_,?_,?_,?_,?_,?_,?_,?_,?_,?_,?_⟩<;>first|rfl|simp -implicitDefEqProofs(disch:=omega)only[Nat.reduceEqDiff,↓reduceIte,vcu,↓vcd,h0,h3,h4,h5,h6,h13,h19,h21,h22,h24,h27]) z1a z1b xba xbb d eq fq ec fc
   ·skip
    try simp -implicitDefEqProofs(disch:=omega)only[Nat.reduceEqDiff,↓reduceIte,vcu,↓vcd,h0,h3,h4,h5,h6,h13,h19,h21,h22,h24,h27]
    refine (pick_at β T g h o bs (p+1+1) n d.rd om9 om9).mono ?_
    rintro _ T' ⟨z3,rfl,z3a,z3b,hR,hK⟩
    replace d:=d.step hR hK
    replace ec:=hK.at ec fc.2
    simp -implicitDefEqProofs(disch:=omega)only[Nat.reduceEqDiff,↓reduceIte,vcu,↓vcd,opK_some,h0,h3,h4,h5,h6,h13,h19,h21,h22,h24,h27]
    refine⟨keep_of rfl (fun p hp=>by cases hp),?_⟩
    rw[←hG]
    exact N_abcn _ _ c z1 xb z3 (by refine⟨?_,?_,?_,?_,?_,?_,?_,?_,?_,?_⟩<;>first|rfl|simp -implicitDefEqProofs(disch:=omega)only[Nat.reduceEqDiff,↓reduceIte,vcu,↓vcd,h0,h3,h4,h5,h6,h13,h19,h21,h22,h24,h27]) z1a z1b xba xbb z3a z3b d ec fc
  have N_ab:∀(a:AFrame) (T:AHeap) (z1:Int) (xb:Int),(a 0=.pointer (some ⟨g,0,none⟩)∧a 3=.pointer (some ⟨hb,0,none⟩)∧a 4=.pointer (some ⟨c4,0,none⟩)∧a 5=.int .i64 n∧a 13=.int .i64 z1∧a 19=.int .i64 xb∧a 21=.pointer (some ⟨g,0,none⟩)∧a 22=.int .i64 n∧a 24=.pointer (some ⟨g,0,none⟩)∧a 27=.int .i64 n)→0≤z1→z1 < 7→0≤xb→xb≤3→DS β τ2 T g h o bs (p+1+1)→G w8_ab a T:=by
   rintro a T z1 xb ⟨h0,h3,h4,h5,h13,h19,h21,h22,h24,h27⟩ z1a z1b xba xbb d
   rw[hG]
   refine tree_three rfl rfl rfl ?_ ?_ ?_
   ·skip
    refine r_lit el88 (out:=(ints .i64 [0,0,0,0,1,1,2]).toArray) (by first|kernel_rfl | (simp -implicitDefEqProofs(disch:=omega)only[Nat.reduceEqDiff,↓reduceIte,vcu,↓vcd];kernel_rfl)) kr9 fun q T' nq sq eq=>?_
    replace eq:T' q=some ⟨ints .i64 [0,0,0,0,1,1,2],false⟩:=eq
    have fq:=d.fresh nq
    replace d:=d.new sq
    simp -implicitDefEqProofs(disch:=omega)only[Nat.reduceEqDiff,↓reduceIte,vcu,↓vcd]
    refine⟨keep_of rfl (fun p hp=>by cases hp),?_⟩
    refine tree_quiets (fun _=>none) _ _ _ sf0 kr9 kr9 ?_
    simp -implicitDefEqProofs(disch:=omega)only[Nat.reduceEqDiff,↓reduceIte,vcu,↓vcd,vcp,h0,h3,h4,h5,h13,h19,h21,h22,h24,h27]
    rw[←hG]
    exact N_lab _ _ q z1 xb (by refine⟨?_,?_,?_,?_,?_,?_,?_,?_,?_,?_⟩<;>first|rfl|simp -implicitDefEqProofs(disch:=omega)only[Nat.reduceEqDiff,↓reduceIte,vcu,↓vcd,h0,h3,h4,h5,h13,h19,h21,h22,h24,h27]) z1a z1b xba xbb d eq fq
   ·skip
    try simp -implicitDefEqProofs(disch:=omega)only[Nat.reduceEqDiff,↓reduceIte,vcu,↓vcd,h0,h3,h4,h5,h13,h19,h21,h22,h24,h27]
    refine (pick_at β T g h o bs (p+1+1) n d.rd om9 om9).mono ?_
    rintro _ T' ⟨z3,rfl,z3a,z3b,hR,hK⟩
    replace d:=d.step hR hK
    simp -implicitDefEqProofs(disch:=omega)only[Nat.reduceEqDiff,↓reduceIte,vcu,↓vcd,opK_some,h0,h3,h4,h5,h13,h19,h21,h22,h24,h27]
    refine⟨keep_of rfl (fun p hp=>by cases hp),?_⟩
    rw[←hG]
    exact N_abc _ _ z1 xb z3 (by refine⟨?_,?_,?_,?_,?_,?_,?_,?_,?_⟩<;>first|rfl|simp -implicitDefEqProofs(disch:=omega)only[Nat.reduceEqDiff,↓reduceIte,vcu,↓vcd,h0,h3,h4,h5,h13,h19,h21,h22,h24,h27]) z1a z1b xba xbb z3a z3b d
   ·skip
    refine r_new ze41 fun c T' nc sc ec=>?_
    replace ec:T' c=some ⟨[.int .i64 0,.int .i64 0,.string (tx [])],false⟩:=ec
    have fc:=d.fresh nc
    replace d:=d.new sc
    simp -implicitDefEqProofs(disch:=omega)only[Nat.reduceEqDiff,↓reduceIte,vcu,↓vcd]
    refine⟨keep_of rfl (fun p hp=>by cases hp),?_⟩
    rw[←hG]
    exact N_abn _ _ c z1 xb (by refine⟨?_,?_,?_,?_,?_,?_,?_,?_,?_,?_,?_⟩<;>first|rfl|simp -implicitDefEqProofs(disch:=omega)only[Nat.reduceEqDiff,↓reduceIte,vcu,↓vcd,h0,h3,h4,h5,h13,h19,h21,h22,h24,h27]) z1a z1b xba xbb d ec fc
  have N_an:∀(a:AFrame) (T:AHeap) (c:Nat) (z1:Int),(a 0=.pointer (some ⟨g,0,none⟩)∧a 3=.pointer (some ⟨hb,0,none⟩)∧a 4=.pointer (some ⟨c4,0,none⟩)∧a 5=.int .i64 n∧a 6=.pointer (some ⟨c,0,none⟩)∧a 13=.int .i64 z1∧a 16=.pointer (some ⟨g,0,none⟩)∧a 21=.pointer (some ⟨g,0,none⟩)∧a 22=.int .i64 n∧a 24=.pointer (some ⟨g,0,none⟩)∧a 27=.int .i64 n)→0≤z1→z1 < 7→DS β τ2 T g h o bs (p+1)→T c=some ⟨[.int .i64 0,.int .i64 0,.string (tx [])],false⟩→τ2 c=none∧c≠g→G w8_an a T:=by
   rintro a T c z1 ⟨h0,h3,h4,h5,h6,h13,h16,h21,h22,h24,h27⟩ z1a z1b d ec fc
   rw[hG]
   refine tree_two rfl rfl ?_ ?_
   ·skip
    refine r_lit el88 (out:=(ints .i64 [0,0,0,0,1,1,2]).toArray) (by first|kernel_rfl | (simp -implicitDefEqProofs(disch:=omega)only[Nat.reduceEqDiff,↓reduceIte,vcu,↓vcd];kernel_rfl)) kr9 fun q T' nq sq eq=>?_
    replace eq:T' q=some ⟨ints .i64 [0,0,0,0,1,1,2],false⟩:=eq
    have fq:=d.fresh nq
    replace d:=d.new sq
    replace ec:=sq _ _ ec
    simp -implicitDefEqProofs(disch:=omega)only[Nat.reduceEqDiff,↓reduceIte,vcu,↓vcd]
    refine⟨keep_of rfl (fun p hp=>by cases hp),?_⟩
    refine tree_quiets (fun _=>none) _ _ _ sf0 kr9 kr9 ?_
    simp -implicitDefEqProofs(disch:=omega)only[Nat.reduceEqDiff,↓reduceIte,vcu,↓vcd,vcp,h0,h3,h4,h5,h6,h13,h16,h21,h22,h24,h27]
    rw[←hG]
    exact N_lan _ _ q c z1 (by refine⟨?_,?_,?_,?_,?_,?_,?_,?_,?_,?_,?_⟩<;>first|rfl|simp -implicitDefEqProofs(disch:=omega)only[Nat.reduceEqDiff,↓reduceIte,vcu,↓vcd,h0,h3,h4,h5,h6,h13,h16,h21,h22,h24,h27]) z1a z1b d eq fq ec fc
   ·skip
    try simp -implicitDefEqProofs(disch:=omega)only[Nat.reduceEqDiff,↓reduceIte,vcu,↓vcd,h0,h3,h4,h5,h6,h13,h16,h21,h22,h24,h27]
    refine (pick_at β T g h o bs (p+1) 60 d.rd om9 om9).mono ?_
    rintro _ T' ⟨z2,rfl,z2a,z2b,hR,hK⟩
    replace d:=d.step hR hK
    replace ec:=hK.at ec fc.2
    simp -implicitDefEqProofs(disch:=omega)only[Nat.reduceEqDiff,↓reduceIte,vcu,↓vcd,opK_some,h0,h3,h4,h5,h6,h13,h16,h21,h22,h24,h27]
    refine⟨keep_of rfl (fun p hp=>by cases hp),?_⟩
    refine tree_quiets (fun _=>none) _ _ _ sf0 kr9 kr9 ?_
    simp -implicitDefEqProofs(disch:=omega)only[Nat.reduceEqDiff,↓reduceIte,vcu,↓vcd,vcp,h0,h3,h4,h5,h6,h13,h16,h21,h22,h24,h27]
    rw[←hG]
    exact N_abn _ _ c z1 (z2 / 59 * 3) (by refine⟨?_,?_,?_,?_,?_,?_,?_,?_,?_,?_,?_⟩<;>first|rfl|simp -implicitDefEqProofs(disch:=omega)only[Nat.reduceEqDiff,↓reduceIte,vcu,↓vcd,h0,h3,h4,h5,h6,h13,h16,h21,h22,h24,h27]) z1a z1b om9 om9 d ec fc
  have N_a:∀(a:AFrame) (T:AHeap) (z1:Int),(a 0=.pointer (some ⟨g,0,none⟩)∧a 3=.pointer (some ⟨hb,0,none⟩)∧a 4=.pointer (some ⟨c4,0,none⟩)∧a 5=.int .i64 n∧a 13=.int .i64 z1∧a 16=.pointer (some ⟨g,0,none⟩)∧a 21=.pointer (some ⟨g,0,none⟩)∧a 22=.int .i64 n∧a 24=.pointer (some ⟨g,0,none⟩)∧a 27=.int .i64 n)→0≤z1→z1 < 7→DS β τ2 T g h o bs (p+1)→G w8_a a T:=by
   rintro a T z1 ⟨h0,h3,h4,h5,h13,h16,h21,h22,h24,h27⟩ z1a z1b d
   rw[hG]
   refine tree_three rfl rfl rfl ?_ ?_ ?_
   ·skip
    refine r_lit el88 (out:=(ints .i64 [0,0,0,0,1,1,2]).toArray) (by first|kernel_rfl | (simp -implicitDefEqProofs(disch:=omega)only[Nat.reduceEqDiff,↓reduceIte,vcu,↓vcd];kernel_rfl)) kr9 fun q T' nq sq eq=>?_
    replace eq:T' q=some ⟨ints .i64 [0,0,0,0,1,1,2],false⟩:=eq
    have fq:=d.fresh nq
    replace d:=d.new sq
    simp -implicitDefEqProofs(disch:=omega)only[Nat.reduceEqDiff,↓reduceIte,vcu,↓vcd]
    refine⟨keep_of rfl (fun p hp=>by cases hp),?_⟩
    refine tree_quiets (fun _=>none) _ _ _ sf0 kr9 kr9 ?_
    simp -implicitDefEqProofs(disch:=omega)only[Nat.reduceEqDiff,↓reduceIte,vcu,↓vcd,vcp,h0,h3,h4,h5,h13,h16,h21,h22,h24,h27]
    rw[←hG]
    exact N_la _ _ q z1 (by refine⟨?_,?_,?_,?_,?_,?_,?_,?_,?_,?_⟩<;>first|rfl|simp -implicitDefEqProofs(disch:=omega)only[Nat.reduceEqDiff,↓reduceIte,vcu,↓vcd,h0,h3,h4,h5,h13,h16,h21,h22,h24,h27]) z1a z1b d eq fq
   ·skip
    try simp -implicitDefEqProofs(disch:=omega)only[Nat.reduceEqDiff,↓reduceIte,vcu,↓vcd,h0,h3,h4,h5,h13,h16,h21,h22,h24,h27]
    refine (pick_at β T g h o bs (p+1) 60 d.rd om9 om9).mono ?_
    rintro _ T' ⟨z2,rfl,z2a,z2b,hR,hK⟩
    replace d:=d.step hR hK
    simp -implicitDefEqProofs(disch:=omega)only[Nat.reduceEqDiff,↓reduceIte,vcu,↓vcd,opK_some,h0,h3,h4,h5,h13,h16,h21,h22,h24,h27]
    refine⟨keep_of rfl (fun p hp=>by cases hp),?_⟩
    refine tree_quiets (fun _=>none) _ _ _ sf0 kr9 kr9 ?_
    simp -implicitDefEqProofs(disch:=omega)only[Nat.reduceEqDiff,↓reduceIte,vcu,↓vcd,vcp,h0,h3,h4,h5,h13,h16,h21,h22,h24,h27]
    rw[←hG]
    exact N_ab _ _ z1 (z2 / 59 * 3) (by refine⟨?_,?_,?_,?_,?_,?_,?_,?_,?_,?_⟩<;>first|rfl|simp -implicitDefEqProofs(disch:=omega)only[Nat.reduceEqDiff,↓reduceIte,vcu,↓vcd,h0,h3,h4,h5,h13,h16,h21,h22,h24,h27]) z1a z1b om9 om9 d
   ·skip
    refine r_new ze41 fun c T' nc sc ec=>?_
    replace ec:T' c=some ⟨[.int .i64 0,.int .i64 0,.string (tx [])],false⟩:=ec
    have fc:=d.fresh nc
    replace d:=d.new sc
    simp -implicitDefEqProofs(disch:=omega)only[Nat.reduceEqDiff,↓reduceIte,vcu,↓vcd]
    refine⟨keep_of rfl (fun p hp=>by cases hp),?_⟩
    rw[←hG]
    exact N_an _ _ c z1 (by refine⟨?_,?_,?_,?_,?_,?_,?_,?_,?_,?_,?_⟩<;>first|rfl|simp -implicitDefEqProofs(disch:=omega)only[Nat.reduceEqDiff,↓reduceIte,vcu,↓vcd,h0,h3,h4,h5,h13,h16,h21,h22,h24,h27]) z1a z1b d ec fc
  have N_n:∀(a:AFrame) (T:AHeap) (c:Nat),(a 0=.pointer (some ⟨g,0,none⟩)∧a 3=.pointer (some ⟨hb,0,none⟩)∧a 4=.pointer (some ⟨c4,0,none⟩)∧a 5=.int .i64 n∧a 6=.pointer (some ⟨c,0,none⟩)∧a 12=.pointer (some ⟨g,0,none⟩)∧a 16=.pointer (some ⟨g,0,none⟩)∧a 21=.pointer (some ⟨g,0,none⟩)∧a 22=.int .i64 n∧a 24=.pointer (some ⟨g,0,none⟩)∧a 27=.int .i64 n)→DS β τ2 T g h o bs (p)→T c=some ⟨[.int .i64 0,.int .i64 0,.string (tx [])],false⟩→τ2 c=none∧c≠g→G w8_n a T:=by
   rintro a T c ⟨h0,h3,h4,h5,h6,h12,h16,h21,h22,h24,h27⟩ d ec fc
   rw[hG]
   refine tree_two rfl rfl ?_ ?_
   ·skip
    refine r_lit el88 (out:=(ints .i64 [0,0,0,0,1,1,2]).toArray) (by first|kernel_rfl | (simp -implicitDefEqProofs(disch:=omega)only[Nat.reduceEqDiff,↓reduceIte,vcu,↓vcd];kernel_rfl)) kr9 fun q T' nq sq eq=>?_
    replace eq:T' q=some ⟨ints .i64 [0,0,0,0,1,1,2],false⟩:=eq
    have fq:=d.fresh nq
    replace d:=d.new sq
    replace ec:=sq _ _ ec
    simp -implicitDefEqProofs(disch:=omega)only[Nat.reduceEqDiff,↓reduceIte,vcu,↓vcd]
    refine⟨keep_of rfl (fun p hp=>by cases hp),?_⟩
    rw[←hG]
    exact N_ln _ _ q c (by refine⟨?_,?_,?_,?_,?_,?_,?_,?_,?_,?_,?_,?_⟩<;>first|rfl|simp -implicitDefEqProofs(disch:=omega)only[Nat.reduceEqDiff,↓reduceIte,vcu,↓vcd,h0,h3,h4,h5,h6,h12,h16,h21,h22,h24,h27]) d eq fq ec fc
   ·skip
    try simp -implicitDefEqProofs(disch:=omega)only[Nat.reduceEqDiff,↓reduceIte,vcu,↓vcd,h0,h3,h4,h5,h6,h12,h16,h21,h22,h24,h27]
    refine (pick_at β T g h o bs (p) 7 d.rd om9 om9).mono ?_
    rintro _ T' ⟨z1,rfl,z1a,z1b,hR,hK⟩
    replace d:=d.step hR hK
    replace ec:=hK.at ec fc.2
    simp -implicitDefEqProofs(disch:=omega)only[Nat.reduceEqDiff,↓reduceIte,vcu,↓vcd,opK_some,h0,h3,h4,h5,h6,h12,h16,h21,h22,h24,h27]
    refine⟨keep_of rfl (fun p hp=>by cases hp),?_⟩
    rw[←hG]
    exact N_an _ _ c z1 (by refine⟨?_,?_,?_,?_,?_,?_,?_,?_,?_,?_,?_⟩<;>first|rfl|simp -implicitDefEqProofs(disch:=omega)only[Nat.reduceEqDiff,↓reduceIte,vcu,↓vcd,h0,h3,h4,h5,h6,h12,h16,h21,h22,h24,h27]) z1a z1b d ec fc
  have N_z:∀(a:AFrame) (T:AHeap),(a 0=.pointer (some ⟨g,0,none⟩)∧a 3=.pointer (some ⟨hb,0,none⟩)∧a 4=.pointer (some ⟨c4,0,none⟩)∧a 5=.int .i64 n∧a 12=.pointer (some ⟨g,0,none⟩)∧a 16=.pointer (some ⟨g,0,none⟩)∧a 21=.pointer (some ⟨g,0,none⟩)∧a 22=.int .i64 n∧a 24=.pointer (some ⟨g,0,none⟩)∧a 27=.int .i64 n)→DS β τ2 T g h o bs (p)→G w8_z a T:=by
   rintro a T ⟨h0,h3,h4,h5,h12,h16,h21,h22,h24,h27⟩ d
   rw[hG]
   refine tree_three rfl rfl rfl ?_ ?_ ?_
   ·skip
    refine r_lit el88 (out:=(ints .i64 [0,0,0,0,1,1,2]).toArray) (by first|kernel_rfl | (simp -implicitDefEqProofs(disch:=omega)only[Nat.reduceEqDiff,↓reduceIte,vcu,↓vcd];kernel_rfl)) kr9 fun q T' nq sq eq=>?_
    replace eq:T' q=some ⟨ints .i64 [0,0,0,0,1,1,2],false⟩:=eq
    have fq:=d.fresh nq
    replace d:=d.new sq
    simp -implicitDefEqProofs(disch:=omega)only[Nat.reduceEqDiff,↓reduceIte,vcu,↓vcd]
    refine⟨keep_of rfl (fun p hp=>by cases hp),?_⟩
    rw[←hG]
    exact N_l _ _ q (by refine⟨?_,?_,?_,?_,?_,?_,?_,?_,?_,?_,?_⟩<;>first|rfl|simp -implicitDefEqProofs(disch:=omega)only[Nat.reduceEqDiff,↓reduceIte,vcu,↓vcd,h0,h3,h4,h5,h12,h16,h21,h22,h24,h27]) d eq fq
   ·skip
    try simp -implicitDefEqProofs(disch:=omega)only[Nat.reduceEqDiff,↓reduceIte,vcu,↓vcd,h0,h3,h4,h5,h12,h16,h21,h22,h24,h27]
    refine (pick_at β T g h o bs (p) 7 d.rd om9 om9).mono ?_
    rintro _ T' ⟨z1,rfl,z1a,z1b,hR,hK⟩
    replace d:=d.step hR hK
    simp -implicitDefEqProofs(disch:=omega)only[Nat.reduceEqDiff,↓reduceIte,vcu,↓vcd,opK_some,h0,h3,h4,h5,h12,h16,h21,h22,h24,h27]
    refine⟨keep_of rfl (fun p hp=>by cases hp),?_⟩
    rw[←hG]
    exact N_a _ _ z1 (by refine⟨?_,?_,?_,?_,?_,?_,?_,?_,?_,?_⟩<;>first|rfl|simp -implicitDefEqProofs(disch:=omega)only[Nat.reduceEqDiff,↓reduceIte,vcu,↓vcd,h0,h3,h4,h5,h12,h16,h21,h22,h24,h27]) z1a z1b d
   ·skip
    refine r_new ze41 fun c T' nc sc ec=>?_
    replace ec:T' c=some ⟨[.int .i64 0,.int .i64 0,.string (tx [])],false⟩:=ec
    have fc:=d.fresh nc
    replace d:=d.new sc
    simp -implicitDefEqProofs(disch:=omega)only[Nat.reduceEqDiff,↓reduceIte,vcu,↓vcd]
    refine⟨keep_of rfl (fun p hp=>by cases hp),?_⟩
    rw[←hG]
    exact N_n _ _ c (by refine⟨?_,?_,?_,?_,?_,?_,?_,?_,?_,?_,?_⟩<;>first|rfl|simp -implicitDefEqProofs(disch:=omega)only[Nat.reduceEqDiff,↓reduceIte,vcu,↓vcd,h0,h3,h4,h5,h12,h16,h21,h22,h24,h27]) d ec fc
  exact N_z _ _ (by refine⟨?_,?_,?_,?_,?_,?_,?_,?_,?_,?_⟩<;>first|rfl|simp -implicitDefEqProofs(disch:=omega)only[Nat.reduceEqDiff,↓reduceIte,vcu,↓vcd]) D0
 clear D0
 rintro _ a1 T1 ⟨rfl,⟨h0,h3,h4,h5⟩,c,k,l,p1,h6,ec,nc,gc,hp1,hp2,D1⟩
 have d3:=d2.on D1
 have gcc:c4≠c:=ne_of' nc e4
 have hx4:=fun i=>getD_len (M:=5) hx i
 replace eb:=D1.kp hb _ gb.2 eb
 replace e4:=D1.kp c4 _ g4.2 e4
 have fc:=d2.fresh nc
 have t3:Texts T1 v1 ps:=ht.sub (less_keptY d3.kp)
 clear D1 d2 nc gc x3 d1 hr
 have y0:ld T1 c (0+0)=some (.int .i64 k):=ld_of ec rfl
 have x3:ld T1 hb (0+3)=some v1:=ld_of eb rfl
 by_cases hk0:k=0
 case neg =>
  by_cases hk1:k=1
  case neg =>
   simp -implicitDefEqProofs(disch:=omega)only[Nat.reduceEqDiff,↓reduceIte,vcu,↓vcd,h0,h3,h4,h5,h6,y0,hk0,hk1,ne_eq,not_false_eq_true,decide_false,decide_true]
   refine (digits_draw β T1 g h o bs (p1) 3 d3.rd om9 om9).mono ?_
   rintro _ T5 ⟨w,p5,rfl,w1,w2,w3,D⟩
   have d5:=d3.on D
   have ec5:=D.kp c _ fc.2 ec
   have e45:=D.kp c4 _ g4.2 e4
   clear D
   simp -implicitDefEqProofs(disch:=omega)only[Nat.reduceEqDiff,↓reduceIte,vcu,↓vcd,opK_some,h0,h3,h4,h5,h6]
   refine r_set (g:=c) (i:=0+2) (C:=[.int .i64 k,.int .i64 l,.string (tx [])]) (by simp -implicitDefEqProofs(disch:=omega)only[Nat.reduceEqDiff,↓reduceIte,vcu,↓vcd,h6]) z9r co9 z9r ec5 (by simp) fun T6 k6 e6=>?_
   replace e6:T6 c=some ⟨[.int .i64 k,.int .i64 l,.string (tx w)],false⟩:=by rw[e6];simp -implicitDefEqProofs(disch:=omega)only[Nat.reduceEqDiff,↓reduceIte,vcu,↓vcd];rfl
   have d6:=d5.put k6 fc.2 fc.1
   have e46:=k6.at e45 gcc
   have ll:lds T6 c 0 3=some [.int .i64 k,.int .i64 l,.string (tx (w))]:=lds_three (ld_of e6 rfl) (ld_of e6 rfl) (ld_of e6 rfl)
   simp -implicitDefEqProofs(disch:=omega)only[Nat.reduceEqDiff,↓reduceIte,vcu,↓vcd,h0,h3,h4,h5,h6,ll,co41]
   refine r_sets (g:=c4) (i:=0) (C:=[.int .i64 0,.int .i64 0,.string (tx [])]) (by simp -implicitDefEqProofs(disch:=omega)only[Nat.reduceEqDiff,↓reduceIte,vcu,↓vcd,h4]) z9co41 z9r z9z e46 z9l fun T9 k9 e9=>?_
   replace e9:T9 c4=some ⟨[.int .i64 k,.int .i64 l,.string (tx (w))],false⟩:=e9
   have d9:=d6.put k9 g4.2 g4.1
   have l9:lds T9 c4 0 3=some [.int .i64 k,.int .i64 l,.string (tx (w))]:=lds_three (ld_of e9 rfl) (ld_of e9 rfl) (ld_of e9 rfl)
   simp -implicitDefEqProofs(disch:=omega)only[Nat.reduceEqDiff,↓reduceIte,vcu,↓vcd,h0,h3,h4,h5,h6]
   refine fin_cell Tryz.results73 T9 (Sub.refl _) (v:=ddA ⟨k,l,w⟩) (by simp -implicitDefEqProofs(disch:=omega)only[Nat.reduceEqDiff,↓reduceIte,vcu,↓vcd,h0,h3,h4,h5,h6,l9,co41];rfl) ⟨⟨k,l,w⟩,_,rfl,by show w.length≤5;omega,by omega,by omega,d9⟩
  simp -implicitDefEqProofs(disch:=omega)only[Nat.reduceEqDiff,↓reduceIte,vcu,↓vcd,h0,h3,h4,h5,h6,y0,hk1]
  refine (odd_at β T1 g h o bs p1 30 d3.rd om9 om9).mono ?_
  rintro _ T4 ⟨b,rfl,hR,hK⟩
  have d4:=d3.step hR hK
  have ec4:=hK.at ec fc.2
  have e44:=hK.at e4 g4.2
  clear hR hK
  cases b with
  | true =>
   simp -implicitDefEqProofs(disch:=omega)only[Nat.reduceEqDiff,↓reduceIte,vcu,↓vcd,h0,h3,h4,h5,h6,opK_some]
   refine (digits_draw β T4 g h o bs (p1+1) 3 d4.rd om9 om9).mono ?_
   rintro _ T5 ⟨w,p5,rfl,w1,w2,w3,D⟩
   have d5:=d4.on D
   have ec5:=D.kp c _ fc.2 ec4
   have e45:=D.kp c4 _ g4.2 e44
   clear D
   simp -implicitDefEqProofs(disch:=omega)only[Nat.reduceEqDiff,↓reduceIte,vcu,↓vcd,opK_some,h0,h3,h4,h5,h6]
   refine r_set (g:=c) (i:=0+2) (C:=[.int .i64 k,.int .i64 l,.string (tx [])]) (by simp -implicitDefEqProofs(disch:=omega)only[Nat.reduceEqDiff,↓reduceIte,vcu,↓vcd,h6]) z9r co9 z9r ec5 (by simp) fun T6 k6 e6=>?_
   replace e6:T6 c=some ⟨[.int .i64 k,.int .i64 l,.string (tx w)],false⟩:=by rw[e6];simp -implicitDefEqProofs(disch:=omega)only[Nat.reduceEqDiff,↓reduceIte,vcu,↓vcd];rfl
   have d6:=d5.put k6 fc.2 fc.1
   have e46:=k6.at e45 gcc
   have ll:lds T6 c 0 3=some [.int .i64 k,.int .i64 l,.string (tx (w))]:=lds_three (ld_of e6 rfl) (ld_of e6 rfl) (ld_of e6 rfl)
   simp -implicitDefEqProofs(disch:=omega)only[Nat.reduceEqDiff,↓reduceIte,vcu,↓vcd,h0,h3,h4,h5,h6,ll,co41]
   refine r_sets (g:=c4) (i:=0) (C:=[.int .i64 0,.int .i64 0,.string (tx [])]) (by simp -implicitDefEqProofs(disch:=omega)only[Nat.reduceEqDiff,↓reduceIte,vcu,↓vcd,h4]) z9co41 z9r z9z e46 z9l fun T9 k9 e9=>?_
   replace e9:T9 c4=some ⟨[.int .i64 k,.int .i64 l,.string (tx (w))],false⟩:=e9
   have d9:=d6.put k9 g4.2 g4.1
   have l9:lds T9 c4 0 3=some [.int .i64 k,.int .i64 l,.string (tx (w))]:=lds_three (ld_of e9 rfl) (ld_of e9 rfl) (ld_of e9 rfl)
   simp -implicitDefEqProofs(disch:=omega)only[Nat.reduceEqDiff,↓reduceIte,vcu,↓vcd,h0,h3,h4,h5,h6]
   refine fin_cell Tryz.results73 T9 (Sub.refl _) (v:=ddA ⟨k,l,w⟩) (by simp -implicitDefEqProofs(disch:=omega)only[Nat.reduceEqDiff,↓reduceIte,vcu,↓vcd,h0,h3,h4,h5,h6,l9,co41];rfl) ⟨⟨k,l,w⟩,_,rfl,by show w.length≤5;omega,by omega,by omega,d9⟩
  | false =>
   simp -implicitDefEqProofs(disch:=omega)only[Nat.reduceEqDiff,↓reduceIte,vcu,↓vcd,opK_some,h0,h3,h4,h5,h6]
   have ll:lds T4 c 0 3=some [.int .i64 k,.int .i64 l,.string (tx ([]))]:=lds_three (ld_of ec4 rfl) (ld_of ec4 rfl) (ld_of ec4 rfl)
   simp -implicitDefEqProofs(disch:=omega)only[Nat.reduceEqDiff,↓reduceIte,vcu,↓vcd,h0,h3,h4,h5,h6,ll,co41]
   refine r_sets (g:=c4) (i:=0) (C:=[.int .i64 0,.int .i64 0,.string (tx [])]) (by simp -implicitDefEqProofs(disch:=omega)only[Nat.reduceEqDiff,↓reduceIte,vcu,↓vcd,h4]) z9co41 z9r z9z e44 z9l fun T9 k9 e9=>?_
   replace e9:T9 c4=some ⟨[.int .i64 k,.int .i64 l,.string (tx ([]))],false⟩:=e9
   have d9:=d4.put k9 g4.2 g4.1
   have l9:lds T9 c4 0 3=some [.int .i64 k,.int .i64 l,.string (tx ([]))]:=lds_three (ld_of e9 rfl) (ld_of e9 rfl) (ld_of e9 rfl)
   simp -implicitDefEqProofs(disch:=omega)only[Nat.reduceEqDiff,↓reduceIte,vcu,↓vcd,h0,h3,h4,h5,h6]
   refine fin_cell Tryz.results73 T9 (Sub.refl _) (v:=ddA ⟨k,l,[]⟩) (by simp -implicitDefEqProofs(disch:=omega)only[Nat.reduceEqDiff,↓reduceIte,vcu,↓vcd,h0,h3,h4,h5,h6,l9,co41];rfl) ⟨⟨k,l,[]⟩,_,rfl,by simp,by omega,by omega,d9⟩
 by_cases h00:0 < ps.length
 case neg =>
  simp -implicitDefEqProofs(disch:=omega)only[Nat.reduceEqDiff,↓reduceIte,vcu,↓vcd,h0,h3,h4,h5,h6,y0,hk0,x3,l1]
  refine (digits_draw β T1 g h o bs (p1) 3 d3.rd om9 om9).mono ?_
  rintro _ T5 ⟨w,p5,rfl,w1,w2,w3,D⟩
  have d5:=d3.on D
  have ec5:=D.kp c _ fc.2 ec
  have e45:=D.kp c4 _ g4.2 e4
  clear D
  simp -implicitDefEqProofs(disch:=omega)only[Nat.reduceEqDiff,↓reduceIte,vcu,↓vcd,opK_some,h0,h3,h4,h5,h6]
  refine r_set (g:=c) (i:=0+2) (C:=[.int .i64 k,.int .i64 l,.string (tx [])]) (by simp -implicitDefEqProofs(disch:=omega)only[Nat.reduceEqDiff,↓reduceIte,vcu,↓vcd,h6]) z9r co9 z9r ec5 (by simp) fun T6 k6 e6=>?_
  replace e6:T6 c=some ⟨[.int .i64 k,.int .i64 l,.string (tx w)],false⟩:=by rw[e6];simp -implicitDefEqProofs(disch:=omega)only[Nat.reduceEqDiff,↓reduceIte,vcu,↓vcd];rfl
  have d6:=d5.put k6 fc.2 fc.1
  have e46:=k6.at e45 gcc
  have ll:lds T6 c 0 3=some [.int .i64 k,.int .i64 l,.string (tx (w))]:=lds_three (ld_of e6 rfl) (ld_of e6 rfl) (ld_of e6 rfl)
  simp -implicitDefEqProofs(disch:=omega)only[Nat.reduceEqDiff,↓reduceIte,vcu,↓vcd,h0,h3,h4,h5,h6,ll,co41]
  refine r_sets (g:=c4) (i:=0) (C:=[.int .i64 0,.int .i64 0,.string (tx [])]) (by simp -implicitDefEqProofs(disch:=omega)only[Nat.reduceEqDiff,↓reduceIte,vcu,↓vcd,h4]) z9co41 z9r z9z e46 z9l fun T9 k9 e9=>?_
  replace e9:T9 c4=some ⟨[.int .i64 k,.int .i64 l,.string (tx (w))],false⟩:=e9
  have d9:=d6.put k9 g4.2 g4.1
  have l9:lds T9 c4 0 3=some [.int .i64 k,.int .i64 l,.string (tx (w))]:=lds_three (ld_of e9 rfl) (ld_of e9 rfl) (ld_of e9 rfl)
  simp -implicitDefEqProofs(disch:=omega)only[Nat.reduceEqDiff,↓reduceIte,vcu,↓vcd,h0,h3,h4,h5,h6]
  refine fin_cell Tryz.results73 T9 (Sub.refl _) (v:=ddA ⟨k,l,w⟩) (by simp -implicitDefEqProofs(disch:=omega)only[Nat.reduceEqDiff,↓reduceIte,vcu,↓vcd,h0,h3,h4,h5,h6,l9,co41];rfl) ⟨⟨k,l,w⟩,_,rfl,by show w.length≤5;omega,by omega,by omega,d9⟩
 have hn':=n3 h00
 simp -implicitDefEqProofs(disch:=omega)only[Nat.reduceEqDiff,↓reduceIte,vcu,↓vcd,h0,h3,h4,h5,h6,y0,hk0,x3,l1]
 refine (pick_at β T1 g h o bs p1 12 d3.rd om9 om9).mono ?_
 rintro _ T4 ⟨z5,rfl,z50,z51,hR,hK⟩
 have d4:=d3.step hR hK
 have ec4:=hK.at ec fc.2
 have e44:=hK.at e4 g4.2
 have eb4:=hK.at eb gb.2
 have y4:ld T4 c (0+0)=some (.int .i64 k):=ld_of ec4 rfl
 have x4:ld T4 hb (0+3)=some v1:=ld_of eb4 rfl
 clear hR hK
 by_cases hz:0 < z5
 case neg =>
  simp -implicitDefEqProofs(disch:=omega)only[Nat.reduceEqDiff,↓reduceIte,vcu,↓vcd,h0,h3,h4,h5,h6,opK_some,y4,hk0]
  refine (digits_draw β T4 g h o bs (p1+1) 3 d4.rd om9 om9).mono ?_
  rintro _ T5 ⟨w,p5,rfl,w1,w2,w3,D⟩
  have d5:=d4.on D
  have ec5:=D.kp c _ fc.2 ec4
  have e45:=D.kp c4 _ g4.2 e44
  clear D
  simp -implicitDefEqProofs(disch:=omega)only[Nat.reduceEqDiff,↓reduceIte,vcu,↓vcd,opK_some,h0,h3,h4,h5,h6]
  refine r_set (g:=c) (i:=0+2) (C:=[.int .i64 k,.int .i64 l,.string (tx [])]) (by simp -implicitDefEqProofs(disch:=omega)only[Nat.reduceEqDiff,↓reduceIte,vcu,↓vcd,h6]) z9r co9 z9r ec5 (by simp) fun T6 k6 e6=>?_
  replace e6:T6 c=some ⟨[.int .i64 k,.int .i64 l,.string (tx w)],false⟩:=by rw[e6];simp -implicitDefEqProofs(disch:=omega)only[Nat.reduceEqDiff,↓reduceIte,vcu,↓vcd];rfl
  have d6:=d5.put k6 fc.2 fc.1
  have e46:=k6.at e45 gcc
  have ll:lds T6 c 0 3=some [.int .i64 k,.int .i64 l,.string (tx (w))]:=lds_three (ld_of e6 rfl) (ld_of e6 rfl) (ld_of e6 rfl)
  simp -implicitDefEqProofs(disch:=omega)only[Nat.reduceEqDiff,↓reduceIte,vcu,↓vcd,h0,h3,h4,h5,h6,ll,co41]
  refine r_sets (g:=c4) (i:=0) (C:=[.int .i64 0,.int .i64 0,.string (tx [])]) (by simp -implicitDefEqProofs(disch:=omega)only[Nat.reduceEqDiff,↓reduceIte,vcu,↓vcd,h4]) z9co41 z9r z9z e46 z9l fun T9 k9 e9=>?_
  replace e9:T9 c4=some ⟨[.int .i64 k,.int .i64 l,.string (tx (w))],false⟩:=e9
  have d9:=d6.put k9 g4.2 g4.1
  have l9:lds T9 c4 0 3=some [.int .i64 k,.int .i64 l,.string (tx (w))]:=lds_three (ld_of e9 rfl) (ld_of e9 rfl) (ld_of e9 rfl)
  simp -implicitDefEqProofs(disch:=omega)only[Nat.reduceEqDiff,↓reduceIte,vcu,↓vcd,h0,h3,h4,h5,h6]
  refine fin_cell Tryz.results73 T9 (Sub.refl _) (v:=ddA ⟨k,l,w⟩) (by simp -implicitDefEqProofs(disch:=omega)only[Nat.reduceEqDiff,↓reduceIte,vcu,↓vcd,h0,h3,h4,h5,h6,l9,co41];rfl) ⟨⟨k,l,w⟩,_,rfl,by show w.length≤5;omega,by omega,by omega,d9⟩
 obtain⟨gp,op,rfl,tp⟩:=rowT (ht.sub (kept_less d4.kp)) h00
 have x5:ld (T4.upd g none) hb (0+3)=some (.slice (some ⟨gp,op,none⟩) ps.length 1):=ld_of (by rw[AHeap.upd_ne _ _ gb.2];exact eb4) rfl
 have KK:∀τ,Kept g T4 τ→∀p∈[(([0,1,2,3,5,6,7]:List Nat),Sub (T4.upd g none))],p.2 τ:=fun τ hK p hp=>by simp only[List.mem_singleton] at hp;subst hp;exact less_keptY hK
 simp -implicitDefEqProofs(disch:=omega)only[Nat.reduceEqDiff,↓reduceIte,vcu,↓vcd,opK_some,h0,h3,h4,h5,h6]
 refine acodeB_monoY (Q':=fun en a' T=>en=.normal∧(a' 0=.pointer (some ⟨g,0,none⟩)∧a' 3=.pointer (some ⟨hb,0,none⟩)∧a' 4=.pointer (some ⟨c4,0,none⟩)∧a' 5=.int .i64 n∧a' 6=.pointer (some ⟨c,0,none⟩))∧∃w:List UInt8,w.length≤5∧T c=some ⟨[.int .i64 k,.int .i64 l,.string (tx w)],false⟩∧T c4=some ⟨[.int .i64 0,.int .i64 0,.string (tx [])],false⟩∧DS β σ T g h o bs (p1+1+1))
  (region_tree mixed (quiets [0,1,2,3] (.one 4 (quiets [5,6,7] (.one 8 .stop)))) [([0,1,2,3,5,6,7],Sub (T4.upd g none))] kr9 kr9 (KK _ (Kept.refl _ _)) ?_) ?_
 ·refine tree_quiets (T4.upd g none) _ _ _ (sfIn kr9) kr9 kr9 ?_
  simp -implicitDefEqProofs(disch:=omega)only[Nat.reduceEqDiff,↓reduceIte,vcu,↓vcd,vcp,h0,h3,h4,h5,h6,x5]
  refine tree_one rfl ?_
  simp -implicitDefEqProofs(disch:=omega)only[Nat.reduceEqDiff,↓reduceIte,vcu,↓vcd]
  refine (pick_at β T4 g h o bs (p1+1) n d4.rd om9 om9).mono ?_
  rintro _ T5 ⟨z6,rfl,z60,z61,hR,hK⟩
  have d5:=d4.step hR hK
  have ec5:=hK.at ec4 fc.2
  have e45:=hK.at e44 g4.2
  simp -implicitDefEqProofs(disch:=omega)only[Nat.reduceEqDiff,↓reduceIte,vcu,↓vcd,opK_some]
  refine⟨keep_of rfl fun p hp=>.inr (KK _ hK p hp),?_⟩
  have x6:ld (T4.upd g none) gp (op+z6.toNat)=some (.string (tx (ps.getD z6.toNat []))):=tp z6.toNat om9
  refine tree_quiets (T4.upd g none) _ _ _ (sfIn kr9) kr9 kr9 ?_
  simp -implicitDefEqProofs(disch:=omega)only[Nat.reduceEqDiff,↓reduceIte,vcu,↓vcd,vcp,h0,h3,h4,h5,h6,x6]
  refine tree_one rfl ?_
  have hw:=hx4 z6.toNat
  generalize ps.getD z6.toNat []=w at hw
  refine r_set (g:=c) (i:=0+2) (C:=[.int .i64 k,.int .i64 l,.string (tx [])]) (by simp -implicitDefEqProofs(disch:=omega)only[Nat.reduceEqDiff,↓reduceIte,vcu,↓vcd,h6]) z9r co9 z9r ec5 (by simp) fun T6 k6 e6=>?_
  replace e6:T6 c=some ⟨[.int .i64 k,.int .i64 l,.string (tx w)],false⟩:=by rw[e6];simp -implicitDefEqProofs(disch:=omega)only[Nat.reduceEqDiff,↓reduceIte,vcu,↓vcd];rfl
  have d6:=d5.put k6 fc.2 fc.1
  have e46:=k6.at e45 gcc
  try simp -implicitDefEqProofs(disch:=omega)only[Nat.reduceEqDiff,↓reduceIte,vcu,↓vcd]
  refine⟨keep_of rfl (fun p hp=>by simp only[List.mem_singleton] at hp;subst hp;exact .inl kr9),tree_stop ?_⟩
  exact⟨by first|trivial|rfl,⟨by simp -implicitDefEqProofs(disch:=omega)only[Nat.reduceEqDiff,↓reduceIte,vcu,↓vcd,h0],by simp -implicitDefEqProofs(disch:=omega)only[Nat.reduceEqDiff,↓reduceIte,vcu,↓vcd,h3],by simp -implicitDefEqProofs(disch:=omega)only[Nat.reduceEqDiff,↓reduceIte,vcu,↓vcd,h4],by simp -implicitDefEqProofs(disch:=omega)only[Nat.reduceEqDiff,↓reduceIte,vcu,↓vcd,h5],by simp -implicitDefEqProofs(disch:=omega)only[Nat.reduceEqDiff,↓reduceIte,vcu,↓vcd,h6]⟩,w,hw,e6,e46,d6⟩
 rintro _ a2 T7 ⟨rfl,⟨h0,h3,h4,h5,h6⟩,w,w1,e7,e47,d7⟩
 have ll:lds T7 c 0 3=some [.int .i64 k,.int .i64 l,.string (tx (w))]:=lds_three (ld_of e7 rfl) (ld_of e7 rfl) (ld_of e7 rfl)
 simp -implicitDefEqProofs(disch:=omega)only[Nat.reduceEqDiff,↓reduceIte,vcu,↓vcd,h0,h3,h4,h5,h6,ll,co41]
 refine r_sets (g:=c4) (i:=0) (C:=[.int .i64 0,.int .i64 0,.string (tx [])]) (by simp -implicitDefEqProofs(disch:=omega)only[Nat.reduceEqDiff,↓reduceIte,vcu,↓vcd,h4]) z9co41 z9r z9z e47 z9l fun T9 k9 e9=>?_
 replace e9:T9 c4=some ⟨[.int .i64 k,.int .i64 l,.string (tx (w))],false⟩:=e9
 have d9:=d7.put k9 g4.2 g4.1
 have l9:lds T9 c4 0 3=some [.int .i64 k,.int .i64 l,.string (tx (w))]:=lds_three (ld_of e9 rfl) (ld_of e9 rfl) (ld_of e9 rfl)
 simp -implicitDefEqProofs(disch:=omega)only[Nat.reduceEqDiff,↓reduceIte,vcu,↓vcd,h0,h3,h4,h5,h6]
 refine fin_cell Tryz.results73 T9 (Sub.refl _) (v:=ddA ⟨k,l,w⟩) (by simp -implicitDefEqProofs(disch:=omega)only[Nat.reduceEqDiff,↓reduceIte,vcu,↓vcd,h0,h3,h4,h5,h6,l9,co41];rfl) ⟨⟨k,l,w⟩,_,rfl,by show w.length≤5;omega,by omega,by omega,d9⟩
end Go.Proofs.YtofdnmlpfagibaaGreatDoor
namespace Go.Proofs.YtofdnmlpfagibaaGreatDoor
open Go Go.Abs Go.RowKit
variable {w0:World}
theorem appd_gen (A B:List Int) (n:Nat):appd (ints .i64 A) n (ints .i64 B)=ints .i64 (if n+B.length≤A.length then A.take n++B++A.drop (n+B.length) else A.take n++B):=by
 unfold appd
 rw[ints_length,ints_length]
 split
 ·unfold lwrite;rw[ints_length];simp [ints]
 ·simp [ints]
theorem insert_eq (ps:List Int) (z:Nat) (v:Int) (hz:z≤ps.length) :
  appd (appd (ints .i64 ps) z (ints .i64 [v])) (z+1) (ints .i64 (ps.drop z))=ints .i64 (ps.take z++[v]++ps.drop z):=by
 rw[appd_gen,appd_gen]
 congr 1
 have hl:(ps.take z++[v]).length=z+1:=by simp;omega
 by_cases h:z+[v].length≤ps.length
 ·rw[if_pos h,if_neg (by simp at h ⊢;omega),List.take_append_of_le_length om9,List.take_of_length_le om9]
 ·rw[if_neg h]
  have e:z=ps.length:=by simp at h;omega
  subst e
  rw[List.take_of_length_le (Nat.le_refl _),List.take_of_length_le (by simp)]
  simp
theorem Rd.keep {β σ τ:AHeap} {g h o:Nat} {bs:List Int} {p:Int} (hr:Rd β σ g h o bs p) (hs:Sub β τ) (hg:τ g=σ g):Rd β τ g h o bs p :=
 ⟨by rw[hg];exact hr.at_,hs,hr.free,hr.ints,hr.len,hr.byte⟩
theorem ins_range {ps:List Int} {z k:Nat} (h:∀x∈ps,0≤x∧x < (k:Int)):∀x∈ps.take z++[(k:Int)]++ps.drop z,0≤x∧x < ((k+1:Nat):Int):=fun x hx=>by
 rcases List.mem_append.1 hx with hx|hx
 ·rcases List.mem_append.1 hx with hx|hx
  ·have:=h x (List.mem_of_mem_take hx);omega
  ·rw[List.mem_singleton] at hx;subst hx;omega
 ·have:=h x (List.mem_of_mem_drop hx);omega
theorem ins_nodup {ps:List Int} {z k:Nat} (h:∀x∈ps,0≤x∧x < (k:Int)) (hn:ps.Nodup):(ps.take z++[(k:Int)]++ps.drop z).Nodup:=by
 have hp:(ps.take z++[(k:Int)]++ps.drop z).Perm ((k:Int) :: ps):=by
  have h1:(ps.take z++[(k:Int)]++ps.drop z).Perm ((k:Int) :: (ps.take z++ps.drop z)):=by
   rw[List.append_assoc];exact List.perm_middle
  rwa [List.take_append_drop] at h1
 rw[hp.nodup_iff]
 exact List.nodup_cons.2 ⟨fun hm=>by have:=h _ hm;omega,hn⟩
set_option maxRecDepth 8000 in
theorem permR_draw (β σ:AHeap) (g h o:Nat) (bs:List Int) (p:Int) (n:Nat) (hr:Rd β σ g h o bs p) (hp:0≤p∧p≤10000) (hn:n≤100) :
  ACall Tryz.prog w0 71 [.pointer (some ⟨g,0,none⟩),.int .i64 n] σ fun r σ'=>∃(q:Nat) (ps:List Int) (p':Int),r=.slice (some ⟨q,0,none⟩) n 1∧ps.length=n∧(∀x∈ps,0≤x∧x < n)∧ps.Nodup∧σ' q=some ⟨ints .i64 ps,false⟩∧β q=none∧q≠g∧p≤p'∧p'≤p+n∧Rd β σ' g h o bs p':=by
 refine acall_go mixed Tryz.func71 rfl good71 fun pr=>?_
 simp -implicitDefEqProofs(disch:=omega)only[Nat.reduceEqDiff,↓reduceIte,vcu,↓vcd]
 refine r_lit_at Tryz.underlying88 ze3 (out:=#[]) kr9 kr9 fun q hq=>?_
 simp -implicitDefEqProofs(disch:=omega)only[Nat.reduceEqDiff,↓reduceIte,vcu,↓vcd]
 have hqg:q≠g:=by rintro rfl;rw[hr.at_] at hq;cases hq
 refine vc_loop mixed kr9 (fun m a τ=>∃(k q:Nat) (ps:List Int) (p':Int),m+k=n∧a 0=.pointer (some ⟨g,0,none⟩)∧a 1=.int .i64 n∧a 5=.slice (some ⟨q,0,none⟩) k 1∧a 6=.int .i64 k∧ps.length=k∧(∀x∈ps,0≤x∧x < (k:Int))∧ps.Nodup∧τ q=some ⟨ints .i64 ps,false⟩∧β q=none∧q≠g∧p≤p'∧p'≤p+k∧Rd β τ g h o bs p')
  n ⟨0,q,[],p,by simp,rfl,rfl,by simp -implicitDefEqProofs(disch:=omega)only[Nat.reduceEqDiff,↓reduceIte,vcu,↓vcd,co3],rfl,rfl,(fun x (hx:x∈([]:List Int))=>absurd hx (by simp)),List.nodup_nil,AHeap.upd_same _ _ _,free_sub hr.sub hq,hqg,by omega,by omega,hr.keep (sub_put hr.sub (free_sub hr.sub hq)) (AHeap.upd_ne _ _ hqg.symm)⟩ ?_
 clear hq hqg q hr
 rintro m a τ ⟨k,q,ps,p',hk,h0,h1,h5,h6,hpl,hrg,hnd,hqv,hqf,hqg,hp1,hp2,hr⟩
 by_cases hlt:k < n
 ·simp -implicitDefEqProofs(disch:=omega)only[Nat.reduceEqDiff,↓reduceIte,vcu,↓vcd,h0,h1,h5,h6]
  refine (pick_at β _ g h o bs p' ((k:Int)+1) hr om9 om9).mono ?_
  rintro r τ1 ⟨z,rfl,hz0,hz1,hR,hK⟩
  have hqv1:=hK q _ hqg hqv
  obtain⟨zt,rfl⟩:∃zt:Nat,z=zt:=⟨z.toNat,by omega⟩
  have hzk:zt≤k:=by omega
  simp -implicitDefEqProofs(disch:=omega)only[Nat.reduceEqDiff,↓reduceIte,vcu,↓vcd,opK_some,h0,h1,h5,h6,Int.toNat_natCast]
  refine r_lit_at Tryz.underlying88 ze3 (out:=#[]) kr9 kr9 fun e1 he1=>?_
  simp -implicitDefEqProofs(disch:=omega)only[Nat.reduceEqDiff,↓reduceIte,vcu,↓vcd,h5,Int.toNat_natCast]
  have hdl:(ps.drop zt).length=k - zt:=by simp [hpl]
  refine r_append_at Tryz.underlying88 Tryz.underlying88 (i:=Tryz.t3) (z:=.int .i64 0) (ys:=ints .i64 (ps.drop zt)) (h:=e1) (b:=0) (len:=0) (ob:=⟨[],false⟩) rfl rfl ?_ z9co3 (AHeap.upd_same _ _ _) rfl (by simp) ?_ ?_ fun r1 hr1=>?_
  ·simp -implicitDefEqProofs(disch:=omega)only[Nat.reduceEqDiff,↓reduceIte,vcu,↓vcd]
   have hq2:(τ1.upd e1 (some ⟨[],false⟩)) q=some ⟨ints .i64 ps,false⟩:=put_other hqv1 he1
   have hA:=acells_at (k:=.i64) (o:=0+zt) (xs:=ps.drop zt) ((intsAt_own hq2).drop zt) ⟨_,hq2,by rw[ints_length,hdl];omega⟩
   rw[hdl] at hA
   exact hA
  ·exact ints_one _ _
  ·rw[ints_length,hdl]
   show (0 * 1+(k - zt)) * 8≤_∧0 * 1+(k - zt)≤_
   omega
  have ea:appd (List.drop 0 ([]:List Value)) (0 * Tryz.t3.size) (ints .i64 (ps.drop zt))=ints .i64 (ps.drop zt):=by
   have:=appd_gen [] (ps.drop zt) 0
   rw[show (0 * Tryz.t3.size)=0 from Nat.zero_mul _]
   rw[show (List.drop 0 ([]:List Value))=ints .i64 [] from rfl,this]
   congr 1
   split
   ·rename_i hh;have:ps.drop zt=[]:=List.eq_nil_of_length_eq_zero (by simp at hh ⊢;omega)
    simp [this]
   ·simp
  rw[ea]
  have hr1':τ1 r1=none:=free_sub (sub_upd he1) hr1
  have hr1n:r1≠q:=by rintro rfl;rw[hqv1] at hr1';cases hr1'
  have hr1g:r1≠g:=by rintro rfl;rw[hR.at_] at hr1';cases hr1'
  have he1g:e1≠g:=by rintro rfl;rw[hR.at_] at he1;cases he1
  have he1q:e1≠q:=by rintro rfl;rw[hqv1] at he1;cases he1
  generalize hH:((τ1.upd e1 (some ⟨[],false⟩)).upd e1 none).upd r1 (some ⟨ints .i64 (ps.drop zt),false⟩)=H
  have Hs:Sub β H:=by rw[←hH];exact sub_put (sub_put (sub_put hR.sub (free_sub hR.sub he1)) (free_sub hR.sub he1)) (free_sub hR.sub hr1')
  have Hq:H q=some ⟨ints .i64 ps,false⟩:=by rw[←hH,AHeap.upd_ne _ _ hr1n.symm,AHeap.upd_ne _ _ he1q.symm,AHeap.upd_ne _ _ he1q.symm];exact hqv1
  have Hg:H g=τ1 g:=by rw[←hH,AHeap.upd_ne _ _ hr1g.symm,AHeap.upd_ne _ _ he1g.symm,AHeap.upd_ne _ _ he1g.symm]
  have Hr:H r1=some ⟨ints .i64 (ps.drop zt),false⟩:=by rw[←hH];exact AHeap.upd_same _ _ _
  have Hrf:β r1=none:=free_sub hR.sub hr1'
  have HR:=hR.keep Hs Hg
  have hlen1:(ints .i64 (ps.drop zt)).length / Tryz.t3.size=k - zt:=by rw[ints_length,hdl];exact Nat.div_one _
  have hsz:Tryz.t3.size=1:=rfl
  clear hH hr1 hr1' he1g he1q he1 ea
  have hlk:(ints .i64 [(k:Int)]).length / Tryz.t3.size=1:=by rw[hsz,ints_length,Nat.div_one];rfl
  simp -implicitDefEqProofs(disch:=omega)only[Nat.reduceEqDiff,↓reduceIte,vcu,↓vcd,h5,h6,Int.toNat_natCast,hlen1,hsz,Nat.zero_add]
  refine r_lit_at Tryz.underlying88 ze3 (out:=#[.int .i64 k]) (by simp -implicitDefEqProofs(disch:=omega)only[Nat.reduceEqDiff,↓reduceIte,vcu,↓vcd,h6];kernel_rfl) kr9 fun e2 he2=>?_
  simp -implicitDefEqProofs(disch:=omega)only[Nat.reduceEqDiff,↓reduceIte,vcu,↓vcd]
  have Hq2:(H.upd e2 (some ⟨[.int .i64 k],false⟩)) q=some ⟨ints .i64 ps,false⟩:=put_other Hq he2
  refine r_append_at Tryz.underlying88 Tryz.underlying88 (i:=Tryz.t3) (z:=.int .i64 0) (ys:=ints .i64 [(k:Int)]) (h:=q) (b:=0) (len:=zt) (ob:=⟨ints .i64 ps,false⟩) rfl rfl ?_ z9r Hq2 rfl ?_ ?_ ?_ fun q1 hq1=>?_
  ·simp -implicitDefEqProofs(disch:=omega)only[Nat.reduceEqDiff,↓reduceIte,vcu,↓vcd,co3]
   exact acells_at (k:=.i64) (o:=0) (xs:=[(k:Int)]) (intsAt_own (AHeap.upd_same _ _ _)) ⟨_,AHeap.upd_same _ _ _,by simp⟩
  ·show 0+zt * 1≤(ints .i64 ps).length
   rw[ints_length];omega
  ·rfl
  ·show (zt * 1+1) * 8≤_∧zt * 1+1≤_
   omega
  have hq1':H q1=none:=free_sub (sub_upd he2) hq1
  have he2q:e2≠q:=by rintro rfl;rw[Hq] at he2;cases he2
  have he2r:e2≠r1:=by rintro rfl;rw[Hr] at he2;cases he2
  have he2g:e2≠g:=by rintro rfl;rw[HR.at_] at he2;cases he2
  have hq1r:q1≠r1:=by rintro rfl;rw[Hr] at hq1';cases hq1'
  have hq1g:q1≠g:=by rintro rfl;rw[HR.at_] at hq1';cases hq1'
  have hc1:(some ⟨appd (List.drop 0 (ints .i64 ps)) (zt * Tryz.t3.size) (ints .i64 [(k:Int)]),false⟩:Option AObj)=some ⟨appd (ints .i64 ps) zt (ints .i64 [(k:Int)]),false⟩:=by
   rw[List.drop_zero,hsz,Nat.mul_one]
  rw[hc1]
  generalize hJ:((H.upd e2 (some ⟨[.int .i64 k],false⟩)).upd q none).upd q1 (some ⟨appd (ints .i64 ps) zt (ints .i64 [(k:Int)]),false⟩)=J
  have Js:Sub β J:=by rw[←hJ];exact sub_put (sub_put (sub_put Hs (free_sub Hs he2)) hqf) (free_sub Hs hq1')
  have Jg:J g=H g:=by rw[←hJ,AHeap.upd_ne _ _ hq1g.symm,AHeap.upd_ne _ _ hqg.symm,AHeap.upd_ne _ _ he2g.symm]
  have Jr:J r1=some ⟨ints .i64 (ps.drop zt),false⟩:=by rw[←hJ,AHeap.upd_ne _ _ hq1r.symm,AHeap.upd_ne _ _ hr1n,AHeap.upd_ne _ _ he2r.symm];exact Hr
  have Jq:J q1=some ⟨appd (ints .i64 ps) zt (ints .i64 [(k:Int)]),false⟩:=by rw[←hJ];exact AHeap.upd_same _ _ _
  have Jqf:β q1=none:=free_sub Hs hq1'
  have JR:=HR.keep Js Jg
  clear hJ hq1 hq1' he2q he2r he2g he2 Hq2 hc1
  simp -implicitDefEqProofs(disch:=omega)only[Nat.reduceEqDiff,↓reduceIte,vcu,↓vcd]
  refine r_append_at Tryz.underlying88 Tryz.underlying88 (i:=Tryz.t3) (z:=.int .i64 0) (ys:=ints .i64 (ps.drop zt)) (h:=q1) (b:=0) (len:=zt+1) (ob:=⟨appd (ints .i64 ps) zt (ints .i64 [(k:Int)]),false⟩) rfl rfl ?_ (by simp -implicitDefEqProofs(disch:=omega)only[Nat.reduceEqDiff,↓reduceIte,vcu,↓vcd,hlk]) Jq rfl ?_ (ints_one _ _) ?_ fun q2 hq2=>?_
  ·have hA:=acells_at (k:=.i64) (o:=0) (xs:=ps.drop zt) (intsAt_own Jr) ⟨_,Jr,by rw[ints_length];omega⟩
   rw[hdl] at hA
   simp -implicitDefEqProofs(disch:=omega)only[Nat.reduceEqDiff,↓reduceIte,vcu,↓vcd,ints_length,hdl,Nat.div_one]
   exact hA
  ·show 0+(zt+1) * 1≤_
   rw[appd_gen,ints_length]
   split
   ·simp;omega
   ·simp;omega
  ·rw[ints_length,hdl]
   show ((zt+1) * 1+(k - zt)) * 8≤_∧(zt+1) * 1+(k - zt)≤_
   omega
  have eb:appd (List.drop 0 (appd (ints .i64 ps) zt (ints .i64 [(k:Int)]))) ((zt+1) * Tryz.t3.size) (ints .i64 (ps.drop zt))=ints .i64 (ps.take zt++[(k:Int)]++ps.drop zt):=by
   rw[List.drop_zero,hsz,Nat.mul_one];exact insert_eq ps zt k om9
  rw[eb]
  have hq2g:q2≠g:=by rintro rfl;rw[JR.at_] at hq2;cases hq2
  have hq2f:=free_sub Js hq2
  have hlen2:zt+1+(ints .i64 (ps.drop zt)).length / Tryz.t3.size=k+1:=by rw[hlen1];omega
  have hlen3:zt+1+(k - zt)=k+1:=by omega
  simp -implicitDefEqProofs(disch:=omega)only[Nat.reduceEqDiff,↓reduceIte,vcu,↓vcd,h0,h1,h6,hsz,ints_length,hdl,Nat.div_one,hlen3]
  exact⟨m - 1,by omega,k+1,q2,_,p'+1,by omega,trivial,trivial,rfl,by simp,by simp;omega,ins_range hrg,ins_nodup hrg hnd,AHeap.upd_same _ _ _,hq2f,hq2g,by omega,by omega,JR.keep (sub_put (sub_put Js Jqf) hq2f) (by rw[AHeap.upd_ne _ _ hq2g.symm,AHeap.upd_ne _ _ hq1g.symm])⟩
 ·simp -implicitDefEqProofs(disch:=omega)only[Nat.reduceEqDiff,↓reduceIte,vcu,↓vcd,h0,h1,h5,h6]
  have e:k=n:=by omega
  subst e
  refine fin_one Tryz.results71 ⟨q,ps,p',?_,hpl,hrg,hnd,hqv,hqf,hqg,hp1,hp2,hr⟩
  simp -implicitDefEqProofs(disch:=omega)only[Nat.reduceEqDiff,↓reduceIte,vcu,↓vcd,h5]
end Go.Proofs.YtofdnmlpfagibaaGreatDoor
namespace Go.Proofs.YtofdnmlpfagibaaGreatDoor
open Go Go.Abs Go.RowKit
variable {P:Program} {b:Base} {n:NR}
theorem seqK_mono {K:AFrame→AHeap→Prop} {K':AFrame→AHeap→Prop} {Q Q':AQ} (hk:∀a σ,K' a σ→K a σ) (hq:∀e a σ,Q' e a σ→Q e a σ):∀e a σ,seqK K' Q' e a σ→seqK K Q e a σ:=by
 intro e a σ h
 cases e<;>first|exact hk _ _ h|exact hq _ _ _ h
theorem blockK_mono {id:Nat} {Q Q':AQ} (hq:∀e a σ,Q' e a σ→Q e a σ):∀e a σ,blockK id Q' e a σ→blockK id Q e a σ:=by
 intro e a σ h
 cases e with
 | exit j =>
  by_cases hj:j=id
  ·rw[blockK_exit,if_pos hj] at h ⊢;exact hq _ _ _ h
  ·rw[blockK_exit,if_neg hj] at h ⊢;exact hq _ _ _ h
 | _=>exact hq _ _ _ h
theorem vcR_monoG {q:Bool} {all:List Oper} {K K':AK} (h:∀a σ,K' a σ→K a σ):∀(os:List Oper) (a:AFrame) (σ:AHeap),vcR P b q all os a σ K'→vcR P b q all os a σ K
 | [],a,σ,hh=>by unfold vcR at hh ⊢;exact h a σ hh
 | o :: os,a,σ,hh=>by
  have ih:=vcR_monoG (q:=q) (all:=all) h os
  unfold vcR at hh ⊢
  cases q with
  | false =>
   cases hg:o.guard with
   | none =>
    rw[hg] at hh
    exact vcOp_mono (fun a σ=>ih a σ) hh
   | some jw =>
    obtain⟨j,want⟩:=jw
    rw[hg] at hh
    exact⟨fun hv=>vcOp_mono (fun a σ=>ih a σ) (hh.1 hv),fun hv=>ih _ _ (hh.2 hv)⟩
  | true =>
   cases hg:o.guard with
   | none =>
    rw[hg] at hh
    obtain⟨v,h1,h2⟩:=hh
    exact⟨v,h1,ih _ _ h2⟩
   | some jw =>
    obtain⟨j,want⟩:=jw
    rw[hg] at hh
    exact⟨fun hv=>let ⟨v,h1,h2⟩:=hh.1 hv;⟨v,h1,ih _ _ h2⟩,fun hv=>ih _ _ (hh.2 hv)⟩
theorem vc_monoG:∀(c:Code) (a:AFrame) (σ:AHeap) (Q Q':AQ),(∀e a σ,Q' e a σ→Q e a σ)→vc P b n c a σ Q'→vc P b n c a σ Q
 | .seq x y,a,σ,Q,Q',hq,h=>by
  unfold vc at h ⊢
  exact vc_monoG x _ _ _ _ (seqK_mono (fun a σ hh=>vc_monoG y _ _ _ _ hq hh) hq) h
 | .cond c x y,a,σ,Q,Q',hq,h=>by
  unfold vc at h ⊢
  obtain⟨v,h0,h1,h2⟩:=h
  exact⟨v,h0,fun hv=>vc_monoG x _ _ _ _ hq (h1 hv),fun hv=>vc_monoG y _ _ _ _ hq (h2 hv)⟩
 | .block id x,a,σ,Q,Q',hq,h=>by
  unfold vc at h ⊢
  exact vc_monoG x _ _ _ _ (blockK_mono hq) h
 | .region id ops d,a,σ,Q,Q',hq,h=>by
  unfold vc at h ⊢
  cases hb:(d && noisy P ops.toList) with
  | true=>rw[hb] at h;exact ACode.mono h hq
  | false=>rw[hb] at h;exact vcR_monoG (fun a σ hh=>hq _ _ _ hh) _ _ _ h
 | .skip,a,σ,Q,Q',hq,h=>hq _ _ _ h
 | .label _,a,σ,Q,Q',hq,h=>hq _ _ _ h
 | .exit _,a,σ,Q,Q',hq,h=>hq _ _ _ h
 | .goto _,a,σ,Q,Q',hq,h=>hq _ _ _ h
 | .ret,a,σ,Q,Q',hq,h=>hq _ _ _ h
 | .loop _,_,_,_,_,hq,h=>ACode.mono h hq
 | .rangeFunc ..,_,_,_,_,hq,h=>ACode.mono h hq
 | .scope ..,_,_,_,_,hq,h=>ACode.mono h hq
 | .refuse ..,_,_,_,_,hq,h=>ACode.mono h hq
theorem cond_join {v:Value} {x y:Code} {a:AFrame} {σ:AHeap} {Q:AQ} (Q':AQ) (h:condR v (vcH P b n x a σ Q') (vcH P b n y a σ Q')) (hq:∀e a σ,Q' e a σ→Q e a σ):condR v (vcH P b n x a σ Q) (vcH P b n y a σ Q):=by
 obtain⟨c,h0,h1,h2⟩:=h
 exact⟨c,h0,fun hc=>vc_monoG x _ _ _ _ hq (h1 hc),fun hc=>vc_monoG y _ _ _ _ hq (h2 hc)⟩
end Go.Proofs.YtofdnmlpfagibaaGreatDoor
set_option maxHeartbeats 6400000
namespace Go.Proofs.YtofdnmlpfagibaaGreatDoor
open Go Go.Abs Go.RowKit Go.Dial Go.Clos
variable {w0:World}
def OYC (σ0:AHeap) (g:Nat) (τ:AHeap) (v:Value) (cs:List Cl):Prop:=(v=.slice none 0 0∧cs=[])∨∃q,v=.slice (some ⟨q,0,none⟩) cs.length 3∧τ q=some ⟨tris cs,false⟩∧σ0 q=none∧q≠g
theorem OYC.tris {σ0 τ:AHeap} {g:Nat} {v:Value} {cs:List Cl} (w:OYC σ0 g τ v cs):Tris τ v cs:=w.imp id fun⟨q,e,h,_⟩=>⟨q,0,e,trisAt_own h⟩
theorem OYC.sub {σ0 τ τ':AHeap} {g:Nat} {v:Value} {cs:List Cl} (w:OYC σ0 g τ v cs) (hs:Sub τ τ'):OYC σ0 g τ' v cs:=w.imp id fun⟨q,e,h,n⟩=>⟨q,e,hs _ _ h,n⟩
theorem OYC.pick {σ0 τ τ':AHeap} {g:Nat} {v:Value} {cs:List Cl} (w:OYC σ0 g τ v cs) (hk:Kept g τ τ'):OYC σ0 g τ' v cs:=w.imp id fun⟨q,e,h,n1,n2⟩=>⟨q,e,hk.at h n2,n1,n2⟩
def OYX (σ0:AHeap) (g:Nat) (τ:AHeap) (v1 v2:Value) (e:Ex):Prop:=OYS σ0 g τ v1 e.ps∧OYC σ0 g τ v2 e.cs
section
variable {β σ0 σ τ τ':AHeap} {g h o c:Nat} {bs:List Int} {p:Int} {v1 v2:Value} {e:Ex}
theorem OYX.ex (w:OYX σ0 g τ v1 v2 e):ExV τ (exV v1 v2 e) e:=⟨v1,v2,rfl,w.1.texts,w.2.tris⟩
theorem OYX.sub (w:OYX σ0 g τ v1 v2 e) (hs:Sub τ τ'):OYX σ0 g τ' v1 v2 e:=⟨w.1.sub hs,w.2.sub hs⟩
theorem OYX.pick (w:OYX σ0 g τ v1 v2 e) (hk:Kept g τ τ'):OYX σ0 g τ' v1 v2 e:=⟨w.1.pick hk,w.2.pick hk⟩
theorem OYX.kept {ob:AObj} (w:OYX σ0 g τ v1 v2 e) (hk:Kept c τ τ') (hc:σ0 c=some ob):OYX σ0 g τ' v1 v2 e :=
 ⟨w.1.imp id fun⟨q,a,b,n1,n2⟩=>⟨q,a,hk.at b (ne_of n1 hc),n1,n2⟩,w.2.imp id fun⟨q,a,b,n1,n2⟩=>⟨q,a,hk.at b (ne_of n1 hc),n1,n2⟩⟩
theorem OYX.less (w:OYX σ0 g τ v1 v2 e):Texts (τ.upd g none) v1 e.ps:=by
 exact w.1.imp id fun⟨q,a,b,n1,n2⟩=>⟨q,0,a,textsAt_own (by rw[AHeap.upd_ne _ _ n2];exact b)⟩
theorem OYX.of {u1 u2:Value} (w:OwnX σ τ (exV u1 u2 e) e) (hf:∀q,σ q=none→σ0 q=none∧q≠g):OYX σ0 g τ u1 u2 e:=by
 obtain⟨w1,w2,h1,h2,h3⟩:=w
 unfold exV at h1
 cases h1
 exact⟨h2.imp id fun⟨q,a,b,n⟩=>⟨q,a,b,hf q n⟩,h3.imp id fun⟨q,a,b,n⟩=>⟨q,a,b,hf q n⟩⟩
theorem OYX.free (w:OYX σ0 g τ v1 v2 e) (hf:∀q,σ0 q=none→σ q=none):OYX σ g τ v1 v2 e :=
 ⟨w.1.imp id fun⟨q,a,b,n1,n2⟩=>⟨q,a,b,hf q n1,n2⟩,w.2.imp id fun⟨q,a,b,n1,n2⟩=>⟨q,a,b,hf q n1,n2⟩⟩
theorem OYX.aside (w:OYX σ0 g τ v1 v2 e) (hn:τ c=none):OYX (σ0.upd c (some ⟨[],false⟩)) g τ v1 v2 e :=
 ⟨w.1.imp id fun⟨q,a,b,n1,n2⟩=>⟨q,a,b,by rw[AHeap.upd_ne _ _ (by rintro rfl;rw[hn] at b;cases b)];exact n1,n2⟩,w.2.imp id fun⟨q,a,b,n1,n2⟩=>⟨q,a,b,by rw[AHeap.upd_ne _ _ (by rintro rfl;rw[hn] at b;cases b)];exact n1,n2⟩⟩
theorem free_upd {ob:AObj}:∀q,(σ0.upd c (some ob)) q=none→σ0 q=none:=fun q hq=>by
 by_cases hc:q=c
 ·subst hc;rw[AHeap.upd_same] at hq;cases hq
 ·rwa [AHeap.upd_ne _ _ hc] at hq
theorem OYX.one (w:OYX σ0 g τ v1 v2 e):(exC v1 v2 e).all Value.oneCell'=true:=by
 have a:=(texts_cellV w.1.texts).2
 have b:=(tris_cellV w.2.tris).2
 unfold exC
 simp only[List.all_cons,List.all_nil,a,b]
 rfl
end
theorem Rd.less {β σ:AHeap} {g h o:Nat} {bs:List Int} {p:Int} (hr:Rd β σ g h o bs p):Rd (σ.upd g none) σ g h o bs p :=
 ⟨hr.at_,less_keptY (Kept.refl _ _),AHeap.upd_same _ _ _,hr.ints.sub fun k ob e=>by rw[AHeap.upd_ne _ _ (by rintro rfl;rw[hr.free] at e;cases e)];exact hr.sub k ob e,hr.len,hr.byte⟩
theorem Rd.back {β σ τ:AHeap} {g h o:Nat} {bs:List Int} {p p':Int} (hr:Rd β σ g h o bs p) (h2:Rd (σ.upd g none) τ g h o bs p'):Kept g σ τ∧Rd β τ g h o bs p':=by
 have hK:Kept g σ τ:=fun k ob hk e=>h2.sub k ob (by rw[AHeap.upd_ne _ _ hk];exact e)
 exact⟨hK,h2.at_,fun k ob e=>hK k ob (by rintro rfl;rw[hr.free] at e;cases e) (hr.sub k ob e),hr.free,hr.ints,hr.len,hr.byte⟩
theorem exDo_ok {e:Ex} (h:ExOk e) (d:Dd):ExOk (exDo e d).1:=by
 unfold exDo
 rw[if_pos h]
 split
 ·rename_i x hx;exact (doO_did h hx).ok
 ·exact h
theorem sep_rows {τ:AHeap} {q1 q2:Nat} {ps:List (List UInt8)} {cs:List Cl} (h1:τ q1=some ⟨texts ps,false⟩) (h2:τ q2=some ⟨tris cs,false⟩) (hne:ps≠[]):q2≠q1:=by
 rintro rfl
 rw[h1] at h2
 have h3:texts ps=tris cs:=by injection h2 with h2;injection h2
 cases ps with
 | nil=>exact hne rfl
 | cons p ps =>
  cases cs with
  | nil=>cases h3
  | cons c cs=>cases h3
theorem mixed_ok {ps:List (List UInt8)} {os:List Int} (h:PlanOk ps) (hl:os.length=ps.length) (hr:∀x∈os,0≤x∧x < (ps.length:Int)) (hn:os.Nodup):PlanOk (os.map fun i=>ps.getD i.toNat []):=by
 have key:∀k,k < ps.length→∃i:Nat,i < ps.length∧os.getD k 0=i∧(os.map fun i=>ps.getD i.toNat []).getD k []=ps.getD i []:=fun k hk=>by
  have hk':k < os.length:=by omega
  have:=hr (os.getD k 0) (by simp [List.getD,hk'])
  refine⟨(os.getD k 0).toNat,by omega,by omega,?_⟩
  simp [List.getD,hk']
 refine⟨fun k hk=>?_,by rw[List.length_map,hl];exact h.2⟩
 rw[List.length_map,hl] at hk
 obtain⟨i,hi,e1,e2⟩:=key k hk
 have hP:=h.1 i hi
 unfold PRow
 rw[e2]
 refine⟨hP.1,hP.2.1,fun j hj hjk=>?_⟩
 rw[List.length_map,hl] at hj
 obtain⟨i',hi',e1',e2'⟩:=key j hj
 rw[e2']
 refine hP.2.2 i' hi' fun e=>hjk ?_
 subst e
 have hj':j < os.length:=by omega
 have hk':k < os.length:=by omega
 have e3:os[j]=os[k]:=by
  have a:os.getD j 0=os[j]:=by simp [List.getD,hj']
  have b:os.getD k 0=os[k]:=by simp [List.getD,hk']
  rw[←a,←b,e1,e1']
 have hp:=List.pairwise_iff_getElem.1 hn
 rcases Nat.lt_trichotomy j k with hh|hh|hh
 ·exact absurd e3 (hp j k hj' hk' hh)
 ·exact hh
 ·exact absurd e3.symm (hp k j hk' hj' hh)
theorem two_share : ∀ {xs : List Int}, (∀ x ∈ xs, 2 ≤ x ∧ x ≤ 3) → ∀ k, k ≤ xs.length → shS xs k ≤ 4 * k
  | xs, h, 0, _ => by simp [shS]
  | xs, h, k + 1, hk => by
    have h1 := two_share h k om9
    have h2 := h (xs.getD k 0) (by have : k < xs.length := by omega
                                   simp [List.getD, this])
    have h3 : pw (3 - xs.getD k 0).toNat ≤ 4 := by
      have : xs.getD k 0 = 2 ∨ xs.getD k 0 = 3 := by omega
      rcases this with e | e <;> rw [e] <;> decide
    rw [shS]; omega
theorem two_ok {xs:List Int} (h:∀x∈xs,2≤x∧x≤3) (hl:xs.length≤10):pfOk xs:=by
 have hL:LnOk xs:=⟨fun k hk=>by have:=h (xs.getD k 0) (by simp [List.getD,hk]);omega,hl⟩
 refine⟨hL,?_⟩
 rw[shareV,if_pos hL]
 have:=two_share h xs.length (Nat.le_refl _)
 omega
theorem take_map {os:List Int} {ps:List (List UInt8)} {k:Nat} (h:k < os.length):(os.take (k+1)).map (fun i=>ps.getD i.toNat [])=(os.take k).map (fun i=>ps.getD i.toNat [])++[ps.getD (os.getD k 0).toNat []]:=by
 rw[List.take_succ_eq_append_getElem h,List.map_append]
 simp [List.getD,h]
def XS (e:Ex):Prop:=e.ps.length≤11∧(∀t∈e.ps,t.length≤3)∧e.cs.length≤13
theorem XS.b {e:Ex} (h:XS e):ExB e:=⟨by have:=h.1;omega,fun t ht=>by have:=h.2.1 t ht;omega,by have:=h.2.2;omega⟩
def XT (e:Ex):Prop:=e.ps.length≤10∧(∀t∈e.ps,t.length≤3)∧e.cs.length≤12
theorem XT.s {e:Ex} (h:XT e):XS e:=⟨by have:=h.1;omega,h.2.1,by have:=h.2.2;omega⟩
theorem XT.of {e:Ex} (h:ExOk e):XT e:=by
 obtain⟨h1,h2,h3,h4,h5⟩:=h
 refine⟨h2.2,fun x hx=>?_,h4.len⟩
 obtain⟨k,hk,rfl⟩:=List.mem_iff_getElem.1 hx
 have:=(h2.1 k hk).2.1.2
 simpa only[List.getD,List.getElem?_eq_getElem hk,Option.getD_some] using this
theorem XT.ex0:XT ex0:=⟨Nat.zero_le _,fun x hx=>absurd hx (by show x ∉ ([]:List (List UInt8));simp),Nat.zero_le _⟩
theorem XT.do_ {e:Ex} (d:Dd):XT (exDo e d).1:=by
 unfold exDo;split
 ·rename_i h
  split
  ·rename_i x hx;exact XT.of (doO_did h hx).ok
  ·exact XT.of h
 ·exact XT.ex0
theorem oe10 {O E:Int} (O1:1≤O) (O2:O≤4) (E1:1≤E) (E2:E≤3) (h:¬(O=4∧E=3)):1≤O * E∧O * E≤10:=by
 have a:O=1∨O=2∨O=3∨O=4:=by omega
 have b:E=1∨E=2∨E=3:=by omega
 rcases a with rfl|rfl|rfl|rfl<;>rcases b with rfl|rfl|rfl<;>first|omega | (exact absurd ⟨rfl,rfl⟩ h)
theorem oe12 {O E:Int} (O1:1≤O) (O2:O≤4) (E1:1≤E) (E2:E≤3):1≤O * E∧O * E≤12:=by
 have a:O=1∨O=2∨O=3∨O=4:=by omega
 have b:E=1∨E=2∨E=3:=by omega
 rcases a with rfl|rfl|rfl|rfl<;>rcases b with rfl|rfl|rfl<;>omega
set_option maxRecDepth 16000 in
theorem exch_draw (β σ:AHeap) (g h o:Nat) (bs:List Int) (p n:Int) (hr:Rd β σ g h o bs p) (hp:0≤p∧p≤1000) (hn:n=0∨1≤n∧n≤1000) :
  ACall Tryz.prog w0 34 [.pointer (some ⟨g,0,none⟩),.int .i64 n] σ fun r σ'=>∃(e:Ex) (v1 v2:Value) (p':Int),r=exV v1 v2 e∧OYX σ g σ' v1 v2 e∧XS e∧p≤p'∧p'≤p+400∧DS β σ σ' g h o bs p':=by
 refine acall_goc mixed Tryz.func34 rfl goodc34 fun pr=>?_
 simp -implicitDefEqProofs(disch:=omega)only[Nat.reduceEqDiff,↓reduceIte,vcu,↓vcd]
 refine r_new ze33 fun c4 τ1 n4 s1 e4=>?_
 replace e4:τ1 c4=some ⟨[.int .i64 0,.int .i64 0,.int .i64 0,.slice none 0 0,.slice none 0 0],false⟩:=e4
 have d1:=(DS.start hr).new s1
 have g4:=(DS.start hr).fresh n4
 simp -implicitDefEqProofs(disch:=omega)only[Nat.reduceEqDiff,↓reduceIte,vcu,↓vcd]
 refine (pick_at β τ1 g h o bs p 4 d1.rd om9 om9).mono ?_
 rintro _ τ2 ⟨z1,rfl,z10,z11,hR,hK⟩
 have d2:=d1.step hR hK
 replace e4:=hK.at e4 g4.2
 clear hR hK d1
 simp -implicitDefEqProofs(disch:=omega)only[Nat.reduceEqDiff,↓reduceIte,vcu,↓vcd,opK_some]
 refine (pick_at β τ2 g h o bs (p+1) 3 d2.rd om9 om9).mono ?_
 rintro _ τ3 ⟨z2,rfl,z20,z21,hR,hK⟩
 have d3:=d2.step hR hK
 replace e4:=hK.at e4 g4.2
 clear hR hK d2
 obtain⟨O,hO,O1,O2⟩:∃O:Int,1+z1=O∧1≤O∧O≤4:=⟨_,rfl,by omega,by omega⟩
 obtain⟨E,hE,E1,E2⟩:∃E:Int,1+z2=E∧1≤E∧E≤3:=⟨_,rfl,by omega,by omega⟩
 simp -implicitDefEqProofs(disch:=omega)only[Nat.reduceEqDiff,↓reduceIte,vcu,↓vcd,opK_some,hO,hE]
 rw[r_build]
 refine⟨(_,#[.int .i64 O,.int .i64 E,.int .i64 0]),⟨ze29,by first|kernel_rfl | (simp -implicitDefEqProofs(disch:=omega)only[Nat.reduceEqDiff,↓reduceIte,vcu,↓vcd];kernel_rfl)⟩,?_⟩
 simp -implicitDefEqProofs(disch:=omega)only[Nat.reduceEqDiff,↓reduceIte,vcu,↓vcd]
 refine r_local (cs:=#[.int .i64 O,.int .i64 E,.int .i64 0]) ze29 (by decide) z9q (by rw[co29];rfl) rfl rfl (Nat.zero_lt_succ _) fun c5 τ4 n5 s4 e5=>?_
 replace e5:τ4 c5=some ⟨[.int .i64 O,.int .i64 E,.int .i64 0],false⟩:=e5
 have g5:=d3.fresh n5
 have d4:=d3.new s4
 have d45:c4≠c5:=ne_of' n5 e4
 replace e4:=s4 _ _ e4
 clear n5 s4 s1 n4 d3 hO hE z10 z11 z20 z21
 have y0:ld τ4 c5 (0+0)=some (.int .i64 O):=ld_of e5 rfl
 have y1:ld τ4 c5 (0+1)=some (.int .i64 E):=ld_of e5 rfl
 have hq:O * E=if O=4∧E=3 then 12 else O * E:=by split<;>rename_i h<;>first | (rw[h.1,h.2];rfl)|rfl
 have hm:¬(O=4∧E=3)→1≤O * E∧O * E≤10:=oe10 O1 O2 E1 E2
 have d5:=d4
 have F0:τ4 c5=some ⟨[.int .i64 O,.int .i64 E,.int .i64 0],false⟩:=e5
 clear hq
 obtain⟨X,hX,X1,X2,hX3⟩:∃X:Int,O * E=X∧1≤X∧X≤12∧(¬(O=4∧E=3)→X≤10):=⟨_,rfl,(oe12 O1 O2 E1 E2).1,(oe12 O1 O2 E1 E2).2,fun h=>(hm h).2⟩
 simp -implicitDefEqProofs(disch:=omega)only[Nat.reduceEqDiff,↓reduceIte,vcu,↓vcd,y0,y1,hX]
 refine cond_join (fun en a' T=>en=.normal∧(a' 0=.pointer (some ⟨g,0,none⟩)∧a' 1=.int .i64 n∧a' 4=.pointer (some ⟨c4,0,none⟩)∧a' 5=.pointer (some ⟨c5,0,none⟩))∧∃(O':Int) (W:Nat),O' * E=(W:Int)∧(1≤W∧W≤10)∧(1≤O'∧O'≤4)∧T c5=some ⟨[.int .i64 O',.int .i64 E,.int .i64 0],false⟩∧T c4=some ⟨[.int .i64 0,.int .i64 0,.int .i64 0,.slice none 0 0,.slice none 0 0],false⟩∧DS β σ T g h o bs (p+1+1)) ?_ ?_
 ·by_cases hbig:O=4∧E=3
  ·obtain⟨rfl,rfl⟩:=hbig
   have q12:(4:Int) * 3=12:=by decide
   have hX12:X=12:=by omega
   subst hX12
   simp -implicitDefEqProofs(disch:=omega)only[Nat.reduceEqDiff,↓reduceIte,vcu,↓vcd]
   refine r_set (g:=c5) (i:=0+0) (C:=[.int .i64 4,.int .i64 3,.int .i64 0]) z9q z9r co3 z9r e5 (by simp) fun τ5 k5 f5=>?_
   replace f5:τ5 c5=some ⟨[.int .i64 3,.int .i64 3,.int .i64 0],false⟩:=by rw[f5];simp -implicitDefEqProofs(disch:=omega)only[Nat.reduceEqDiff,↓reduceIte,vcu,↓vcd];rfl
   try simp -implicitDefEqProofs(disch:=omega)only[Nat.reduceEqDiff,↓reduceIte,vcu,↓vcd]
   exact⟨by first|trivial|rfl,⟨by first|trivial|rfl,by first|trivial|rfl,by first|trivial|rfl,by first|trivial|rfl⟩,3,9,by decide,by decide,by decide,f5,k5.at e4 d45,d4.put k5 g5.2 g5.1⟩
  ·have hmm:=hm hbig
   have hle:=hX3 hbig
   simp -implicitDefEqProofs(disch:=omega)only[Nat.reduceEqDiff,↓reduceIte,vcu,↓vcd]
   exact⟨by first|trivial|rfl,⟨by first|trivial|rfl,by first|trivial|rfl,by first|trivial|rfl,by first|trivial|rfl⟩,O,(O * E).toNat,by omega,by omega,by omega,e5,e4,d4⟩
 clear e5 y0 y1 d4 hm O1 O2 d5 F0 e4 hX X1 X2 hX3
 rintro _ a0 τ5 ⟨rfl,⟨j0,j1,j4,j5⟩,O,W,hW,hW1,⟨O1,O2⟩,f5,e4,d5⟩
 simp -implicitDefEqProofs(disch:=omega)only[Nat.reduceEqDiff,↓reduceIte,vcu,↓vcd,j0,j1,j4,j5]
 have y1:ld (τ5.upd g none) c5 (0+1)=some (.int .i64 E):=ld_of (by rw[AHeap.upd_ne _ _ g5.2];exact f5) rfl
 have KK:∀τ,Kept g τ5 τ→∀p∈[(([0,1,2,4,5]:List Nat),Sub (τ5.upd g none))],p.2 τ:=fun τ hK p hp=>by simp only[List.mem_singleton] at hp;subst hp;exact less_keptY hK
 try simp -implicitDefEqProofs(disch:=omega)only[Nat.reduceEqDiff,↓reduceIte,vcu,↓vcd]
 refine acodeB_monoY (Q':=fun en a' T=>en=.normal∧(a' 0=.pointer (some ⟨g,0,none⟩)∧a' 1=.int .i64 n∧a' 4=.pointer (some ⟨c4,0,none⟩)∧a' 5=.pointer (some ⟨c5,0,none⟩))∧∃M:Int,(E≤M∧M≤E+1)∧T c5=some ⟨[.int .i64 O,.int .i64 E,.int .i64 M],false⟩∧T c4=some ⟨[.int .i64 0,.int .i64 0,.int .i64 0,.slice none 0 0,.slice none 0 0],false⟩∧DS β σ T g h o bs (p+1+1+1))
  (region_tree mixed (quiets [0,1,2] (.one 3 (quiets [4,5] (.one 6 .stop)))) [([0,1,2,4,5],Sub (τ5.upd g none))] kr9 kr9 (KK _ (Kept.refl _ _)) ?_) ?_
 ·refine tree_quiets (τ5.upd g none) _ _ _ (sfIn kr9) kr9 kr9 ?_
  simp -implicitDefEqProofs(disch:=omega)only[Nat.reduceEqDiff,↓reduceIte,vcu,↓vcd,vcp,j0,j1,j4,j5,y1]
  refine tree_one rfl ?_
  try simp -implicitDefEqProofs(disch:=omega)only[Nat.reduceEqDiff,↓reduceIte,vcu,↓vcd]
  refine (pick_at β τ5 g h o bs (p+1+1) 2 d5.rd om9 om9).mono ?_
  rintro _ T5 ⟨z3,rfl,z30,z31,hR,hK⟩
  have d6:=d5.step hR hK
  have f6:=hK.at f5 g5.2
  have e46:=hK.at e4 g4.2
  simp -implicitDefEqProofs(disch:=omega)only[Nat.reduceEqDiff,↓reduceIte,vcu,↓vcd,opK_some]
  refine⟨keep_of rfl fun p hp=>.inr (KK _ hK p hp),?_⟩
  refine tree_quiets (τ5.upd g none) _ _ _ (sfIn kr9) kr9 kr9 ?_
  simp -implicitDefEqProofs(disch:=omega)only[Nat.reduceEqDiff,↓reduceIte,vcu,↓vcd,vcp,j0,j1,j4,j5]
  refine tree_one rfl ?_
  refine r_set (g:=c5) (i:=0+2) (C:=[.int .i64 O,.int .i64 E,.int .i64 0]) z9q z9r co3 z9r f6 (by simp) fun T6 k6 e6=>?_
  replace e6:T6 c5=some ⟨[.int .i64 O,.int .i64 E,.int .i64 (E+z3)],false⟩:=by rw[e6];simp -implicitDefEqProofs(disch:=omega)only[Nat.reduceEqDiff,↓reduceIte,vcu,↓vcd];rfl
  have d7:=d6.put k6 g5.2 g5.1
  have e47:=k6.at e46 d45
  try simp -implicitDefEqProofs(disch:=omega)only[Nat.reduceEqDiff,↓reduceIte,vcu,↓vcd]
  refine⟨keep_of rfl (fun p hp=>by simp only[List.mem_singleton] at hp;subst hp;exact .inl kr9),tree_stop ?_⟩
  exact⟨by first|trivial|rfl,⟨by simp -implicitDefEqProofs(disch:=omega)only[Nat.reduceEqDiff,↓reduceIte,vcu,↓vcd,j0],by simp -implicitDefEqProofs(disch:=omega)only[Nat.reduceEqDiff,↓reduceIte,vcu,↓vcd,j1],by simp -implicitDefEqProofs(disch:=omega)only[Nat.reduceEqDiff,↓reduceIte,vcu,↓vcd,j4],by simp -implicitDefEqProofs(disch:=omega)only[Nat.reduceEqDiff,↓reduceIte,vcu,↓vcd,j5]⟩,_,⟨by omega,by omega⟩,e6,e47,d7⟩
 clear y1 KK f5 e4 d5
 rintro _ a1 τ6 ⟨rfl,⟨h0,h1,h4,h5⟩,M,hM,f5,e4,d6⟩
 have D6:=DS.start d6.rd
 have k46:=d45
 simp -implicitDefEqProofs(disch:=omega)only[Nat.reduceEqDiff,↓reduceIte,vcu,↓vcd,h0,h1,h4,h5]
 refine r_lit el88 (out:=#[]) (by first|kernel_rfl | (simp -implicitDefEqProofs(disch:=omega)only[Nat.reduceEqDiff,↓reduceIte,vcu,↓vcd];kernel_rfl)) kr9 fun q0 τ7 n0 s0 v0=>?_
 have D7:=D6.new s0
 have w7:OYI τ6 g τ7 (.slice (some ⟨q0,0,none⟩) 0 1) []:=⟨q0,rfl,v0,D6.fresh n0⟩
 clear s0 v0 n0 D6
 simp -implicitDefEqProofs(disch:=omega)only[Nat.reduceEqDiff,↓reduceIte,vcu,↓vcd]
 refine vc_loop_c mixed kr9 [0,1,4,5] (fun m a τ=>∃xs:List Int,m+xs.length=W∧a 7=.int .i64 (xs.length:Int)∧OYI τ6 g τ (a 6) xs∧(∀x∈xs,2≤x∧x≤3)∧DS β τ6 τ g h o bs (p+3+xs.length)) W ⟨[],by simp,rfl,w7,by simp,by simpa [Int.add_assoc] using D7⟩ ?_
 clear w7 D7 τ7
 rintro m a τ7 hc ⟨xs,hm,h7,w7,hxs,D7⟩
 simp -implicitDefEqProofs(disch:=omega)only[Nat.reduceEqDiff,↓reduceIte,vcu,↓vcd,h0,h1,h4,h5] at hc
 obtain⟨h0',h1',h4',h5',-⟩:=hc
 have f7:=D7.kp _ _ g5.2 f5
 have y0:ld τ7 c5 (0+0)=some (.int .i64 O):=ld_of f7 rfl
 have y1:ld τ7 c5 (0+1)=some (.int .i64 E):=ld_of f7 rfl
 by_cases hlt:xs.length < W
 ·obtain⟨q,h6,vq,nq,gq⟩:=w7
  simp -implicitDefEqProofs(disch:=omega)only[Nat.reduceEqDiff,↓reduceIte,vcu,↓vcd,h0',h1',h4',h5',h6,h7,y0,y1,hW]
  refine (pick_at β τ7 g h o bs (p+3+xs.length) 3 D7.rd om9 om9).mono ?_
  rintro _ τ8 ⟨z,rfl,z0,z1',hR,hK⟩
  have D8:=D7.step hR hK
  replace vq:=hK.at vq gq
  clear hR hK D7 y0 y1 f7
  simp -implicitDefEqProofs(disch:=omega)only[Nat.reduceEqDiff,↓reduceIte,vcu,↓vcd,opK_some,h0',h1',h4',h5',h6,h7]
  obtain⟨cc,hcc,cc1⟩:∃cc:Int,2+z / 2=cc∧2≤cc∧cc≤3:=⟨_,rfl,by omega,by omega⟩
  rw[hcc]
  refine r_lit el88 (out:=#[.int .i64 cc]) (by simp -implicitDefEqProofs(disch:=omega)only[Nat.reduceEqDiff,↓reduceIte,vcu,↓vcd];kernel_rfl) kr9 fun e9 τ9 n9 s9 v9=>?_
  replace v9:τ9 e9=some ⟨ints .i64 [cc],false⟩:=v9
  have D9:=D8.new s9
  refine r_pushI (g:=q) (e:=e9) (o:=0) (k:=.i64) (xs:=xs) (ys:=[cc]) (m:=1) (len:=xs.length) el88 om9 sl88 (by simp -implicitDefEqProofs(disch:=omega)only[Nat.reduceEqDiff,↓reduceIte,vcu,↓vcd,h6]) (s9 _ _ vq) rfl z9q (intsAt_own v9) rfl om9 fun qA τA nA kA vA=>?_
  have DA:=D9.put kA gq nq
  simp -implicitDefEqProofs(disch:=omega)only[Nat.reduceEqDiff,↓reduceIte,vcu,↓vcd,h0',h1',h4',h5',h7]
  refine⟨by simp [h0',h1',h4',h5',h0,h1,h4,h5],m - 1,by omega,xs++[cc],by simp;omega,by simp,⟨qA,by simp,vA,D9.fresh nA⟩,fun x hx=>?_,?_⟩
  ·rcases List.mem_append.1 hx with hh|hh
   ·exact hxs x hh
   ·rw[List.mem_singleton.1 hh];exact cc1
  have:p+3+((xs++[cc]).length:Int)=p+3+(xs.length:Int)+1:=by simp;omega
  rw[this];exact DA
 have hxl:xs.length=W:=by omega
 have wi:=w7.ints
 simp -implicitDefEqProofs(disch:=omega)only[Nat.reduceEqDiff,↓reduceIte,vcu,↓vcd,h0',h1',h4',h5',h7,y0,y1,hW]
 refine (planFor_calls τ7 (a 6) xs wi om9).mono ?_
 rintro _ τ8 ⟨v8,rfl,s8,wS⟩
 have D8:=D7.new s8
 have hsm:=planV_small xs
 have hpo:=planV_ok (two_ok hxs om9)
 rw[hxl] at hpo
 have w8:OYS τ6 g τ8 v8 (planV xs):=wS.imp id fun⟨q,e,h,n⟩=>⟨q,e,h,D7.fresh n⟩
 clear wS s8 D7 wi w7 y0 y1 f7
 generalize planV xs=ps at hsm w8 hpo
 obtain⟨hpo,hpl,-⟩:=hpo
 have lp:=lenT w8.texts
 simp -implicitDefEqProofs(disch:=omega)only[Nat.reduceEqDiff,↓reduceIte,vcu,↓vcd,opK_some,List.getElem?_toArray,List.getElem?_cons_zero,List.getElem?_cons_succ,lp,h0',h1',h4',h5']
 refine (permR_draw (τ8.upd g none) τ8 g h o bs _ ps.length D8.rd.less om9 om9).mono ?_
 rintro _ τ9 ⟨q,os,p9,rfl,hol,hor,hon,vq,fq,gq,hp9,hp9',hR'⟩
 obtain⟨hK,hR⟩:=D8.rd.back hR'
 have D9:=D8.step hR hK
 have w9:=w8.pick hK
 clear hR hK hR' D8 w8 fq
 have D:=DS.start D9.rd
 simp -implicitDefEqProofs(disch:=omega)only[Nat.reduceEqDiff,↓reduceIte,vcu,↓vcd,opK_some,h0',h1',h4',h5']
 refine r_lit el30 (out:=#[]) (by first|kernel_rfl | (simp -implicitDefEqProofs(disch:=omega)only[Nat.reduceEqDiff,↓reduceIte,vcu,↓vcd];kernel_rfl)) kr9 fun qm τA nm sm vm=>?_
 replace vm:τA qm=some ⟨texts [],false⟩:=vm
 have DA:=D.new sm
 have fm:=D.fresh nm
 clear sm nm D
 simp -implicitDefEqProofs(disch:=omega)only[Nat.reduceEqDiff,↓reduceIte,vcu,↓vcd,h0',h1',h4',h5']
 refine vc_loop_c mixed kr9 [0,1,4,5,8,10] (fun m a τ=>∃(ys:List (List UInt8)) (qm:Nat),m+ys.length=ps.length∧a 12=.int .i64 (ys.length:Int)∧a 11=.slice (some ⟨qm,0,none⟩) ys.length 1∧τ qm=some ⟨texts ys,false⟩∧τ9 qm=none∧qm≠g∧ys=(os.take ys.length).map (fun i=>ps.getD i.toNat [])∧DS β τ9 τ g h o bs p9) ps.length ⟨[],qm,by simp,rfl,rfl,vm,fm.1,fm.2,rfl,DA⟩ ?_
 clear DA vm fm
 rintro m2 a2 τA hc2 ⟨ys,qm,hm2,h12,h11,vm,fm,gm,hys,DA⟩
 simp -implicitDefEqProofs(disch:=omega)only[Nat.reduceEqDiff,↓reduceIte,vcu,↓vcd,h0',h1',h4',h5'] at hc2
 obtain⟨c0,c1,c4',c5',c8,c10,-⟩:=hc2
 by_cases hlt2:ys.length < ps.length
 ·obtain⟨gp,op,rfl,tp⟩:=rowT (w9.pick DA.kp).texts om9
  have vqA:=DA.kp.at vq gq
  have xo:=own_at vqA (i:=ys.length) om9
  have hr1:=hor (os.getD ys.length 0) (by simp [List.getD,hol,hlt2])
  have hst:=take_map (ps:=ps) (show ys.length < os.length by omega)
  generalize os.getD ys.length 0=k at xo hr1 hst
  have xt:=tp k.toNat om9
  have hw:=getD_len hsm.2 k.toNat
  generalize ps.getD k.toNat []=tt at xt hw hst
  simp -implicitDefEqProofs(disch:=omega)only[Nat.reduceEqDiff,↓reduceIte,vcu,↓vcd,c0,c1,c4',c5',c8,c10,h11,h12,xo,xt,hol]
  refine r_lit el30 (out:=#[.string (tx tt)]) (by simp -implicitDefEqProofs(disch:=omega)only[Nat.reduceEqDiff,↓reduceIte,vcu,↓vcd];kernel_rfl) kr9 fun eB τB nB sB vB=>?_
  replace vB:τB eB=some ⟨texts [tt],false⟩:=vB
  have DB:=DA.new sB
  refine r_pushX (g:=qm) (e:=eB) (o:=0) (xs:=ys) (ys:=[tt]) (m:=1) (len:=ys.length) el30 om9 sl30 (by simp -implicitDefEqProofs(disch:=omega)only[Nat.reduceEqDiff,↓reduceIte,vcu,↓vcd,h11]) (sB _ _ vm) rfl z9q (textsAt_own vB) rfl om9 fun qC τC nC kC vC=>?_
  have DC:=DB.put kC gm fm
  have fC:=DB.fresh nC
  simp -implicitDefEqProofs(disch:=omega)only[Nat.reduceEqDiff,↓reduceIte,vcu,↓vcd,c0,c1,c4',c5',c8,c10,h12]
  refine⟨by simp [c0,c1,c4',c5',c8,c10,h0',h1',h4',h5'],m2 - 1,by omega,ys++[tt],qC,by simp;omega,by simp,by simp,vC,fC.1,fC.2,?_,DC⟩
  rw[List.length_append,List.length_singleton,hst,←hys]
 have hyl:ys.length=ps.length:=by omega
 have hyo:PlanOk ys:=by rw[hys,hyl,List.take_of_length_le om9];exact mixed_ok hpo hol hor hon
 have hXO:ExOk ⟨⟨O,E,M⟩,ys,[]⟩:=⟨⟨⟨⟨O1,O2⟩,⟨E1,E2⟩,⟨by show 1≤M;omega,by show M≤5;omega⟩⟩,hM.1⟩,hyo,by show (ys.length:Int)=O * E;rw[hyl,hpl,hW],CV_nil.2 ⟨⟨O1,O2⟩,⟨E1,E2⟩,⟨by show 1≤M;omega,by show M≤5;omega⟩⟩,fun c hc=>by cases hc⟩
 have hys3:∀t∈ys,t.length≤3:=(XT.of hXO).2.1
 have hnew:newX ⟨O,E,M⟩ ys=⟨⟨O,E,M⟩,ys,[]⟩:=if_pos hXO
 have DD:=D9.on DA
 have fA:=DD.kp _ _ g5.2 f5
 have ll:lds τA c5 0 3=some [.int .i64 O,.int .i64 E,.int .i64 M]:=lds_three (ld_of fA rfl) (ld_of fA rfl) (ld_of fA rfl)
 simp -implicitDefEqProofs(disch:=omega)only[Nat.reduceEqDiff,↓reduceIte,vcu,↓vcd,c0,c1,c4',c5',c8,c10,h11,h12,lp,ll,co29]
 refine (newX_calls τA ⟨O,E,M⟩ _ ys (.inr ⟨qm,0,rfl,textsAt_own vm⟩) om9 (fun x hx=>by have:=hys3 x hx;omega)).mono ?_
 rintro _ τB ⟨sB,u1,u2,rfl,oX⟩
 rw[hnew] at oX ⊢
 have DB:=DD.new sB
 have wB:OYX τ6 g τB u1 u2 ⟨⟨O,E,M⟩,ys,[]⟩:=OYX.of ⟨u1,u2,rfl,oX⟩ fun q hq=>DD.fresh hq
 clear hnew oX sB ll fA DD DA vm hys hyo hys3 w9 vq lp D9 hpo hsm hor hon
 generalize (⟨⟨O,E,M⟩,ys,[]⟩:Ex)=e at hXO wB
 unfold exV
 simp -implicitDefEqProofs(disch:=omega)only[Nat.reduceEqDiff,↓reduceIte,vcu,↓vcd,opK_some,c0,c1,c4',c5']
 have hone:=wB.one
 unfold exC at hone
 refine r_local (cs:=#[.int .i64 e.s.O,.int .i64 e.s.E,.int .i64 e.s.M,u1,u2]) ze33 (by decide) z9q (by rw[co33];rfl) rfl hone (Nat.zero_lt_succ _) fun c13 τC nC sC eC=>?_
 replace eC:τC c13=some ⟨exC u1 u2 e,false⟩:=eC
 have gC:=DB.fresh nC
 have DC:=DB.new sC
 have wC:OYX (τ6.upd c13 (some ⟨[],false⟩)) g τC u1 u2 e:=(wB.aside nC).sub sC
 have hcB:(τ6.upd c13 (some ⟨[],false⟩)) c13=some ⟨[],false⟩:=AHeap.upd_same _ _ _
 have hfB:∀q,(τ6.upd c13 (some ⟨[],false⟩)) q=none→τ6 q=none:=fun q hq=>by
  by_cases hc:q=c13
  ·subst hc;rw[AHeap.upd_same] at hq;cases hq
  ·rwa [AHeap.upd_ne _ _ hc] at hq
 have h4B:(τ6.upd c13 (some ⟨[],false⟩)) c4=some ⟨[.int .i64 0,.int .i64 0,.int .i64 0,.slice none 0 0,.slice none 0 0],false⟩:=by rw[AHeap.upd_ne _ _ (by rintro rfl;rw[gC.1] at e4;cases e4)];exact e4
 generalize hB:τ6.upd c13 (some ⟨[],false⟩)=B at wC hcB hfB h4B
 have hBn:∀q,τ6 q=none→q≠c13→B q=none:=fun q h1 h2=>by rw[←hB,AHeap.upd_ne _ _ h2];exact h1
 clear hB wB nC sC DB hone
 try simp -implicitDefEqProofs(disch:=omega)only[Nat.reduceEqDiff,↓reduceIte,vcu,↓vcd,c0,c1,c4',c5']
 refine (pick_at β τC g h o bs p9 24 DC.rd om9 om9).mono ?_
 rintro _ τD ⟨z,rfl,za,zb,hR,hK⟩
 have DD:=DC.step hR hK
 have wD:=wC.pick hK
 have eD:=hK.at eC gC.2
 clear hR hK DC wC eC
 obtain⟨zt,rfl⟩:∃zt:Nat,z=zt:=⟨z.toNat,by omega⟩
 simp -implicitDefEqProofs(disch:=omega)only[Nat.reduceEqDiff,↓reduceIte,vcu,↓vcd,opK_some,c0,c1,c4',c5']
 refine vc_loop_c mixed kr9 [0,1,4,13] (fun m a T=>∃(x:Ex) (u1 u2:Value) (p':Int),a 14=.int .i64 m∧T c13=some ⟨exC u1 u2 x,false⟩∧ExOk x∧OYX B g T u1 u2 x∧p≤p'∧p'+10 * m≤p+300∧DS β τ6 T g h o bs p') zt ⟨e,u1,u2,_,rfl,eD,hXO,wD,by omega,by omega,DD⟩ ?_
 clear DD wD eD hXO
 rintro m3 a3 T0 hc3 ⟨x,u1,u2,p',h14,e13,hX,wx,hp1,hp2,D⟩
 simp -implicitDefEqProofs(disch:=omega)only[Nat.reduceEqDiff,↓reduceIte,vcu,↓vcd,c0,c1,c4',c5'] at hc3
 obtain⟨k0,k1,k4,k13,-⟩:=hc3
 have l13:lds (T0.upd g none) c13 0 5=some (exC u1 u2 x):=by rw[lds_of (by rw[AHeap.upd_ne _ _ gC.2];exact e13) (by simp [exC])];rfl
 unfold exC at l13
 have hXT:=XT.of hX
 have hone:=wx.one
 unfold exC at hone
 by_cases hlt3:0 < m3
 ·simp -implicitDefEqProofs(disch:=omega)only[Nat.reduceEqDiff,↓reduceIte,vcu,↓vcd,k0,k1,k4,k13,h14]
  refine acodeB_monoY (Q':=fun en a' T=>en=.normal∧(a' 0=.pointer (some ⟨g,0,none⟩)∧a' 1=.int .i64 n∧a' 4=.pointer (some ⟨c4,0,none⟩)∧a' 13=.pointer (some ⟨c13,0,none⟩)∧a' 14=.int .i64 m3)∧∃(c15:Nat) (y:Ex) (y1 y2:Value) (ok:Bool) (p2:Int),a' 15=.pointer (some ⟨c15,0,none⟩)∧a' 16=.bool ok∧T c15=some ⟨exC y1 y2 y,false⟩∧T c13=some ⟨exC u1 u2 x,false⟩∧ExOk y∧OYX B g T y1 y2 y∧OYX B g T u1 u2 x∧p'≤p2∧p2≤p'+10∧DS β τ6 T g h o bs p2)
   (region_tree mixed (quiets [0,1,2] (.two 3 (.two 4 (quiets [5,6,7] (.one 8 (.one 9 (quiets [10] .stop)))) 8 (.one 4 (quiets [5,6,7] (.one 9 (quiets [10] .stop))))) 8 (.one 3 (.one 4 (quiets [5,6,7] (.one 9 (quiets [10] .stop))))))) [([0,1,2],Sub (T0.upd g none))] kr9 kr9 (fun p hp=>by simp only[List.mem_singleton] at hp;subst hp;exact less_keptY (Kept.refl _ _)) ?_) ?_
  ·refine tree_quiets (T0.upd g none) _ _ _ (sfIn kr9) kr9 kr9 ?_
   simp -implicitDefEqProofs(disch:=omega)only[Nat.reduceEqDiff,↓reduceIte,vcu,↓vcd,vcp,k0,k1,k4,k13,l13,co33]
   have B0:Sub (T0.upd g none) T0:=less_keptY (Kept.refl _ _)
   refine tree_two rfl rfl ?_ ?_
   ·try simp -implicitDefEqProofs(disch:=omega)only[Nat.reduceEqDiff,↓reduceIte,vcu,↓vcd]
    have hdd:=deed_draw (w0:=w0) β T0 g h o bs p' u1 u2 x D.rd om9 (wx.less) (by have:=hXT.1;omega) (fun t ht=>by have:=hXT.2.1 t ht;omega)
    unfold exV at hdd
    refine hdd.mono ?_
    rintro _ A1 ⟨d,p2,rfl,dt,dp1,dp2,DD⟩
    have D1:=D.on DD
    have w1:=wx.pick DD.kp
    have f13:=DD.kp.at e13 gC.2
    have B1:Sub (T0.upd g none) A1:=fun k ob e=>by
     have hkg:k≠g:=by rintro rfl;rw[AHeap.upd_same] at e;cases e
     exact DD.kp k ob hkg (B0 k ob e)
    simp -implicitDefEqProofs(disch:=omega)only[Nat.reduceEqDiff,↓reduceIte,vcu,↓vcd,opK_some]
    refine⟨keep_of rfl fun p hp=>by simp only[List.mem_singleton] at hp;subst hp;exact .inr B1,?_⟩
    refine tree_two rfl rfl ?_ ?_
    ·try simp -implicitDefEqProofs(disch:=omega)only[Nat.reduceEqDiff,↓reduceIte,vcu,↓vcd]
     have hdo:=exDo_calls (w0:=w0) A1 (exV u1 u2 x) x d w1.ex hXT.s.b om9
     have hok:=exDo_ok hX d
     generalize exDo x d=yb at hdo hok
     obtain⟨y,ok⟩:=yb
     unfold ddA exV at hdo
     unfold ddA
     refine hdo.mono ?_
     rintro _ A2 ⟨_,rfl,s2,y1,y2,rfl,oy1,oy2⟩
     have D2:=D1.new s2
     have w2:=w1.sub s2
     have h13:=s2 _ _ f13
     have B2:=B1.trans s2
     unfold exV
     have wy:OYX B g A2 y1 y2 y:=OYX.of ⟨y1,y2,rfl,oy1,oy2⟩ fun q hq=>⟨hBn q (D1.fresh hq).1 (ne_of hq f13),(D1.fresh hq).2⟩
     simp -implicitDefEqProofs(disch:=omega)only[Nat.reduceEqDiff,↓reduceIte,vcu,↓vcd,opK_some]
     refine⟨keep_of rfl fun p hp=>by simp only[List.mem_singleton] at hp;subst hp;exact .inr B2,?_⟩
     refine tree_quiets (fun _=>none) _ _ _ sf0 kr9 kr9 ?_
     simp -implicitDefEqProofs(disch:=omega)only[Nat.reduceEqDiff,↓reduceIte,vcu,↓vcd,vcp,List.getElem?_toArray,List.getElem?_cons_zero,List.getElem?_cons_succ]
     refine tree_one rfl ?_
     try simp -implicitDefEqProofs(disch:=omega)only[Nat.reduceEqDiff,↓reduceIte,vcu,↓vcd]
     refine r_new ze33 fun c15 A3 n15 s3 e15=>?_
     replace e15:A3 c15=some ⟨[.int .i64 0,.int .i64 0,.int .i64 0,.slice none 0 0,.slice none 0 0],false⟩:=e15
     have g15:=D2.fresh n15
     have d15:c15≠c13:=ne_of n15 h13
     have D3:=D2.new s3
     have w3:=(w2.aside n15).sub s3
     have i13:=s3 _ _ h13
     have B3:=B2.trans s3
     have b15:=free_sub B2 n15
     have wy3:=(wy.aside n15).sub s3
     try simp -implicitDefEqProofs(disch:=omega)only[Nat.reduceEqDiff,↓reduceIte,vcu,↓vcd]
     refine⟨keep_of rfl fun p hp=>by simp only[List.mem_singleton] at hp;subst hp;exact .inr B3,?_⟩
     refine tree_one rfl ?_
     have hy1:=wy3.one
     unfold exC at hy1
     refine r_sets (g:=c15) (i:=0) (C:=[.int .i64 0,.int .i64 0,.int .i64 0,.slice none 0 0,.slice none 0 0]) z9q z9co33 (by simp -implicitDefEqProofs(disch:=omega)only[Nat.reduceEqDiff,↓reduceIte,vcu,↓vcd];exact hy1) z9z e15 z9l fun A9 k9 e9=>?_
     replace e9:A9 c15=some ⟨exC y1 y2 y,false⟩:=e9
     have D9:=D3.put k9 g15.2 g15.1
     have hb15:(B.upd c15 (some ⟨[],false⟩)) c15=some ⟨[],false⟩:=AHeap.upd_same _ _ _
     have w9:OYX B g A9 u1 u2 x:=(w3.kept k9 hb15).free (free_upd)
     have wy9:OYX B g A9 y1 y2 y:=(wy3.kept k9 hb15).free (free_upd)
     have j13:=k9.at i13 d15.symm
     have B9:Sub (T0.upd g none) A9:=k9.sub B3 b15
     try simp -implicitDefEqProofs(disch:=omega)only[Nat.reduceEqDiff,↓reduceIte,vcu,↓vcd]
     refine⟨keep_of rfl fun p hp=>by simp only[List.mem_singleton] at hp;subst hp;exact .inr B9,?_⟩
     refine tree_quiets (fun _=>none) _ _ _ sf0 kr9 kr9 ?_
     simp -implicitDefEqProofs(disch:=omega)only[Nat.reduceEqDiff,↓reduceIte,vcu,↓vcd,vcp]
     refine tree_stop ?_
     exact⟨by first|trivial|rfl,⟨by first|trivial|simp -implicitDefEqProofs(disch:=omega)only[Nat.reduceEqDiff,↓reduceIte,vcu,↓vcd,k0],by first|trivial|simp -implicitDefEqProofs(disch:=omega)only[Nat.reduceEqDiff,↓reduceIte,vcu,↓vcd,k1],by first|trivial|simp -implicitDefEqProofs(disch:=omega)only[Nat.reduceEqDiff,↓reduceIte,vcu,↓vcd,k4],by first|trivial|simp -implicitDefEqProofs(disch:=omega)only[Nat.reduceEqDiff,↓reduceIte,vcu,↓vcd,k13],by first|trivial|simp -implicitDefEqProofs(disch:=omega)only[Nat.reduceEqDiff,↓reduceIte,vcu,↓vcd,h14]⟩,c15,y,y1,y2,ok,p2,by first|trivial|simp -implicitDefEqProofs(disch:=omega)only[Nat.reduceEqDiff,↓reduceIte,vcu,↓vcd],by first|trivial|simp -implicitDefEqProofs(disch:=omega)only[Nat.reduceEqDiff,↓reduceIte,vcu,↓vcd],e9,j13,hok,wy9,w9,dp1,dp2,D9⟩
    ·try simp -implicitDefEqProofs(disch:=omega)only[Nat.reduceEqDiff,↓reduceIte,vcu,↓vcd]
     refine r_new ze33 fun c15 A3 n15 s3 e15=>?_
     replace e15:A3 c15=some ⟨[.int .i64 0,.int .i64 0,.int .i64 0,.slice none 0 0,.slice none 0 0],false⟩:=e15
     have g15:=D1.fresh n15
     have d15:c15≠c13:=ne_of n15 f13
     have D3:=D1.new s3
     have w3:=(w1.aside n15).sub s3
     have i13:=s3 _ _ f13
     have B3:=B1.trans s3
     have b15:=free_sub B1 n15
     try simp -implicitDefEqProofs(disch:=omega)only[Nat.reduceEqDiff,↓reduceIte,vcu,↓vcd]
     refine⟨keep_of rfl fun p hp=>by simp only[List.mem_singleton] at hp;subst hp;exact .inr B3,?_⟩
     refine tree_one rfl ?_
     try simp -implicitDefEqProofs(disch:=omega)only[Nat.reduceEqDiff,↓reduceIte,vcu,↓vcd]
     have hdo:=exDo_calls (w0:=w0) A3 (exV u1 u2 x) x d w3.ex hXT.s.b om9
     have hok:=exDo_ok hX d
     generalize exDo x d=yb at hdo hok
     obtain⟨y,ok⟩:=yb
     unfold ddA exV at hdo
     unfold ddA
     refine hdo.mono ?_
     rintro _ A2 ⟨_,rfl,s2,y1,y2,rfl,oy1,oy2⟩
     have D2:=D3.new s2
     have w2:=w3.sub s2
     have h13:=s2 _ _ i13
     have B2:=B3.trans s2
     unfold exV
     have h15:=s2 _ _ e15
     have wy:OYX (B.upd c15 (some ⟨[],false⟩)) g A2 y1 y2 y:=OYX.of ⟨y1,y2,rfl,oy1,oy2⟩ fun q hq=>⟨by rw[AHeap.upd_ne _ _ (ne_of hq e15)];exact hBn q (D3.fresh hq).1 (ne_of hq i13),(D3.fresh hq).2⟩
     simp -implicitDefEqProofs(disch:=omega)only[Nat.reduceEqDiff,↓reduceIte,vcu,↓vcd,opK_some]
     refine⟨keep_of rfl fun p hp=>by simp only[List.mem_singleton] at hp;subst hp;exact .inr B2,?_⟩
     refine tree_quiets (fun _=>none) _ _ _ sf0 kr9 kr9 ?_
     simp -implicitDefEqProofs(disch:=omega)only[Nat.reduceEqDiff,↓reduceIte,vcu,↓vcd,vcp,List.getElem?_toArray,List.getElem?_cons_zero,List.getElem?_cons_succ]
     refine tree_one rfl ?_
     have hy1:=wy.one
     unfold exC at hy1
     refine r_sets (g:=c15) (i:=0) (C:=[.int .i64 0,.int .i64 0,.int .i64 0,.slice none 0 0,.slice none 0 0]) z9q z9co33 (by simp -implicitDefEqProofs(disch:=omega)only[Nat.reduceEqDiff,↓reduceIte,vcu,↓vcd];exact hy1) z9z h15 z9l fun A9 k9 e9=>?_
     replace e9:A9 c15=some ⟨exC y1 y2 y,false⟩:=e9
     have D9:=D2.put k9 g15.2 g15.1
     have hb15:(B.upd c15 (some ⟨[],false⟩)) c15=some ⟨[],false⟩:=AHeap.upd_same _ _ _
     have w9:OYX B g A9 u1 u2 x:=(w2.kept k9 hb15).free (free_upd)
     have wy9:OYX B g A9 y1 y2 y:=(wy.kept k9 hb15).free (free_upd)
     have j13:=k9.at h13 d15.symm
     have B9:Sub (T0.upd g none) A9:=k9.sub B2 b15
     try simp -implicitDefEqProofs(disch:=omega)only[Nat.reduceEqDiff,↓reduceIte,vcu,↓vcd]
     refine⟨keep_of rfl fun p hp=>by simp only[List.mem_singleton] at hp;subst hp;exact .inr B9,?_⟩
     refine tree_quiets (fun _=>none) _ _ _ sf0 kr9 kr9 ?_
     simp -implicitDefEqProofs(disch:=omega)only[Nat.reduceEqDiff,↓reduceIte,vcu,↓vcd,vcp]
     refine tree_stop ?_
     exact⟨by first|trivial|rfl,⟨by first|trivial|simp -implicitDefEqProofs(disch:=omega)only[Nat.reduceEqDiff,↓reduceIte,vcu,↓vcd,k0],by first|trivial|simp -implicitDefEqProofs(disch:=omega)only[Nat.reduceEqDiff,↓reduceIte,vcu,↓vcd,k1],by first|trivial|simp -implicitDefEqProofs(disch:=omega)only[Nat.reduceEqDiff,↓reduceIte,vcu,↓vcd,k4],by first|trivial|simp -implicitDefEqProofs(disch:=omega)only[Nat.reduceEqDiff,↓reduceIte,vcu,↓vcd,k13],by first|trivial|simp -implicitDefEqProofs(disch:=omega)only[Nat.reduceEqDiff,↓reduceIte,vcu,↓vcd,h14]⟩,c15,y,y1,y2,ok,p2,by first|trivial|simp -implicitDefEqProofs(disch:=omega)only[Nat.reduceEqDiff,↓reduceIte,vcu,↓vcd],by first|trivial|simp -implicitDefEqProofs(disch:=omega)only[Nat.reduceEqDiff,↓reduceIte,vcu,↓vcd],e9,j13,hok,wy9,w9,dp1,dp2,D9⟩
   ·try simp -implicitDefEqProofs(disch:=omega)only[Nat.reduceEqDiff,↓reduceIte,vcu,↓vcd]
    refine r_new ze33 fun c15 A3 n15 s3 e15=>?_
    replace e15:A3 c15=some ⟨[.int .i64 0,.int .i64 0,.int .i64 0,.slice none 0 0,.slice none 0 0],false⟩:=e15
    have g15:=D.fresh n15
    have d15:c15≠c13:=ne_of n15 e13
    have D3:=D.new s3
    have w3:=(wx.aside n15).sub s3
    have i13:=s3 _ _ e13
    have B3:=B0.trans s3
    have b15:=free_sub B0 n15
    try simp -implicitDefEqProofs(disch:=omega)only[Nat.reduceEqDiff,↓reduceIte,vcu,↓vcd]
    refine⟨keep_of rfl fun p hp=>by simp only[List.mem_singleton] at hp;subst hp;exact .inr B3,?_⟩
    refine tree_one rfl ?_
    try simp -implicitDefEqProofs(disch:=omega)only[Nat.reduceEqDiff,↓reduceIte,vcu,↓vcd]
    have hdd:=deed_draw (w0:=w0) β A3 g h o bs p' u1 u2 x D3.rd om9 (w3.less) (by have:=hXT.1;omega) (fun t ht=>by have:=hXT.2.1 t ht;omega)
    unfold exV at hdd
    refine hdd.mono ?_
    rintro _ A1 ⟨d,p2,rfl,dt,dp1,dp2,DD⟩
    have D1:=D3.on DD
    have w1:=w3.pick DD.kp
    have f13:=DD.kp.at i13 gC.2
    have B1:Sub (T0.upd g none) A1:=fun k ob e=>by
     have hkg:k≠g:=by rintro rfl;rw[AHeap.upd_same] at e;cases e
     exact DD.kp k ob hkg (B3 k ob e)
    have f15:=DD.kp.at e15 g15.2
    simp -implicitDefEqProofs(disch:=omega)only[Nat.reduceEqDiff,↓reduceIte,vcu,↓vcd,opK_some]
    refine⟨keep_of rfl fun p hp=>by simp only[List.mem_singleton] at hp;subst hp;exact .inr B1,?_⟩
    refine tree_one rfl ?_
    try simp -implicitDefEqProofs(disch:=omega)only[Nat.reduceEqDiff,↓reduceIte,vcu,↓vcd]
    have hdo:=exDo_calls (w0:=w0) A1 (exV u1 u2 x) x d w1.ex hXT.s.b om9
    have hok:=exDo_ok hX d
    generalize exDo x d=yb at hdo hok
    obtain⟨y,ok⟩:=yb
    unfold ddA exV at hdo
    unfold ddA
    refine hdo.mono ?_
    rintro _ A2 ⟨_,rfl,s2,y1,y2,rfl,oy1,oy2⟩
    have D2:=D1.new s2
    have w2:=w1.sub s2
    have h13:=s2 _ _ f13
    have B2:=B1.trans s2
    unfold exV
    have h15:=s2 _ _ f15
    have wy:OYX (B.upd c15 (some ⟨[],false⟩)) g A2 y1 y2 y:=OYX.of ⟨y1,y2,rfl,oy1,oy2⟩ fun q hq=>⟨by rw[AHeap.upd_ne _ _ (ne_of hq f15)];exact hBn q (D1.fresh hq).1 (ne_of hq f13),(D1.fresh hq).2⟩
    simp -implicitDefEqProofs(disch:=omega)only[Nat.reduceEqDiff,↓reduceIte,vcu,↓vcd,opK_some]
    refine⟨keep_of rfl fun p hp=>by simp only[List.mem_singleton] at hp;subst hp;exact .inr B2,?_⟩
    refine tree_quiets (fun _=>none) _ _ _ sf0 kr9 kr9 ?_
    simp -implicitDefEqProofs(disch:=omega)only[Nat.reduceEqDiff,↓reduceIte,vcu,↓vcd,vcp,List.getElem?_toArray,List.getElem?_cons_zero,List.getElem?_cons_succ]
    refine tree_one rfl ?_
    have hy1:=wy.one
    unfold exC at hy1
    refine r_sets (g:=c15) (i:=0) (C:=[.int .i64 0,.int .i64 0,.int .i64 0,.slice none 0 0,.slice none 0 0]) z9q z9co33 (by simp -implicitDefEqProofs(disch:=omega)only[Nat.reduceEqDiff,↓reduceIte,vcu,↓vcd];exact hy1) z9z h15 z9l fun A9 k9 e9=>?_
    replace e9:A9 c15=some ⟨exC y1 y2 y,false⟩:=e9
    have D9:=D2.put k9 g15.2 g15.1
    have hb15:(B.upd c15 (some ⟨[],false⟩)) c15=some ⟨[],false⟩:=AHeap.upd_same _ _ _
    have w9:OYX B g A9 u1 u2 x:=(w2.kept k9 hb15).free (free_upd)
    have wy9:OYX B g A9 y1 y2 y:=(wy.kept k9 hb15).free (free_upd)
    have j13:=k9.at h13 d15.symm
    have B9:Sub (T0.upd g none) A9:=k9.sub B2 b15
    try simp -implicitDefEqProofs(disch:=omega)only[Nat.reduceEqDiff,↓reduceIte,vcu,↓vcd]
    refine⟨keep_of rfl fun p hp=>by simp only[List.mem_singleton] at hp;subst hp;exact .inr B9,?_⟩
    refine tree_quiets (fun _=>none) _ _ _ sf0 kr9 kr9 ?_
    simp -implicitDefEqProofs(disch:=omega)only[Nat.reduceEqDiff,↓reduceIte,vcu,↓vcd,vcp]
    refine tree_stop ?_
    exact⟨by first|trivial|rfl,⟨by first|trivial|simp -implicitDefEqProofs(disch:=omega)only[Nat.reduceEqDiff,↓reduceIte,vcu,↓vcd,k0],by first|trivial|simp -implicitDefEqProofs(disch:=omega)only[Nat.reduceEqDiff,↓reduceIte,vcu,↓vcd,k1],by first|trivial|simp -implicitDefEqProofs(disch:=omega)only[Nat.reduceEqDiff,↓reduceIte,vcu,↓vcd,k4],by first|trivial|simp -implicitDefEqProofs(disch:=omega)only[Nat.reduceEqDiff,↓reduceIte,vcu,↓vcd,k13],by first|trivial|simp -implicitDefEqProofs(disch:=omega)only[Nat.reduceEqDiff,↓reduceIte,vcu,↓vcd,h14]⟩,c15,y,y1,y2,ok,p2,by first|trivial|simp -implicitDefEqProofs(disch:=omega)only[Nat.reduceEqDiff,↓reduceIte,vcu,↓vcd],by first|trivial|simp -implicitDefEqProofs(disch:=omega)only[Nat.reduceEqDiff,↓reduceIte,vcu,↓vcd],e9,j13,hok,wy9,w9,dp1,dp2,D9⟩
  clear l13 hone wx D e13
  rintro _ a4 T1 ⟨rfl,⟨k0',k1',k4',k13',k14'⟩,c15,y,y1,y2,ok,p2,k15,k16,e15,e13,hY,wy,wx,q1,q2,D⟩
  cases ok with
  | false =>
   simp -implicitDefEqProofs(disch:=omega)only[Nat.reduceEqDiff,↓reduceIte,vcu,↓vcd,k0',k1',k4',k13',k14',k15,k16]
   refine⟨by simp [k0',k1',k4',k13',k0,k1,k4,k13,c0,c1,c4'],m3 - 1,by omega,x,u1,u2,p2,by congr 1;omega,e13,hX,wx,by omega,by omega,D⟩
  | true =>
   have l15:lds T1 c15 0 5=some (exC y1 y2 y):=by rw[lds_of e15 (by simp [exC])];rfl
   have hy1:=wy.one
   unfold exC at l15 hy1
   simp -implicitDefEqProofs(disch:=omega)only[Nat.reduceEqDiff,↓reduceIte,vcu,↓vcd,k0',k1',k4',k13',k14',k15,k16,l15,co33]
   refine r_sets (g:=c13) (i:=0) (C:=exC u1 u2 x) (by simp -implicitDefEqProofs(disch:=omega)only[Nat.reduceEqDiff,↓reduceIte,vcu,↓vcd,k13']) z9co33 (by simp -implicitDefEqProofs(disch:=omega)only[Nat.reduceEqDiff,↓reduceIte,vcu,↓vcd];exact hy1) z9z e13 z9l fun T9 k9 e9=>?_
   replace e9:T9 c13=some ⟨exC y1 y2 y,false⟩:=e9
   simp -implicitDefEqProofs(disch:=omega)only[Nat.reduceEqDiff,↓reduceIte,vcu,↓vcd,k0',k1',k4',k13',k14']
   refine⟨by simp [k0',k1',k4',k13',k0,k1,k4,k13,c0,c1,c4'],m3 - 1,by omega,y,y1,y2,p2,by congr 1;omega,e9,hY,wy.kept k9 hcB,by omega,by omega,D.put k9 gC.2 gC.1⟩
 have hXS:=hXT.s
 simp -implicitDefEqProofs(disch:=omega)only[Nat.reduceEqDiff,↓reduceIte,vcu,↓vcd,k0,k1,k4,k13,h14]
 refine (odd_any β T0 g h o bs p' n D.rd om9 om9).mono ?_
 rintro _ T1 ⟨b,p2,rfl,o1,o2,hR,hK⟩
 have D1:=D.step hR hK
 have w1:=wx.pick hK
 have f13:=hK.at e13 gC.2
 clear hR hK D wx e13 l13 hone
 cases b with
 | false =>
  have e4T:=D1.kp c4 _ g4.2 e4
  have lf:lds T1 c13 0 5=some (exC u1 u2 x):=by rw[lds_of f13 (by simp [exC])];rfl
  have hf:=OYX.one w1
  unfold exC at lf hf
  simp -implicitDefEqProofs(disch:=omega)only[Nat.reduceEqDiff,↓reduceIte,vcu,↓vcd,k0,k1,k4,k13,lf,co33,opK_some]
  refine r_sets (g:=c4) (i:=0) (C:=[.int .i64 0,.int .i64 0,.int .i64 0,.slice none 0 0,.slice none 0 0]) (by simp -implicitDefEqProofs(disch:=omega)only[Nat.reduceEqDiff,↓reduceIte,vcu,↓vcd,k4]) z9co33 (by simp -implicitDefEqProofs(disch:=omega)only[Nat.reduceEqDiff,↓reduceIte,vcu,↓vcd];exact hf) z9z e4T z9l fun T9 k9 e9=>?_
  replace e9:T9 c4=some ⟨exC u1 u2 x,false⟩:=e9
  have D9:=(d6.on D1).put k9 g4.2 g4.1
  have l9:lds T9 c4 0 5=some (exC u1 u2 x):=by rw[lds_of e9 (by simp [exC])];rfl
  unfold exC at l9
  simp -implicitDefEqProofs(disch:=omega)only[Nat.reduceEqDiff,↓reduceIte,vcu,↓vcd,k4]
  refine fin_cell Tryz.results34 T9 (Sub.refl _) (v:=exV u1 u2 x) (by simp -implicitDefEqProofs(disch:=omega)only[Nat.reduceEqDiff,↓reduceIte,vcu,↓vcd,k4,l9,co33];rfl) ⟨x,u1,u2,_,rfl,(OYX.kept w1 k9 h4B).free (fun q hq=>(d6.fresh (hfB q hq)).1),hXS,by omega,by omega,D9⟩
 | true =>
  simp -implicitDefEqProofs(disch:=omega)only[Nat.reduceEqDiff,↓reduceIte,vcu,↓vcd,opK_some,k0,k1,k4,k13]
  refine (pick_at β T1 g h o bs p2 4 D1.rd om9 om9).mono ?_
  rintro _ T2 ⟨y,rfl,ya,yb,hR,hK⟩
  have D2:=D1.step hR hK
  have w2:=w1.pick hK
  have h13:=hK.at f13 gC.2
  clear hR hK D1 w1 f13
  obtain⟨⟨⟨_,⟨hE1,hE2⟩,_⟩,_⟩,_⟩:=id hX
  by_cases y0:y=0
  ·subst y0
   have lE:ld T2 c13 (0+0+1)=some (.int .i64 x.s.E):=ld_of h13 rfl
   simp -implicitDefEqProofs(disch:=omega)only[Nat.reduceEqDiff,↓reduceIte,vcu,↓vcd,opK_some,k0,k1,k4,k13,lE]
   refine r_set (g:=c13) (i:=0+0+2) (C:=exC u1 u2 x) (by simp -implicitDefEqProofs(disch:=omega)only[Nat.reduceEqDiff,↓reduceIte,vcu,↓vcd,k13]) z9r co3 z9r h13 (by simp [exC]) fun T3 k3 e3=>?_
   replace e3:T3 c13=some ⟨exC u1 u2 ⟨⟨x.s.O,x.s.E,x.s.E - 1⟩,x.ps,x.cs⟩,false⟩:=by rw[e3];simp -implicitDefEqProofs(disch:=omega)only[Nat.reduceEqDiff,↓reduceIte,vcu,↓vcd];rfl
   have D3:=D2.put k3 gC.2 gC.1
   have w3:OYX B g T3 u1 u2 ⟨⟨x.s.O,x.s.E,x.s.E - 1⟩,x.ps,x.cs⟩:=OYX.kept (e:=⟨⟨x.s.O,x.s.E,x.s.E - 1⟩,x.ps,x.cs⟩) w2 k3 hcB
   have hXS3:XS ⟨⟨x.s.O,x.s.E,x.s.E - 1⟩,x.ps,x.cs⟩:=hXS
   generalize (⟨⟨x.s.O,x.s.E,x.s.E - 1⟩,x.ps,x.cs⟩:Ex)=x3 at e3 w3 hXS3
   have e4T:=D3.kp c4 _ g4.2 e4
   have lf:lds T3 c13 0 5=some (exC u1 u2 x3):=by rw[lds_of e3 (by simp [exC])];rfl
   have hf:=OYX.one w3
   unfold exC at lf hf
   simp -implicitDefEqProofs(disch:=omega)only[Nat.reduceEqDiff,↓reduceIte,vcu,↓vcd,k0,k1,k4,k13,lf,co33]
   refine r_sets (g:=c4) (i:=0) (C:=[.int .i64 0,.int .i64 0,.int .i64 0,.slice none 0 0,.slice none 0 0]) (by simp -implicitDefEqProofs(disch:=omega)only[Nat.reduceEqDiff,↓reduceIte,vcu,↓vcd,k4]) z9co33 (by simp -implicitDefEqProofs(disch:=omega)only[Nat.reduceEqDiff,↓reduceIte,vcu,↓vcd];exact hf) z9z e4T z9l fun T9 k9 e9=>?_
   replace e9:T9 c4=some ⟨exC u1 u2 x3,false⟩:=e9
   have D9:=(d6.on D3).put k9 g4.2 g4.1
   have l9:lds T9 c4 0 5=some (exC u1 u2 x3):=by rw[lds_of e9 (by simp [exC])];rfl
   unfold exC at l9
   simp -implicitDefEqProofs(disch:=omega)only[Nat.reduceEqDiff,↓reduceIte,vcu,↓vcd,k4]
   refine fin_cell Tryz.results34 T9 (Sub.refl _) (v:=exV u1 u2 x3) (by simp -implicitDefEqProofs(disch:=omega)only[Nat.reduceEqDiff,↓reduceIte,vcu,↓vcd,k4,l9,co33];rfl) ⟨x3,u1,u2,_,rfl,(OYX.kept w3 k9 h4B).free (fun q hq=>(d6.fresh (hfB q hq)).1),hXS3,by omega,by omega,D9⟩
  by_cases y1:y=1
  ·subst y1
   have hne:x.ps≠[]:=fun hh=>by have:=(ex_plan hX).1;rw[hh] at this;simp at this
   obtain⟨q1,rfl,v1,n1,gq1⟩:=w2.1.resolve_left fun hh=>hne hh.2
   have lP:ld T2 c13 (0+3)=some (.slice (some ⟨q1,0,none⟩) x.ps.length 1):=ld_of h13 rfl
   simp -implicitDefEqProofs(disch:=omega)only[Nat.reduceEqDiff,↓reduceIte,vcu,↓vcd,opK_some,k0,k1,k4,k13,lP]
   refine r_lit el30 (out:=#[.string (tx [51])]) (by first|kernel_rfl | (simp -implicitDefEqProofs(disch:=omega)only[Nat.reduceEqDiff,↓reduceIte,vcu,↓vcd];kernel_rfl)) kr9 fun eb T3 n3 s3 v3=>?_
   replace v3:T3 eb=some ⟨texts [[51]],false⟩:=v3
   have D3:=D2.new s3
   refine r_pushX (g:=q1) (e:=eb) (o:=0) (xs:=x.ps) (ys:=[[51]]) (m:=1) (len:=x.ps.length) el30 om9 sl30 z9q (s3 _ _ v1) rfl z9q (textsAt_own v3) rfl (by have:=hXS.1;omega) fun q4 T4 n4 k4' v4=>?_
   have D4:=D3.put k4' gq1 (hfB _ n1)
   have f4:=D3.fresh n4
   have dq:q1≠c13:=ne_of n1 hcB
   have dq4:q4≠c13:=ne_of' n4 (s3 _ _ h13) |>.symm
   have h134:=k4'.at (s3 _ _ h13) dq.symm
   have w4:OYC B g T4 u2 x.cs:=w2.2.imp id fun⟨q,a,b,m1,m2⟩=>⟨q,a,k4'.at (s3 _ _ b) (sep_rows v1 b hne),m1,m2⟩
   simp -implicitDefEqProofs(disch:=omega)only[Nat.reduceEqDiff,↓reduceIte,vcu,↓vcd,k0,k1,k4,k13]
   refine r_set (g:=c13) (i:=0+3) (C:=exC (.slice (some ⟨q1,0,none⟩) x.ps.length 1) u2 x) (by simp -implicitDefEqProofs(disch:=omega)only[Nat.reduceEqDiff,↓reduceIte,vcu,↓vcd,k13]) z9r co30 z9r h134 (by simp [exC]) fun T5 k5 e5'=>?_
   have D5:=D4.put k5 gC.2 gC.1
   replace e5':T5 c13=some ⟨exC (.slice (some ⟨q4,0,none⟩) (x.ps++[[51]]).length 1) u2 ⟨x.s,x.ps++[[51]],x.cs⟩,false⟩:=by rw[e5'];simp -implicitDefEqProofs(disch:=omega)only[Nat.reduceEqDiff,↓reduceIte,vcu,↓vcd];simp [exC]
   have w5:OYX B g T5 (.slice (some ⟨q4,0,none⟩) (x.ps++[[51]]).length 1) u2 ⟨x.s,x.ps++[[51]],x.cs⟩ :=
    OYX.kept (τ:=T4) ⟨.inr ⟨q4,rfl,v4,hBn q4 f4.1 dq4,f4.2⟩,w4⟩ k5 hcB
   have hXS5:XS ⟨x.s,x.ps++[[51]],x.cs⟩:=⟨by have:=hXT.1;simp;omega,fun t ht=>by
    rcases List.mem_append.1 ht with hh|hh
    ·exact hXT.2.1 t hh
    ·rw[List.mem_singleton.1 hh];decide,hXS.2.2⟩
   clear w2 h134 h13 v1 lP w4 v4
   generalize (Value.slice (some ⟨q4,0,none⟩) (x.ps++[[51]]).length 1)=u5 at e5' w5
   generalize (⟨x.s,x.ps++[[51]],x.cs⟩:Ex)=x5 at e5' w5 hXS5
   have e4T:=D5.kp c4 _ g4.2 e4
   have lf:lds T5 c13 0 5=some (exC u5 u2 x5):=by rw[lds_of e5' (by simp [exC])];rfl
   have hf:=OYX.one w5
   unfold exC at lf hf
   simp -implicitDefEqProofs(disch:=omega)only[Nat.reduceEqDiff,↓reduceIte,vcu,↓vcd,k0,k1,k4,k13,lf,co33]
   refine r_sets (g:=c4) (i:=0) (C:=[.int .i64 0,.int .i64 0,.int .i64 0,.slice none 0 0,.slice none 0 0]) (by simp -implicitDefEqProofs(disch:=omega)only[Nat.reduceEqDiff,↓reduceIte,vcu,↓vcd,k4]) z9co33 (by simp -implicitDefEqProofs(disch:=omega)only[Nat.reduceEqDiff,↓reduceIte,vcu,↓vcd];exact hf) z9z e4T z9l fun T9 k9 e9=>?_
   replace e9:T9 c4=some ⟨exC u5 u2 x5,false⟩:=e9
   have D9:=(d6.on D5).put k9 g4.2 g4.1
   have l9:lds T9 c4 0 5=some (exC u5 u2 x5):=by rw[lds_of e9 (by simp [exC])];rfl
   unfold exC at l9
   simp -implicitDefEqProofs(disch:=omega)only[Nat.reduceEqDiff,↓reduceIte,vcu,↓vcd,k4]
   refine fin_cell Tryz.results34 T9 (Sub.refl _) (v:=exV u5 u2 x5) (by simp -implicitDefEqProofs(disch:=omega)only[Nat.reduceEqDiff,↓reduceIte,vcu,↓vcd,k4,l9,co33];rfl) ⟨x5,u5,u2,_,rfl,(OYX.kept w5 k9 h4B).free (fun q hq=>(d6.fresh (hfB q hq)).1),hXS5,by omega,by omega,D9⟩
  by_cases y2:y=2
  ·subst y2
   have hne:x.ps≠[]:=fun hh=>by have:=(ex_plan hX).1;rw[hh] at this;simp at this
   obtain⟨q1,h1,v1,n1,gq1⟩:=w2.1.resolve_left fun hh=>hne hh.2
   have lP:ld T2 c13 (0+4)=some u2:=ld_of h13 rfl
   simp -implicitDefEqProofs(disch:=omega)only[Nat.reduceEqDiff,↓reduceIte,vcu,↓vcd,opK_some,k0,k1,k4,k13,lP]
   rw[r_build]
   refine⟨(_,#[.int .i64 0,.int .i64 0,.int .i64 0]),⟨ze70,by first|kernel_rfl | (simp -implicitDefEqProofs(disch:=omega)only[Nat.reduceEqDiff,↓reduceIte,vcu,↓vcd];kernel_rfl)⟩,?_⟩
   simp -implicitDefEqProofs(disch:=omega)only[Nat.reduceEqDiff,↓reduceIte,vcu,↓vcd]
   refine r_lit el31 (out:=#[.int .i64 0,.int .i64 0,.int .i64 0]) (by first|kernel_rfl | (simp -implicitDefEqProofs(disch:=omega)only[Nat.reduceEqDiff,↓reduceIte,vcu,↓vcd];kernel_rfl)) (by rfl) fun eb T3 n3 s3 v3=>?_
   replace v3:T3 eb=some ⟨tris [⟨0,0,0⟩],false⟩:=v3
   have D3:=D2.new s3
   have w3:=w2.sub s3
   have h133:=s3 _ _ h13
   have hXS5:XS ⟨x.s,x.ps,x.cs++[⟨0,0,0⟩]⟩:=⟨hXS.1,hXS.2.1,by have:=hXT.2.2;simp;omega⟩
   rcases w3.2 with ⟨rfl,hnil⟩ |⟨q2,rfl,v2,n2,gq2⟩
   ·refine r_pushC_nil (e:=eb) (o:=0) (m:=1) (ds:=[⟨0,0,0⟩]) el31 om9 sl31 z9q z9q (trisAt_own v3) rfl om9 fun q4 T4 n4 s4 v4=>?_
    have D4:=D3.new s4
    have f4:=D3.fresh n4
    have h134:=s4 _ _ h133
    have w4:=(w3.1).sub s4
    have dq4:q4≠c13:=ne_of' n4 h133 |>.symm
    have v4':T4 q4=some ⟨tris (x.cs++[⟨0,0,0⟩]),false⟩:=by rw[hnil];exact v4
    have hlen:(x.cs++[(⟨0,0,0⟩:Cl)]).length=1:=by rw[hnil];rfl
    have hu:OYC B g T4 (.slice (some ⟨q4,0,none⟩) 1 3) (x.cs++[⟨0,0,0⟩]):=.inr ⟨q4,by rw[hlen],v4',hBn q4 f4.1 dq4,f4.2⟩
    obtain⟨u6,hu6⟩:∃u6,u6=Value.slice (some ⟨q4,0,none⟩) 1 3:=⟨_,rfl⟩
    rw[←hu6] at hu
    have hu1:=(tris_cellV hu.tris).1
    have hu2:=(tris_cellV hu.tris).2
    simp -implicitDefEqProofs(disch:=omega)only[Nat.reduceEqDiff,↓reduceIte,vcu,↓vcd,k0,k1,k4,k13]
    rw[←hu6]
    refine r_set (g:=c13) (i:=0+4) (C:=exC u1 (.slice none 0 0) x) (by simp -implicitDefEqProofs(disch:=omega)only[Nat.reduceEqDiff,↓reduceIte,vcu,↓vcd,k13]) (by simp -implicitDefEqProofs(disch:=omega)only[Nat.reduceEqDiff,↓reduceIte,vcu,↓vcd];exact hu1) co31 (by simp -implicitDefEqProofs(disch:=omega)only[Nat.reduceEqDiff,↓reduceIte,vcu,↓vcd];exact hu2) h134 (by simp [exC]) fun T5 k5 e5'=>?_
    have D5:=D4.put k5 gC.2 gC.1
    replace e5':T5 c13=some ⟨exC u1 u6 ⟨x.s,x.ps,x.cs++[⟨0,0,0⟩]⟩,false⟩:=by rw[e5'];simp -implicitDefEqProofs(disch:=omega)only[Nat.reduceEqDiff,↓reduceIte,vcu,↓vcd];rfl
    have w5:OYX B g T5 u1 u6 ⟨x.s,x.ps,x.cs++[⟨0,0,0⟩]⟩:=OYX.kept (τ:=T4) ⟨w4,hu⟩ k5 hcB
    generalize (⟨x.s,x.ps,x.cs++[⟨0,0,0⟩]⟩:Ex)=x5 at e5' w5 hXS5
    have e4T:=D5.kp c4 _ g4.2 e4
    have lf:lds T5 c13 0 5=some (exC u1 u6 x5):=by rw[lds_of e5' (by simp [exC])];rfl
    have hf:=OYX.one w5
    unfold exC at lf hf
    simp -implicitDefEqProofs(disch:=omega)only[Nat.reduceEqDiff,↓reduceIte,vcu,↓vcd,k0,k1,k4,k13,lf,co33]
    refine r_sets (g:=c4) (i:=0) (C:=[.int .i64 0,.int .i64 0,.int .i64 0,.slice none 0 0,.slice none 0 0]) (by simp -implicitDefEqProofs(disch:=omega)only[Nat.reduceEqDiff,↓reduceIte,vcu,↓vcd,k4]) z9co33 (by simp -implicitDefEqProofs(disch:=omega)only[Nat.reduceEqDiff,↓reduceIte,vcu,↓vcd];exact hf) z9z e4T z9l fun T9 k9 e9=>?_
    replace e9:T9 c4=some ⟨exC u1 u6 x5,false⟩:=e9
    have D9:=(d6.on D5).put k9 g4.2 g4.1
    have l9:lds T9 c4 0 5=some (exC u1 u6 x5):=by rw[lds_of e9 (by simp [exC])];rfl
    unfold exC at l9
    simp -implicitDefEqProofs(disch:=omega)only[Nat.reduceEqDiff,↓reduceIte,vcu,↓vcd,k4]
    refine fin_cell Tryz.results34 T9 (Sub.refl _) (v:=exV u1 u6 x5) (by simp -implicitDefEqProofs(disch:=omega)only[Nat.reduceEqDiff,↓reduceIte,vcu,↓vcd,k4,l9,co33];rfl) ⟨x5,u1,u6,_,rfl,(OYX.kept w5 k9 h4B).free (fun q hq=>(d6.fresh (hfB q hq)).1),hXS5,by omega,by omega,D9⟩
   ·refine r_pushC (g:=q2) (e:=eb) (o:=0) (cs:=x.cs) (ds:=[⟨0,0,0⟩]) (m:=1) (len:=x.cs.length) el31 om9 sl31 z9q v2 rfl z9q (trisAt_own v3) rfl (by have:=hXS.2.2;omega) fun q4 T4 n4 k4' v4=>?_
    have D4:=D3.put k4' gq2 (hfB _ n2)
    have f4:=D3.fresh n4
    have dq:q2≠c13:=ne_of n2 hcB
    have dq4:q4≠c13:=ne_of' n4 h133 |>.symm
    have h134:=k4'.at h133 dq.symm
    have w4:OYS B g T4 u1 x.ps:=.inr ⟨q1,h1,k4'.at (s3 _ _ v1) (sep_rows (s3 _ _ v1) v2 hne).symm,n1,gq1⟩
    have hlen:(x.cs++[(⟨0,0,0⟩:Cl)]).length=x.cs.length+1:=by simp
    have hu:OYC B g T4 (.slice (some ⟨q4,0,none⟩) (x.cs.length+1) 3) (x.cs++[⟨0,0,0⟩]):=.inr ⟨q4,by rw[hlen],v4,hBn q4 f4.1 dq4,f4.2⟩
    obtain⟨u6,hu6⟩:∃u6,u6=Value.slice (some ⟨q4,0,none⟩) (x.cs.length+1) 3:=⟨_,rfl⟩
    rw[←hu6] at hu
    have hu1:=(tris_cellV hu.tris).1
    have hu2:=(tris_cellV hu.tris).2
    simp -implicitDefEqProofs(disch:=omega)only[Nat.reduceEqDiff,↓reduceIte,vcu,↓vcd,k0,k1,k4,k13]
    rw[←hu6]
    refine r_set (g:=c13) (i:=0+4) (C:=exC u1 (.slice (some ⟨q2,0,none⟩) x.cs.length 3) x) (by simp -implicitDefEqProofs(disch:=omega)only[Nat.reduceEqDiff,↓reduceIte,vcu,↓vcd,k13]) (by simp -implicitDefEqProofs(disch:=omega)only[Nat.reduceEqDiff,↓reduceIte,vcu,↓vcd];exact hu1) co31 (by simp -implicitDefEqProofs(disch:=omega)only[Nat.reduceEqDiff,↓reduceIte,vcu,↓vcd];exact hu2) h134 (by simp [exC]) fun T5 k5 e5'=>?_
    have D5:=D4.put k5 gC.2 gC.1
    replace e5':T5 c13=some ⟨exC u1 u6 ⟨x.s,x.ps,x.cs++[⟨0,0,0⟩]⟩,false⟩:=by rw[e5'];simp -implicitDefEqProofs(disch:=omega)only[Nat.reduceEqDiff,↓reduceIte,vcu,↓vcd];rfl
    have w5:OYX B g T5 u1 u6 ⟨x.s,x.ps,x.cs++[⟨0,0,0⟩]⟩:=OYX.kept (τ:=T4) ⟨w4,hu⟩ k5 hcB
    generalize (⟨x.s,x.ps,x.cs++[⟨0,0,0⟩]⟩:Ex)=x5 at e5' w5 hXS5
    have e4T:=D5.kp c4 _ g4.2 e4
    have lf:lds T5 c13 0 5=some (exC u1 u6 x5):=by rw[lds_of e5' (by simp [exC])];rfl
    have hf:=OYX.one w5
    unfold exC at lf hf
    simp -implicitDefEqProofs(disch:=omega)only[Nat.reduceEqDiff,↓reduceIte,vcu,↓vcd,k0,k1,k4,k13,lf,co33]
    refine r_sets (g:=c4) (i:=0) (C:=[.int .i64 0,.int .i64 0,.int .i64 0,.slice none 0 0,.slice none 0 0]) (by simp -implicitDefEqProofs(disch:=omega)only[Nat.reduceEqDiff,↓reduceIte,vcu,↓vcd,k4]) z9co33 (by simp -implicitDefEqProofs(disch:=omega)only[Nat.reduceEqDiff,↓reduceIte,vcu,↓vcd];exact hf) z9z e4T z9l fun T9 k9 e9=>?_
    replace e9:T9 c4=some ⟨exC u1 u6 x5,false⟩:=e9
    have D9:=(d6.on D5).put k9 g4.2 g4.1
    have l9:lds T9 c4 0 5=some (exC u1 u6 x5):=by rw[lds_of e9 (by simp [exC])];rfl
    unfold exC at l9
    simp -implicitDefEqProofs(disch:=omega)only[Nat.reduceEqDiff,↓reduceIte,vcu,↓vcd,k4]
    refine fin_cell Tryz.results34 T9 (Sub.refl _) (v:=exV u1 u6 x5) (by simp -implicitDefEqProofs(disch:=omega)only[Nat.reduceEqDiff,↓reduceIte,vcu,↓vcd,k4,l9,co33];rfl) ⟨x5,u1,u6,_,rfl,(OYX.kept w5 k9 h4B).free (fun q hq=>(d6.fresh (hfB q hq)).1),hXS5,by omega,by omega,D9⟩
  have e4T:=D2.kp c4 _ g4.2 e4
  simp -implicitDefEqProofs(disch:=omega)only[Nat.reduceEqDiff,↓reduceIte,vcu,↓vcd,opK_some,k0,k1,k4,k13]
  rw[r_build]
  refine⟨(_,#[.int .i64 0,.int .i64 0,.int .i64 0,.slice none 0 0,.slice none 0 0]),⟨ze33,by first|kernel_rfl | (simp -implicitDefEqProofs(disch:=omega)only[Nat.reduceEqDiff,↓reduceIte,vcu,↓vcd];kernel_rfl)⟩,?_⟩
  simp -implicitDefEqProofs(disch:=omega)only[Nat.reduceEqDiff,↓reduceIte,vcu,↓vcd,k4]
  refine r_sets (g:=c4) (i:=0) (C:=[.int .i64 0,.int .i64 0,.int .i64 0,.slice none 0 0,.slice none 0 0]) (by simp -implicitDefEqProofs(disch:=omega)only[Nat.reduceEqDiff,↓reduceIte,vcu,↓vcd,k4]) z9co33 z9r z9z e4T z9l fun T9 k9 e9=>?_
  replace e9:T9 c4=some ⟨[.int .i64 0,.int .i64 0,.int .i64 0,.slice none 0 0,.slice none 0 0],false⟩:=e9
  have D9:=(d6.on D2).put k9 g4.2 g4.1
  have l9:lds T9 c4 0 5=some [.int .i64 0,.int .i64 0,.int .i64 0,.slice none 0 0,.slice none 0 0]:=by rw[lds_of e9 (by simp)];rfl
  simp -implicitDefEqProofs(disch:=omega)only[Nat.reduceEqDiff,↓reduceIte,vcu,↓vcd,k4]
  refine fin_cell Tryz.results34 T9 (Sub.refl _) (v:=exV (.slice none 0 0) (.slice none 0 0) ex0) (by simp -implicitDefEqProofs(disch:=omega)only[Nat.reduceEqDiff,↓reduceIte,vcu,↓vcd,k4,l9,co33];rfl) ⟨ex0,_,_,_,rfl,⟨.inl ⟨rfl,rfl⟩,.inl ⟨rfl,rfl⟩⟩,XT.ex0.s,by omega,by omega,D9⟩
end Go.Proofs.YtofdnmlpfagibaaGreatDoor
set_option maxHeartbeats 6400000
namespace Go.Proofs.YtofdnmlpfagibaaGreatDoor
open Go Go.Abs Go.RowKit Go.Dial Go.Clos
variable {w0:World}
def lessL (τ:AHeap) (l:List Nat):AHeap:=fun k=>if k∈l then none else τ k
section
variable {σ0 σ τ τ':AHeap} {g c q:Nat} {l l':List Nat} {v1 v2:Value} {e:Ex}
theorem lessL_at (h:c ∉ l):lessL τ l c=τ c:=if_neg h
theorem lessL_in (h:c∈l):lessL τ l c=none:=if_pos h
theorem lessL_step (h:∀k ob,k ∉ l→τ k=some ob→k ∉ l'∧τ' k=some ob):Sub (lessL τ l) (lessL τ' l'):=fun k ob e=>by
 by_cases hk:k∈l
 ·rw[lessL_in hk] at e;cases e
 ·rw[lessL_at hk] at e
  obtain⟨h1,h2⟩:=h k ob hk e
  rw[lessL_at h1];exact h2
theorem lessL_sub:Sub (lessL τ l) τ:=fun k ob e=>by
 by_cases hk:k∈l
 ·rw[lessL_in hk] at e;cases e
 ·rwa [lessL_at hk] at e
theorem lessL_one (h:g∈l):Sub (lessL τ l) (τ.upd g none):=fun k ob e=>by
 by_cases hk:k∈l
 ·rw[lessL_in hk] at e;cases e
 ·rw[lessL_at hk] at e
  rw[AHeap.upd_ne _ _ (by rintro rfl;exact hk h)];exact e
def ExR (τ:AHeap) (l:List Nat) (v1 v2:Value) (e:Ex):Prop:=Texts (lessL τ l) v1 e.ps∧Tris (lessL τ l) v2 e.cs
theorem ExR.ex (w:ExR τ l v1 v2 e):ExV τ (exV v1 v2 e) e:=⟨v1,v2,rfl,w.1.sub lessL_sub,w.2.sub lessL_sub⟩
theorem ExR.tx (w:ExR τ l v1 v2 e) (h:g∈l):Texts (τ.upd g none) v1 e.ps:=w.1.sub (lessL_one h)
theorem ExR.step (w:ExR τ l v1 v2 e) (h:∀k ob,k ∉ l→τ k=some ob→k ∉ l'∧τ' k=some ob):ExR τ' l' v1 v2 e:=⟨w.1.sub (lessL_step h),w.2.sub (lessL_step h)⟩
theorem ExR.sub (w:ExR τ l v1 v2 e) (h:Sub τ τ'):ExR τ' l v1 v2 e:=w.step fun k ob hk e=>⟨hk,h k ob e⟩
theorem ExR.kept (w:ExR τ l v1 v2 e) (h:Kept c τ τ') (hc:c∈l):ExR τ' l v1 v2 e:=w.step fun k ob hk e=>⟨hk,h k ob (by rintro rfl;exact hk hc) e⟩
theorem ExR.new (w:ExR τ l v1 v2 e) (hn:τ c=none):ExR τ (c :: l) v1 v2 e:=w.step fun k ob hk e=>⟨fun hm=>by
 rcases List.mem_cons.1 hm with rfl|hm
 ·rw[hn] at e;cases e
 ·exact hk hm,e⟩
theorem ExR.drop (w:ExR τ l v1 v2 e) (h:∀k∈l',k∈l):ExR τ l' v1 v2 e:=w.step fun k ob hk e=>⟨fun hm=>hk (h k hm),e⟩
theorem ExR.of_own {w u:Value} (h:OwnX τ τ' (exV w u e) e) (hl:∀k∈l,∃ob,τ k=some ob):ExR τ' l w u e:=by
 obtain⟨w1,w2,h1,h2,h3⟩:=h
 unfold exV at h1
 cases h1
 have key:∀q,τ q=none→q ∉ l:=fun q hq hm=>by obtain⟨ob,h⟩:=hl q hm;rw[hq] at h;cases h
 exact⟨h2.imp id fun⟨q,a,b,n⟩=>⟨q,0,a,textsAt_own (by rw[lessL_at (key q n)];exact b)⟩,h3.imp id fun⟨q,a,b,n⟩=>⟨q,0,a,trisAt_own (by rw[lessL_at (key q n)];exact b)⟩⟩
theorem OYX.r (w:OYX σ0 g τ v1 v2 e) (hl:∀k∈l,k≠g→σ0 k≠none):ExR τ l v1 v2 e:=by
 have key:∀q,σ0 q=none→q≠g→q ∉ l:=fun q hq hg hm=>hl q hm hg hq
 exact⟨w.1.imp id fun⟨q,a,b,n1,n2⟩=>⟨q,0,a,textsAt_own (by rw[lessL_at (key q n1 n2)];exact b)⟩,w.2.imp id fun⟨q,a,b,n1,n2⟩=>⟨q,0,a,trisAt_own (by rw[lessL_at (key q n1 n2)];exact b)⟩⟩
end
def OYD (σ0:AHeap) (g:Nat) (τ:AHeap) (v:Value) (ds:List Dd):Prop:=∃q,v=.slice (some ⟨q,0,none⟩) ds.length 3∧τ q=some ⟨dds ds,false⟩∧σ0 q=none∧q≠g
theorem OYD.dds {σ0 τ:AHeap} {g:Nat} {v:Value} {ds:List Dd} (w:OYD σ0 g τ v ds):Dds τ v ds:=let ⟨q,e,h,_⟩:=w;.inr ⟨q,0,e,ddsAt_own h⟩
theorem push_step {τ τ':AHeap} {c q q' g:Nat} (hn:τ q'=none) (hk:Kept q τ τ'):∀k ob,k ∉ [c,q,g]→τ k=some ob→k ∉ [c,q',g]∧τ' k=some ob:=fun k ob hm e=>by
 simp only[List.mem_cons,List.not_mem_nil,or_false,not_or] at hm ⊢
 exact⟨⟨hm.1,ne_of' hn e |>.symm |> fun h=>fun h'=>h h'.symm,hm.2.2⟩,hk k ob hm.2.1 e⟩
set_option maxRecDepth 16000 in
theorem deeds_draw (β σ:AHeap) (g h o:Nat) (bs:List Int) (p:Int) (v1 v2:Value) (e:Ex) (hr:Rd β σ g h o bs p) (hp:0≤p∧p≤5000) (hx:ExR σ [g] v1 v2 e) (hs:XS e) :
  ACall Tryz.prog w0 35 [.pointer (some ⟨g,0,none⟩),exV v1 v2 e] σ fun r σ'=>∃(ds:List Dd) (p':Int),OYD σ g σ' r ds∧ds.length≤13∧(∀d∈ds,d.t.length≤5)∧p≤p'∧p'≤p+200∧DS β σ σ' g h o bs p':=by
 unfold exV
 refine acall_go mixed Tryz.func35 rfl good35 fun pr=>?_
 simp -implicitDefEqProofs(disch:=omega)only[Nat.reduceEqDiff,↓reduceIte,vcu,↓vcd]
 refine r_boxed fun hb τ1 nb s1 eb=>?_
 replace eb:τ1 hb=some ⟨exC v1 v2 e,false⟩:=eb
 have d1:=(DS.start hr).new s1
 simp -implicitDefEqProofs(disch:=omega)only[Nat.reduceEqDiff,↓reduceIte,vcu,↓vcd]
 refine r_lit el24 (out:=#[]) (by first|kernel_rfl | (simp -implicitDefEqProofs(disch:=omega)only[Nat.reduceEqDiff,↓reduceIte,vcu,↓vcd];kernel_rfl)) kr9 fun q τ2 nq s2 vq=>?_
 replace vq:τ2 q=some ⟨dds [],false⟩:=vq
 have fq:=d1.fresh nq
 have d2:=d1.new s2
 have lb:lds τ2 hb 0 5=some (exC v1 v2 e):=by rw[lds_of (s2 _ _ eb) (by simp [exC])];rfl
 have hone:(exC v1 v2 e).all Value.oneCell'=true:=by
  have a:=(texts_cellV hx.1).2
  have b:=(tris_cellV hx.2).2
  unfold exC
  simp only[List.all_cons,List.all_nil,a,b]
  rfl
 unfold exC at lb hone
 simp -implicitDefEqProofs(disch:=omega)only[Nat.reduceEqDiff,↓reduceIte,vcu,↓vcd,lb,co33]
 refine r_local (cs:=#[.int .i64 e.s.O,.int .i64 e.s.E,.int .i64 e.s.M,v1,v2]) ze33 (by decide) z9q (by rw[co33];rfl) rfl hone (Nat.zero_lt_succ _) fun c6 τ3 n6 s3 e6=>?_
 replace e6:τ3 c6=some ⟨exC v1 v2 e,false⟩:=e6
 have f6:=d2.fresh n6
 have d3:=d2.new s3
 have dq6:q≠c6:=ne_of' n6 vq
 have x3:ExR τ3 [c6,q,g] v1 v2 e:=((((hx.sub s1).new nq).sub s2).new n6).sub s3
 replace vq:=s3 _ _ vq
 clear s1 nb s2 nq s3 n6 lb hone d1 d2 eb hx hr
 simp -implicitDefEqProofs(disch:=omega)only[Nat.reduceEqDiff,↓reduceIte,vcu,↓vcd]
 refine (pick_at β τ3 g h o bs p 14 d3.rd om9 om9).mono ?_
 rintro _ τ4 ⟨z,rfl,z0,z1,hR,hK⟩
 have d4:=d3.step hR hK
 have x4:=x3.kept hK (by simp)
 replace vq:=hK.at vq fq.2
 replace e6:=hK.at e6 f6.2
 clear hR hK d3 x3
 obtain⟨zt,rfl⟩:∃zt:Nat,z=zt:=⟨z.toNat,by omega⟩
 simp -implicitDefEqProofs(disch:=omega)only[Nat.reduceEqDiff,↓reduceIte,vcu,↓vcd,opK_some]
 refine vc_loop_c mixed kr9 [0,6] (fun m a T=>∃(x:Ex) (u1 u2:Value) (ds:List Dd) (q:Nat) (p':Int),a 7=.int .i64 m∧a 5=.slice (some ⟨q,0,none⟩) ds.length 3∧T q=some ⟨dds ds,false⟩∧σ q=none∧q≠g∧q≠c6∧T c6=some ⟨exC u1 u2 x,false⟩∧XS x∧ExR T [c6,q,g] u1 u2 x∧ds.length+m≤13∧(∀d∈ds,d.t.length≤5)∧p≤p'∧p'+10 * m≤p+200∧DS β σ T g h o bs p') zt ⟨e,v1,v2,[],q,_,rfl,rfl,vq,fq.1,fq.2,dq6,e6,hs,x4,by simp;omega,by simp,by omega,by omega,d4⟩ ?_
 clear d4 x4 vq e6 hs z0 z1
 rintro m a T ha ⟨x,u1,u2,ds,q,p',h7,h5,vq,nq,gq,dq6,e6,hX,xr,hl,hds,hp1,hp2,D⟩
 simp -implicitDefEqProofs(disch:=omega)only[Nat.reduceEqDiff,↓reduceIte,vcu,↓vcd] at ha
 obtain⟨h0,h6,-⟩:=ha
 by_cases hlt:0 < m
 case neg =>
  simp -implicitDefEqProofs(disch:=omega)only[Nat.reduceEqDiff,↓reduceIte,vcu,↓vcd,h0,h5,h6,h7]
  refine fin_one Tryz.results35 ⟨ds,p',⟨q,?_,vq,nq,gq⟩,by omega,hds,by omega,by omega,D⟩
  simp -implicitDefEqProofs(disch:=omega)only[Nat.reduceEqDiff,↓reduceIte,vcu,↓vcd,h5]
 have l6:lds T c6 0 5=some (exC u1 u2 x):=by rw[lds_of e6 (by simp [exC])];rfl
 unfold exC at l6
 have hdd:=deed_draw (w0:=w0) β T g h o bs p' u1 u2 x D.rd om9 (xr.tx (by simp)) hX.1 (fun t ht=>by have:=hX.2.1 t ht;omega)
 unfold exV at hdd
 simp -implicitDefEqProofs(disch:=omega)only[Nat.reduceEqDiff,↓reduceIte,vcu,↓vcd,h0,h5,h6,h7,l6,co33]
 refine hdd.mono ?_
 rintro _ T1 ⟨d,p2,rfl,dt,dp1,dp2,DD⟩
 have D1:=D.on DD
 have x1:=xr.kept DD.kp (by simp)
 have vq1:=DD.kp.at vq gq
 have e61:=DD.kp.at e6 f6.2
 clear DD D xr vq e6 l6 hdd
 unfold ddA
 simp -implicitDefEqProofs(disch:=omega)only[Nat.reduceEqDiff,↓reduceIte,vcu,↓vcd,opK_some,h0,h5,h6,h7]
 refine r_local (cs:=#[.int .i64 d.k,.int .i64 d.l,.string (tx d.t)]) ze41 (by decide) z9q (by rw[co41];rfl) rfl rfl (Nat.zero_lt_succ _) fun c8 T2 n8 s2 e8=>?_
 replace e8:T2 c8=some ⟨[.int .i64 d.k,.int .i64 d.l,.string (tx d.t)],false⟩:=e8
 have D2:=D1.new s2
 have x2:=x1.sub s2
 have vq2:=s2 _ _ vq1
 have e62:=s2 _ _ e61
 have d86:c8≠c6:=ne_of n8 e61
 have d8q:c8≠q:=ne_of n8 vq1
 clear D1 x1 vq1 e61 s2 n8
 have l6:lds T2 c6 0 5=some (exC u1 u2 x):=by rw[lds_of e62 (by simp [exC])];rfl
 have l8:lds T2 c8 0 3=some [.int .i64 d.k,.int .i64 d.l,.string (tx d.t)]:=lds_three (ld_of e8 rfl) (ld_of e8 rfl) (ld_of e8 rfl)
 unfold exC at l6
 have hdo:=exDo_calls (w0:=w0) T2 (exV u1 u2 x) x d x2.ex hX.b om9
 have hXT:=XT.do_ (e:=x) d
 generalize exDo x d=yb at hdo hXT
 obtain⟨y,ok⟩:=yb
 unfold ddA exV at hdo
 simp -implicitDefEqProofs(disch:=omega)only[Nat.reduceEqDiff,↓reduceIte,vcu,↓vcd,h0,h5,h6,h7,l6,l8,co33,co41]
 refine hdo.mono ?_
 rintro _ T3 ⟨_,rfl,s3,y1,y2,rfl,oy1,oy2⟩
 have D3:=D2.new s3
 have x3:=x2.sub s3
 have xy:ExR T3 [c6,q,g] y1 y2 y:=ExR.of_own ⟨y1,y2,rfl,oy1,oy2⟩ fun k hk=>by
  simp only[List.mem_cons,List.not_mem_nil,or_false] at hk
  rcases hk with rfl|rfl|rfl
  ·exact⟨_,e62⟩
  ·exact⟨_,vq2⟩
  ·exact⟨_,D2.rd.at_⟩
 have hone:(exC y1 y2 y).all Value.oneCell'=true:=exC_one ⟨y1,y2,rfl,oy1,oy2⟩
 have vq3:=s3 _ _ vq2
 have e63:=s3 _ _ e62
 have e83:=s3 _ _ e8
 clear D2 x2 vq2 e62 e8 l6 l8 hdo oy1 oy2 s3
 unfold exC at hone
 unfold exV
 simp -implicitDefEqProofs(disch:=omega)only[Nat.reduceEqDiff,↓reduceIte,vcu,↓vcd,opK_some,List.getElem?_toArray,List.getElem?_cons_zero,List.getElem?_cons_succ]
 refine r_local (cs:=#[.int .i64 y.s.O,.int .i64 y.s.E,.int .i64 y.s.M,y1,y2]) ze33 (by decide) z9q (by rw[co33];rfl) rfl hone (Nat.zero_lt_succ _) fun c9 T4 n9 s4 e9=>?_
 replace e9:T4 c9=some ⟨exC y1 y2 y,false⟩:=e9
 have D4:=D3.new s4
 have x4:=x3.sub s4
 have xy4:=xy.sub s4
 have vq4:=s4 _ _ vq3
 have e64:=s4 _ _ e63
 have e84:=s4 _ _ e83
 clear D3 x3 xy vq3 e63 e83 s4 n9
 have l9:lds T4 c9 0 5=some (exC y1 y2 y):=by rw[lds_of e9 (by simp [exC])];rfl
 have hdm:∀t∈ds++[d],t.t.length≤5:=fun t ht=>by
  rcases List.mem_append.1 ht with hh|hh
  ·exact hds t hh
  ·rw[List.mem_singleton.1 hh];exact dt
 cases ok with
 | false =>
  have l8:lds T4 c8 0 3=some [.int .i64 d.k,.int .i64 d.l,.string (tx d.t)]:=lds_three (ld_of e84 rfl) (ld_of e84 rfl) (ld_of e84 rfl)
  simp -implicitDefEqProofs(disch:=omega)only[Nat.reduceEqDiff,↓reduceIte,vcu,↓vcd,h0,h5,h6,h7,l8,co41]
  refine r_lit el24 (out:=#[.int .i64 d.k,.int .i64 d.l,.string (tx d.t)]) (by simp -implicitDefEqProofs(disch:=omega)only[Nat.reduceEqDiff,↓reduceIte,vcu,↓vcd];kernel_rfl) kr9 fun g8 T5 n5 s5 v5=>?_
  replace v5:T5 g8=some ⟨dds [d],false⟩:=v5
  have D5:=D4.new s5
  refine r_pushD (g:=q) (e:=g8) (o:=0) (cs:=ds) (ds:=[d]) (m:=1) (len:=ds.length) el24 om9 sl24 (by simp -implicitDefEqProofs(disch:=omega)only[Nat.reduceEqDiff,↓reduceIte,vcu,↓vcd,h5]) (s5 _ _ vq4) rfl z9q (ddsAt_own v5) rfl om9 fun q6 T6 n6 k6 v6=>?_
  have D6:=D5.put k6 gq nq
  have f66:=D5.fresh n6
  have e66:=k6.at (s5 _ _ e64) dq6.symm
  have d66:q6≠c6:=ne_of n6 (s5 _ _ e64)
  have x6:ExR T6 [c6,q6,g] u1 u2 x:=(x4.sub s5).step (push_step n6 k6)
  simp -implicitDefEqProofs(disch:=omega)only[Nat.reduceEqDiff,↓reduceIte,vcu,↓vcd,h0,h6,h7]
  exact⟨by simp [h0,h6],m - 1,by omega,x,u1,u2,ds++[d],q6,p2,by congr 1;omega,by simp,v6,f66.1,f66.2,d66,e66,hX,x6,by simp;omega,hdm,by omega,by omega,D6⟩
 | true =>
  unfold exC at l9
  simp -implicitDefEqProofs(disch:=omega)only[Nat.reduceEqDiff,↓reduceIte,vcu,↓vcd,h0,h5,h6,h7,l9,co33]
  refine r_sets (g:=c6) (i:=0) (C:=exC u1 u2 x) (by simp -implicitDefEqProofs(disch:=omega)only[Nat.reduceEqDiff,↓reduceIte,vcu,↓vcd,h6]) z9co33 (by simp -implicitDefEqProofs(disch:=omega)only[Nat.reduceEqDiff,↓reduceIte,vcu,↓vcd];exact hone) z9z e64 z9l fun T5 k5 e65=>?_
  replace e65:T5 c6=some ⟨exC y1 y2 y,false⟩:=e65
  have D5:=D4.put k5 f6.2 f6.1
  have x5:=xy4.kept k5 (by simp)
  have vq5:=k5.at vq4 dq6
  have e85:=k5.at e84 d86
  have l8:lds T5 c8 0 3=some [.int .i64 d.k,.int .i64 d.l,.string (tx d.t)]:=lds_three (ld_of e85 rfl) (ld_of e85 rfl) (ld_of e85 rfl)
  simp -implicitDefEqProofs(disch:=omega)only[Nat.reduceEqDiff,↓reduceIte,vcu,↓vcd,h0,h5,h6,h7,l8,co41]
  refine r_lit el24 (out:=#[.int .i64 d.k,.int .i64 d.l,.string (tx d.t)]) (by simp -implicitDefEqProofs(disch:=omega)only[Nat.reduceEqDiff,↓reduceIte,vcu,↓vcd];kernel_rfl) kr9 fun g8 T7 n7 s7 v7=>?_
  replace v7:T7 g8=some ⟨dds [d],false⟩:=v7
  have D7:=D5.new s7
  refine r_pushD (g:=q) (e:=g8) (o:=0) (cs:=ds) (ds:=[d]) (m:=1) (len:=ds.length) el24 om9 sl24 (by simp -implicitDefEqProofs(disch:=omega)only[Nat.reduceEqDiff,↓reduceIte,vcu,↓vcd,h5]) (s7 _ _ vq5) rfl z9q (ddsAt_own v7) rfl om9 fun q6 T6 n6 k6 v6=>?_
  have D6:=D7.put k6 gq nq
  have f66:=D7.fresh n6
  have e66:=k6.at (s7 _ _ e65) dq6.symm
  have d66:q6≠c6:=ne_of n6 (s7 _ _ e65)
  have x6:ExR T6 [c6,q6,g] y1 y2 y:=(x5.sub s7).step (push_step n6 k6)
  simp -implicitDefEqProofs(disch:=omega)only[Nat.reduceEqDiff,↓reduceIte,vcu,↓vcd,h0,h6,h7]
  exact⟨by simp [h0,h6],m - 1,by omega,y,y1,y2,ds++[d],q6,p2,by congr 1;omega,by simp,v6,f66.1,f66.2,d66,e66,hXT.s,x6,by simp;omega,hdm,by omega,by omega,D6⟩
end Go.Proofs.YtofdnmlpfagibaaGreatDoor
set_option maxHeartbeats 6400000
namespace Go.Proofs.YtofdnmlpfagibaaGreatDoor
open Go Go.Abs Go.RowKit Go.Dial Go.Clos
variable {w0:World}
theorem lit_len {τ:AHeap} {q:Nat} {ts:List (List UInt8)} {z:Int} {M:Nat} (h:τ q=some ⟨texts ts,false⟩) (h0:0≤z) (h1:z < ts.length) (hM:∀t∈ts,t.length≤M):∃c:List UInt8,c.length≤M∧ld τ q (0+z.toNat)=some (.string (tx c)) :=
 ⟨_,getD_len hM z.toNat,lit_text h h0 h1⟩
set_option maxRecDepth 16000 in
theorem spoil_draw (β σ:AHeap) (g h o:Nat) (bs:List Int) (p:Int) (s:List UInt8) (hr:Rd β σ g h o bs p) (hp:0≤p∧p≤9000) (hs:s.length≤10000) :
  ACall Tryz.prog w0 30 [.pointer (some ⟨g,0,none⟩),.string (tx s)] σ fun r σ'=>∃(t:List UInt8) (p':Int),r=.string (tx t)∧t.length≤s.length+4∧p≤p'∧p'≤p+2∧DS β σ σ' g h o bs p':=by
 refine acall_go mixed Tryz.func30 rfl good30 fun pr=>?_
 by_cases h0:s.length=0
 ·simp -implicitDefEqProofs(disch:=omega)only[Nat.reduceEqDiff,↓reduceIte,vcu,↓vcd,h0,Int.natCast_zero]
  refine fin_one Tryz.results30 ⟨[10],p,?_,by simp,by omega,by omega,DS.start hr⟩
  simp -implicitDefEqProofs(disch:=omega)only[Nat.reduceEqDiff,↓reduceIte,vcu,↓vcd]
  rfl
 simp -implicitDefEqProofs(disch:=omega)only[Nat.reduceEqDiff,↓reduceIte,vcu,↓vcd]
 refine (pick_at β σ g h o bs p s.length hr om9 om9).mono ?_
 rintro _ τ1 ⟨z,rfl,za,zb,hR,hK⟩
 have d1:=(DS.start hr).step hR hK
 clear hR hK
 have D0:=DS.start d1.rd
 simp -implicitDefEqProofs(disch:=omega)only[Nat.reduceEqDiff,↓reduceIte,vcu,↓vcd,opK_some]
 refine acodeB_monoY (Q':=fun en a' T=>en=.normal∧∃c:List UInt8,a' 4=.string (tx (s.take z.toNat++c++s.drop (z+1).toNat))∧c.length≤4∧DS β τ1 T g h o bs (p+1+1))
  (region_tree mixed (quiets [0,1,4,9,10,2,11,12] (.two 3 (.one 5 (quiets [6] (.one 7 (quiets [8,13,14] .stop)))) 5 (.one 3 (quiets [6] (.one 7 (quiets [8,13,14] .stop)))))) [] kr9 kr9 (fun p hp=>by cases hp) ?_) ?_
 ·clear hr d1
  refine tree_quiets (fun _=>none) _ _ _ sf0 kr9 kr9 ?_
  simp -implicitDefEqProofs(disch:=omega)only[Nat.reduceEqDiff,↓reduceIte,vcu,↓vcd,vcp]
  refine tree_two rfl rfl ?_ ?_
  ·refine r_lit el30 (out:=#[.string (tx []),.string (tx [48]),.string (tx [32]),.string (tx [10]),.string (tx [51]),.string (tx [100,114,111,112])]) (by first|kernel_rfl | (simp -implicitDefEqProofs(disch:=omega)only[Nat.reduceEqDiff,↓reduceIte,vcu,↓vcd];kernel_rfl)) kr9 fun ql T1 nq sq lit1=>?_
   replace lit1:T1 ql=some ⟨texts [[],[48],[32],[10],[51],[100,114,111,112]],false⟩:=lit1
   have flit1:=D0.fresh nq
   have d1:=D0.new sq
   clear sq nq
   try simp -implicitDefEqProofs(disch:=omega)only[Nat.reduceEqDiff,↓reduceIte,vcu,↓vcd]
   refine⟨keep_of rfl (fun p hp=>by cases hp),?_⟩
   refine tree_one rfl ?_
   try simp -implicitDefEqProofs(disch:=omega)only[Nat.reduceEqDiff,↓reduceIte,vcu,↓vcd]
   refine (pick_at β T1 g h o bs (p+1) 6 d1.rd om9 om9).mono ?_
   rintro _ T2 ⟨z2,rfl,z2a,z2b,hR,hK⟩
   have d2:=d1.step hR hK
   have lit2:=hK.at lit1 flit1.2
   clear hR hK
   simp -implicitDefEqProofs(disch:=omega)only[Nat.reduceEqDiff,↓reduceIte,vcu,↓vcd,opK_some]
   refine⟨keep_of rfl (fun p hp=>by cases hp),?_⟩
   refine tree_quiets (fun _=>none) _ _ _ sf0 kr9 kr9 ?_
   simp -implicitDefEqProofs(disch:=omega)only[Nat.reduceEqDiff,↓reduceIte,vcu,↓vcd,vcp]
   refine tree_one rfl ?_
   obtain⟨c,cl,hx⟩:=lit_len (M:=4) lit2 z2a (by simpa using z2b) (by decide)
   simp -implicitDefEqProofs(disch:=omega)only[Nat.reduceEqDiff,↓reduceIte,vcu,↓vcd,hx]
   clear hx
   refine⟨keep_of rfl (fun p hp=>by cases hp),?_⟩
   refine tree_quiets (fun _=>none) _ _ _ sf0 kr9 kr9 ?_
   have ha1:=abin_sadd (P:=Tryz.prog) (t:=9) (xs:=s.take z.toNat) (ys:=c) (by simp;omega)
   have ha2:=abin_sadd (P:=Tryz.prog) (t:=9) (xs:=s.take z.toNat++c) (ys:=s.drop (z+1).toNat) (by simp;omega)
   simp -implicitDefEqProofs(disch:=omega)only[Nat.reduceEqDiff,↓reduceIte,vcu,↓vcd,vcp,ha1,ha2]
   refine tree_stop ?_
   exact⟨by first|trivial|rfl,c,by simp -implicitDefEqProofs(disch:=omega)only[Nat.reduceEqDiff,↓reduceIte,vcu,↓vcd],cl,d2⟩
  ·try simp -implicitDefEqProofs(disch:=omega)only[Nat.reduceEqDiff,↓reduceIte,vcu,↓vcd]
   refine (pick_at β τ1 g h o bs (p+1) 6 D0.rd om9 om9).mono ?_
   rintro _ T4 ⟨z2,rfl,z2a,z2b,hR,hK⟩
   have d4:=D0.step hR hK
   clear hR hK
   simp -implicitDefEqProofs(disch:=omega)only[Nat.reduceEqDiff,↓reduceIte,vcu,↓vcd,opK_some]
   refine⟨keep_of rfl (fun p hp=>by cases hp),?_⟩
   refine tree_one rfl ?_
   refine r_lit el30 (out:=#[.string (tx []),.string (tx [48]),.string (tx [32]),.string (tx [10]),.string (tx [51]),.string (tx [100,114,111,112])]) (by first|kernel_rfl | (simp -implicitDefEqProofs(disch:=omega)only[Nat.reduceEqDiff,↓reduceIte,vcu,↓vcd];kernel_rfl)) kr9 fun ql T5 nq sq lit5=>?_
   replace lit5:T5 ql=some ⟨texts [[],[48],[32],[10],[51],[100,114,111,112]],false⟩:=lit5
   have flit5:=d4.fresh nq
   have d5:=d4.new sq
   clear sq nq
   try simp -implicitDefEqProofs(disch:=omega)only[Nat.reduceEqDiff,↓reduceIte,vcu,↓vcd]
   refine⟨keep_of rfl (fun p hp=>by cases hp),?_⟩
   refine tree_quiets (fun _=>none) _ _ _ sf0 kr9 kr9 ?_
   simp -implicitDefEqProofs(disch:=omega)only[Nat.reduceEqDiff,↓reduceIte,vcu,↓vcd,vcp]
   refine tree_one rfl ?_
   obtain⟨c,cl,hx⟩:=lit_len (M:=4) lit5 z2a (by simpa using z2b) (by decide)
   simp -implicitDefEqProofs(disch:=omega)only[Nat.reduceEqDiff,↓reduceIte,vcu,↓vcd,hx]
   clear hx
   refine⟨keep_of rfl (fun p hp=>by cases hp),?_⟩
   refine tree_quiets (fun _=>none) _ _ _ sf0 kr9 kr9 ?_
   have ha1:=abin_sadd (P:=Tryz.prog) (t:=9) (xs:=s.take z.toNat) (ys:=c) (by simp;omega)
   have ha2:=abin_sadd (P:=Tryz.prog) (t:=9) (xs:=s.take z.toNat++c) (ys:=s.drop (z+1).toNat) (by simp;omega)
   simp -implicitDefEqProofs(disch:=omega)only[Nat.reduceEqDiff,↓reduceIte,vcu,↓vcd,vcp,ha1,ha2]
   refine tree_stop ?_
   exact⟨by first|trivial|rfl,c,by simp -implicitDefEqProofs(disch:=omega)only[Nat.reduceEqDiff,↓reduceIte,vcu,↓vcd],cl,d5⟩
 rintro _ a1 T1 ⟨rfl,c,h4,cl,D⟩
 simp -implicitDefEqProofs(disch:=omega)only[Nat.reduceEqDiff,↓reduceIte,vcu,↓vcd,h4]
 refine fin_one Tryz.results30 ⟨s.take z.toNat++c++s.drop (z+1).toNat,_,?_,by simp;omega,by omega,by omega,d1.on D⟩
 simp -implicitDefEqProofs(disch:=omega)only[Nat.reduceEqDiff,↓reduceIte,vcu,↓vcd,h4]
set_option maxRecDepth 16000 in
theorem written_draw (β σ:AHeap) (g h o:Nat) (bs:List Int) (p:Int) (hr:Rd β σ g h o bs p) (hp:0≤p∧p≤1000) :
  ACall Tryz.prog w0 28 [.pointer (some ⟨g,0,none⟩)] σ fun r σ'=>∃(ds:List Dd) (p':Int),OYD σ g σ' r ds∧ds.length≤13∧(∀d∈ds,d.t.length≤5∧deedT d≠[])∧p≤p'∧p'≤p+600∧DS β σ σ' g h o bs p':=by
 refine acall_go mixed Tryz.func28 rfl good28 fun pr=>?_
 simp -implicitDefEqProofs(disch:=omega)only[Nat.reduceEqDiff,↓reduceIte,vcu,↓vcd]
 refine r_lit el24 (out:=#[]) (by first|kernel_rfl | (simp -implicitDefEqProofs(disch:=omega)only[Nat.reduceEqDiff,↓reduceIte,vcu,↓vcd];kernel_rfl)) kr9 fun q τ1 nq s1 vq=>?_
 replace vq:τ1 q=some ⟨dds [],false⟩:=vq
 have d1:=(DS.start hr).new s1
 have fq:=(DS.start hr).fresh nq
 simp -implicitDefEqProofs(disch:=omega)only[Nat.reduceEqDiff,↓reduceIte,vcu,↓vcd]
 refine (exch_draw β τ1 g h o bs p 0 d1.rd om9 (.inl rfl)).mono ?_
 rintro _ τ2 ⟨e,v1,v2,p2,rfl,w,hs,p21,p22,D1⟩
 have d2:=d1.on D1
 replace vq:=D1.kp.at vq fq.2
 have xr:ExR τ2 [g] v1 v2 e:=w.r fun k hk hg=>absurd (List.mem_singleton.1 hk) hg
 clear D1 d1 w s1 nq
 have hdd:=deeds_draw (w0:=w0) β τ2 g h o bs p2 v1 v2 e d2.rd om9 xr hs
 unfold exV at hdd ⊢
 simp -implicitDefEqProofs(disch:=omega)only[Nat.reduceEqDiff,↓reduceIte,vcu,↓vcd,opK_some]
 refine hdd.mono ?_
 rintro _ τ3 ⟨list,p3,⟨q2,rfl,vl,n2,g2⟩,ll,lt,p31,p32,D2⟩
 have d3:=d2.on D2
 have dq:q2≠q:=ne_of n2 vq
 replace vq:=D2.kp.at vq fq.2
 clear D2 d2 xr hdd
 simp -implicitDefEqProofs(disch:=omega)only[Nat.reduceEqDiff,↓reduceIte,vcu,↓vcd,opK_some]
 refine vc_loop_c mixed kr9 [4] (fun m a T=>∃(k q:Nat) (ds:List Dd),m+k=list.length∧a 5=.int .i64 (k:Int)∧a 3=.slice (some ⟨q,0,none⟩) ds.length 3∧T q=some ⟨dds ds,false⟩∧σ q=none∧q≠g∧q2≠q∧T q2=some ⟨dds list,false⟩∧ds.length≤k∧(∀d∈ds,d.t.length≤5∧deedT d≠[])∧DS β σ T g h o bs p3) list.length ⟨0,q,[],by simp,rfl,rfl,vq,fq.1,fq.2,dq,vl,by simp,by simp,d3⟩ ?_
 clear d3 vl vq dq
 rintro m a T ha ⟨k,q,ds,hk,h5,h3,vq,nq,gq,dq,vl,hl,hd,D⟩
 simp -implicitDefEqProofs(disch:=omega)only[Nat.reduceEqDiff,↓reduceIte,vcu,↓vcd] at ha
 obtain⟨h4,-⟩:=ha
 by_cases hlt:k < list.length
 ·have hx:=(ddsAt_own vl).all hlt
  have ht:=lt (list.getD k dd0) (by simp [List.getD,hlt])
  generalize list.getD k dd0=d at hx ht
  unfold ddc at hx
  simp -implicitDefEqProofs(disch:=omega)only[Nat.reduceEqDiff,↓reduceIte,vcu,↓vcd,h4,h5,h3,hx,co41]
  refine (deedText_calls T d om9).mono ?_
  rintro _ _ ⟨rfl,rfl⟩
  rename_i T
  have hne:abin Tryz.prog 9 .neq (.string (tx (deedT d))) (.string { data:=#[] })=some (.bool (!decide (deedT d=[]))):=abin_sneq (ys:=[])
  by_cases hdt:deedT d=[]
  ·rw[decide_eq_true hdt] at hne
   simp -implicitDefEqProofs(disch:=omega)only[Nat.reduceEqDiff,↓reduceIte,vcu,↓vcd,opK_some,h4,h5,h3,hne]
   exact⟨by simp [h4],m - 1,by omega,k+1,q,ds,by omega,by simp,rfl,vq,nq,gq,dq,vl,by omega,hd,D⟩
  ·rw[decide_eq_false hdt] at hne
   simp -implicitDefEqProofs(disch:=omega)only[Nat.reduceEqDiff,↓reduceIte,vcu,↓vcd,opK_some,h4,h5,h3,hne,hx,co41]
   refine r_lit el24 (out:=#[.int .i64 d.k,.int .i64 d.l,.string (tx d.t)]) (by simp -implicitDefEqProofs(disch:=omega)only[Nat.reduceEqDiff,↓reduceIte,vcu,↓vcd];kernel_rfl) kr9 fun g8 T5 n5 s5 v5=>?_
   replace v5:T5 g8=some ⟨dds [d],false⟩:=v5
   have D5:=D.new s5
   refine r_pushD (g:=q) (e:=g8) (o:=0) (cs:=ds) (ds:=[d]) (m:=1) (len:=ds.length) el24 om9 sl24 (by simp -implicitDefEqProofs(disch:=omega)only[Nat.reduceEqDiff,↓reduceIte,vcu,↓vcd,h3]) (s5 _ _ vq) rfl z9q (ddsAt_own v5) rfl om9 fun q6 T6 n6 k6 v6=>?_
   have D6:=D5.put k6 gq nq
   have f66:=D5.fresh n6
   have vl6:=k6.at (s5 _ _ vl) dq
   have dq6:q2≠q6:=ne_of' n6 (s5 _ _ vl)
   simp -implicitDefEqProofs(disch:=omega)only[Nat.reduceEqDiff,↓reduceIte,vcu,↓vcd,h4,h5]
   refine⟨by simp [h4],m - 1,by omega,k+1,q6,ds++[d],by omega,by simp,by simp,v6,f66.1,f66.2,dq6,vl6,by simp;omega,fun t ht'=>?_,D6⟩
   rcases List.mem_append.1 ht' with hh|hh
   ·exact hd t hh
   ·rw[List.mem_singleton.1 hh];exact⟨ht,hdt⟩
 ·simp -implicitDefEqProofs(disch:=omega)only[Nat.reduceEqDiff,↓reduceIte,vcu,↓vcd,h4,h5,h3]
  refine fin_one Tryz.results28 ⟨ds,p3,⟨q,?_,vq,nq,gq⟩,by omega,hd,by omega,by omega,D⟩
  simp -implicitDefEqProofs(disch:=omega)only[Nat.reduceEqDiff,↓reduceIte,vcu,↓vcd,h3]
set_option maxHeartbeats 6400000
theorem lessL_kept {τ τ1 τ2:AHeap} {c:Nat} {l:List Nat} (h:Sub (lessL τ l) τ1) (hk:Kept c τ1 τ2) (hc:c∈l):Sub (lessL τ l) τ2:=fun k ob e=>by
 by_cases hm:k∈l
 ·rw[lessL_in hm] at e;cases e
 ·exact hk k ob (by rintro rfl;exact hm hc) (h k ob e)
set_option maxRecDepth 16000 in
theorem drawER_at (σ:AHeap) (h o:Nat) (bs:List Int) (hv:IntsAt .u8 σ h o bs) (hl:bs.length≤1048576) (hb:∀b∈bs,0≤b∧b≤255) :
  ACall Tryz.prog w0 10 [.slice (some ⟨h,o,none⟩) bs.length 1] σ fun r σ'=>(∃(e:Ex) (v1 v2 vd:Value) (ds:List Dd),r=.tuple #[exV v1 v2 e,vd]∧ExV σ' (exV v1 v2 e) e∧XS e∧(∃q,vd=.slice (some ⟨q,0,none⟩) ds.length 3∧DdsAt σ' q 0 ds)∧ds.length≤13∧∀d∈ds,d.t.length≤5)∧Sub σ σ':=by
 refine acall_goc mixed Tryz.func10 rfl goodc10 fun pr=>?_
 simp -implicitDefEqProofs(disch:=omega)only[Nat.reduceEqDiff,↓reduceIte,vcu,↓vcd]
 refine r_new ze33 fun c2 τ1 n2 s1 e2=>?_
 replace e2:τ1 c2=some ⟨[.int .i64 0,.int .i64 0,.int .i64 0,.slice none 0 0,.slice none 0 0],false⟩:=e2
 simp -implicitDefEqProofs(disch:=omega)only[Nat.reduceEqDiff,↓reduceIte,vcu,↓vcd]
 refine (opened τ1 h o bs (hv.sub s1) hl hb).mono ?_
 rintro _ τ2 ⟨g,m,rfl,hs2,hR⟩
 have g2:c2≠g:=ne_of' hR.free e2
 replace e2:=hs2 _ _ e2
 simp -implicitDefEqProofs(disch:=omega)only[Nat.reduceEqDiff,↓reduceIte,vcu,↓vcd,opK_some]
 refine (exch_draw τ1 τ2 g h o _ 0 12 hR om9 om9).mono ?_
 rintro _ τ3 ⟨e,v1,v2,p1,rfl,w,hs,p10,p11,D⟩
 have x3:ExR τ3 [c2,g] v1 v2 e:=w.r fun k hk hg hn=>by
  simp only[List.mem_cons,List.not_mem_nil,or_false] at hk
  rcases hk with rfl|rfl
  ·rw[e2] at hn;cases hn
  ·exact hg rfl
 replace e2:=D.kp.at e2 g2
 have hone:=w.one
 unfold exC at hone
 unfold exV
 simp -implicitDefEqProofs(disch:=omega)only[Nat.reduceEqDiff,↓reduceIte,vcu,↓vcd,opK_some]
 refine r_local (cs:=#[.int .i64 e.s.O,.int .i64 e.s.E,.int .i64 e.s.M,v1,v2]) ze33 (by decide) z9q (by rw[co33];rfl) rfl hone (Nat.zero_lt_succ _) fun c5 τ4 n5 s5 e5=>?_
 replace e5:τ4 c5=some ⟨exC v1 v2 e,false⟩:=e5
 have f5:=D.fresh n5
 have D4:=D.new s5
 have x4:=x3.sub s5
 have d25:c5≠c2:=ne_of n5 e2
 replace e2:=s5 _ _ e2
 have hc5:c5 ∉ ([c2,g]:List Nat):=by simp [d25,f5.2]
 have l5:lds (lessL τ4 [c2,g]) c5 0 5=some (exC v1 v2 e):=by rw[lds_of (by rw[lessL_at hc5];exact e5) (by simp [exC])];rfl
 have l5':lds τ4 c5 0 5=some (exC v1 v2 e):=by rw[lds_of e5 (by simp [exC])];rfl
 unfold exC at l5 l5'
 clear x3 s5 n5 D w
 simp -implicitDefEqProofs(disch:=omega)only[Nat.reduceEqDiff,↓reduceIte,vcu,↓vcd]
 refine region_tree mixed (quiets [0,1,2] (.one 3 (.one 4 (quiets [5] .stop)))) [([0,1,2,5],Sub (lessL τ4 [c2,g]))] kr9 kr9 (fun p hp=>by simp only[List.mem_singleton] at hp;subst hp;exact lessL_sub) ?_
 refine tree_quiets (lessL τ4 [c2,g]) _ _ _ (sfIn kr9) kr9 kr9 ?_
 simp -implicitDefEqProofs(disch:=omega)only[Nat.reduceEqDiff,↓reduceIte,vcu,↓vcd,vcp,l5,co33,co41]
 refine tree_one rfl ?_
 try simp -implicitDefEqProofs(disch:=omega)only[Nat.reduceEqDiff,↓reduceIte,vcu,↓vcd]
 have hcall:=deeds_draw (w0:=w0) τ1 τ4 g h o _ p1 v1 v2 e D4.rd om9 (x4.drop fun k hk=>by rw[List.mem_singleton.1 hk];simp) hs
 unfold exV at hcall
 refine hcall.mono ?_
 rintro _ T5 ⟨ds,p2,⟨q,rfl,vq,nq,gq⟩,dl,dt,p20,p21,DD⟩
 have D5:=D4.on DD
 have x5:=x4.kept DD.kp (by simp)
 have e25:=DD.kp.at e2 g2
 have B5:Sub (lessL τ4 [c2,g]) T5:=lessL_kept lessL_sub DD.kp (by simp)
 simp -implicitDefEqProofs(disch:=omega)only[Nat.reduceEqDiff,↓reduceIte,vcu,↓vcd,opK_some]
 refine⟨keep_of rfl fun p hp=>by simp only[List.mem_singleton] at hp;subst hp;exact .inr B5,?_⟩
 refine tree_one rfl ?_
 refine r_sets (g:=c2) (i:=0) (C:=[.int .i64 0,.int .i64 0,.int .i64 0,.slice none 0 0,.slice none 0 0]) z9q z9co33 (by simp -implicitDefEqProofs(disch:=omega)only[Nat.reduceEqDiff,↓reduceIte,vcu,↓vcd];exact hone) z9z e25 z9l fun T9 k9 e9=>?_
 replace e9:T9 c2=some ⟨exC v1 v2 e,false⟩:=e9
 have x9:=x5.kept k9 (by simp)
 have B9:Sub (lessL τ4 [c2,g]) T9:=lessL_kept B5 k9 (by simp)
 have S9:Sub σ T9:=k9.sub (s1.trans D5.rd.sub) n2
 have vq9:=k9.at vq (ne_of nq e2)
 have l9:lds T9 c2 0 5=some (exC v1 v2 e):=by rw[lds_of e9 (by simp [exC])];rfl
 unfold exC at l9
 try simp -implicitDefEqProofs(disch:=omega)only[Nat.reduceEqDiff,↓reduceIte,vcu,↓vcd]
 refine⟨keep_of rfl fun p hp=>by simp only[List.mem_singleton] at hp;subst hp;exact .inr B9,?_⟩
 refine tree_quiets (lessL τ4 [c2,g]) _ _ _ (sfIn kr9) kr9 kr9 ?_
 simp -implicitDefEqProofs(disch:=omega)only[Nat.reduceEqDiff,↓reduceIte,vcu,↓vcd,vcp]
 refine tree_stop ?_
 try simp -implicitDefEqProofs(disch:=omega)only[Nat.reduceEqDiff,↓reduceIte,vcu,↓vcd]
 refine fin_ct8 Tryz.results10 T9 (Sub.refl _) (v:=exV v1 v2 e) (by simp -implicitDefEqProofs(disch:=omega)only[Nat.reduceEqDiff,↓reduceIte,vcu,↓vcd,l9,co33];rfl) ⟨⟨e,v1,v2,.slice (some ⟨q,0,none⟩) ds.length 3,ds,by simp -implicitDefEqProofs(disch:=omega)only[Nat.reduceEqDiff,↓reduceIte,vcu,↓vcd];rfl,x9.ex,hs,⟨q,rfl,ddsAt_own vq9⟩,dl,dt⟩,S9⟩
end Go.Proofs.YtofdnmlpfagibaaGreatDoor
