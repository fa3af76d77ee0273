/- Parts. -/
import Derived.Test.YtofdnmlpfagibaaGreatDoorSFg
set_option linter.unusedSimpArgs false
set_option linter.unusedVariables false
set_option linter.unusedSectionVars false
namespace Go.Proofs.YtofdnmlpfagibaaGreatDoor
open Go Go.Abs Go.RowKit Go.Clos
variable {w0:World}
set_option maxRecDepth 8000 in
theorem idleC_at (σ:AHeap) (b1 b2:Nat) (I O:Int) (c:Cl) (h1:σ b1=some ⟨[.int .i64 I],false⟩) (h2:σ b2=some ⟨[.int .i64 O],false⟩) :
  ACall Tryz.prog w0 160 [.agg #[.int .i64 c.i,.int .i64 c.o,.int .i64 c.v],.pointer (some ⟨b1,0,none⟩),.pointer (some ⟨b2,0,none⟩)] σ fun r σ'=>r=.bool (decide (c.i=I∨c.o=O))∧σ'=σ:=by
 refine acall_go mixed Tryz.func160 rfl good160 fun pr=>?_
 simp -implicitDefEqProofs(disch:=omega)only[Nat.reduceEqDiff,↓reduceIte,vcu,↓vcd]
 refine r_boxed fun g τ1 n1 s1 e1=>?_
 replace e1:τ1 g=some ⟨[.int .i64 c.i,.int .i64 c.o,.int .i64 c.v],false⟩:=e1
 have l1:ld τ1 g (0+0)=some (.int .i64 c.i):=ld_of e1 rfl
 have l2:ld τ1 g (0+1)=some (.int .i64 c.o):=ld_of e1 rfl
 have k1:ld τ1 b1 0=some (.int .i64 I):=ld_of (s1 _ _ h1) rfl
 have k2:ld τ1 b2 0=some (.int .i64 O):=ld_of (s1 _ _ h2) rfl
 by_cases q1:c.i=I
 ·simp -implicitDefEqProofs(disch:=omega)only[Nat.reduceEqDiff,↓reduceIte,vcu,↓vcd,l1,l2,k1,k2]
  refine fin_drop Tryz.results160 σ s1 ⟨?_,rfl⟩
  simp -implicitDefEqProofs(disch:=omega)only[Nat.reduceEqDiff,↓reduceIte,vcu,↓vcd]
  simp [q1]
 ·simp -implicitDefEqProofs(disch:=omega)only[Nat.reduceEqDiff,↓reduceIte,vcu,↓vcd,l1,l2,k1,k2]
  refine fin_drop Tryz.results160 σ s1 ⟨?_,rfl⟩
  simp -implicitDefEqProofs(disch:=omega)only[Nat.reduceEqDiff,↓reduceIte,vcu,↓vcd]
  simp [q1]
set_option maxRecDepth 8000 in
theorem implIdle_at (σ:AHeap) (s:Sp) (h o:Nat) (cs:List Cl) (I O:Int) (hv:TrisAt σ h o cs) (hl:cs.length≤1048576) (hS:SV s) :
  ACall Tryz.prog w0 141 [.agg #[.int .i64 s.O,.int .i64 s.E,.int .i64 s.M],.slice (some ⟨h,o,none⟩) cs.length 3,.int .i64 I,.int .i64 O] σ fun r σ'=>r=.bool (decide (Lines s I O∧¬ Busy cs I O))∧σ'=σ:=by
 refine acall_go mixed Tryz.func141 rfl good141 fun pr=>?_
 simp -implicitDefEqProofs(disch:=omega)only[Nat.reduceEqDiff,↓reduceIte,vcu,↓vcd]
 refine r_boxed fun b τ1 n1 s1 e1=>?_
 replace e1:τ1 b=some ⟨[.int .i64 s.O,.int .i64 s.E,.int .i64 s.M],false⟩:=e1
 refine r_boxed fun b1 τ2 n2 s2 e2=>?_
 replace e2:τ2 b1=some ⟨[.int .i64 I],false⟩:=e2
 refine r_boxed fun b2 τ n3 s3 e3=>?_
 replace e3:τ b2=some ⟨[.int .i64 O],false⟩:=e3
 have f1:=s3 _ _ (s2 _ _ e1)
 have f2:=s3 _ _ e2
 have s12:=s1.trans (s2.trans s3)
 have l3:lds τ b 0 3=some [.int .i64 s.O,.int .i64 s.E,.int .i64 s.M]:=lds_three (ld_of f1 rfl) (ld_of f1 rfl) (ld_of f1 rfl)
 have li:ld τ b1 0=some (.int .i64 I):=ld_of f2 rfl
 have lo:ld τ b2 0=some (.int .i64 O):=ld_of e3 rfl
 simp -implicitDefEqProofs(disch:=omega)only[Nat.reduceEqDiff,↓reduceIte,vcu,↓vcd,l3,li,lo,co29]
 refine (hasLine_at τ s.O s.E s.M I hS).mono ?_
 rintro r _ ⟨rfl,rfl⟩
 rename_i τ
 by_cases hI:0≤I∧I≤s.O * s.E - 1
 case neg =>
  rw[decide_eq_false hI,decide_eq_false (fun hh:Lines s I O∧¬ Busy cs I O=>hI hh.1.1)]
  simp -implicitDefEqProofs(disch:=omega)only[Nat.reduceEqDiff,↓reduceIte,vcu,↓vcd,opK_some,Bool.not_false]
  refine fin_drop Tryz.results141 σ s12 ⟨?_,rfl⟩
  simp -implicitDefEqProofs(disch:=omega)only[Nat.reduceEqDiff,↓reduceIte,vcu,↓vcd]
 rw[decide_eq_true hI]
 simp -implicitDefEqProofs(disch:=omega)only[Nat.reduceEqDiff,↓reduceIte,vcu,↓vcd,opK_some,Bool.not_true,l3,li,lo,co29]
 refine (hasLine_at τ s.O s.E s.M O hS).mono ?_
 rintro r _ ⟨rfl,rfl⟩
 rename_i τ
 by_cases hO:0≤O∧O≤s.O * s.E - 1
 case neg =>
  rw[decide_eq_false hO,decide_eq_false (fun hh:Lines s I O∧¬ Busy cs I O=>hO hh.1.2)]
  simp -implicitDefEqProofs(disch:=omega)only[Nat.reduceEqDiff,↓reduceIte,vcu,↓vcd,opK_some,Bool.not_false]
  refine fin_drop Tryz.results141 σ s12 ⟨?_,rfl⟩
  simp -implicitDefEqProofs(disch:=omega)only[Nat.reduceEqDiff,↓reduceIte,vcu,↓vcd]
 rw[decide_eq_true hO]
 simp -implicitDefEqProofs(disch:=omega)only[Nat.reduceEqDiff,↓reduceIte,vcu,↓vcd,opK_some,Bool.not_true]
 refine (hasFn_at τ h o cs _ _ (fun c=>c.i=I∨c.o=O) (hv.sub s12) hl fun c _ pw=>idleC_at τ b1 b2 I O c f2 e3).mono ?_
 rintro r _ ⟨rfl,rfl⟩
 have hd:decide (Lines s I O∧¬ Busy cs I O)=!decide (∃c∈cs,c.i=I∨c.o=O):=by
  by_cases hh:∃c∈cs,c.i=I∨c.o=O
  ·rw[decide_eq_true hh,decide_eq_false (fun hf:Lines s I O∧¬ Busy cs I O=>hf.2 hh)];rfl
  ·rw[decide_eq_false hh,decide_eq_true (show Lines s I O∧¬ Busy cs I O from ⟨⟨hI,hO⟩,hh⟩)];rfl
 rw[hd]
 simp -implicitDefEqProofs(disch:=omega)only[Nat.reduceEqDiff,↓reduceIte,vcu,↓vcd,opK_some]
 refine fin_drop Tryz.results141 σ s12 ⟨?_,rfl⟩
 simp -implicitDefEqProofs(disch:=omega)only[Nat.reduceEqDiff,↓reduceIte,vcu,↓vcd]
set_option maxRecDepth 8000 in
theorem unusedC_at (σ:AHeap) (b1 b2:Nat) (k:Int) (c:Cl) (gf:Nat) (caps:Array Value) (P:Cl→Prop) [DecidablePred P] (h1:σ b1=some ⟨[.int .i64 k],false⟩) (h2:σ b2=some ⟨[.func (.func gf) #[] caps],false⟩)
  (hcl:∀pw τ,Sub σ τ→ACall Tryz.prog pw gf (.agg #[.int .i64 c.i,.int .i64 c.o,.int .i64 c.v] :: caps.toList) τ fun r σ'=>r=.bool (decide (P c))∧σ'=τ) :
  ACall Tryz.prog w0 161 [.agg #[.int .i64 c.i,.int .i64 c.o,.int .i64 c.v],.pointer (some ⟨b1,0,none⟩),.pointer (some ⟨b2,0,none⟩)] σ fun r σ'=>r=.bool (decide (c.v=k∧P c))∧σ'=σ:=by
 refine acall_go mixed Tryz.func161 rfl good161 fun pr=>?_
 simp -implicitDefEqProofs(disch:=omega)only[Nat.reduceEqDiff,↓reduceIte,vcu,↓vcd]
 refine r_boxed fun g τ1 n1 s1 e1=>?_
 replace e1:τ1 g=some ⟨[.int .i64 c.i,.int .i64 c.o,.int .i64 c.v],false⟩:=e1
 have l1:ld τ1 g (0+2)=some (.int .i64 c.v):=ld_of e1 rfl
 have l3:lds τ1 g 0 3=some [.int .i64 c.i,.int .i64 c.o,.int .i64 c.v]:=lds_three (ld_of e1 rfl) (ld_of e1 rfl) (ld_of e1 rfl)
 have k1:ld τ1 b1 0=some (.int .i64 k):=ld_of (s1 _ _ h1) rfl
 have k2:ld τ1 b2 0=some (.func (.func gf) #[] caps):=ld_of (s1 _ _ h2) rfl
 by_cases q1:c.v=k
 case neg =>
  rw[decide_eq_false (fun hh:c.v=k∧P c=>q1 hh.1)]
  simp -implicitDefEqProofs(disch:=omega)only[Nat.reduceEqDiff,↓reduceIte,vcu,↓vcd,l1,l3,k1,k2]
  refine fin_drop Tryz.results161 σ s1 ⟨?_,rfl⟩
  simp -implicitDefEqProofs(disch:=omega)only[Nat.reduceEqDiff,↓reduceIte,vcu,↓vcd]
 have hd:decide (c.v=k∧P c)=decide (P c):=decide_eq_decide.2 ⟨fun hh=>hh.2,fun hh=>⟨q1,hh⟩⟩
 rw[hd]
 simp -implicitDefEqProofs(disch:=omega)only[Nat.reduceEqDiff,↓reduceIte,vcu,↓vcd,l1,l3,k1,k2,co70]
 refine r_callv ⟨(gf,caps),by simp -implicitDefEqProofs(disch:=omega)only[Nat.reduceEqDiff,↓reduceIte,vcu,↓vcd],?_⟩
 simp -implicitDefEqProofs(disch:=omega)only[Nat.reduceEqDiff,↓reduceIte,vcu,↓vcd]
 refine (hcl _ τ1 s1).mono ?_
 rintro r _ ⟨rfl,rfl⟩
 simp -implicitDefEqProofs(disch:=omega)only[Nat.reduceEqDiff,↓reduceIte,vcu,↓vcd,opK_some]
 refine fin_drop Tryz.results161 σ s1 ⟨?_,rfl⟩
 simp -implicitDefEqProofs(disch:=omega)only[Nat.reduceEqDiff,↓reduceIte,vcu,↓vcd]
set_option maxRecDepth 8000 in
theorem firstFn_at (σ:AHeap) (h o:Nat) (cs:List Cl) (gf:Nat) (caps:Array Value) (P:Cl→Prop) [DecidablePred P] (U:List Int) (N:Nat) (hv:TrisAt σ h o cs) (hl:cs.length≤1048576)
  (hcl:∀c∈cs,∀pw τ,Sub σ τ→ACall Tryz.prog pw gf (.agg #[.int .i64 c.i,.int .i64 c.o,.int .i64 c.v] :: caps.toList) τ fun r σ'=>r=.bool (decide (P c))∧σ'=τ)
  (hU:∀v:Int,(∃c∈cs,c.v=v∧P c) ↔ v∈U) (hN:0≤firstN U N 0) (hN5:N≤5) :
  ACall Tryz.prog w0 142 [.slice (some ⟨h,o,none⟩) cs.length 3,.func (.func gf) #[] caps] σ fun r σ'=>r=.int .i64 (firstN U N 0)∧σ'=σ:=by
 refine acall_go mixed Tryz.func142 rfl good142 fun pr=>?_
 simp -implicitDefEqProofs(disch:=omega)only[Nat.reduceEqDiff,↓reduceIte,vcu,↓vcd]
 refine r_boxed fun b τ1 n1 s1 e1=>?_
 replace e1:τ1 b=some ⟨[.func (.func gf) #[] caps],false⟩:=e1
 simp -implicitDefEqProofs(disch:=omega)only[Nat.reduceEqDiff,↓reduceIte,vcu,↓vcd]
 refine r_new ze3 fun v τ2 n2 s2 e2=>?_
 replace e2:τ2 v=some ⟨[.int .i64 0],false⟩:=e2
 refine r_set (g:=v) (i:=0) z9q z9r co3 z9r e2 (by simp) fun τ k3 e3=>?_
 simp -implicitDefEqProofs(disch:=omega)only[Nat.reduceEqDiff,↓reduceIte,vcu,↓vcd] at e3
 replace e3:τ v=some ⟨[.int .i64 0],false⟩:=e3
 have hbv:b≠v:=ne_of' n2 e1
 have s23:Sub τ1 τ:=k3.sub s2 n2
 have sτ:=s1.trans s23
 have nv:σ v=none:=free_sub s1 n2
 have eb:=s23 _ _ e1
 simp -implicitDefEqProofs(disch:=omega)only[Nat.reduceEqDiff,↓reduceIte,vcu,↓vcd]
 refine vc_loop_c mixed kr9 [0,3,5] (fun m a τ'=>∃k:Nat,m+k=N∧Kept v τ τ'∧τ' v=some ⟨[.int .i64 (k:Int)],false⟩∧firstN U N 0=firstN U m k) N ⟨0,by simp,Kept.refl _ _,e3,rfl⟩ ?_
 rintro m a τ' hc ⟨k,hk,hkp,ev',hf⟩
 simp -implicitDefEqProofs(disch:=omega)only[Nat.reduceEqDiff,↓reduceIte,vcu,↓vcd] at hc
 obtain⟨h0,h3,h5,-⟩:=hc
 have hs':Sub σ τ':=hkp.sub sτ nv
 have eb':=hkp.at eb hbv
 have hhas:=hasFn_at (w0:=w0) τ' h o cs 161 #[.pointer (some ⟨v,0,none⟩),.pointer (some ⟨b,0,none⟩)] (fun c=>c.v=(k:Int)∧P c) (hv.sub hs') hl fun c hc pw=>unusedC_at τ' v b k c gf caps P ev' eb' fun pw τ9 s9=>hcl c hc pw τ9 (hs'.trans s9)
 have hiff:=hU (k:Int)
 simp -implicitDefEqProofs(disch:=omega)only[Nat.reduceEqDiff,↓reduceIte,vcu,↓vcd,h0,h3,h5]
 refine hhas.mono ?_
 rintro r τ9 ⟨rfl,e9⟩
 subst e9
 cases m with
 | zero =>
  rw[hf] at hN
  unfold firstN at hN
  omega
 | succ m =>
  rw[firstN_step] at hf
  by_cases hm:(k:Int)∈U
  ·rw[if_pos hm] at hf
   rw[decide_eq_true (hiff.2 hm)]
   have lv:ld τ9 v 0=some (.int .i64 (k:Int)):=ld_of ev' rfl
   simp -implicitDefEqProofs(disch:=omega)only[Nat.reduceEqDiff,↓reduceIte,vcu,↓vcd,opK_some,h0,h3,h5,lv]
   refine r_set (g:=v) (i:=0) (by simp -implicitDefEqProofs(disch:=omega)only[Nat.reduceEqDiff,↓reduceIte,vcu,↓vcd,h5]) z9r co3 z9r ev' (by simp) fun τ8 k8 e8=>?_
   simp -implicitDefEqProofs(disch:=omega)only[Nat.reduceEqDiff,↓reduceIte,vcu,↓vcd] at e8
   replace e8:τ8 v=some ⟨[.int .i64 ((k:Int)+1)],false⟩:=e8
   simp -implicitDefEqProofs(disch:=omega)only[Nat.reduceEqDiff,↓reduceIte,vcu,↓vcd,h0,h3,h5]
   exact⟨⟨trivial,trivial,trivial,trivial⟩,m,by omega,k+1,by omega,hkp.trans k8,by rw[e8];simp,hf⟩
  ·rw[if_neg hm] at hf
   rw[decide_eq_false fun hh=>hm (hiff.1 hh),hf]
   have lv:ld τ9 v 0=some (.int .i64 (k:Int)):=ld_of ev' rfl
   simp -implicitDefEqProofs(disch:=omega)only[Nat.reduceEqDiff,↓reduceIte,vcu,↓vcd,opK_some,h0,h3,h5,lv]
   refine fin_drop Tryz.results142 σ hs' ⟨?_,rfl⟩
   simp -implicitDefEqProofs(disch:=omega)only[Nat.reduceEqDiff,↓reduceIte,vcu,↓vcd]
set_option maxRecDepth 8000 in
theorem fromC_at (σ:AHeap) (b1 b2:Nat) (s:Sp) (I:Int) (c:Cl) (h1:σ b1=some ⟨[.int .i64 s.O,.int .i64 s.E,.int .i64 s.M],false⟩) (h2:σ b2=some ⟨[.int .i64 I],false⟩) (hE:1≤s.E) (hI:0≤I∧I≤1000) (hc:Nng c) :
  ACall Tryz.prog w0 143 [.agg #[.int .i64 c.i,.int .i64 c.o,.int .i64 c.v],.pointer (some ⟨b1,0,none⟩),.pointer (some ⟨b2,0,none⟩)] σ fun r σ'=>r=.bool (decide (c.i / s.E=I / s.E))∧σ'=σ:=by
 obtain⟨⟨c1,c2⟩,c3,c4⟩:=hc
 refine acall_go mixed Tryz.func143 rfl good143 fun pr=>?_
 simp -implicitDefEqProofs(disch:=omega)only[Nat.reduceEqDiff,↓reduceIte,vcu,↓vcd]
 refine r_boxed fun g τ1 n1 s1 e1=>?_
 replace e1:τ1 g=some ⟨[.int .i64 c.i,.int .i64 c.o,.int .i64 c.v],false⟩:=e1
 have l1:ld τ1 g (0+0)=some (.int .i64 c.i):=ld_of e1 rfl
 have k1:ld τ1 b1 (0+1)=some (.int .i64 s.E):=ld_of (s1 _ _ h1) rfl
 have k2:ld τ1 b2 0=some (.int .i64 I):=ld_of (s1 _ _ h2) rfl
 simp -implicitDefEqProofs(disch:=omega)only[Nat.reduceEqDiff,↓reduceIte,vcu,↓vcd,l1,k1,k2]
 refine fin_drop Tryz.results143 σ s1 ⟨?_,rfl⟩
 simp -implicitDefEqProofs(disch:=omega)only[Nat.reduceEqDiff,↓reduceIte,vcu,↓vcd]
set_option maxRecDepth 8000 in
theorem toC_at (σ:AHeap) (b1 b2:Nat) (s:Sp) (O:Int) (c:Cl) (h1:σ b1=some ⟨[.int .i64 s.O,.int .i64 s.E,.int .i64 s.M],false⟩) (h2:σ b2=some ⟨[.int .i64 O],false⟩) (hE:1≤s.E) (hO:0≤O∧O≤1000) (hc:Nng c) :
  ACall Tryz.prog w0 144 [.agg #[.int .i64 c.i,.int .i64 c.o,.int .i64 c.v],.pointer (some ⟨b1,0,none⟩),.pointer (some ⟨b2,0,none⟩)] σ fun r σ'=>r=.bool (decide (c.o / s.E=O / s.E))∧σ'=σ:=by
 obtain⟨⟨c1,c2⟩,c3,c4⟩:=hc
 refine acall_go mixed Tryz.func144 rfl good144 fun pr=>?_
 simp -implicitDefEqProofs(disch:=omega)only[Nat.reduceEqDiff,↓reduceIte,vcu,↓vcd]
 refine r_boxed fun g τ1 n1 s1 e1=>?_
 replace e1:τ1 g=some ⟨[.int .i64 c.i,.int .i64 c.o,.int .i64 c.v],false⟩:=e1
 have l1:ld τ1 g (0+1)=some (.int .i64 c.o):=ld_of e1 rfl
 have k1:ld τ1 b1 (0+1)=some (.int .i64 s.E):=ld_of (s1 _ _ h1) rfl
 have k2:ld τ1 b2 0=some (.int .i64 O):=ld_of (s1 _ _ h2) rfl
 simp -implicitDefEqProofs(disch:=omega)only[Nat.reduceEqDiff,↓reduceIte,vcu,↓vcd,l1,k1,k2]
 refine fin_drop Tryz.results144 σ s1 ⟨?_,rfl⟩
 simp -implicitDefEqProofs(disch:=omega)only[Nat.reduceEqDiff,↓reduceIte,vcu,↓vcd]
set_option maxRecDepth 4000 in
theorem meeting_at (σ:AHeap) (s:Sp) (h o:Nat) (cs:List Cl) (kk:Nat) (hv:TrisAt σ h o cs) (hl:cs.length≤1048576) (hE:1≤s.E) (hn:∀k,k < cs.length→Nng (gc cs k)) (hkk:kk < cs.length) :
  ACall Tryz.prog w0 145 [.agg #[.int .i64 s.O,.int .i64 s.E,.int .i64 s.M],.slice (some ⟨h,o,none⟩) cs.length 3,.int .i64 (kk:Int)] σ fun r σ'=>σ'=σ∧∃z:Int,r=.int .i64 z ∧
   ((z=-1∧∀m,m < cs.length→m≠kk→¬ Hit s (gc cs kk) (gc cs m))∨∃m:Nat,z=m∧m < cs.length∧m≠kk∧Hit s (gc cs kk) (gc cs m)):=by
 refine acall_go mixed Tryz.func145 rfl good145 fun pr=>?_
 simp -implicitDefEqProofs(disch:=omega)only[Nat.reduceEqDiff,↓reduceIte,vcu,↓vcd]
 refine r_boxed fun b τ nb s1 e1=>?_
 replace e1:τ b=some ⟨[.int .i64 s.O,.int .i64 s.E,.int .i64 s.M],false⟩:=e1
 simp -implicitDefEqProofs(disch:=omega)only[Nat.reduceEqDiff,↓reduceIte,vcu,↓vcd]
 refine vc_loop_c mixed kr9 [1,2,3,9,10] (fun m a τ'=>∃k:Nat,m+k=cs.length∧a 11=.int .i64 k∧Sub τ τ'∧∀j,j < k→j≠kk→¬ Hit s (gc cs kk) (gc cs j)) cs.length ⟨0,by simp,rfl,Sub.refl _,fun j hj=>absurd hj om9⟩ ?_
 rintro m a τ1 hc ⟨k,hk,h11,hs,hN⟩
 simp -implicitDefEqProofs(disch:=omega)only[Nat.reduceEqDiff,↓reduceIte,vcu,↓vcd] at hc
 obtain⟨h1,h2,h3,h9,h10,-⟩:=hc
 by_cases hlt:k < cs.length
 case neg =>
  obtain rfl:k=cs.length:=by omega
  simp -implicitDefEqProofs(disch:=omega)only[Nat.reduceEqDiff,↓reduceIte,vcu,↓vcd,h1,h2,h3,h9,h10,h11]
  refine fin_drop Tryz.results145 σ (s1.trans hs) ⟨rfl,-1,?_,.inl ⟨rfl,hN⟩⟩
  simp -implicitDefEqProofs(disch:=omega)only[Nat.reduceEqDiff,↓reduceIte,vcu,↓vcd]
 have hx:=((hv.sub s1).sub hs).all hlt
 have hgk:cs.getD k cl0=gc cs k:=rfl
 rw[hgk] at hx
 have hnk:=hn k hlt
 have hnkk:=hn kk hkk
 generalize hcc:gc cs k=c at hx hnk
 obtain⟨ci,co,cv⟩:=c
 dsimp only at hx
 simp -implicitDefEqProofs(disch:=omega)only[Nat.reduceEqDiff,↓reduceIte,vcu,↓vcd,h1,h2,h3,h9,h10,h11,hx,co70]
 refine r_new ze70 fun g τ2a ng sa ea=>?_
 replace ea:τ2a g=some ⟨[.int .i64 0,.int .i64 0,.int .i64 0],false⟩:=ea
 simp -implicitDefEqProofs(disch:=omega)only[Nat.reduceEqDiff,↓reduceIte,vcu,↓vcd,h1,h2,h3,h9,h10,h11]
 refine r_sets (g:=g) (i:=0) (C:=[.int .i64 0,.int .i64 0,.int .i64 0]) z9q z9co70 z9r z9z ea z9l fun τ2 k2 e2=>?_
 replace e2:τ2 g=some ⟨[.int .i64 ci,.int .i64 co,.int .i64 cv],false⟩:=e2
 have s2:=k2.sub sa ng
 have hs2:=hs.trans s2
 have f1:=hs2 _ _ e1
 have l3:lds τ2 b 0 3=some [.int .i64 s.O,.int .i64 s.E,.int .i64 s.M]:=lds_three (ld_of f1 rfl) (ld_of f1 rfl) (ld_of f1 rfl)
 have lg:lds τ2 g 0 3=some [.int .i64 ci,.int .i64 co,.int .i64 cv]:=lds_three (ld_of e2 rfl) (ld_of e2 rfl) (ld_of e2 rfl)
 have hy:=((hv.sub s1).sub hs2).all hkk
 have hgkk:cs.getD kk cl0=gc cs kk:=rfl
 rw[hgkk] at hy
 by_cases hne:k=kk
 ·subst hne
  simp -implicitDefEqProofs(disch:=omega)only[Nat.reduceEqDiff,↓reduceIte,vcu,↓vcd,h1,h2,h3,h9,h10,h11,ne_eq,not_true_eq_false]
  refine⟨⟨trivial,trivial,trivial,trivial,trivial,trivial⟩,m - 1,by omega,k+1,by omega,by simp,hs2,fun j hj hjk=>hN j om9 hjk⟩
 ·have hnei:¬ ((k:Int)=(kk:Int)):=by omega
  simp -implicitDefEqProofs(disch:=omega)only[Nat.reduceEqDiff,↓reduceIte,vcu,↓vcd,h1,h2,h3,h9,h10,h11,ne_eq,hnei,not_false_eq_true,l3,lg,hy,co70,co29,Int.toNat_natCast]
  rw[r_callq]
  refine⟨_,collide_at τ2 s (gc cs kk) ⟨ci,co,cv⟩ hE hnkk hnk,?_⟩
  by_cases hH:Hit s (gc cs kk) ⟨ci,co,cv⟩
  ·rw[decide_eq_true hH]
   simp -implicitDefEqProofs(disch:=omega)only[Nat.reduceEqDiff,↓reduceIte,vcu,↓vcd,h1,h2,h3,h9,h10,h11]
   refine fin_drop Tryz.results145 σ (s1.trans hs2) ⟨rfl,k,?_,.inr ⟨k,rfl,hlt,hne,by rw[hcc];exact hH⟩⟩
   simp -implicitDefEqProofs(disch:=omega)only[Nat.reduceEqDiff,↓reduceIte,vcu,↓vcd]
  ·rw[decide_eq_false hH]
   simp -implicitDefEqProofs(disch:=omega)only[Nat.reduceEqDiff,↓reduceIte,vcu,↓vcd,h1,h2,h3,h9,h10,h11]
   refine⟨⟨trivial,trivial,trivial,trivial,trivial,trivial⟩,m - 1,by omega,k+1,by omega,by simp,hs2,fun j hj hjk=>?_⟩
   by_cases e:j=k
   ·subst e;rw[hcc];exact hH
   ·exact hN j om9 hjk
theorem half_nng {s:Sp} {cs:List Cl} {a b i o:Int} {ch:List Nat} (h:CV s cs) (hl:Lines s i o):∀k,k < (halfway s cs a b i o ch).length→Nng (gc (halfway s cs a b i o ch) k):=fun k hk=>by
 rw[halfway_length] at hk
 have hL:=h.1.lines
 by_cases e:k=cs.length
 ·subst e;rw[halfway_new];exact⟨⟨hl.1.1,by have:=hl.1.2;dsimp only;omega⟩,hl.2.1,by have:=hl.2.2;dsimp only;omega⟩
 ·have hkl:k < cs.length:=by omega
  have hn:=(h.2.1 _ (gc_mem hkl)).nng h.1
  rw[halfway_old hkl]
  split
  ·exact hn
  ·exact hn
theorem tris_via {cs:List Cl} {k:Nat} (hk:k < cs.length) (x:Int):(tris cs).set (k * 3+2) (.int .i64 x)=tris (cs.set k ⟨(gc cs k).i,(gc cs k).o,x⟩):=(tris_set cs k hk x).2.2
set_option maxRecDepth 8000 in
set_option maxHeartbeats 1600000 in
set_option maxRecDepth 8000 in
theorem implMove_at (σ:AHeap) (s:Sp) (h o:Nat) (cs:List Cl) (I O:Int) (hv:TrisAt σ h o cs) (hl:cs.length≤1048576) :
  ACall Tryz.prog w0 112 [.agg #[.int .i64 s.O,.int .i64 s.E,.int .i64 s.M],.slice (some ⟨h,o,none⟩) cs.length 3,.int .i64 I,.int .i64 O] σ fun r σ'=>∃v,r=.tuple #[v,.bool (decide (mvOk s cs I O))]∧Sub σ σ'∧OwnC σ σ' v (mvL s cs I O):=by
 refine acall_go mixed Tryz.func112 rfl good112 fun pr=>?_
 simp -implicitDefEqProofs(disch:=omega)only[Nat.reduceEqDiff,↓reduceIte,vcu,↓vcd]
 refine r_boxed fun b τ1 n1 s1 e1=>?_
 replace e1:τ1 b=some ⟨[.int .i64 s.O,.int .i64 s.E,.int .i64 s.M],false⟩:=e1
 refine r_boxed fun b1 τ2 n2 s2 e2=>?_
 replace e2:τ2 b1=some ⟨[.int .i64 I],false⟩:=e2
 refine r_boxed fun b2 τ n3 s3 e3=>?_
 replace e3:τ b2=some ⟨[.int .i64 O],false⟩:=e3
 have f1:=s3 _ _ (s2 _ _ e1)
 have f2:=s3 _ _ e2
 have s0:=s1.trans (s2.trans s3)
 clear n1 n2 n3 s1 s2 s3 e1 e2
 have m3:∀τ',Sub τ τ'→lds τ' b 0 3=some [.int .i64 s.O,.int .i64 s.E,.int .i64 s.M]:=fun τ' hs=>lds_three (ld_of (hs _ _ f1) rfl) (ld_of (hs _ _ f1) rfl) (ld_of (hs _ _ f1) rfl)
 have mI:∀τ',Sub τ τ'→ld τ' b1 0=some (.int .i64 I):=fun τ' hs=>ld_of (hs _ _ f2) rfl
 have mO:∀τ',Sub τ τ'→ld τ' b2 0=some (.int .i64 O):=fun τ' hs=>ld_of (hs _ _ e3) rfl
 have l3:=m3 τ (Sub.refl _)
 have li:=mI τ (Sub.refl _)
 have lo:=mO τ (Sub.refl _)
 simp -implicitDefEqProofs(disch:=omega)only[Nat.reduceEqDiff,↓reduceIte,vcu,↓vcd,l3,co29]
 refine (implEnough_at τ s.O s.E s.M).mono ?_
 rintro r _ ⟨rfl,rfl⟩
 rename_i τ
 by_cases hE:Enough s
 case neg =>
  rw[decide_eq_false hE,mvL_no fun hh=>hE hh.2,decide_eq_false fun hh:mvOk s cs I O=>hE hh.1.2]
  simp -implicitDefEqProofs(disch:=omega)only[Nat.reduceEqDiff,↓reduceIte,vcu,↓vcd,opK_some,Bool.not_false]
  refine fin_two Tryz.results112 ⟨.slice none 0 0,?_,s0,.inl ⟨rfl,rfl⟩⟩
  simp -implicitDefEqProofs(disch:=omega)only[Nat.reduceEqDiff,↓reduceIte,vcu,↓vcd]
 rw[decide_eq_true hE]
 simp -implicitDefEqProofs(disch:=omega)only[Nat.reduceEqDiff,↓reduceIte,vcu,↓vcd,opK_some,Bool.not_true,l3,co29]
 refine (implCV_at τ s.O s.E s.M h o cs (hv.sub s0) hl).mono ?_
 rintro r _ ⟨rfl,rfl⟩
 rename_i τ
 by_cases hC:CV s cs
 case neg =>
  rw[decide_eq_false hC,mvL_no fun hh=>hC hh.1,decide_eq_false fun hh:mvOk s cs I O=>hC hh.1.1]
  simp -implicitDefEqProofs(disch:=omega)only[Nat.reduceEqDiff,↓reduceIte,vcu,↓vcd,opK_some,Bool.not_false]
  refine fin_two Tryz.results112 ⟨.slice none 0 0,?_,s0,.inl ⟨rfl,rfl⟩⟩
  simp -implicitDefEqProofs(disch:=omega)only[Nat.reduceEqDiff,↓reduceIte,vcu,↓vcd]
 rw[decide_eq_true hC]
 have hS:=hC.1
 have hLn:=hS.lines
 have hEE:=hS.2.1
 have hMM:=hS.2.2
 have hl12:=hC.len
 simp -implicitDefEqProofs(disch:=omega)only[Nat.reduceEqDiff,↓reduceIte,vcu,↓vcd,opK_some,Bool.not_true,l3,li,lo,co29]
 refine (implPut_at τ s h o cs I O (hv.sub s0) hl).mono ?_
 rintro _ τ4 ⟨va,rfl,s4,wa⟩
 have l4:=m3 τ4 s4
 have li4:=mI τ4 s4
 have lo4:=mO τ4 s4
 cases hf:freeV s cs I O with
 | cons v0 vs =>
  obtain⟨q1,q2⟩:=putL_cons hC hf
  have hfree:Free s cs I O v0:=mem_freeV.1 (by rw[hf];simp)
  obtain⟨-,hLi,hB,-,-⟩:=hfree.lines
  have hok:mvOk s cs I O:=⟨⟨hC,hE⟩,hLi,hB⟩
  have hml:moveL s cs I O=cs++[⟨I,O,v0⟩]:=by unfold moveL;rw[hf]
  rw[q1] at wa
  rw[mvL_ok hok,decide_eq_true hok,hml,q2]
  simp -implicitDefEqProofs(disch:=omega)only[Nat.reduceEqDiff,↓reduceIte,vcu,↓vcd,opK_some,List.getElem?_toArray,List.getElem?_cons_zero,List.getElem?_cons_succ,Bool.not_true,Bool.not_false]
  refine fin_two Tryz.results112 ⟨va,?_,s0.trans s4,wa.older s0⟩
  simp -implicitDefEqProofs(disch:=omega)only[Nat.reduceEqDiff,↓reduceIte,vcu,↓vcd]
 | nil =>
  obtain⟨q1,q2⟩:=putL_nil hC hf
  rw[q1] at wa
  rw[q2]
  simp -implicitDefEqProofs(disch:=omega)only[Nat.reduceEqDiff,↓reduceIte,vcu,↓vcd,opK_some,List.getElem?_toArray,List.getElem?_cons_zero,List.getElem?_cons_succ,l4,li4,lo4,co29]
  refine (implIdle_at τ4 s h o cs I O (hv.sub (s0.trans s4)) hl hS).mono ?_
  rintro r _ ⟨rfl,rfl⟩
  rename_i τ4
  by_cases hid:Lines s I O∧¬ Busy cs I O
  case neg =>
   have hno:¬ mvOk s cs I O:=fun hh=>hid hh.2
   rw[decide_eq_false hid,mvL_same ⟨hC,hE⟩ hno,decide_eq_false hno]
   simp -implicitDefEqProofs(disch:=omega)only[Nat.reduceEqDiff,↓reduceIte,vcu,↓vcd,opK_some,Bool.not_false]
   refine fin_two Tryz.results112 ⟨va,?_,s0.trans s4,wa.older s0⟩
   simp -implicitDefEqProofs(disch:=omega)only[Nat.reduceEqDiff,↓reduceIte,vcu,↓vcd]
  obtain⟨hLi,hB⟩:=hid
  have hok:mvOk s cs I O:=⟨⟨hC,hE⟩,hLi,hB⟩
  rw[decide_eq_true (⟨hLi,hB⟩:Lines s I O∧¬ Busy cs I O),mvL_ok hok,decide_eq_true hok]
  have hwa:=wayA_ok hE hC hLi hB
  have hwb:=wayB_ok hE hC hLi hB
  have hne:=way_ne hE hC hLi hB hf
  have hfr:=way_free hE hC hLi hB
  have hml:moveL s cs I O=flip (wayA s cs I) (wayB s cs O) (chain s cs (wayA s cs I) (wayB s cs O) (O / s.E)) cs++[⟨I,O,wayA s cs I⟩]:=by unfold moveL;rw[hf]
  have hA0:firstN (usedI s cs (I / s.E)) s.M.toNat 0=wayA s cs I:=rfl
  have hB0:firstN (usedO s cs (O / s.E)) s.M.toNat 0=wayB s cs O:=rfl
  have hst:=inv_start hC hne hfr
  have hR:=hC.2.1
  have h0c:0 < cs.length:=by
   cases cs with
   | nil =>
    exfalso
    have:Free s [] I O 0:=(free_iff hC hLi hB ⟨by omega,by omega⟩).2 ⟨by simp [usedI],by simp [usedO]⟩
    have:=mem_freeV.2 this
    rw[hf] at this;cases this
   | cons c cs=>simp
  have hCC:go s cs (wayA s cs I) (wayB s cs O) cs.length [] true (O / s.E)=chain s cs (wayA s cs I) (wayB s cs O) (O / s.E):=rfl
  have hnn:=fun (ch:List Nat) (A B:Int)=>half_nng (a:=A) (b:=B) (ch:=ch) hC hLi
  have hI1:0≤I∧I≤1000:=⟨hLi.1.1,by have:=hLi.1.2;omega⟩
  have hO1:0≤O∧O≤1000:=⟨hLi.2.1,by have:=hLi.2.2;omega⟩
  rw[hml]
  clear hml hf hok q1 q2
  simp -implicitDefEqProofs(disch:=omega)only[Nat.reduceEqDiff,↓reduceIte,vcu,↓vcd,opK_some,Bool.not_true]
  refine (firstFn_at τ4 h o cs _ _ (fun c=>c.i / s.E=I / s.E) (usedI s cs (I / s.E)) s.M.toNat (hv.sub (s0.trans s4)) hl (fun c hc pw τ9 s9=>fromC_at τ9 b b1 s I c (s9 _ _ (s4 _ _ f1)) (s9 _ _ (s4 _ _ f2)) hEE.1 hI1 ((hR c hc).nng hS)) (fun v=>⟨fun⟨c,hc,e1,e2⟩=>mem_usedI.2 ⟨c,hc,e2,e1⟩,fun hm=>by obtain⟨c,hc,e1,e2⟩:=mem_usedI.1 hm;exact⟨c,hc,e2,e1⟩⟩) (by rw[hA0];exact hwa.1.1) om9).mono ?_
  rintro r _ ⟨rfl,rfl⟩
  rename_i τ4
  rw[hA0]
  simp -implicitDefEqProofs(disch:=omega)only[Nat.reduceEqDiff,↓reduceIte,vcu,↓vcd,opK_some]
  refine (firstFn_at τ4 h o cs _ _ (fun c=>c.o / s.E=O / s.E) (usedO s cs (O / s.E)) s.M.toNat (hv.sub (s0.trans s4)) hl (fun c hc pw τ9 s9=>toC_at τ9 b b2 s O c (s9 _ _ (s4 _ _ f1)) (s9 _ _ (s4 _ _ e3)) hEE.1 hO1 ((hR c hc).nng hS)) (fun v=>⟨fun⟨c,hc,e1,e2⟩=>mem_usedO.2 ⟨c,hc,e2,e1⟩,fun hm=>by obtain⟨c,hc,e1,e2⟩:=mem_usedO.1 hm;exact⟨c,hc,e2,e1⟩⟩) (by rw[hB0];exact hwb.1.1) om9).mono ?_
  rintro r _ ⟨rfl,rfl⟩
  rename_i τ4
  rw[hB0]
  clear hA0 hB0
  have hmt:=fun {ch sd x kk} (hi:Inv s cs (wayA s cs I) (wayB s cs O) (O / s.E) ch sd x) (hc:Cur s cs (wayA s cs I) (wayB s cs O) O ch sd x kk) {z:Int}=>meet_first hC hB hne hwa.2 hwb.2 hi hc (z:=z)
  have hcs:=fun {ch sd x k}=>cur_step (ch:=ch) (sd:=sd) (x:=x) (k:=k) hC hB hne hwa.2 hwb.2
  generalize chain s cs (wayA s cs I) (wayB s cs O) (O / s.E)=C at *
  generalize wayA s cs I=A at *
  generalize wayB s cs O=B at *
  obtain⟨gb,rfl,v4,nb⟩:=wa.row h0c
  clear wa
  simp -implicitDefEqProofs(disch:=omega)only[Nat.reduceEqDiff,↓reduceIte,vcu,↓vcd,opK_some,li4,lo4]
  rw[r_build]
  refine⟨(_,#[.int .i64 I,.int .i64 O,.int .i64 A]),⟨ze70,by simp -implicitDefEqProofs(disch:=omega)only[Nat.reduceEqDiff,↓reduceIte,vcu,↓vcd];kernel_rfl⟩,?_⟩
  simp -implicitDefEqProofs(disch:=omega)only[Nat.reduceEqDiff,↓reduceIte,vcu,↓vcd]
  refine r_lit el31 (out:=#[.int .i64 I,.int .i64 O,.int .i64 A]) (by first|kernel_rfl | (simp -implicitDefEqProofs(disch:=omega)only[Nat.reduceEqDiff,↓reduceIte,vcu,↓vcd];kernel_rfl)) (by rfl) fun eb τ6 n6 s6 v6=>?_
  replace v6:τ6 eb=some ⟨tris [⟨I,O,A⟩],false⟩:=v6
  refine r_pushC (g:=gb) (e:=eb) (o:=0) (cs:=cs) (ds:=[⟨I,O,A⟩]) (m:=1) (len:=cs.length) el31 om9 sl31 z9q (s6 _ _ v4) rfl z9q (trisAt_own v6) rfl om9 fun g τ7 n7 k7 v7=>?_
  rw[←halfway_nil s cs A B I O] at v7
  have s7:Sub τ τ7:=k7.sub (s4.trans s6) nb
  have ng:τ g=none:=free_sub (s4.trans s6) n7
  have l7:=m3 τ7 s7
  have hbg:b≠g:=ne_of' ng f1
  have hmeet0:=meeting_at (w0:=w0) τ7 s g 0 (halfway s cs A B I O []) cs.length (trisAt_own v7) (by rw[halfway_length];omega) hEE.1 (hnn [] A B) (by rw[halfway_length];omega)
  rw[halfway_length] at hmeet0
  clear v6 n6 s6 k7 n7 v4 nb s4 l4 li4 lo4
  simp -implicitDefEqProofs(disch:=omega)only[Nat.reduceEqDiff,↓reduceIte,vcu,↓vcd,l7,co29]
  refine hmeet0.mono ?_
  clear hmeet0
  rintro _ _ ⟨rfl,z0,rfl,hz0⟩
  rename_i τ7
  have hz:=hmt hst (.inl ⟨rfl,rfl,rfl,rfl⟩) hz0
  subst hz
  clear hz0
  simp -implicitDefEqProofs(disch:=omega)only[Nat.reduceEqDiff,↓reduceIte,vcu,↓vcd,opK_some]
  refine vc_loop_c mixed kr9 [1,4,10,12,13] (fun m a τ'=>∃(ch:List Nat) (sd:Bool) (x:Int),a 14=.int .i64 (nI (nxt s cs ch sd x (wantOf A B sd) cs.length))∧τ' g=some ⟨tris (halfway s cs A B I O ch),false⟩∧Kept g τ7 τ'∧Inv s cs A B (O / s.E) ch sd x∧cs.length≤ch.length+m∧go s cs A B m ch sd x=C) cs.length ⟨[],true,O / s.E,rfl,v7,Kept.refl _ _,hst,by simp,hCC⟩ ?_
  clear hCC hst v7 l7
  rintro m a τ8 hc ⟨ch,sd,x,h14,vg,hkp,hinv,hlen,hgo⟩
  simp -implicitDefEqProofs(disch:=omega)only[Nat.reduceEqDiff,↓reduceIte,vcu,↓vcd] at hc
  obtain⟨h1,h4,h10,h12,h13,-⟩:=hc
  have s8:Sub τ τ8:=hkp.sub s7 ng
  have l8:=m3 τ8 s8
  cases hn:nxt s cs ch sd x (wantOf A B sd) cs.length with
  | none =>
   rw[go_none hn] at hgo
   subst hgo
   rw[hn] at h14
   have e14:nI none=-1:=rfl
   rw[e14] at h14
   simp -implicitDefEqProofs(disch:=omega)only[Nat.reduceEqDiff,↓reduceIte,vcu,↓vcd,h1,h4,h10,h12,h13,h14]
   refine fin_two Tryz.results112 ⟨.slice (some ⟨g,0,none⟩) (cs.length+1) 3,?_,s0.trans s8,.inr ⟨g,by simp [flip_length],vg,free_sub s0 ng⟩⟩
   simp -implicitDefEqProofs(disch:=omega)only[Nat.reduceEqDiff,↓reduceIte,vcu,↓vcd,h10]
  | some k =>
   rw[hn] at h14
   have e14:nI (some k)=(k:Int):=rfl
   rw[e14] at h14
   have hroom:=hinv.room hn
   obtain⟨m',rfl⟩:∃m',m=m'+1:=⟨m - 1,by omega⟩
   rw[go_some hn] at hgo
   have hinv':=Inv.step hC hne hfr hinv hn
   obtain⟨hkl,⟨-,hkv⟩,hkm⟩:=nxt_some hn
   obtain⟨st1,st2⟩:=halfway_step (a:=A) (b:=B) (s:=s) (i:=I) (o:=O) hkl hkm
   obtain⟨-,-,x3⟩:=trisAt_own vg k (by rw[halfway_length];omega)
   have hgk:(halfway s cs A B I O ch).getD k cl0=gc (halfway s cs A B I O ch) k:=rfl
   rw[hgk,st2,Nat.zero_add] at x3
   have hvb:0≤(gc cs k).v∧(gc cs k).v≤s.M - 1:=(hR _ (gc_mem hkl)).2.2
   have htv:=tris_via (cs:=halfway s cs A B I O ch) (k:=k) (by rw[halfway_length];omega) (A+B - (gc cs k).v)
   rw[st2,st1] at htv
   have hA1:=hwa.1
   have hB1:=hwb.1
   simp -implicitDefEqProofs(disch:=omega)only[Nat.reduceEqDiff,↓reduceIte,vcu,↓vcd,h1,h4,h10,h12,h13,h14,x3,Int.toNat_natCast,Nat.zero_add]
   refine r_set (g:=g) (i:=k * 3+2) (by simp -implicitDefEqProofs(disch:=omega)only[Nat.reduceEqDiff,↓reduceIte,vcu,↓vcd,Nat.zero_add,Int.toNat_natCast]) z9r co3 z9r vg (by rw[tris_length,halfway_length];omega) fun τ9 k9 e9=>?_
   simp -implicitDefEqProofs(disch:=omega)only[Nat.reduceEqDiff,↓reduceIte,vcu,↓vcd] at e9
   rw[htv] at e9
   have hkp9:=hkp.trans k9
   have s9:Sub τ τ9:=hkp9.sub s7 ng
   have l9:=m3 τ9 s9
   have hmeet:=meeting_at (w0:=w0) τ9 s g 0 (halfway s cs A B I O (ch++[k])) k (trisAt_own e9) (by rw[halfway_length];omega) hEE.1 (hnn _ A B) (by rw[halfway_length];omega)
   rw[halfway_length] at hmeet
   simp -implicitDefEqProofs(disch:=omega)only[Nat.reduceEqDiff,↓reduceIte,vcu,↓vcd,h1,h4,h10,h12,h13,h14,l9,co29]
   refine hmeet.mono ?_
   clear hmeet
   rintro _ _ ⟨rfl,z1,rfl,hz1⟩
   rename_i τ9
   have hz:=hmt hinv' (hcs hn) hz1
   subst hz
   simp -implicitDefEqProofs(disch:=omega)only[Nat.reduceEqDiff,↓reduceIte,vcu,↓vcd,opK_some,h1,h4,h10,h12,h13]
   exact⟨⟨trivial,trivial,trivial,trivial,trivial,trivial⟩,m',by omega,ch++[k],!sd,_,rfl,e9,hkp9,hinv',by simp;omega,hgo⟩
theorem tris_take (L:List Cl) (i:Nat):(tris L).take (i * 3)=tris (L.take i):=by
 induction L generalizing i with
 | nil=>simp [tris]
 | cons c L ih =>
  cases i with
  | zero=>simp [tris]
  | succ i=>rw[tris_cons,List.take_succ_cons,tris_cons,show (i+1) * 3=i * 3+1+1+1 by omega,List.take_succ_cons,List.take_succ_cons,List.take_succ_cons,ih]
theorem dropL_all {cs:List Cl} {I:Int} (h:∀c∈cs,¬ c.i=I):dropL cs I=cs:=dropL_no h
set_option maxRecDepth 8000 in
theorem delFn_at (σ:AHeap) (g b:Nat) (I:Int) (cs:List Cl) (hg:σ g=some ⟨tris cs,false⟩) (hb:σ b=some ⟨[.int .i64 I],false⟩) (hgb:b≠g) (hl:cs.length≤1000) :
  ACall Tryz.prog w0 146 [.slice (some ⟨g,0,none⟩) cs.length 3,.func (.func 147) #[] #[.pointer (some ⟨b,0,none⟩)]] σ fun r σ' =>
   r=.slice (some ⟨g,0,none⟩) (dropL cs I).length 3∧Kept g σ σ'∧∃C,σ' g=some ⟨tris (dropL cs I)++C,false⟩:=by
 refine acall_go mixed Tryz.func146 rfl good146 fun pr=>?_
 simp -implicitDefEqProofs(disch:=omega)only[Nat.reduceEqDiff,↓reduceIte,vcu,↓vcd]
 refine (indexFn_at σ g 0 cs _ _ (fun c=>c.i=I) (trisAt_own hg) om9 fun c _ pw=>dropC_at σ b I c hb).mono ?_
 rintro r _ ⟨rfl,⟨rfl,hall⟩ |⟨k,rfl,hk,hnk,hup⟩⟩
 ·simp -implicitDefEqProofs(disch:=omega)only[Nat.reduceEqDiff,↓reduceIte,vcu,↓vcd,opK_some]
  refine fin_one Tryz.results146 ⟨?_,Kept.refl _ _,[],?_⟩
  ·simp -implicitDefEqProofs(disch:=omega)only[Nat.reduceEqDiff,↓reduceIte,vcu,↓vcd]
   rw[dropL_all hall]
  ·rw[dropL_all hall,List.append_nil];exact hg
 ·rename_i σ
  have hk0:(dropL (cs.take (k+1)) I)=cs.take k:=by
   rw[dropL_take _ _ hk,dropL_all hup,if_pos hnk,List.append_nil]
  simp -implicitDefEqProofs(disch:=omega)only[Nat.reduceEqDiff,↓reduceIte,vcu,↓vcd,opK_some]
  refine vc_loop_c mixed kr9 [0,1] (fun m a τ=>∃(j i:Nat) (L:List Cl),m+j=cs.length∧a 6=.int .i64 j∧a 5=.int .i64 i∧i < j∧j≤cs.length∧L.length=cs.length∧L.take i=dropL (cs.take j) I∧L.drop j=cs.drop j∧Kept g σ τ∧τ g=some ⟨tris L,false⟩)
   (cs.length - (k+1)) ⟨k+1,k,cs,by omega,rfl,rfl,by omega,by omega,rfl,hk0.symm,rfl,Kept.refl _ _,hg⟩ ?_
  rintro m a τ hc ⟨j,i,L,hj,h6,h5,hij,hjl,hL,hLt,hLd,hkp,hgL⟩
  simp -implicitDefEqProofs(disch:=omega)only[Nat.reduceEqDiff,↓reduceIte,vcu,↓vcd] at hc
  obtain⟨h0,h1,-⟩:=hc
  have hbτ:=hkp.at hb hgb
  by_cases hlt:j < cs.length
  ·have hLj:L.getD j cl0=gc cs j:=by
    have e1:(L.drop j)[0]?=(cs.drop j)[0]?:=by rw[hLd]
    rw[List.getElem?_drop,List.getElem?_drop,Nat.add_zero] at e1
    simp only[gc,List.getD,e1]
   have hx:=(trisAt_own hgL).all (show j < L.length by omega)
   rw[hLj,Nat.zero_add] at hx
   have hkj:=dropL_take cs I hlt
   generalize gc cs j=c at hx hkj
   obtain⟨A,B,C⟩:=c
   dsimp only at hx hkj
   simp -implicitDefEqProofs(disch:=omega)only[Nat.reduceEqDiff,↓reduceIte,vcu,↓vcd,h0,h1,h5,h6,hx,co70,Nat.zero_add]
   refine r_local (cs:=#[.int .i64 A,.int .i64 B,.int .i64 C]) ze70 (by decide) z9q (by rw[co70];rfl) rfl rfl (Nat.zero_lt_succ _) fun q τ2 nq sq eq=>?_
   have hl3:lds τ2 q 0 3=some [.int .i64 A,.int .i64 B,.int .i64 C]:=lds_three (ld_of eq rfl) (ld_of eq rfl) (ld_of eq rfl)
   have hqg:q≠g:=ne_of nq hgL
   simp -implicitDefEqProofs(disch:=omega)only[Nat.reduceEqDiff,↓reduceIte,vcu,↓vcd,h0,h1,h5,h6,hl3,co70]
   refine r_callv ⟨(147,#[.pointer (some ⟨b,0,none⟩)]),by simp -implicitDefEqProofs(disch:=omega)only[Nat.reduceEqDiff,↓reduceIte,vcu,↓vcd,h1],?_⟩
   simp -implicitDefEqProofs(disch:=omega)only[Nat.reduceEqDiff,↓reduceIte,vcu,↓vcd]
   refine (dropC_at τ2 b I ⟨A,B,C⟩ (sq _ _ hbτ)).mono ?_
   rintro r _ ⟨rfl,rfl⟩
   rename_i τ2
   by_cases hB:A=I
   ·rw[decide_eq_true hB]
    rw[if_pos hB,List.append_nil] at hkj
    simp -implicitDefEqProofs(disch:=omega)only[Nat.reduceEqDiff,↓reduceIte,vcu,↓vcd,opK_some,h0,h1,h5,h6]
    refine⟨⟨trivial,trivial,trivial⟩,m - 1,by omega,j+1,i,L,by omega,by simp,by simp,by omega,by omega,hL,by rw[hkj];exact hLt,?_,hkp.trans sq.kept,sq _ _ hgL⟩
    rw[←List.drop_drop,←List.drop_drop,hLd]
   ·rw[decide_eq_false hB]
    rw[if_neg hB] at hkj
    simp -implicitDefEqProofs(disch:=omega)only[Nat.reduceEqDiff,↓reduceIte,vcu,↓vcd,opK_some,h0,h1,h5,h6,hl3,co70]
    refine r_sets (g:=g) (i:=i * 3) (C:=tris L) (by simp -implicitDefEqProofs(disch:=omega)only[Nat.reduceEqDiff,↓reduceIte,vcu,↓vcd,Nat.zero_add]) z9co70 z9r z9z (sq _ _ hgL) (by simp -implicitDefEqProofs(disch:=omega)only[Nat.reduceEqDiff,↓reduceIte,vcu,↓vcd];rw[tris_length];show i * 3+3≤_;omega) fun τ3 k3 e3=>?_
    replace e3:τ3 g=some ⟨lwrite (tris L) (i * 3) [.int .i64 A,.int .i64 B,.int .i64 C],false⟩:=by rw[e3];simp -implicitDefEqProofs(disch:=omega)only[Nat.reduceEqDiff,↓reduceIte,vcu,↓vcd];rfl
    have hwr:=tris_write L i om9 ⟨A,B,C⟩
    dsimp only at hwr
    rw[hwr] at e3
    simp -implicitDefEqProofs(disch:=omega)only[Nat.reduceEqDiff,↓reduceIte,vcu,↓vcd,h0,h1,h5,h6]
    refine⟨⟨trivial,trivial,trivial⟩,m - 1,by omega,j+1,i+1,L.set i ⟨A,B,C⟩,by omega,by simp,by simp,by omega,by omega,by rw[List.length_set];exact hL,?_,?_,(hkp.trans sq.kept).trans k3,e3⟩
    ·rw[hkj,←hLt,List.take_succ_eq_append_getElem (by rw[List.length_set];omega),List.take_set_of_le (Nat.le_refl _)]
     simp
    ·rw[List.drop_set_of_lt om9,←List.drop_drop,←List.drop_drop,hLd]
  ·have e:j=cs.length:=by omega
   subst e
   rw[List.take_length] at hLt
   have hil:(dropL cs I).length=i:=by rw[←hLt,List.length_take];omega
   simp -implicitDefEqProofs(disch:=omega)only[Nat.reduceEqDiff,↓reduceIte,vcu,↓vcd,h0,h1,h5,h6]
   have hst:sts τ g (0+i * 3) (azeros (.agg #[.int .i64 0,.int .i64 0,.int .i64 0]) ((cs.length - i) * 3))=some (τ.upd g (some ⟨lwrite (tris L) (0+i * 3) (tris (List.replicate (cs.length - i) cl0)),false⟩)):=by
    rw[azeros_tris]
    unfold sts
    rw[hgL]
    simp only[Option.bind_some]
    rw[if_pos ⟨trivial,by rw[tris_length,tris_length,List.length_replicate];omega,by rw[tris_length,List.length_replicate];omega⟩]
   have hall:(azeros (.agg #[.int .i64 0,.int .i64 0,.int .i64 0]) ((cs.length - i) * 3)).all Value.oneCell'=true:=by rw[azeros_tris];exact tris_one _
   refine r_clear_at (e:=70) (i:=Tryz.t70) (z:=.agg #[.int .i64 0,.int .i64 0,.int .i64 0]) (h:=g) (b:=0+i * 3) (len:=cs.length - i) Tryz.underlying31 rfl rfl (by simp -implicitDefEqProofs(disch:=omega)only[Nat.reduceEqDiff,↓reduceIte,vcu,↓vcd,Int.toNat_natCast];rfl) (.inr ⟨hall,hst⟩) ?_
   simp -implicitDefEqProofs(disch:=omega)only[Nat.reduceEqDiff,↓reduceIte,vcu,↓vcd,h0,h5]
   refine fin_one Tryz.results146 ⟨?_,fun x ob hx e=>?_,tris (List.replicate (cs.length - i) cl0)++(tris L).drop (i * 3+(tris (List.replicate (cs.length - i) cl0)).length),?_⟩
   ·simp -implicitDefEqProofs(disch:=omega)only[Nat.reduceEqDiff,↓reduceIte,vcu,↓vcd,Int.toNat_natCast]
    rw[hil]
   ·rw[AHeap.upd_ne _ _ hx];exact hkp x ob hx e
   ·rw[AHeap.upd_same,Nat.zero_add]
    unfold lwrite
    rw[tris_take,hLt,List.append_assoc]
theorem delFn_calls (β σ:AHeap) (v:Value) (b:Nat) (I:Int) (cs:List Cl) (hs:Sub β σ) (hv:OwnC β σ v cs) (hb:β b=some ⟨[.int .i64 I],false⟩) (hl:cs.length≤1000) :
  ACall Tryz.prog w0 146 [v,.func (.func 147) #[] #[.pointer (some ⟨b,0,none⟩)]] σ fun r σ'=>Sub β σ'∧OwnC β σ' r (dropL cs I):=by
 have hbσ:=hs _ _ hb
 rcases hv with ⟨rfl,rfl⟩ |⟨g,rfl,hg,hn⟩
 ·refine ACall.nil_arg (pre:=[]) (z:=3) kr9 fun g hg=>?_
  have hbg:b≠g:=ne_of' hg hbσ
  refine (delFn_at _ g b I [] (AHeap.upd_same _ _ _) (by rw[AHeap.upd_ne _ _ hbg];exact hbσ) hbg (by simp)).shrink ?_
  rintro r σ' ⟨rfl,hk,C,hC⟩
  refine⟨g,_,C,hC,fun x ob e=>?_,.inr ⟨g,rfl,AHeap.upd_same _ _ _,free_sub hs hg⟩⟩
  have hx:x≠g:=by rintro rfl;rw[hs _ _ e] at hg;cases hg
  rw[AHeap.upd_ne _ _ hx]
  exact hk x ob hx (by rw[AHeap.upd_ne _ _ hx];exact hs _ _ e)
 ·have hbg:b≠g:=ne_of' hn hb
  refine (delFn_at σ g b I cs hg hbσ hbg hl).shrink ?_
  rintro r σ' ⟨rfl,hk,C,hC⟩
  refine⟨g,_,C,hC,fun x ob e=>?_,.inr ⟨g,rfl,AHeap.upd_same _ _ _,hn⟩⟩
  have hx:x≠g:=by rintro rfl;rw[e] at hn;cases hn
  rw[AHeap.upd_ne _ _ hx]
  exact hk x ob hx (hs _ _ e)
set_option maxRecDepth 8000 in
theorem implDrop_at (σ:AHeap) (s:Sp) (h o:Nat) (cs:List Cl) (I:Int) (hv:TrisAt σ h o cs) (hl:cs.length≤1048576) :
  ACall Tryz.prog w0 114 [.agg #[.int .i64 s.O,.int .i64 s.E,.int .i64 s.M],.slice (some ⟨h,o,none⟩) cs.length 3,.int .i64 I] σ fun r σ'=>∃v,r=.tuple #[v,.bool (dropOk s cs I)]∧Sub σ σ'∧OwnC σ σ' v (drL s cs I):=by
 refine acall_go mixed Tryz.func114 rfl good114 fun pr=>?_
 simp -implicitDefEqProofs(disch:=omega)only[Nat.reduceEqDiff,↓reduceIte,vcu,↓vcd]
 refine r_boxed fun b τ0 nb s0 e0=>?_
 replace e0:τ0 b=some ⟨[.int .i64 s.O,.int .i64 s.E,.int .i64 s.M],false⟩:=e0
 refine r_boxed fun b2 τ nb2 s2 e2=>?_
 replace e2:τ b2=some ⟨[.int .i64 I],false⟩:=e2
 have e1:=s2 _ _ e0
 have s1:=s0.trans s2
 have l3:lds τ b 0 3=some [.int .i64 s.O,.int .i64 s.E,.int .i64 s.M]:=lds_three (ld_of e1 rfl) (ld_of e1 rfl) (ld_of e1 rfl)
 simp -implicitDefEqProofs(disch:=omega)only[Nat.reduceEqDiff,↓reduceIte,vcu,↓vcd,l3,co29]
 refine (implCV_at τ s.O s.E s.M h o cs (hv.sub s1) hl).mono ?_
 rintro r _ ⟨rfl,rfl⟩
 rename_i τ
 by_cases hC:CV s cs
 case neg =>
  obtain⟨q1,q2⟩:=drL_no (i:=I) hC
  rw[decide_eq_false hC,q1,q2]
  simp -implicitDefEqProofs(disch:=omega)only[Nat.reduceEqDiff,↓reduceIte,vcu,↓vcd,opK_some,Bool.not_false]
  refine fin_two Tryz.results114 ⟨.slice none 0 0,?_,s1,.inl ⟨rfl,rfl⟩⟩
  simp -implicitDefEqProofs(disch:=omega)only[Nat.reduceEqDiff,↓reduceIte,vcu,↓vcd]
 rw[decide_eq_true hC]
 obtain⟨q1,q2⟩:=drL_ok (i:=I) hC
 rw[q1,q2]
 have hl12:=hC.len
 simp -implicitDefEqProofs(disch:=omega)only[Nat.reduceEqDiff,↓reduceIte,vcu,↓vcd,opK_some,Bool.not_true]
 refine (cloneC_at τ h o cs (hv.sub s1) hl).mono ?_
 rintro va τ4 ⟨hs4,wa⟩
 simp -implicitDefEqProofs(disch:=omega)only[Nat.reduceEqDiff,↓reduceIte,vcu,↓vcd,opK_some]
 refine (delFn_calls τ τ4 va b2 I cs hs4 wa e2 om9).mono ?_
 rintro vd τ5 ⟨s5,wd⟩
 have hld:=ownC_lenD wd
 simp -implicitDefEqProofs(disch:=omega)only[Nat.reduceEqDiff,↓reduceIte,vcu,↓vcd,opK_some,hld]
 refine fin_two Tryz.results114 ⟨vd,?_,s1.trans s5,wd.older s1⟩
 simp -implicitDefEqProofs(disch:=omega)only[Nat.reduceEqDiff,↓reduceIte,vcu,↓vcd]
 simp
end Go.Proofs.YtofdnmlpfagibaaGreatDoor
namespace Go.Proofs.YtofdnmlpfagibaaGreatDoor
open Go Go.Abs Go.RowKit Go.Dial Go.Clos
variable {w0:World}
theorem implCV8_calls (σ:AHeap) (O E M:Int) (v:Value) (cs:List Cl) (hv:Tris σ v cs) (hl:cs.length≤1048576) :
  ACall Tryz.prog w0 63 [.agg #[.int .i64 O,.int .i64 E,.int .i64 M],v] σ fun r σ'=>r=.bool (decide (CV ⟨O,E,M⟩ cs))∧σ'=σ :=
 ACall.tris_quiet (pre:=[_]) (post:=[]) kr9 hv fun σ1 h o _ hg=>implCV_at σ1 O E M h o cs hg hl
theorem implMove8_calls (σ:AHeap) (s:Sp) (v:Value) (cs:List Cl) (I O:Int) (hv:Tris σ v cs) (hl:cs.length≤1048576) :
  ACall Tryz.prog w0 112 [.agg #[.int .i64 s.O,.int .i64 s.E,.int .i64 s.M],v,.int .i64 I,.int .i64 O] σ fun r σ'=>∃v,r=.tuple #[v,.bool (decide (mvOk s cs I O))]∧Sub σ σ'∧OwnC σ σ' v (mvL s cs I O) :=
 ACall.tris_arg (pre:=[_]) (post:=[_,_]) kr9 hv fun σ1 h o hs hg=>(implMove_at σ1 s h o cs I O hg hl).mono fun _ _ ⟨v,e,q,O⟩=>⟨v,e,hs.trans q,O.older hs⟩
theorem implDrop8_calls (σ:AHeap) (s:Sp) (v:Value) (cs:List Cl) (I:Int) (hv:Tris σ v cs) (hl:cs.length≤1048576) :
  ACall Tryz.prog w0 114 [.agg #[.int .i64 s.O,.int .i64 s.E,.int .i64 s.M],v,.int .i64 I] σ fun r σ'=>∃v,r=.tuple #[v,.bool (dropOk s cs I)]∧Sub σ σ'∧OwnC σ σ' v (drL s cs I) :=
 ACall.tris_arg (pre:=[_]) (post:=[_]) kr9 hv fun σ1 h o hs hg=>(implDrop_at σ1 s h o cs I hg hl).mono fun _ _ ⟨v,e,q,O⟩=>⟨v,e,hs.trans q,O.older hs⟩
theorem cloneC8_calls (σ:AHeap) (v:Value) (cs:List Cl) (hv:Tris σ v cs) (hl:cs.length≤1048576) :
  ACall Tryz.prog w0 78 [v] σ fun r σ'=>Sub σ σ'∧OwnC σ σ' r cs :=
 ACall.tris_arg (pre:=[]) (post:=[]) kr9 hv fun σ1 h o hs hg=>(cloneC_at σ1 h o cs hg hl).mono fun _ _ ⟨q,O⟩=>⟨hs.trans q,O.older hs⟩
set_option maxRecDepth 8000 in
theorem cloneX_at (σ:AHeap) (h o:Nat) (xs:List (List UInt8)) (hv:TextsAt σ h o xs) (hl:xs.length≤1048576) :
  ACall Tryz.prog w0 79 [.slice (some ⟨h,o,none⟩) xs.length 1] σ fun r σ'=>Sub σ σ'∧OwnS σ σ' r xs:=by
 refine acall_go mixed Tryz.func79 rfl good79 fun pr=>?_
 simp -implicitDefEqProofs(disch:=omega)only[Nat.reduceEqDiff,↓reduceIte,vcu,↓vcd]
 refine r_nilEq (b:=some ⟨h,o,none⟩) (l:=xs.length) (z:=1) Tryz.underlying30 z9q fun c _ h2=>?_
 cases c with
 | true =>
  simp -implicitDefEqProofs(disch:=omega)only[Nat.reduceEqDiff,↓reduceIte,vcu,↓vcd]
  have:xs=[]:=by
   cases xs with
   | nil=>rfl
   | cons x xs=>have:=h2 (by simp);cases this
  subst this
  refine fin_one Tryz.results79 ⟨Sub.refl _,.inl ⟨?_,rfl⟩⟩
  simp -implicitDefEqProofs(disch:=omega)only[Nat.reduceEqDiff,↓reduceIte,vcu,↓vcd]
 | false =>
  simp -implicitDefEqProofs(disch:=omega)only[Nat.reduceEqDiff,↓reduceIte,vcu,↓vcd]
  refine r_lit el30 (out:=#[]) kr9 kr9 fun e1 τ1 n1 s1 v1=>?_
  simp -implicitDefEqProofs(disch:=omega)only[Nat.reduceEqDiff,↓reduceIte,vcu,↓vcd]
  refine r_pushX (g:=e1) (e:=h) (o:=o) (xs:=[]) (ys:=xs) (m:=xs.length) (len:=0) el30 om9 sl30 z9q v1 rfl z9q (fun i hi=>by simpa [ld,s1 _ _] using ld_sub s1 (hv i hi)) rfl om9 fun g τ2 n2 k2 v2=>?_
  rw[List.nil_append] at v2
  simp -implicitDefEqProofs(disch:=omega)only[Nat.reduceEqDiff,↓reduceIte,vcu,↓vcd,Nat.zero_add]
  refine fin_one Tryz.results79 ⟨k2.sub s1 n1,.inr ⟨g,?_,v2,free_sub s1 n2⟩⟩
  simp -implicitDefEqProofs(disch:=omega)only[Nat.reduceEqDiff,↓reduceIte,vcu,↓vcd]
theorem cloneX8_calls (σ:AHeap) (v:Value) (xs:List (List UInt8)) (hv:Texts σ v xs) (hl:xs.length≤1048576) :
  ACall Tryz.prog w0 79 [v] σ fun r σ'=>Sub σ σ'∧OwnS σ σ' r xs :=
 ACall.texts_arg (pre:=[]) (post:=[]) kr9 hv fun σ1 h o hs hg=>(cloneX_at σ1 h o xs hg hl).mono fun _ _ ⟨q,O⟩=>⟨hs.trans q,O.older hs⟩
theorem hasC8_calls (σ:AHeap) (v:Value) (cs:List Cl) (gf:Nat) (caps:Array Value) (P:Cl→Prop) [DecidablePred P] (hv:Tris σ v cs) (hl:cs.length≤1048576)
  (hcl:∀σ1,Sub σ σ1→∀c∈cs,∀pw,ACall Tryz.prog pw gf (.agg #[.int .i64 c.i,.int .i64 c.o,.int .i64 c.v] :: caps.toList) σ1 fun r σ'=>r=.bool (decide (P c))∧σ'=σ1) :
  ACall Tryz.prog w0 64 [v,.func (.func gf) #[] caps] σ fun r σ'=>r=.bool (decide (∃c∈cs,P c))∧σ'=σ :=
 ACall.tris_quiet (pre:=[]) (post:=[_]) kr9 hv fun σ1 h o hs hg=>hasFn_at σ1 h o cs gf caps P hg hl (hcl σ1 hs)
def fstC (P:Cl→Prop) [DecidablePred P] (cs:List Cl):Int:=if cs.findIdx (fun c=>decide (P c)) < cs.length then (cs.findIdx (fun c=>decide (P c)):Nat) else -1
theorem fstC_spec (P:Cl→Prop) [DecidablePred P] (cs:List Cl):(fstC P cs=-1∧∀c∈cs,¬ P c)∨∃k:Nat,fstC P cs=k∧k < cs.length∧P (gc cs k)∧∀c∈cs.take k,¬ P c:=by
 unfold fstC
 by_cases h:cs.findIdx (fun c=>decide (P c)) < cs.length
 ·rw[if_pos h]
  refine .inr ⟨_,rfl,h,?_,fun c hc hP=>?_⟩
  ·have:=List.findIdx_getElem (p:=fun c=>decide (P c)) (w:=h)
   have e:gc cs (cs.findIdx fun c=>decide (P c))=cs[cs.findIdx fun c=>decide (P c)]:=by simp [gc,List.getD,h]
   rw[e];simpa using this
  ·obtain⟨i,hi,rfl⟩:=List.mem_iff_getElem.1 hc
   simp only[List.length_take] at hi
   rw[List.getElem_take] at hP
   have:=List.not_of_lt_findIdx (p:=fun c=>decide (P c)) (xs:=cs) (i:=i) om9
   simp at this
   exact this hP
 ·rw[if_neg h]
  refine .inl ⟨rfl,fun c hc hP=>h ?_⟩
  exact List.findIdx_lt_length_of_exists ⟨c,hc,by simpa using hP⟩
theorem indexC8_calls (σ:AHeap) (v:Value) (cs:List Cl) (gf:Nat) (caps:Array Value) (P:Cl→Prop) [DecidablePred P] (hv:Tris σ v cs) (hl:cs.length≤1048576)
  (hcl:∀σ1,Sub σ σ1→∀c∈cs,∀pw,ACall Tryz.prog pw gf (.agg #[.int .i64 c.i,.int .i64 c.o,.int .i64 c.v] :: caps.toList) σ1 fun r σ'=>r=.bool (decide (P c))∧σ'=σ1) :
  ACall Tryz.prog w0 100 [v,.func (.func gf) #[] caps] σ fun r σ'=>r=.int .i64 (fstC P cs)∧σ'=σ :=
 ACall.tris_quiet (pre:=[]) (post:=[_]) kr9 hv fun σ1 h o hs hg=>(indexFn_at σ1 h o cs gf caps P hg hl (hcl σ1 hs)).mono fun r σ' ⟨e,hr⟩=>by
  subst e
  refine⟨?_,rfl⟩
  rcases hr with ⟨rfl,h1⟩ |⟨k,rfl,h2,h3,h4⟩
  ·rcases fstC_spec P cs with ⟨e,_⟩ |⟨k,_,q1,q2,_⟩
   ·rw[e]
   ·exact absurd q2 (h1 _ (gc_mem q1))
  ·rcases fstC_spec P cs with ⟨_,e⟩ |⟨j,e,q1,q2,q3⟩
   ·exact absurd h3 (e _ (gc_mem h2))
   ·rw[e]
    rcases Nat.lt_trichotomy j k with hjk|rfl|hjk
    ·exact absurd q2 (h4 _ (List.mem_take_iff_getElem.2 ⟨j,by omega,by simp [gc,List.getD,q1]⟩))
    ·rfl
    ·exact absurd h3 (q3 _ (List.mem_take_iff_getElem.2 ⟨k,by omega,by simp [gc,List.getD,h2]⟩))
set_option maxRecDepth 8000 in
theorem exValC_at (σ:AHeap) (b:Nat) (c d:Cl) (hb:σ b=some ⟨[.int .i64 c.i,.int .i64 c.o,.int .i64 c.v],false⟩) :
  ACall Tryz.prog w0 65 [.agg #[.int .i64 d.i,.int .i64 d.o,.int .i64 d.v],.pointer (some ⟨b,0,none⟩)] σ fun r σ'=>r=.bool (decide (d.o=c.i))∧σ'=σ:=by
 refine acall_go mixed Tryz.func65 rfl good65 fun pr=>?_
 simp -implicitDefEqProofs(disch:=omega)only[Nat.reduceEqDiff,↓reduceIte,vcu,↓vcd]
 refine r_boxed fun g τ n1 s1 e1=>?_
 replace e1:τ g=some ⟨[.int .i64 d.i,.int .i64 d.o,.int .i64 d.v],false⟩:=e1
 have l1:ld τ g (0+1)=some (.int .i64 d.o):=ld_of e1 rfl
 have l2:ld τ b (0+0)=some (.int .i64 c.i):=ld_of (s1 _ _ hb) rfl
 simp -implicitDefEqProofs(disch:=omega)only[Nat.reduceEqDiff,↓reduceIte,vcu,↓vcd,l1,l2,co70]
 refine fin_drop Tryz.results65 σ s1 ⟨?_,rfl⟩
 simp -implicitDefEqProofs(disch:=omega)only[Nat.reduceEqDiff,↓reduceIte,vcu,↓vcd]
set_option maxRecDepth 8000 in
theorem implEV_calls (σ:AHeap) (v:Value) (e:Ex) (hv:ExV σ v e) (hb:ExB e):ACall Tryz.prog w0 21 [v] σ fun r σ'=>r=.bool (decide (ExOk e))∧σ'=σ:=by
 obtain⟨⟨O,E,M⟩,ps,cs⟩:=e
 obtain⟨v1,v2,rfl,t1,t2⟩:=hv
 obtain⟨b1,b2,b3⟩:=hb
 dsimp only at t1 t2 b1 b2 b3
 unfold exV
 refine acall_go mixed Tryz.func21 rfl good21 fun pr=>?_
 simp -implicitDefEqProofs(disch:=omega)only[Nat.reduceEqDiff,↓reduceIte,vcu,↓vcd]
 refine r_boxed fun b τ nb s1 e1=>?_
 replace e1:τ b=some ⟨[.int .i64 O,.int .i64 E,.int .i64 M,v1,v2],false⟩:=e1
 have x0:lds τ b 0 3=some [.int .i64 O,.int .i64 E,.int .i64 M]:=lds_three (ld_of e1 rfl) (ld_of e1 rfl) (ld_of e1 rfl)
 have y0:ld τ b (0+0)=some (.int .i64 O):=ld_of e1 rfl
 have y1:ld τ b (0+1)=some (.int .i64 E):=ld_of e1 rfl
 have x3:ld τ b (0+3)=some v1:=ld_of e1 rfl
 have x4:ld τ b (0+4)=some v2:=ld_of e1 rfl
 have l1:=lenT (t1.sub s1)
 have l2:=lenC (t2.sub s1)
 simp -implicitDefEqProofs(disch:=omega)only[Nat.reduceEqDiff,↓reduceIte,vcu,↓vcd,x0,co29,Nat.add_zero]
 refine (implEnough_at τ O E M).mono ?_
 rintro _ _ ⟨rfl,rfl⟩
 rename_i τ
 by_cases hE:Enough ⟨O,E,M⟩
 case neg =>
  rw[decide_eq_false hE]
  simp -implicitDefEqProofs(disch:=omega)only[Nat.reduceEqDiff,↓reduceIte,vcu,↓vcd,opK_some,Bool.not_false]
  refine fin_drop Tryz.results21 σ s1 ⟨?_,rfl⟩
  simp -implicitDefEqProofs(disch:=omega)only[Nat.reduceEqDiff,↓reduceIte,vcu,↓vcd]
  rw[decide_eq_false fun h=>hE h.1]
 rw[decide_eq_true hE]
 simp -implicitDefEqProofs(disch:=omega)only[Nat.reduceEqDiff,↓reduceIte,vcu,↓vcd,opK_some,Bool.not_true,x3]
 refine (implPV_calls τ v1 ps (t1.sub s1) b1 b2).mono ?_
 rintro _ _ ⟨rfl,rfl⟩
 rename_i τ
 by_cases hP:PlanOk ps
 case neg =>
  rw[decide_eq_false hP]
  simp -implicitDefEqProofs(disch:=omega)only[Nat.reduceEqDiff,↓reduceIte,vcu,↓vcd,opK_some,Bool.not_false]
  refine fin_drop Tryz.results21 σ s1 ⟨?_,rfl⟩
  simp -implicitDefEqProofs(disch:=omega)only[Nat.reduceEqDiff,↓reduceIte,vcu,↓vcd]
  rw[decide_eq_false fun h=>hP h.2.1]
 rw[decide_eq_true hP]
 have hSV:=hE.1
 have hO4:1≤O∧O≤4:=hSV.1
 have hE3:1≤E∧E≤3:=hSV.2.1
 have hOE:0≤O * E∧O * E≤12:=⟨Int.mul_nonneg om9 om9,Int.le_trans (Int.mul_le_mul hO4.2 hE3.2 om9 om9) (by decide)⟩
 by_cases hL:(ps.length:Int)=O * E
 case neg =>
  have d:decide ((ps.length:Int)≠O * E)=true:=decide_eq_true hL
  simp -implicitDefEqProofs(disch:=omega)only[Nat.reduceEqDiff,↓reduceIte,vcu,↓vcd,opK_some,Bool.not_true,x3,y0,y1,l1,d,Nat.add_zero]
  refine fin_drop Tryz.results21 σ s1 ⟨?_,rfl⟩
  simp -implicitDefEqProofs(disch:=omega)only[Nat.reduceEqDiff,↓reduceIte,vcu,↓vcd]
  rw[decide_eq_false fun h=>hL h.2.2.1]
 have d:decide ((ps.length:Int)≠O * E)=false:=decide_eq_false fun h=>h hL
 simp -implicitDefEqProofs(disch:=omega)only[Nat.reduceEqDiff,↓reduceIte,vcu,↓vcd,opK_some,Bool.not_true,x3,y0,y1,l1,d,x0,x4,co29,Nat.add_zero]
 refine (implCV8_calls τ O E M v2 cs (t2.sub s1) b3).mono ?_
 rintro _ _ ⟨rfl,rfl⟩
 rename_i τ
 by_cases hC:CV ⟨O,E,M⟩ cs
 case neg =>
  rw[decide_eq_false hC]
  simp -implicitDefEqProofs(disch:=omega)only[Nat.reduceEqDiff,↓reduceIte,vcu,↓vcd,opK_some,Bool.not_false]
  refine fin_drop Tryz.results21 σ s1 ⟨?_,rfl⟩
  simp -implicitDefEqProofs(disch:=omega)only[Nat.reduceEqDiff,↓reduceIte,vcu,↓vcd]
  rw[decide_eq_false fun h=>hC h.2.2.2.1]
 rw[decide_eq_true hC]
 simp -implicitDefEqProofs(disch:=omega)only[Nat.reduceEqDiff,↓reduceIte,vcu,↓vcd,opK_some,Bool.not_true,x4,l2,Nat.add_zero]
 refine vc_loop_c mixed kr9 [1,37,38] (fun m a T=>∃k:Nat,m+k=cs.length∧a 39=.int .i64 k∧(∀i,i < k→∀j,j < cs.length→(gc cs i).i≠(gc cs j).o)∧Sub τ T) cs.length ⟨0,by simp,rfl,fun i hi=>absurd hi om9,Sub.refl _⟩ ?_
 rintro m a T hc ⟨k,hk,h3,hall,hT⟩
 simp -implicitDefEqProofs(disch:=omega)only[Nat.reduceEqDiff,↓reduceIte,vcu,↓vcd] at hc
 obtain⟨h1,h37,h38,-⟩:=hc
 by_cases hlt:k < cs.length
 case neg =>
  simp -implicitDefEqProofs(disch:=omega)only[Nat.reduceEqDiff,↓reduceIte,vcu,↓vcd,h1,h37,h38,h3]
  refine fin_drop Tryz.results21 σ (s1.trans hT) ⟨?_,rfl⟩
  simp -implicitDefEqProofs(disch:=omega)only[Nat.reduceEqDiff,↓reduceIte,vcu,↓vcd]
  rw[decide_eq_true ⟨hE,hP,hL,hC,sep_of (cs:=cs) fun i hi j hj=>hall i om9 j hj⟩]
 have t2T:=t2.sub (s1.trans hT)
 obtain⟨hg,ho,ev2,hrow⟩:=rowC t2T om9
 have hx:=hrow.all hlt
 have hgk:cs.getD k cl0=gc cs k:=rfl
 rw[hgk] at hx
 simp -implicitDefEqProofs(disch:=omega)only[Nat.reduceEqDiff,↓reduceIte,vcu,↓vcd,h1,h37,h38,h3,ev2,hx,co70]
 refine r_new ze70 fun g4 T2 n4 s4 e4=>?_
 replace e4:T2 g4=some ⟨[.int .i64 0,.int .i64 0,.int .i64 0],false⟩:=e4
 refine r_sets (g:=g4) (i:=0) (C:=[.int .i64 0,.int .i64 0,.int .i64 0]) z9q z9co70 z9r z9z e4 z9l fun T3 k3 e3=>?_
 replace e3:T3 g4=some ⟨[.int .i64 (gc cs k).i,.int .i64 (gc cs k).o,.int .i64 (gc cs k).v],false⟩:=e3
 have hT3:Sub τ T3:=k3.sub (hT.trans s4) (free_sub hT n4)
 have z4:ld T3 b (0+4)=some v2:=ld_of (hT3 _ _ e1) rfl
 simp -implicitDefEqProofs(disch:=omega)only[Nat.reduceEqDiff,↓reduceIte,vcu,↓vcd,h1,h37,h38,h3,z4]
 refine (hasC8_calls T3 v2 cs _ _ (fun d=>d.o=(gc cs k).i) (t2.sub (s1.trans hT3)) b3 fun σ1 q1 d _ pw=>exValC_at σ1 g4 (gc cs k) d (q1 _ _ e3)).mono ?_
 rintro _ _ ⟨rfl,rfl⟩
 by_cases hD:∃d∈cs,d.o=(gc cs k).i
 ·rw[decide_eq_true hD]
  simp -implicitDefEqProofs(disch:=omega)only[Nat.reduceEqDiff,↓reduceIte,vcu,↓vcd,opK_some]
  refine fin_drop Tryz.results21 σ (s1.trans hT3) ⟨?_,rfl⟩
  simp -implicitDefEqProofs(disch:=omega)only[Nat.reduceEqDiff,↓reduceIte,vcu,↓vcd]
  rw[decide_eq_false fun h=>by obtain⟨d,hd,e⟩:=hD;exact h.2.2.2.2 _ (gc_mem hlt) _ hd e.symm]
 ·rw[decide_eq_false hD]
  simp -implicitDefEqProofs(disch:=omega)only[Nat.reduceEqDiff,↓reduceIte,vcu,↓vcd,opK_some,h1,h37,h38,h3]
  refine⟨⟨by first|trivial|exact h1.symm,by first|trivial|exact h37.symm|exact ev2,by first|trivial|exact h38.symm,trivial⟩,m - 1,by omega,k+1,by omega,by simp,fun i hi j hj=>?_,hT3⟩
  by_cases e:i=k
  ·subst e;exact fun e=>hD ⟨_,gc_mem hj,e.symm⟩
  ·exact hall i om9 j hj
theorem texts_slc {σ:AHeap} {v:Value} {xs:List (List UInt8)} (h:Texts σ v xs):∃A L C,v=.slice A L C:=by
 rcases h with ⟨rfl,_⟩ |⟨g,o,rfl,_⟩<;>exact⟨_,_,_,rfl⟩
theorem tris_slc {σ:AHeap} {v:Value} {xs:List Cl} (h:Tris σ v xs):∃A L C,v=.slice A L C:=by
 rcases h with ⟨rfl,_⟩ |⟨g,o,rfl,_⟩<;>exact⟨_,_,_,rfl⟩
section
variable {P:Program} {w0:Base} {a:AFrame} {σ:AHeap} {K:AK} {all os:List Oper} {d:Nat} {ty:TypeId} {pos:String} {af:Array Edge}
theorem r_pushDN {t u:TypeId} {zv:Value} {b:Nat} {x y:Operand} {e:Nat} {β:AHeap} {cs ds:List Dd} (hE:Elems P t 3 zv b) (hb:b≤64) (hu:∃e2,P.underlying u=some (.slice e2))
  (hs:Sub β σ) (hx:OwnD β σ (ev a x) cs) (hy:ev a y=.slice (some ⟨e,0,none⟩) ds.length 3) (he:σ e=some ⟨dds ds,false⟩) (h0:0 < ds.length) (hl:cs.length+ds.length≤4294967296)
  (hk:∀v' τ,Sub β τ→OwnD β τ v' (cs++ds)→vcR P w0 false all os (fset a d v') τ K) :
  vcR P w0 false all (⟨some d,.call ⟨.builtin .append,#[x,y],#[t,u]⟩,ty,pos,af,none⟩ :: os) a σ K:=by
 rcases hx with ⟨ex,rfl⟩ |⟨g,ex,hg,hn⟩
 ·refine r_push_nil hE hu ex (by rw[hy];exact acells_dds (ddsAt_own he)) ?_ fun g' τ h1 h2 h3=>?_
  ·rw[dds_length]
   have:ds.length * 3 * b≤4294967296 * 3 * 64:=Nat.mul_le_mul (by simp at hl;omega) hb
   simp at hl
   omega
  ·have:=hk (.slice (some ⟨g',0,none⟩) ds.length 3) τ (hs.trans h2) (.inr ⟨g',rfl,h3,free_sub hs h1⟩)
   rw[dds_length,show ds.length * 3 / 3=ds.length by omega]
   exact this
 ·refine r_pushD hE hb hu ex hg rfl hy (ddsAt_own he) rfl hl fun g' τ h1 h2 h3=>?_
  have:=hk (.slice (some ⟨g',0,none⟩) (cs.length+ds.length) 3) τ (h2.sub hs hn) (.inr ⟨g',by rw[List.length_append],h3,free_sub hs h1⟩)
  exact this
end
set_option maxRecDepth 8000 in
theorem implND_calls (σ:AHeap) (v:Value) (e:Ex) (hv:ExV σ v e) (hb:ExB e):ACall Tryz.prog w0 81 [v] σ fun r σ'=>Sub σ σ'∧OwnD σ σ' r (nightV e):=by
 have hv0:=hv
 obtain⟨⟨O,E,M⟩,ps,cs⟩:=e
 obtain⟨v1,v2,rfl,t1,t2⟩:=hv
 have hb0:=hb
 obtain⟨b1,b2,b3⟩:=hb
 dsimp only at t1 t2 b1 b2 b3
 unfold exV
 refine acall_go mixed Tryz.func81 rfl good81 fun pr=>?_
 simp -implicitDefEqProofs(disch:=omega)only[Nat.reduceEqDiff,↓reduceIte,vcu,↓vcd]
 refine r_boxed fun b τ nb s1 e1=>?_
 replace e1:τ b=some ⟨[.int .i64 O,.int .i64 E,.int .i64 M,v1,v2],false⟩:=e1
 have x5:lds τ b 0 5=some [.int .i64 O,.int .i64 E,.int .i64 M,v1,v2]:=by rw[lds_of e1 (by simp)];rfl
 have x4:ld τ b (0+4)=some v2:=ld_of e1 rfl
 have l2:=lenC (t2.sub s1)
 have hval:=implEV_calls (w0:=w0) τ (exV v1 v2 ⟨⟨O,E,M⟩,ps,cs⟩) ⟨⟨O,E,M⟩,ps,cs⟩ (hv0.sub s1) hb0
 unfold exV at hval
 dsimp only at hval
 simp -implicitDefEqProofs(disch:=omega)only[Nat.reduceEqDiff,↓reduceIte,vcu,↓vcd,x5,co33]
 refine hval.mono ?_
 rintro _ _ ⟨rfl,rfl⟩
 rename_i τ
 by_cases hok:ExOk ⟨⟨O,E,M⟩,ps,cs⟩
 case neg =>
  rw[decide_eq_false hok]
  have hV:nightV ⟨⟨O,E,M⟩,ps,cs⟩=[]:=if_neg hok
  simp -implicitDefEqProofs(disch:=omega)only[Nat.reduceEqDiff,↓reduceIte,vcu,↓vcd,opK_some,Bool.not_false]
  refine fin_one Tryz.results81 ⟨s1,.inl ⟨?_,hV⟩⟩
  simp -implicitDefEqProofs(disch:=omega)only[Nat.reduceEqDiff,↓reduceIte,vcu,↓vcd]
 rw[decide_eq_true hok]
 have hV:nightV ⟨⟨O,E,M⟩,ps,cs⟩=nightL cs:=if_pos hok
 simp -implicitDefEqProofs(disch:=omega)only[Nat.reduceEqDiff,↓reduceIte,vcu,↓vcd,opK_some,Bool.not_true,x4,l2,Nat.add_zero]
 refine vc_loop_c mixed kr9 [1,10,11] (fun m a τ'=>∃k:Nat,m+k=cs.length∧a 12=.int .i64 k∧Sub τ τ'∧OwnD τ τ' (a 3) (nightL (cs.take k))) cs.length ⟨0,by simp,rfl,Sub.refl _,.inl ⟨rfl,rfl⟩⟩ ?_
 rintro m a T hc ⟨k,hk,h12,hT,how⟩
 simp -implicitDefEqProofs(disch:=omega)only[Nat.reduceEqDiff,↓reduceIte,vcu,↓vcd] at hc
 obtain⟨h1,h10,h11,-⟩:=hc
 have hlen:(nightL (cs.take k)).length=k:=by simp [nightL];omega
 by_cases hlt:k < cs.length
 case neg =>
  obtain rfl:k=cs.length:=by omega
  rw[List.take_length] at how
  simp -implicitDefEqProofs(disch:=omega)only[Nat.reduceEqDiff,↓reduceIte,vcu,↓vcd,h1,h10,h11,h12]
  refine fin_one Tryz.results81 ⟨s1.trans hT,?_⟩
  simp -implicitDefEqProofs(disch:=omega)only[Nat.reduceEqDiff,↓reduceIte,vcu,↓vcd]
  rw[hV]
  exact how.older s1
 obtain⟨hg,ho,ev2,hrow⟩:=rowC (t2.sub (s1.trans hT)) om9
 have hx:=hrow.all hlt
 have hgk:cs.getD k cl0=gc cs k:=rfl
 rw[hgk] at hx
 have htk:nightL (cs.take (k+1))=nightL (cs.take k)++[⟨1,(gc cs k).i,[]⟩]:=by
  rw[take_gc hlt];simp [nightL]
 simp -implicitDefEqProofs(disch:=omega)only[Nat.reduceEqDiff,↓reduceIte,vcu,↓vcd,h1,h10,h11,h12,ev2,hx,co70]
 refine r_new ze70 fun g4 T2 n4 s4 e4=>?_
 replace e4:T2 g4=some ⟨[.int .i64 0,.int .i64 0,.int .i64 0],false⟩:=e4
 refine r_sets (g:=g4) (i:=0) (C:=[.int .i64 0,.int .i64 0,.int .i64 0]) z9q z9co70 z9r z9z e4 z9l fun T3 k3 e3=>?_
 replace e3:T3 g4=some ⟨[.int .i64 (gc cs k).i,.int .i64 (gc cs k).o,.int .i64 (gc cs k).v],false⟩:=e3
 have hT3:Sub τ T3:=k3.sub (hT.trans s4) (free_sub hT n4)
 have how3:OwnD τ T3 (a 3) (nightL (cs.take k)):=how.imp id fun⟨g,a1,a2,a3⟩=>⟨g,a1,k3.at (s4 _ _ a2) (ne_of' n4 a2),a3⟩
 have li:ld T3 g4 (0+0)=some (.int .i64 (gc cs k).i):=ld_of e3 rfl
 simp -implicitDefEqProofs(disch:=omega)only[Nat.reduceEqDiff,↓reduceIte,vcu,↓vcd,h1,h10,h11,h12,li]
 rw[r_build]
 refine⟨(_,#[.int .i64 1,.int .i64 (gc cs k).i,.string (tx [])]),⟨ze41,by simp -implicitDefEqProofs(disch:=omega)only[Nat.reduceEqDiff,↓reduceIte,vcu,↓vcd];kernel_rfl⟩,?_⟩
 simp -implicitDefEqProofs(disch:=omega)only[Nat.reduceEqDiff,↓reduceIte,vcu,↓vcd]
 refine r_lit el24 (out:=#[.int .i64 1,.int .i64 (gc cs k).i,.string (tx [])]) (by first|kernel_rfl | (simp -implicitDefEqProofs(disch:=omega)only[Nat.reduceEqDiff,↓reduceIte,vcu,↓vcd];kernel_rfl)) (by rfl) fun e5 T5 n5 s5 w5=>?_
 replace w5:T5 e5=some ⟨dds [⟨1,(gc cs k).i,[]⟩],false⟩:=w5
 refine r_pushDN (e:=e5) (β:=τ) (cs:=nightL (cs.take k)) (ds:=[⟨1,(gc cs k).i,[]⟩]) el24 om9 sl24 (hT3.trans s5) (by simp -implicitDefEqProofs(disch:=omega)only[Nat.reduceEqDiff,↓reduceIte,vcu,↓vcd];exact how3.sub s5) z9r w5 (by simp) (by simp only[hlen,List.length_singleton];omega) fun v6 T6 k6 o6=>?_
 rw[←htk] at o6
 simp -implicitDefEqProofs(disch:=omega)only[Nat.reduceEqDiff,↓reduceIte,vcu,↓vcd,h1,h10,h11,h12]
 refine⟨⟨by first|trivial|exact h1.symm,by first|trivial|exact h10.symm|exact ev2,by first|trivial|exact h11.symm,trivial⟩,m - 1,by omega,k+1,by omega,by simp,k6,o6⟩
end Go.Proofs.YtofdnmlpfagibaaGreatDoor
namespace Go.Proofs.YtofdnmlpfagibaaGreatDoor
open Go Go.Abs Go.RowKit Go.Dial Go.Clos
variable {w0:World}
def pcs (x:Ex) (vp vc:Value):List Value:=[.int .i64 x.s.O,.int .i64 x.s.E,.int .i64 x.s.M,vc,vp]
def Pt (B τ:AHeap) (h:Nat) (x:Ex):Prop:=Sub B τ∧B h=none∧∃vp vc,τ h=some ⟨pcs x vp vc,false⟩∧OwnS (Bs B h h) τ vp x.ps∧OwnC (Bs B h h) τ vc x.cs
theorem Bs_sub {B B':AHeap} {h:Nat} (hs:Sub B' B):Sub (Bs B' h h) (Bs B h h):=by
 intro k ob hk
 by_cases e:k=h
 ·subst e;rw[Bs_6] at hk ⊢;exact hk
 ·unfold Bs at hk ⊢;rw[AHeap.upd_ne _ _ e,AHeap.upd_ne _ _ e] at hk ⊢;exact hs _ _ hk
theorem Pt.older {B B' τ:AHeap} {h:Nat} {x:Ex} (p:Pt B τ h x) (hs:Sub B' B):Pt B' τ h x:=by
 obtain⟨a,b,vp,vc,c,d,e⟩:=p
 exact⟨hs.trans a,free_sub hs b,vp,vc,c,d.older (Bs_sub hs),e.older (Bs_sub hs)⟩
theorem Pt.sub {B τ τ':AHeap} {h:Nat} {x:Ex} (p:Pt B τ h x) (hs:Sub τ τ'):Pt B τ' h x:=by
 obtain⟨a,b,vp,vc,c,d,e⟩:=p
 exact⟨a.trans hs,b,vp,vc,hs _ _ c,d.sub hs,e.sub hs⟩
set_option maxRecDepth 8000 in
theorem partsOf_calls (σ:AHeap) (v:Value) (e:Ex) (hv:ExV σ v e) (hb:ExB e) :
  ACall Tryz.prog w0 40 [v] σ fun r σ'=>∃h,r=.pointer (some ⟨h,0,none⟩)∧Pt σ σ' h e:=by
 obtain⟨⟨O,E,M⟩,ps,cs⟩:=e
 obtain⟨v1,v2,rfl,t1,t2⟩:=hv
 obtain⟨b1,b2,b3⟩:=hb
 dsimp only at t1 t2 b1 b2 b3
 unfold exV
 refine acall_go mixed Tryz.func40 rfl good40 fun pr=>?_
 simp -implicitDefEqProofs(disch:=omega)only[Nat.reduceEqDiff,↓reduceIte,vcu,↓vcd]
 refine r_boxed fun b τ nb s1 e1=>?_
 replace e1:τ b=some ⟨[.int .i64 O,.int .i64 E,.int .i64 M,v1,v2],false⟩:=e1
 have x0:lds τ b 0 3=some [.int .i64 O,.int .i64 E,.int .i64 M]:=lds_three (ld_of e1 rfl) (ld_of e1 rfl) (ld_of e1 rfl)
 have x3:ld τ b (0+3)=some v1:=ld_of e1 rfl
 have x4:ld τ b (0+4)=some v2:=ld_of e1 rfl
 simp -implicitDefEqProofs(disch:=omega)only[Nat.reduceEqDiff,↓reduceIte,vcu,↓vcd]
 refine region_tree mixed (quiets [0,2,6] (quiets [1,3,7] (.one 4 (quiets [5] (.one 8 (quiets [9] (.one 10 (quiets [11] .stop)))))))) [([1,3,7],Sub τ)] kr9 kr9 (fun p hp=>by simp only[List.mem_singleton] at hp;subst hp;exact Sub.refl _) ?_
 refine tree_quiets _ _ _ _ sf0 kr9 kr9 ?_
 simp -implicitDefEqProofs(disch:=omega)only[Nat.reduceEqDiff,↓reduceIte,vcu,↓vcd,vcp]
 refine tree_quiets τ _ _ _ sf1 kr9 kr9 ?_
 simp -implicitDefEqProofs(disch:=omega)only[Nat.reduceEqDiff,↓reduceIte,vcu,↓vcd,vcp,x0,x3,x4,co29,Nat.add_zero]
 refine tree_one rfl ?_
 try simp -implicitDefEqProofs(disch:=omega)only[Nat.reduceEqDiff,↓reduceIte,vcu,↓vcd]
 refine (cloneC8_calls τ v2 cs (t2.sub s1) b3).mono ?_
 rintro vc τ2 ⟨s2,w2⟩
 obtain⟨cA,cL,cC,rfl⟩:=tris_slc w2.tris
 simp -implicitDefEqProofs(disch:=omega)only[Nat.reduceEqDiff,↓reduceIte,vcu,↓vcd,opK_some]
 refine⟨keep_of rfl (fun p hp=>by simp only[List.mem_singleton] at hp;subst hp;exact .inr s2),?_⟩
 refine tree_quiets _ _ _ _ sf0 kr9 kr9 ?_
 simp -implicitDefEqProofs(disch:=omega)only[Nat.reduceEqDiff,↓reduceIte,vcu,↓vcd,vcp]
 rw[r_build]
 refine⟨(_,#[.int .i64 O,.int .i64 E,.int .i64 M,.slice cA cL cC]),⟨ze112,by simp -implicitDefEqProofs(disch:=omega)only[Nat.reduceEqDiff,↓reduceIte,vcu,↓vcd];kernel_rfl⟩,?_⟩
 try simp -implicitDefEqProofs(disch:=omega)only[Nat.reduceEqDiff,↓reduceIte,vcu,↓vcd]
 refine tree_one rfl ?_
 try simp -implicitDefEqProofs(disch:=omega)only[Nat.reduceEqDiff,↓reduceIte,vcu,↓vcd]
 refine (cloneX8_calls τ2 v1 ps ((t1.sub s1).sub s2) b1).mono ?_
 rintro vp τ3 ⟨s3,w3⟩
 obtain⟨pA,pL,pC,rfl⟩:=texts_slc w3.texts
 simp -implicitDefEqProofs(disch:=omega)only[Nat.reduceEqDiff,↓reduceIte,vcu,↓vcd,opK_some]
 refine⟨keep_of rfl (fun p hp=>by simp only[List.mem_singleton] at hp;subst hp;exact .inr (s2.trans s3)),?_⟩
 refine tree_quiets _ _ _ _ sf0 kr9 kr9 ?_
 simp -implicitDefEqProofs(disch:=omega)only[Nat.reduceEqDiff,↓reduceIte,vcu,↓vcd,vcp]
 rw[r_build]
 refine⟨(_,#[.int .i64 O,.int .i64 E,.int .i64 M,.slice cA cL cC,.slice pA pL pC]),⟨ze116,by simp -implicitDefEqProofs(disch:=omega)only[Nat.reduceEqDiff,↓reduceIte,vcu,↓vcd];kernel_rfl⟩,?_⟩
 try simp -implicitDefEqProofs(disch:=omega)only[Nat.reduceEqDiff,↓reduceIte,vcu,↓vcd]
 refine tree_one rfl ?_
 try simp -implicitDefEqProofs(disch:=omega)only[Nat.reduceEqDiff,↓reduceIte,vcu,↓vcd]
 refine r_boxed fun h τ4 nh s4 e4=>?_
 replace e4:τ4 h=some ⟨pcs ⟨⟨O,E,M⟩,ps,cs⟩ (.slice pA pL pC) (.slice cA cL cC),false⟩:=e4
 have S4:Sub τ τ4:=s2.trans (s3.trans s4)
 simp -implicitDefEqProofs(disch:=omega)only[Nat.reduceEqDiff,↓reduceIte,vcu,↓vcd]
 refine⟨keep_of rfl (fun p hp=>by simp only[List.mem_singleton] at hp;subst hp;exact .inr S4),?_⟩
 refine tree_quiets _ _ _ _ sf0 kr9 kr9 ?_
 simp -implicitDefEqProofs(disch:=omega)only[Nat.reduceEqDiff,↓reduceIte,vcu,↓vcd,vcp]
 refine tree_stop ?_
 try simp -implicitDefEqProofs(disch:=omega)only[Nat.reduceEqDiff,↓reduceIte,vcu,↓vcd]
 have zh:σ h=none:=free_sub (s1.trans (s2.trans s3)) nh
 refine fin_one Tryz.results40 ⟨h,?_,s1.trans S4,zh,_,_,e4,?_,?_⟩
 ·simp -implicitDefEqProofs(disch:=omega)only[Nat.reduceEqDiff,↓reduceIte,vcu,↓vcd]
 ·exact w3.imp id fun⟨g,a1,a2,a3⟩=>⟨g,a1,s4 _ _ a2,Bs_free (free_sub (s1.trans s2) a3) (ne_of' nh a2) (ne_of' nh a2)⟩
 ·exact w2.imp id fun⟨g,a1,a2,a3⟩=>⟨g,a1,s4 _ _ (s3 _ _ a2),Bs_free (free_sub s1 a3) (ne_of' nh (s3 _ _ a2)) (ne_of' nh (s3 _ _ a2))⟩
def hasL (l:Int) (c:Cl):Prop:=c.i=l∨c.o=l
instance (l:Int):DecidablePred (hasL l):=fun c=>by unfold hasL;infer_instance
theorem peerS_fst:∀(cs:List Cl) (l:Int) (k:Nat),k < cs.length→hasL l (gc cs k)→(∀c∈cs.take k,¬ hasL l c)→peerS cs l=(gc cs k).i+(gc cs k).o - l
 | [],l,k,hk,_,_=>by simp at hk
 | c :: cs,l,0,hk,h,_=>by
  have e:gc (c :: cs) 0=c:=rfl
  rw[e] at h ⊢
  unfold peerS
  by_cases h1:c.i=l
  ·rw[if_pos h1];omega
  ·rw[if_neg h1]
   have h2:c.o=l:=h.resolve_left h1
   rw[if_pos h2];omega
 | c :: cs,l,k+1,hk,h,hn=>by
  have e:gc (c :: cs) (k+1)=gc cs k:=rfl
  rw[e] at h ⊢
  have h0:=hn c (by simp)
  unfold peerS
  rw[if_neg fun q=>h0 (.inl q),if_neg fun q=>h0 (.inr q)]
  exact peerS_fst cs l k (by simpa using hk) h fun d hd=>hn d (by simp [hd])
theorem peerS_no:∀(cs:List Cl) (l:Int),(∀c∈cs,¬ hasL l c)→peerS cs l=-1
 | [],l,_=>rfl
 | c :: cs,l,hn=>by
  have h0:=hn c (by simp)
  unfold peerS
  rw[if_neg fun q=>h0 (.inl q),if_neg fun q=>h0 (.inr q)]
  exact peerS_no cs l fun d hd=>hn d (by simp [hd])
set_option maxRecDepth 8000 in
theorem callOfC_at (σ:AHeap) (b:Nat) (l:Int) (d:Cl) (hb:σ b=some ⟨[.int .i64 l],false⟩) :
  ACall Tryz.prog w0 135 [.agg #[.int .i64 d.i,.int .i64 d.o,.int .i64 d.v],.pointer (some ⟨b,0,none⟩)] σ fun r σ'=>r=.bool (decide (hasL l d))∧σ'=σ:=by
 refine acall_go mixed Tryz.func135 rfl good135 fun pr=>?_
 simp -implicitDefEqProofs(disch:=omega)only[Nat.reduceEqDiff,↓reduceIte,vcu,↓vcd]
 refine r_boxed fun g τ n1 s1 e1=>?_
 replace e1:τ g=some ⟨[.int .i64 d.i,.int .i64 d.o,.int .i64 d.v],false⟩:=e1
 have l1:ld τ g (0+0)=some (.int .i64 d.i):=ld_of e1 rfl
 have l2:ld τ g (0+1)=some (.int .i64 d.o):=ld_of e1 rfl
 have l3:ld τ b 0=some (.int .i64 l):=ld_of (s1 _ _ hb) rfl
 by_cases h1:d.i=l
 ·have d1:decide (d.i=l)=true:=decide_eq_true h1
  simp -implicitDefEqProofs(disch:=omega)only[Nat.reduceEqDiff,↓reduceIte,vcu,↓vcd,l1,l2,l3,d1,Nat.add_zero]
  refine fin_drop Tryz.results135 σ s1 ⟨?_,rfl⟩
  simp -implicitDefEqProofs(disch:=omega)only[Nat.reduceEqDiff,↓reduceIte,vcu,↓vcd]
  rw[decide_eq_true (show hasL l d from .inl h1)]
 ·have d1:decide (d.i=l)=false:=decide_eq_false h1
  simp -implicitDefEqProofs(disch:=omega)only[Nat.reduceEqDiff,↓reduceIte,vcu,↓vcd,l1,l2,l3,d1,Nat.add_zero]
  refine fin_drop Tryz.results135 σ s1 ⟨?_,rfl⟩
  simp -implicitDefEqProofs(disch:=omega)only[Nat.reduceEqDiff,↓reduceIte,vcu,↓vcd]
  congr 1
  exact decide_eq_decide.2 ⟨fun h=>.inr h,fun h=>h.resolve_left h1⟩
set_option maxRecDepth 8000 in
theorem callOf_calls (σ:AHeap) (h:Nat) (x:Ex) (vp vc:Value) (l:Int) (hh:σ h=some ⟨pcs x vp vc,false⟩) (tc:Tris σ vc x.cs) (hl:x.cs.length≤1048576) :
  ACall Tryz.prog w0 110 [.pointer (some ⟨h,0,none⟩),.int .i64 l] σ fun r σ'=>r=.int .i64 (fstC (hasL l) x.cs)∧σ'=σ:=by
 refine acall_go mixed Tryz.func110 rfl good110 fun pr=>?_
 simp -implicitDefEqProofs(disch:=omega)only[Nat.reduceEqDiff,↓reduceIte,vcu,↓vcd]
 refine r_boxed fun b τ nb s1 e1=>?_
 replace e1:τ b=some ⟨[.int .i64 l],false⟩:=e1
 have x3:ld τ h (0+3)=some vc:=ld_of (s1 _ _ hh) rfl
 simp -implicitDefEqProofs(disch:=omega)only[Nat.reduceEqDiff,↓reduceIte,vcu,↓vcd,x3]
 refine (indexC8_calls τ vc x.cs _ _ (hasL l) (tc.sub s1) hl fun σ1 q1 d _ pw=>callOfC_at σ1 b l d (q1 _ _ e1)).mono ?_
 rintro _ _ ⟨rfl,rfl⟩
 simp -implicitDefEqProofs(disch:=omega)only[Nat.reduceEqDiff,↓reduceIte,vcu,↓vcd,opK_some]
 refine fin_drop Tryz.results110 σ s1 ⟨?_,rfl⟩
 simp -implicitDefEqProofs(disch:=omega)only[Nat.reduceEqDiff,↓reduceIte,vcu,↓vcd]
set_option maxRecDepth 8000 in
theorem peer_calls (σ:AHeap) (h:Nat) (x:Ex) (vp vc:Value) (l:Int) (hh:σ h=some ⟨pcs x vp vc,false⟩) (tc:Tris σ vc x.cs) (hC:CV x.s x.cs) :
  ACall Tryz.prog w0 85 [.pointer (some ⟨h,0,none⟩),.int .i64 l] σ fun r σ'=>r=.int .i64 (peerS x.cs l)∧σ'=σ:=by
 have hl12:=hC.len
 refine acall_go mixed Tryz.func85 rfl good85 fun pr=>?_
 simp -implicitDefEqProofs(disch:=omega)only[Nat.reduceEqDiff,↓reduceIte,vcu,↓vcd]
 refine (callOf_calls σ h x vp vc l hh tc om9).mono ?_
 rintro _ _ ⟨rfl,rfl⟩
 rename_i σ
 rcases fstC_spec (hasL l) x.cs with ⟨e,hn⟩ |⟨k,e,hk,hP,hup⟩
 ·rw[e]
  simp -implicitDefEqProofs(disch:=omega)only[Nat.reduceEqDiff,↓reduceIte,vcu,↓vcd,opK_some]
  refine fin_one Tryz.results85 ⟨?_,rfl⟩
  simp -implicitDefEqProofs(disch:=omega)only[Nat.reduceEqDiff,↓reduceIte,vcu,↓vcd]
  rw[peerS_no _ _ hn]
 ·rw[e,peerS_fst _ _ _ hk hP hup]
  obtain⟨hg,ho,rfl,hrow⟩:=rowC tc om9
  have hgk:x.cs.getD k cl0=gc x.cs k:=rfl
  obtain⟨q1,q2,q3⟩:=hrow k hk
  rw[hgk] at q1 q2
  have x3:ld σ h (0+3)=some (.slice (some ⟨hg,ho,none⟩) x.cs.length 3):=ld_of hh rfl
  have hR:=hC.2.1 _ (gc_mem hk)
  have hSV:=hC.1
  have r1:=hR.1
  have r2:=hR.2.1
  have hO4:1≤x.s.O∧x.s.O≤4:=hSV.1
  have hE3:1≤x.s.E∧x.s.E≤3:=hSV.2.1
  have hOE:x.s.O * x.s.E≤12:=Int.le_trans (Int.mul_le_mul hO4.2 hE3.2 om9 om9) (by decide)
  have hl:l=(gc x.cs k).i∨l=(gc x.cs k).o:=hP.imp Eq.symm Eq.symm
  simp -implicitDefEqProofs(disch:=omega)only[Nat.reduceEqDiff,↓reduceIte,vcu,↓vcd,opK_some,x3,q1,q2,Nat.add_zero]
  refine fin_one Tryz.results85 ⟨?_,rfl⟩
  simp -implicitDefEqProofs(disch:=omega)only[Nat.reduceEqDiff,↓reduceIte,vcu,↓vcd]
theorem fstN_fst {p:Nat→Bool}:∀(m a k:Nat),a≤k→k < a+m→p k=true→(∀i,a≤i→i < k→p i=false)→fstN p a m=some k
 | 0,a,k,h1,h2,_,_=>by omega
 | m+1,a,k,h1,h2,h3,h4=>by
  unfold fstN
  by_cases e:a=k
  ·subst e;rw[if_pos h3]
  ·rw[if_neg (by rw[h4 a (Nat.le_refl a) om9];simp)]
   exact fstN_fst m (a+1) k om9 om9 h3 fun i hi hk=>h4 i om9 hk
theorem lineS_fst {ps:List (List UInt8)} {t:List UInt8} {k:Nat} (hk:k < ps.length) (h:ps.getD k []=t) (hn:∀i,i < k→ps.getD i []≠t):lineS ps t=k:=by
 unfold lineS
 rw[fstN_fst ps.length 0 k (Nat.zero_le k) om9 (decide_eq_true h) fun i _ hi=>decide_eq_false (hn i hi)]
set_option maxRecDepth 8000 in
theorem index8_at (σ:AHeap) (h o:Nat) (ps:List (List UInt8)) (t:List UInt8) (hv:TextsAt σ h o ps) (hl:ps.length≤1048576) :
  ACall Tryz.prog w0 113 [.slice (some ⟨h,o,none⟩) ps.length 1,.string (tx t)] σ fun r σ'=>r=.int .i64 (lineS ps t)∧σ'=σ:=by
 refine acall_go mixed Tryz.func113 rfl good113 fun pr=>?_
 simp -implicitDefEqProofs(disch:=omega)only[Nat.reduceEqDiff,↓reduceIte,vcu,↓vcd]
 refine vc_loop_c mixed kr9 [0,1,7] (fun m a τ=>∃k:Nat,m+k=ps.length∧a 8=.int .i64 k∧τ=σ∧∀i,i < k→ps.getD i []≠t) ps.length ⟨0,by simp,rfl,rfl,fun i hi=>absurd hi om9⟩ ?_
 rintro m a τ hc ⟨k,hk,h8,rfl,hup⟩
 simp -implicitDefEqProofs(disch:=omega)only[Nat.reduceEqDiff,↓reduceIte,vcu,↓vcd] at hc
 obtain⟨h0,h1,h7,-⟩:=hc
 by_cases hlt:k < ps.length
 ·have hx:=hv k hlt
  by_cases hB:ps.getD k []=t
  ·have d1:decide (t=ps.getD k [])=true:=decide_eq_true hB.symm
   simp -implicitDefEqProofs(disch:=omega)only[Nat.reduceEqDiff,↓reduceIte,vcu,↓vcd,h0,h1,h7,h8,hx,abin_seql,d1]
   refine fin_one Tryz.results113 ⟨?_,rfl⟩
   simp -implicitDefEqProofs(disch:=omega)only[Nat.reduceEqDiff,↓reduceIte,vcu,↓vcd]
   rw[lineS_fst hlt hB hup]
  ·have d1:decide (t=ps.getD k [])=false:=decide_eq_false fun e=>hB e.symm
   simp -implicitDefEqProofs(disch:=omega)only[Nat.reduceEqDiff,↓reduceIte,vcu,↓vcd,h0,h1,h7,h8,hx,abin_seql,d1]
   refine⟨⟨trivial,trivial,trivial,trivial⟩,m - 1,by omega,k+1,by omega,by simp,trivial,fun i hi=>?_⟩
   by_cases e:i=k
   ·subst e;exact hB
   ·exact hup i om9
 ·simp -implicitDefEqProofs(disch:=omega)only[Nat.reduceEqDiff,↓reduceIte,vcu,↓vcd,h0,h1,h7,h8]
  obtain rfl:k=ps.length:=by omega
  refine fin_one Tryz.results113 ⟨?_,rfl⟩
  simp -implicitDefEqProofs(disch:=omega)only[Nat.reduceEqDiff,↓reduceIte,vcu,↓vcd]
  rcases lineS_spec ps t with ⟨j,hj,e1,e2⟩ |⟨e,_⟩
  ·exact absurd e2 (hup j hj)
  ·rw[e]
set_option maxRecDepth 8000 in
theorem lineOf8_at (σ:AHeap) (h o:Nat) (ps:List (List UInt8)) (t:List UInt8) (hv:TextsAt σ h o ps) (hl:ps.length≤1048576) :
  ACall Tryz.prog w0 91 [.slice (some ⟨h,o,none⟩) ps.length 1,.string (tx t)] σ fun r σ'=>r=.int .i64 (lineS ps t)∧σ'=σ:=by
 refine acall_go mixed Tryz.func91 rfl good91 fun pr=>?_
 simp -implicitDefEqProofs(disch:=omega)only[Nat.reduceEqDiff,↓reduceIte,vcu,↓vcd]
 refine (index8_at σ h o ps t hv hl).mono ?_
 rintro _ _ ⟨rfl,rfl⟩
 simp -implicitDefEqProofs(disch:=omega)only[Nat.reduceEqDiff,↓reduceIte,vcu,↓vcd,opK_some]
 refine fin_one Tryz.results91 ⟨?_,rfl⟩
 simp -implicitDefEqProofs(disch:=omega)only[Nat.reduceEqDiff,↓reduceIte,vcu,↓vcd]
theorem lineOf8_calls (σ:AHeap) (v:Value) (ps:List (List UInt8)) (t:List UInt8) (hv:Texts σ v ps) (hl:ps.length≤1048576) :
  ACall Tryz.prog w0 91 [v,.string (tx t)] σ fun r σ'=>r=.int .i64 (lineS ps t)∧σ'=σ :=
 ACall.texts_quiet (pre:=[]) (post:=[_]) kr9 hv fun σ1 h o hs hg=>lineOf8_at σ1 h o ps t hg hl
def renO (ps:List (List UInt8)) (k:Nat) (t:List UInt8):Bool:=decide (¬ (t=ps.getD k []∨¬ PlanOk (ps.set k t)))
theorem set_back (ps:List (List UInt8)) {k:Nat} (hk:k < ps.length) (t:List UInt8):(ps.set k t).set k (ps.getD k [])=ps:=by
 rw[List.set_set]
 simp [List.getD,hk]
set_option maxRecDepth 8000 in
theorem renumber_at (τ:AHeap) (g k:Nat) (ps:List (List UInt8)) (t:List UInt8) (hg:τ g=some ⟨texts ps,false⟩) (hk:k < ps.length) (b1:ps.length≤1048576) (b2:∀x∈ps,x.length≤1048576) (b3:t.length≤1048576) :
  ACall Tryz.prog w0 93 [.slice (some ⟨g,0,none⟩) ps.length 1,.int .i64 k,.string (tx t)] τ fun r σ'=>r=.bool (renO ps k t)∧Kept g τ σ'∧σ' g=some ⟨texts (if renO ps k t=true then ps.set k t else ps),false⟩:=by
 refine acall_go mixed Tryz.func93 rfl good93 fun pr=>?_
 have hx:=textsAt_own hg k hk
 simp -implicitDefEqProofs(disch:=omega)only[Nat.reduceEqDiff,↓reduceIte,vcu,↓vcd,hx]
 refine r_setX (g:=g) (i:=k) (xs:=ps) (v:=t) (by simp -implicitDefEqProofs(disch:=omega)only[Nat.reduceEqDiff,↓reduceIte,vcu,↓vcd,Nat.zero_add]) z9q co9 hg hk fun τ2 k2 e2=>?_
 by_cases hE:t=ps.getD k []
 ·have dE:decide (t=ps.getD k [])=true:=decide_eq_true hE
  have hO:renO ps k t=false:=decide_eq_false fun h=>h (.inl hE)
  simp -implicitDefEqProofs(disch:=omega)only[Nat.reduceEqDiff,↓reduceIte,vcu,↓vcd,abin_seql,dE]
  refine r_setX (g:=g) (i:=k) (xs:=ps.set k t) (v:=ps.getD k []) (by simp -implicitDefEqProofs(disch:=omega)only[Nat.reduceEqDiff,↓reduceIte,vcu,↓vcd,Nat.zero_add]) z9q co9 e2 (by rw[List.length_set];exact hk) fun τ3 k3 e3=>?_
  rw[set_back ps hk] at e3
  simp -implicitDefEqProofs(disch:=omega)only[Nat.reduceEqDiff,↓reduceIte,vcu,↓vcd]
  refine fin_one Tryz.results93 ⟨?_,k2.trans k3,?_⟩
  ·simp -implicitDefEqProofs(disch:=omega)only[Nat.reduceEqDiff,↓reduceIte,vcu,↓vcd]
   rw[hO]
  ·rw[hO];exact e3
 ·have dE:decide (t=ps.getD k [])=false:=decide_eq_false hE
  have hlen:(ps.set k t).length=ps.length:=List.length_set ..
  have hPV:=implPV_calls (w0:=w0) τ2 (.slice (some ⟨g,0,none⟩) ps.length 1) (ps.set k t) (.inr ⟨g,0,by rw[hlen],textsAt_own e2⟩) om9 (fun x hx=>by
   rcases List.mem_or_eq_of_mem_set hx with h|h
   ·exact b2 x h
   ·rw[h];exact b3)
  simp -implicitDefEqProofs(disch:=omega)only[Nat.reduceEqDiff,↓reduceIte,vcu,↓vcd,abin_seql,dE]
  refine hPV.mono ?_
  rintro _ _ ⟨rfl,rfl⟩
  rename_i τ2
  by_cases hP:PlanOk (ps.set k t)
  ·have hO:renO ps k t=true:=decide_eq_true fun h=>h.elim hE fun h=>h hP
   rw[decide_eq_true hP]
   simp -implicitDefEqProofs(disch:=omega)only[Nat.reduceEqDiff,↓reduceIte,vcu,↓vcd,opK_some,Bool.not_true]
   refine fin_one Tryz.results93 ⟨?_,k2,?_⟩
   ·simp -implicitDefEqProofs(disch:=omega)only[Nat.reduceEqDiff,↓reduceIte,vcu,↓vcd]
    rw[hO]
   ·rw[hO];exact e2
  ·have hO:renO ps k t=false:=decide_eq_false fun h=>h (.inr hP)
   rw[decide_eq_false hP]
   simp -implicitDefEqProofs(disch:=omega)only[Nat.reduceEqDiff,↓reduceIte,vcu,↓vcd,opK_some,Bool.not_false]
   refine r_setX (g:=g) (i:=k) (xs:=ps.set k t) (v:=ps.getD k []) (by simp -implicitDefEqProofs(disch:=omega)only[Nat.reduceEqDiff,↓reduceIte,vcu,↓vcd,Nat.zero_add]) z9q co9 e2 (by rw[List.length_set];exact hk) fun τ3 k3 e3=>?_
   rw[set_back ps hk] at e3
   simp -implicitDefEqProofs(disch:=omega)only[Nat.reduceEqDiff,↓reduceIte,vcu,↓vcd]
   refine fin_one Tryz.results93 ⟨?_,k2.trans k3,?_⟩
   ·simp -implicitDefEqProofs(disch:=omega)only[Nat.reduceEqDiff,↓reduceIte,vcu,↓vcd]
    rw[hO]
   ·rw[hO];exact e3
theorem Pt.calls {B τ τ2 τ3:AHeap} {h:Nat} {x:Ex} {vp vc vx:Value} {cs:List Cl} (hB:Sub B τ) (hn:B h=none) (hh:τ h=some ⟨pcs x vp vc,false⟩) (ow:OwnS (Bs B h h) τ vp x.ps)
  (s2:Sub τ τ2) (wx:OwnC τ τ2 vx cs) (k3:Kept h τ2 τ3) (e3:τ3 h=some ⟨pcs x vp vx,false⟩):Pt B τ3 h ⟨x.s,x.ps,cs⟩:=by
 refine⟨k3.sub (hB.trans s2) hn,hn,vp,vx,e3,(ow.sub s2).kept k3 Bs_6,?_⟩
 have:OwnC (Bs B h h) τ2 vx cs:=wx.imp id fun⟨g,a1,a2,a3⟩=>⟨g,a1,a2,Bs_free (free_sub hB a3) (ne_of a3 hh) (ne_of a3 hh)⟩
 exact this.kept k3 Bs_6
def hangO (x:Ex) (l:Int):Option Ex:=if peerS x.cs l < 0 then none else some ⟨x.s,x.ps,if (dropL x.cs l).length < x.cs.length then dropL x.cs l else dropL x.cs (peerS x.cs l)⟩
theorem dropL_same {cs:List Cl} {i:Int} (h:∀c∈cs,c.i≠i):¬ (dropL cs i).length < cs.length:=by
 have:dropL cs i=cs:=by
  unfold dropL
  rw[List.filter_eq_self]
  intro c hc
  simpa using h c hc
 rw[this];omega
theorem dropL_less {cs:List Cl} {c:Cl} (h:c∈cs):(dropL cs c.i).length < cs.length:=by
 unfold dropL
 rcases Nat.lt_or_ge (cs.filter fun d=>decide (d.i≠c.i)).length cs.length with hh|hh
 ·simpa using hh
 ·have:=List.filter_eq_self.1 (List.Sublist.eq_of_length_le List.filter_sublist hh) c h
  simp at this
theorem hangO_at {x:Ex} (hok:ExOk x) {l:Int} {k:Nat} (hk:k < x.cs.length) (hP:hasL l (gc x.cs k)) (hup:∀c∈x.cs.take k,¬ hasL l c):hangO x l=some ⟨x.s,x.ps,dropL x.cs (gc x.cs k).i⟩:=by
 have hp:=peerS_fst _ _ _ hk hP hup
 have hC:=hok.2.2.2.1
 have hR:=hC.2.1 _ (gc_mem hk)
 have r1:=hR.1
 have r2:=hR.2.1
 unfold hangO
 rcases hP with e|e
 ·rw[if_neg om9,if_pos (by rw[←e];exact dropL_less (gc_mem hk)),e]
 ·have hno:¬ (dropL x.cs l).length < x.cs.length:=dropL_same fun c hc q=>hok.2.2.2.2 c hc _ (gc_mem hk) (by rw[q,e])
  rw[if_neg om9,if_neg hno,hp,show (gc x.cs k).i+(gc x.cs k).o - l=(gc x.cs k).i by omega]
theorem hangO_no {x:Ex} {l:Int} (hn:∀c∈x.cs,¬ hasL l c):hangO x l=none:=by
 unfold hangO
 rw[peerS_no _ _ hn];rfl
set_option maxRecDepth 8000 in
theorem hangUp_calls (B τ:AHeap) (h:Nat) (x:Ex) (l:Int) (hp:Pt B τ h x) (hok:ExOk x) :
  ACall Tryz.prog w0 92 [.pointer (some ⟨h,0,none⟩),.int .i64 l] τ fun r σ'=>r=.bool (hangO x l).isSome∧Pt B σ' h ((hangO x l).getD x):=by
 have hp0:=hp
 obtain⟨hB,hn,vp,vc,hh,ow,oc⟩:=hp
 have hC:=hok.2.2.2.1
 have hl12:=hC.len
 have b3:x.cs.length≤1048576:=by omega
 refine acall_go mixed Tryz.func92 rfl good92 fun pr=>?_
 simp -implicitDefEqProofs(disch:=omega)only[Nat.reduceEqDiff,↓reduceIte,vcu,↓vcd]
 refine (callOf_calls τ h x vp vc l hh oc.tris b3).mono ?_
 rintro _ _ ⟨rfl,rfl⟩
 rename_i τ
 rcases fstC_spec (hasL l) x.cs with ⟨e,hno⟩ |⟨k,e,hk,hP,hup⟩
 ·rw[e,hangO_no hno]
  simp -implicitDefEqProofs(disch:=omega)only[Nat.reduceEqDiff,↓reduceIte,vcu,↓vcd,opK_some]
  refine fin_one Tryz.results92 ⟨?_,hp0⟩
  simp -implicitDefEqProofs(disch:=omega)only[Nat.reduceEqDiff,↓reduceIte,vcu,↓vcd]
  rfl
 ·rw[e,hangO_at hok hk hP hup]
  have tc:=oc.tris
  obtain⟨hg,ho,ev,hrow⟩:=rowC tc om9
  have hgk:x.cs.getD k cl0=gc x.cs k:=rfl
  obtain⟨q1,q2,q3⟩:=hrow k hk
  rw[hgk] at q1 q2
  have x0:lds τ h 0 3=some [.int .i64 x.s.O,.int .i64 x.s.E,.int .i64 x.s.M]:=lds_three (ld_of hh rfl) (ld_of hh rfl) (ld_of hh rfl)
  have x3:ld τ h (0+3)=some (.slice (some ⟨hg,ho,none⟩) x.cs.length 3):=by rw[←ev];exact ld_of hh rfl
  have hdr:=implDrop8_calls (w0:=w0) τ x.s (.slice (some ⟨hg,ho,none⟩) x.cs.length 3) x.cs (gc x.cs k).i (by rw[←ev];exact tc) b3
  obtain⟨z1,z2⟩:=drL_ok (i:=(gc x.cs k).i) hC
  rw[z1,z2,decide_eq_true (dropL_less (gc_mem hk))] at hdr
  simp -implicitDefEqProofs(disch:=omega)only[Nat.reduceEqDiff,↓reduceIte,vcu,↓vcd,opK_some]
  refine region_tree mixed (quiets [0,1,2,4,5,6,8,9,10,12] (quiets [3,7,11] (quiets [13,14] (quiets [15] (.one 16 (quiets [17,18,19,20,21] .stop)))))) [([3,7,11],Sub τ),([15],Sub τ)] kr9 kr9 (fun p hp=>by simp only[List.mem_cons,List.mem_singleton,List.not_mem_nil,or_false] at hp;rcases hp with rfl|rfl<;>exact Sub.refl _) ?_
  refine tree_quiets _ _ _ _ sf0 kr9 kr9 ?_
  simp -implicitDefEqProofs(disch:=omega)only[Nat.reduceEqDiff,↓reduceIte,vcu,↓vcd,vcp]
  refine tree_quiets τ _ _ _ sf1 kr9 kr9 ?_
  simp -implicitDefEqProofs(disch:=omega)only[Nat.reduceEqDiff,↓reduceIte,vcu,↓vcd,vcp,x0,x3,co29]
  refine tree_quiets _ _ _ _ sf0 kr9 kr9 ?_
  simp -implicitDefEqProofs(disch:=omega)only[Nat.reduceEqDiff,↓reduceIte,vcu,↓vcd,vcp]
  refine tree_quiets τ _ _ _ (sf2 rfl) kr9 kr9 ?_
  simp -implicitDefEqProofs(disch:=omega)only[Nat.reduceEqDiff,↓reduceIte,vcu,↓vcd,vcp,q1,Nat.add_zero]
  refine tree_one rfl ?_
  try simp -implicitDefEqProofs(disch:=omega)only[Nat.reduceEqDiff,↓reduceIte,vcu,↓vcd]
  refine hdr.mono ?_
  rintro _ τ2 ⟨vx,rfl,s2,wx⟩
  simp -implicitDefEqProofs(disch:=omega)only[Nat.reduceEqDiff,↓reduceIte,vcu,↓vcd,opK_some]
  refine⟨keep_of rfl (fun p hp=>by simp only[List.mem_cons,List.mem_singleton,List.not_mem_nil,or_false] at hp;rcases hp with rfl|rfl<;>exact .inr s2),?_⟩
  refine tree_quiets _ _ _ _ sf0 kr9 kr9 ?_
  simp -implicitDefEqProofs(disch:=omega)only[Nat.reduceEqDiff,↓reduceIte,vcu,↓vcd,vcp,List.getElem?_toArray,List.getElem?_cons_zero,List.getElem?_cons_succ]
  refine tree_stop ?_
  simp -implicitDefEqProofs(disch:=omega)only[Nat.reduceEqDiff,↓reduceIte,vcu,↓vcd]
  obtain⟨vA,vL,vC',rfl⟩:=tris_slc wx.tris
  refine r_set (g:=h) (i:=3) (C:=pcs x vp vc) z9q z9r co31 z9r (s2 _ _ hh) (by simp [pcs]) fun τ3 k3 e3=>?_
  simp -implicitDefEqProofs(disch:=omega)only[Nat.reduceEqDiff,↓reduceIte,vcu,↓vcd]
  refine fin_one Tryz.results92 ⟨?_,Pt.calls hB hn hh ow s2 wx k3 e3⟩
  simp -implicitDefEqProofs(disch:=omega)only[Nat.reduceEqDiff,↓reduceIte,vcu,↓vcd]
  rfl
def conO (x:Ex) (f t:Int):Option Ex:=if t < 0∨t=f∨0≤peerS x.cs f∨0≤peerS x.cs t then none else some ⟨x.s,x.ps,moveL x.s x.cs f t⟩
theorem fstC_peer {x:Ex} (hC:CV x.s x.cs) (l:Int):0≤fstC (hasL l) x.cs ↔ 0≤peerS x.cs l:=by
 rcases fstC_spec (hasL l) x.cs with ⟨e,hno⟩ |⟨k,e,hk,hP,hup⟩
 ·rw[e,peerS_no _ _ hno]
 ·rw[e,peerS_fst _ _ _ hk hP hup]
  have hR:=hC.2.1 _ (gc_mem hk)
  have r1:=hR.1
  have r2:=hR.2.1
  constructor
  ·intro _;rcases hP with q|q<;>omega
  ·intro _;omega
set_option maxRecDepth 8000 in
theorem connect_calls (B τ:AHeap) (h:Nat) (x:Ex) (f t:Int) (hp:Pt B τ h x) (hok:ExOk x) (hf:0≤f∧f≤x.s.O * x.s.E - 1) (ht:-1≤t∧t≤x.s.O * x.s.E - 1) :
  ACall Tryz.prog w0 90 [.pointer (some ⟨h,0,none⟩),.int .i64 f,.int .i64 t] τ fun r σ'=>r=.bool (conO x f t).isSome∧Pt B σ' h ((conO x f t).getD x)∧ld σ' h (0+4)=ld τ h (0+4):=by
 have hp0:=hp
 obtain⟨hB,hn,vp,vc,hh,ow,oc⟩:=hp
 have hC:=hok.2.2.2.1
 have hl12:=hC.len
 have b3:x.cs.length≤1048576:=by omega
 have c1:=callOf_calls (w0:=w0) τ h x vp vc f hh oc.tris b3
 have c2:=callOf_calls (w0:=w0) τ h x vp vc t hh oc.tris b3
 have i1:=fstC_peer hC f
 have i2:=fstC_peer hC t
 generalize fstC (hasL f) x.cs=z1 at c1 i1
 generalize fstC (hasL t) x.cs=z2 at c2 i2
 refine acall_go mixed Tryz.func90 rfl good90 fun pr=>?_
 have hno:(t < 0∨t=f∨0≤peerS x.cs f∨0≤peerS x.cs t)→conO x f t=none:=fun hh=>if_pos hh
 by_cases h1:f=t
 ·have d1:decide (f=t)=true:=decide_eq_true h1
  simp -implicitDefEqProofs(disch:=omega)only[Nat.reduceEqDiff,↓reduceIte,vcu,↓vcd,d1]
  rw[hno (.inr (.inl h1.symm))]
  refine fin_one Tryz.results90 ⟨?_,hp0,rfl⟩
  simp -implicitDefEqProofs(disch:=omega)only[Nat.reduceEqDiff,↓reduceIte,vcu,↓vcd]
  rfl
 have d1:decide (f=t)=false:=decide_eq_false h1
 simp -implicitDefEqProofs(disch:=omega)only[Nat.reduceEqDiff,↓reduceIte,vcu,↓vcd,d1]
 refine c1.mono ?_
 rintro _ _ ⟨rfl,rfl⟩
 rename_i τ
 by_cases h2:0≤z1
 ·have d2:decide (z1 ≥ 0)=true:=decide_eq_true h2
  simp -implicitDefEqProofs(disch:=omega)only[Nat.reduceEqDiff,↓reduceIte,vcu,↓vcd,opK_some,d2]
  rw[hno (.inr (.inr (.inl (i1.1 h2))))]
  refine fin_one Tryz.results90 ⟨?_,hp0,rfl⟩
  simp -implicitDefEqProofs(disch:=omega)only[Nat.reduceEqDiff,↓reduceIte,vcu,↓vcd]
  rfl
 have d2:decide (z1 ≥ 0)=false:=decide_eq_false h2
 simp -implicitDefEqProofs(disch:=omega)only[Nat.reduceEqDiff,↓reduceIte,vcu,↓vcd,opK_some,d2]
 refine c2.mono ?_
 rintro _ _ ⟨rfl,rfl⟩
 rename_i τ
 by_cases h3:0≤z2
 ·have d3:decide (z2 ≥ 0)=true:=decide_eq_true h3
  simp -implicitDefEqProofs(disch:=omega)only[Nat.reduceEqDiff,↓reduceIte,vcu,↓vcd,opK_some,d3]
  rw[hno (.inr (.inr (.inr (i2.1 h3))))]
  refine fin_one Tryz.results90 ⟨?_,hp0,rfl⟩
  simp -implicitDefEqProofs(disch:=omega)only[Nat.reduceEqDiff,↓reduceIte,vcu,↓vcd]
  rfl
 have d3:decide (z2 ≥ 0)=false:=decide_eq_false h3
 have x0:lds τ h 0 3=some [.int .i64 x.s.O,.int .i64 x.s.E,.int .i64 x.s.M]:=lds_three (ld_of hh rfl) (ld_of hh rfl) (ld_of hh rfl)
 have x3:ld τ h (0+3)=some vc:=ld_of hh rfl
 have hm:(decide (mvOk x.s x.cs f t)=(conO x f t).isSome)∧(conO x f t).getD x=⟨x.s,x.ps,mvL x.s x.cs f t⟩:=by
  have hCE:CV x.s x.cs∧Enough x.s:=⟨hC,hok.1⟩
  by_cases h4:t < 0
  ·rw[hno (.inl h4)]
   have:¬ mvOk x.s x.cs f t:=fun hh=>by have:=hh.2.1.2.1;omega
   rw[decide_eq_false this,mvL_same hCE this]
   exact⟨rfl,rfl⟩
  ·have hnp:∀y,¬ 0≤peerS x.cs y→∀z,¬ Pr x.cs y z:=fun y hy=>by
    rcases peerS_spec x.cs y with hh |⟨_,hh⟩
    ·have:=(hh.lines hC).2;omega
    ·exact hh
   have p1:=hnp f fun q=>h2 (i1.2 q)
   have p2:=hnp t fun q=>h3 (i2.2 q)
   have hb:¬ Busy x.cs f t:=by
    rintro ⟨c,hc,e|e⟩
    ·exact p1 c.o ⟨c,hc,.inl ⟨e,rfl⟩⟩
    ·exact p2 c.i ⟨c,hc,.inr ⟨e,rfl⟩⟩
   have hmv:mvOk x.s x.cs f t:=⟨hCE,⟨hf,by omega⟩,hb⟩
   have:conO x f t=some ⟨x.s,x.ps,moveL x.s x.cs f t⟩:=if_neg fun hh=>by
    rcases hh with q|q|q|q
    ·exact h4 q
    ·exact h1 q.symm
    ·exact h2 (i1.2 q)
    ·exact h3 (i2.2 q)
   rw[this,decide_eq_true hmv,mvL_ok hmv]
   exact⟨rfl,rfl⟩
 have hmc:=implMove8_calls (w0:=w0) τ x.s vc x.cs f t oc.tris b3
 rw[hm.1] at hmc
 rw[hm.2]
 generalize (conO x f t).isSome=bo at hmc
 simp -implicitDefEqProofs(disch:=omega)only[Nat.reduceEqDiff,↓reduceIte,vcu,↓vcd,opK_some,d3]
 refine region_tree mixed (quiets [0,1,2,4,5,6,8,9] (quiets [3,7] (.one 10 (quiets [11,12,13,14,15] .stop)))) [([3,7],Sub τ)] kr9 kr9 (fun p hp=>by simp only[List.mem_singleton] at hp;subst hp;exact Sub.refl _) ?_
 refine tree_quiets _ _ _ _ sf0 kr9 kr9 ?_
 simp -implicitDefEqProofs(disch:=omega)only[Nat.reduceEqDiff,↓reduceIte,vcu,↓vcd,vcp]
 refine tree_quiets τ _ _ _ sf1 kr9 kr9 ?_
 simp -implicitDefEqProofs(disch:=omega)only[Nat.reduceEqDiff,↓reduceIte,vcu,↓vcd,vcp,x0,x3,co29]
 refine tree_one rfl ?_
 try simp -implicitDefEqProofs(disch:=omega)only[Nat.reduceEqDiff,↓reduceIte,vcu,↓vcd]
 refine hmc.mono ?_
 rintro _ τ2 ⟨vx,rfl,s2,wx⟩
 simp -implicitDefEqProofs(disch:=omega)only[Nat.reduceEqDiff,↓reduceIte,vcu,↓vcd,opK_some]
 refine⟨keep_of rfl (fun p hp=>by simp only[List.mem_singleton] at hp;subst hp;exact .inr s2),?_⟩
 refine tree_quiets _ _ _ _ sf0 kr9 kr9 ?_
 simp -implicitDefEqProofs(disch:=omega)only[Nat.reduceEqDiff,↓reduceIte,vcu,↓vcd,vcp,List.getElem?_toArray,List.getElem?_cons_zero,List.getElem?_cons_succ]
 refine tree_stop ?_
 simp -implicitDefEqProofs(disch:=omega)only[Nat.reduceEqDiff,↓reduceIte,vcu,↓vcd]
 obtain⟨vA,vL,vC',rfl⟩:=tris_slc wx.tris
 refine r_set (g:=h) (i:=3) (C:=pcs x vp vc) z9q z9r co31 z9r (s2 _ _ hh) (by simp [pcs]) fun τ3 k3 e3=>?_
 simp -implicitDefEqProofs(disch:=omega)only[Nat.reduceEqDiff,↓reduceIte,vcu,↓vcd]
 refine fin_one Tryz.results90 ⟨?_,Pt.calls hB hn hh ow s2 wx k3 e3,?_⟩
 ·simp -implicitDefEqProofs(disch:=omega)only[Nat.reduceEqDiff,↓reduceIte,vcu,↓vcd]
 ·rw[ld_of e3 rfl,ld_of hh rfl]
theorem doO_call8 {x:Ex} {L:Int} {N:List UInt8} (h:0≤L∧L≤(x.ps.length:Int) - 1):doO x ⟨0,L,N⟩=conO x L (lineS x.ps N):=by
 unfold doO conO
 rw[if_neg (fun q=>q h),if_pos rfl]
theorem doO_drop {x:Ex} {L:Int} {N:List UInt8} (h:0≤L∧L≤(x.ps.length:Int) - 1):doO x ⟨1,L,N⟩=if N=[] then hangO x L else none:=by
 unfold doO hangO
 rw[if_neg (fun q=>q h),if_neg (by simp),if_pos rfl]
 by_cases h1:N=[]
 ·rw[if_pos h1]
  by_cases h2:peerS x.cs L < 0
  ·rw[if_pos (.inl h2),if_pos h2]
  ·rw[if_neg (fun q=>q.elim h2 fun q=>q h1),if_neg h2]
 ·rw[if_neg h1,if_pos (.inr h1)]
theorem doO_num {x:Ex} {k:Nat} {N:List UInt8} (h:0≤(k:Int)∧(k:Int)≤(x.ps.length:Int) - 1):doO x ⟨2,k,N⟩=if renO x.ps k N=true then some ⟨x.s,x.ps.set k N,x.cs⟩ else none:=by
 unfold doO renO
 rw[if_neg (fun q=>q h),if_neg (by simp),if_neg (by simp),if_pos rfl]
 simp only[Int.toNat_natCast,decide_eq_true_eq]
 by_cases h1:N=x.ps.getD k []∨¬ PlanOk (x.ps.set k N)
 ·rw[if_pos h1,if_neg fun q=>q h1]
 ·rw[if_neg h1,if_pos h1]
theorem doO_none {x:Ex} {K L:Int} {N:List UInt8} (h:¬ (0≤L∧L≤(x.ps.length:Int) - 1)∨(K≠0∧K≠1∧K≠2)):doO x ⟨K,L,N⟩=none:=by
 unfold doO
 rcases h with h |⟨h0,h1,h2⟩
 ·rw[if_pos h]
 ·by_cases h:0≤L∧L≤(x.ps.length:Int) - 1
  ·rw[if_neg (fun q=>q h),if_neg h0,if_neg h1,if_neg h2]
  ·rw[if_pos h]
theorem tree_load {P:Program} {w0:Base} {md:Region.Mode} {all:List Oper} {Sf:Nat→AHeap→Prop} {K:AK} {i d h k:Nat} {t:TypeId} {x:Operand} {ty:TypeId} {pos:String} {af:Array Edge} {w:Abs.Way} {a:AFrame} {σ:AHeap} {v:Value}
  (ho:all[i]?=some ⟨some d,.load t x,ty,pos,af,none⟩) (hx:ev a x=.pointer (some ⟨h,k,none⟩)) (hag:aisAgg P t=false) (hS:∀τ,Sf i τ→ld τ h k=some v)
  (hw:aTree P w0 md all.toArray Sf K w (fset a d v) σ):aTree P w0 md all.toArray Sf K (.quiet i w) a σ:=by
 refine⟨⟨some d,.load t x,ty,pos,af,none⟩,v,by simpa using ho,.inl ⟨rfl,fun τ hτ=>?_⟩,hw⟩
 refine⟨h,k,hx,?_⟩
 rw[if_neg (by rw[hag];simp)]
 exact⟨v,hS τ hτ,rfl,rfl⟩
set_option maxRecDepth 8000 in
set_option maxHeartbeats 1600000 in
theorem do_calls (B τ:AHeap) (h:Nat) (x:Ex) (d:Dd) (hp:Pt B τ h x) (hok:ExOk x) (hN:d.t.length≤1048576) :
  ACall Tryz.prog w0 45 [.pointer (some ⟨h,0,none⟩),ddA d] τ fun r σ'=>r=.bool (doO x d).isSome∧Pt B σ' h ((doO x d).getD x):=by
 obtain⟨K,L,N⟩:=d
 have hNl:N.length≤1048576:=hN
 obtain⟨hB,hn,vp,vc,hh,ow,oc⟩:=id hp
 have hC:=hok.2.2.2.1
 have hPl:=hok.2.1
 have hLn:=hok.2.2.1
 have hxB:=exB_of hok
 obtain⟨b1,b2,b3⟩:=hxB
 unfold ddA
 dsimp only
 refine acall_go mixed Tryz.func45 rfl good45 fun pr=>?_
 simp -implicitDefEqProofs(disch:=omega)only[Nat.reduceEqDiff,↓reduceIte,vcu,↓vcd]
 refine r_boxed fun b T nb s1 e1=>?_
 replace e1:T b=some ⟨[.int .i64 K,.int .i64 L,.string (tx N)],false⟩:=e1
 have hp1:=hp.sub s1
 have hh1:=s1 _ _ hh
 have ow1:=ow.sub s1
 have x0:lds T h 0 3=some [.int .i64 x.s.O,.int .i64 x.s.E,.int .i64 x.s.M]:=lds_three (ld_of hh1 rfl) (ld_of hh1 rfl) (ld_of hh1 rfl)
 have x4:ld T h (0+4)=some vp:=ld_of hh1 rfl
 have u0:ld T b (0+0)=some (.int .i64 K):=ld_of e1 rfl
 have u1:ld T b (0+1)=some (.int .i64 L):=ld_of e1 rfl
 have u2:ld T b (0+2)=some (.string (tx N)):=ld_of e1 rfl
 simp -implicitDefEqProofs(disch:=omega)only[Nat.reduceEqDiff,↓reduceIte,vcu,↓vcd,x0,u1,co29,Nat.add_zero]
 rw[r_callq]
 refine⟨_,hasLine_at T x.s.O x.s.E x.s.M L hok.1.1,?_⟩
 rw[←hLn]
 by_cases hl:0≤L∧L≤(x.ps.length:Int) - 1
 case neg =>
  rw[decide_eq_false hl]
  simp -implicitDefEqProofs(disch:=omega)only[Nat.reduceEqDiff,↓reduceIte,vcu,↓vcd,Bool.not_false]
  rw[doO_none (.inl hl)]
  refine fin_one Tryz.results45 ⟨?_,hp1⟩
  simp -implicitDefEqProofs(disch:=omega)only[Nat.reduceEqDiff,↓reduceIte,vcu,↓vcd]
  rfl
 rw[decide_eq_true hl]
 obtain⟨k,rfl⟩:∃k:Nat,L=k:=⟨L.toNat,by omega⟩
 have hk:k < x.ps.length:=by omega
 simp -implicitDefEqProofs(disch:=omega)only[Nat.reduceEqDiff,↓reduceIte,vcu,↓vcd,Bool.not_true,u0,Nat.add_zero]
 have hBb:B b=none:=free_sub hB nb
 have hbh:b≠h:=by rintro rfl;rw[hh] at nb;cases nb
 have hpb:Pt (B.upd b (T b)) T h x:=by
  refine⟨fun q ob hq=>?_,by rw[AHeap.upd_ne _ _ hbh.symm];exact hn,vp,vc,hh1,?_,?_⟩
  ·by_cases e:q=b
   ·subst e;rw[AHeap.upd_same] at hq;exact hq
   ·rw[AHeap.upd_ne _ _ e] at hq;exact s1 _ _ (hB _ _ hq)
  ·exact ow.imp id fun⟨g,a1,a2,a3⟩=>⟨g,a1,s1 _ _ a2,Bs_free (by rw[AHeap.upd_ne _ _ (ne_of' nb a2)];exact (Bs_none a3).1) (Bs_none a3).2.1 (Bs_none a3).2.1⟩
  ·exact oc.imp id fun⟨g,a1,a2,a3⟩=>⟨g,a1,s1 _ _ a2,Bs_free (by rw[AHeap.upd_ne _ _ (ne_of' nb a2)];exact (Bs_none a3).1) (Bs_none a3).2.1 (Bs_none a3).2.1⟩
 by_cases hK0:K=0
 ·subst hK0
  have d0:decide ((0:Int)=0)=true:=rfl
  have t4:=ow1.texts
  have hcon:=connect_calls (w0:=w0) (B.upd b (T b)) T h x k (lineS x.ps N) hpb hok (by rw[←hLn];exact hl) ⟨lineS_ge,by have:=lineS_lt (ps:=x.ps) (t:=N);omega⟩
  rw[doO_call8 hl]
  generalize conO x k (lineS x.ps N)=co at hcon
  simp -implicitDefEqProofs(disch:=omega)only[Nat.reduceEqDiff,↓reduceIte,vcu,↓vcd,d0]
  refine region_tree mixed (quiets [0,1,2,3,5,6,7,9] (quiets [4,8,10] (.one 11 (.one 12 (quiets [13] .stop))))) [([4],fun τ=>ld τ b (0+1)=some (.int .i64 (k:Int))),([8],fun τ=>ld τ h (0+4)=some vp),([10],fun τ=>ld τ b (0+2)=some (.string (tx N)))] kr9 kr9 (fun p hp=>by
   simp only[List.mem_cons,List.not_mem_nil,or_false] at hp
   rcases hp with rfl|rfl|rfl
   ·exact u1
   ·exact x4
   ·exact u2) ?_
  refine tree_quiets _ _ _ _ sf0 kr9 kr9 ?_
  simp -implicitDefEqProofs(disch:=omega)only[Nat.reduceEqDiff,↓reduceIte,vcu,↓vcd,vcp]
  refine tree_load (h:=b) (k:=0+1) (v:=.int .i64 k) rfl z9q ag3 (fun τ hτ=>by simpa [sfOf] using hτ) ?_
  refine tree_load (h:=h) (k:=0+4) (v:=vp) rfl z9q ag114 (fun τ hτ=>by simpa [sfOf] using hτ) ?_
  refine tree_load (h:=b) (k:=0+2) (v:=.string (tx N)) rfl z9q ag9 (fun τ hτ=>by simpa [sfOf] using hτ) ?_
  refine tree_one rfl ?_
  try simp -implicitDefEqProofs(disch:=omega)only[Nat.reduceEqDiff,↓reduceIte,vcu,↓vcd]
  refine (lineOf8_calls T vp x.ps N t4 b1).mono ?_
  rintro _ _ ⟨rfl,rfl⟩
  rename_i T
  simp -implicitDefEqProofs(disch:=omega)only[Nat.reduceEqDiff,↓reduceIte,vcu,↓vcd,opK_some]
  refine⟨.inl rfl,?_⟩
  refine tree_one rfl ?_
  try simp -implicitDefEqProofs(disch:=omega)only[Nat.reduceEqDiff,↓reduceIte,vcu,↓vcd]
  refine hcon.mono ?_
  rintro _ T2 ⟨rfl,hpt,hv4⟩
  have hTb:T2 b=T b:=by rw[e1];exact hpt.1 _ _ (by rw[AHeap.upd_same];exact e1)
  rw[e1] at hTb
  simp -implicitDefEqProofs(disch:=omega)only[Nat.reduceEqDiff,↓reduceIte,vcu,↓vcd,opK_some]
  refine⟨keep_of rfl (fun p hp=>by
   simp only[List.mem_cons,List.not_mem_nil,or_false] at hp
   rcases hp with rfl|rfl|rfl
   ·exact .inr (ld_of hTb rfl)
   ·exact .inr (hv4.trans x4)
   ·exact .inr (ld_of hTb rfl)),?_⟩
  refine tree_quiets _ _ _ _ sf0 kr9 kr9 ?_
  simp -implicitDefEqProofs(disch:=omega)only[Nat.reduceEqDiff,↓reduceIte,vcu,↓vcd,vcp]
  refine tree_stop ?_
  try simp -implicitDefEqProofs(disch:=omega)only[Nat.reduceEqDiff,↓reduceIte,vcu,↓vcd]
  refine fin_one Tryz.results45 ⟨?_,hpt.older (sub_upd hBb)⟩
  simp -implicitDefEqProofs(disch:=omega)only[Nat.reduceEqDiff,↓reduceIte,vcu,↓vcd]
 have d0:decide (K=0)=false:=decide_eq_false hK0
 by_cases hK1:K=1
 ·subst hK1
  have d1:decide ((1:Int)=1)=true:=rfl
  have hne:abin Tryz.prog 9 .eql (.string (tx N)) (.string { data:=#[] })=some (.bool (decide (N=[]))):=abin_seql (ys:=[])
  have hha:=hangUp_calls (w0:=w0) (B.upd b (T b)) T h x k hpb hok
  rw[doO_drop hl]
  simp -implicitDefEqProofs(disch:=omega)only[Nat.reduceEqDiff,↓reduceIte,vcu,↓vcd,d0,d1]
  refine region_tree mixed (quiets [0] (quiets [1] (quiets [2,3,4,5,6,7] (quiets [8] (.one 9 (quiets [10,11] .stop)))))) [([1],fun τ=>ld τ b (0+2)=some (.string (tx N))),([8],Sub T)] kr9 kr9 (fun p hp=>by
   simp only[List.mem_cons,List.not_mem_nil,or_false] at hp
   rcases hp with rfl|rfl
   ·exact u2
   ·exact Sub.refl _) ?_
  refine tree_quiets _ _ _ _ sf0 kr9 kr9 ?_
  simp -implicitDefEqProofs(disch:=omega)only[Nat.reduceEqDiff,↓reduceIte,vcu,↓vcd,vcp]
  refine tree_load (h:=b) (k:=0+2) (v:=.string (tx N)) rfl z9q ag9 (fun τ hτ=>by simpa [sfOf] using hτ) ?_
  by_cases hNe:N=[]
  case neg =>
   have dN:decide (N=[])=false:=decide_eq_false hNe
   rw[if_neg hNe]
   refine tree_quiets _ _ _ _ sf0 kr9 kr9 ?_
   simp -implicitDefEqProofs(disch:=omega)only[Nat.reduceEqDiff,↓reduceIte,vcu,↓vcd,vcp,hne,dN]
   refine tree_quiets T _ _ _ (sf2 rfl) kr9 kr9 ?_
   simp -implicitDefEqProofs(disch:=omega)only[Nat.reduceEqDiff,↓reduceIte,vcu,↓vcd,vcp,hne,dN]
   refine tree_one rfl ?_
   try simp -implicitDefEqProofs(disch:=omega)only[Nat.reduceEqDiff,↓reduceIte,vcu,↓vcd,hne,dN]
   refine⟨.inl rfl,?_⟩
   refine tree_quiets _ _ _ _ sf0 kr9 kr9 ?_
   simp -implicitDefEqProofs(disch:=omega)only[Nat.reduceEqDiff,↓reduceIte,vcu,↓vcd,vcp]
   refine tree_stop ?_
   try simp -implicitDefEqProofs(disch:=omega)only[Nat.reduceEqDiff,↓reduceIte,vcu,↓vcd]
   refine fin_one Tryz.results45 ⟨?_,hp1⟩
   simp -implicitDefEqProofs(disch:=omega)only[Nat.reduceEqDiff,↓reduceIte,vcu,↓vcd]
   rfl
  have dN:decide (N=[])=true:=decide_eq_true hNe
  rw[if_pos hNe]
  generalize hangO x k=ho at hha
  refine tree_quiets _ _ _ _ sf0 kr9 kr9 ?_
  simp -implicitDefEqProofs(disch:=omega)only[Nat.reduceEqDiff,↓reduceIte,vcu,↓vcd,vcp,hne,dN]
  refine tree_quiets T _ _ _ (sf2 rfl) kr9 kr9 ?_
  simp -implicitDefEqProofs(disch:=omega)only[Nat.reduceEqDiff,↓reduceIte,vcu,↓vcd,vcp,hne,dN,u1]
  refine tree_one rfl ?_
  try simp -implicitDefEqProofs(disch:=omega)only[Nat.reduceEqDiff,↓reduceIte,vcu,↓vcd,hne,dN]
  refine hha.mono ?_
  rintro _ T2 ⟨rfl,hpt⟩
  have hTb:T2 b=T b:=by rw[e1];exact hpt.1 _ _ (by rw[AHeap.upd_same];exact e1)
  rw[e1] at hTb
  simp -implicitDefEqProofs(disch:=omega)only[Nat.reduceEqDiff,↓reduceIte,vcu,↓vcd,opK_some]
  refine⟨keep_of rfl (fun p hp=>by
   simp only[List.mem_cons,List.not_mem_nil,or_false] at hp
   rcases hp with rfl|rfl
   ·exact .inr (ld_of hTb rfl)
   ·exact .inl kr9),?_⟩
  refine tree_quiets _ _ _ _ sf0 kr9 kr9 ?_
  simp -implicitDefEqProofs(disch:=omega)only[Nat.reduceEqDiff,↓reduceIte,vcu,↓vcd,vcp]
  refine tree_stop ?_
  try simp -implicitDefEqProofs(disch:=omega)only[Nat.reduceEqDiff,↓reduceIte,vcu,↓vcd]
  refine fin_one Tryz.results45 ⟨?_,hpt.older (sub_upd hBb)⟩
  simp -implicitDefEqProofs(disch:=omega)only[Nat.reduceEqDiff,↓reduceIte,vcu,↓vcd]
 have d1:decide (K=1)=false:=decide_eq_false hK1
 by_cases hK2:K=2
 ·subst hK2
  have d2:decide ((2:Int)=2)=true:=rfl
  have h0:0 < x.ps.length:=by omega
  obtain⟨g,rfl,hgT,hgB⟩:∃g,vp=.slice (some ⟨g,0,none⟩) x.ps.length 1∧T g=some ⟨texts x.ps,false⟩∧Bs B h h g=none:=by
   rcases ow1 with ⟨_,e⟩ |⟨g,a1,a2,a3⟩
   ·rw[e] at h0;simp at h0
   ·exact⟨g,a1,a2,a3⟩
  have hre:=renumber_at (w0:=w0) T g k x.ps N hgT hk b1 b2 hNl
  rw[doO_num hl]
  simp -implicitDefEqProofs(disch:=omega)only[Nat.reduceEqDiff,↓reduceIte,vcu,↓vcd,d0,d1,d2]
  refine region_tree mixed (quiets [0,1,2,4,6] (quiets [3,5,7] (.one 8 (quiets [9] .stop)))) [([3,5,7],Sub T)] kr9 kr9 (fun p hp=>by simp only[List.mem_singleton] at hp;subst hp;exact Sub.refl _) ?_
  refine tree_quiets _ _ _ _ sf0 kr9 kr9 ?_
  simp -implicitDefEqProofs(disch:=omega)only[Nat.reduceEqDiff,↓reduceIte,vcu,↓vcd,vcp]
  refine tree_quiets T _ _ _ sf1 kr9 kr9 ?_
  simp -implicitDefEqProofs(disch:=omega)only[Nat.reduceEqDiff,↓reduceIte,vcu,↓vcd,vcp,u1,u2,x4]
  refine tree_one rfl ?_
  try simp -implicitDefEqProofs(disch:=omega)only[Nat.reduceEqDiff,↓reduceIte,vcu,↓vcd]
  refine hre.mono ?_
  rintro _ T2 ⟨rfl,k2,e2⟩
  have hgh:h≠g:=fun e=>(Bs_none hgB).2.1 e.symm
  have hT2h:=k2.at hh1 hgh
  have hpt:Pt B T2 h ((if renO x.ps k N=true then some (⟨x.s,x.ps.set k N,x.cs⟩:Ex) else none).getD x):=by
   have hcs:OwnC (Bs B h h) T2 vc x.cs:=(oc.sub s1).imp id fun⟨gc',a1,a2,a3⟩=>⟨gc',a1,k2.at a2 (by
    rintro rfl
    rw[hgT] at a2
    have a2:=congrArg AObj.cells (Option.some.inj a2)
    dsimp only at a2
    cases hq:x.ps with
    | nil=>rw[hq] at h0;simp at h0
    | cons q qs =>
     rw[hq] at a2
     cases hr:x.cs with
     | nil=>rw[hr] at a2;simp [texts,tris] at a2
     | cons c cs' =>
      rw[hr] at a2
      have q2:Value.string (tx q) :: texts qs=.int .i64 c.i :: .int .i64 c.o :: .int .i64 c.v :: tris cs':=a2
      cases (List.cons.inj q2).1),a3⟩
   by_cases hr:renO x.ps k N=true
   ·rw[if_pos hr]
    rw[if_pos hr] at e2
    exact⟨k2.sub (hB.trans s1) (Bs_none hgB).1,hn,_,vc,hT2h,.inr ⟨g,by rw[Option.getD_some];dsimp only;rw[List.length_set],e2,hgB⟩,hcs⟩
   ·rw[if_neg hr]
    rw[if_neg hr] at e2
    exact⟨k2.sub (hB.trans s1) (Bs_none hgB).1,hn,_,vc,hT2h,.inr ⟨g,rfl,e2,hgB⟩,hcs⟩
  have hbo:(if renO x.ps k N=true then some (⟨x.s,x.ps.set k N,x.cs⟩:Ex) else none).isSome=renO x.ps k N:=by
   cases renO x.ps k N<;>rfl
  rw[hbo]
  simp -implicitDefEqProofs(disch:=omega)only[Nat.reduceEqDiff,↓reduceIte,vcu,↓vcd,opK_some]
  refine⟨keep_of rfl (fun p hp=>by simp only[List.mem_singleton] at hp;subst hp;exact .inl kr9),?_⟩
  refine tree_quiets _ _ _ _ sf0 kr9 kr9 ?_
  simp -implicitDefEqProofs(disch:=omega)only[Nat.reduceEqDiff,↓reduceIte,vcu,↓vcd,vcp]
  refine tree_stop ?_
  try simp -implicitDefEqProofs(disch:=omega)only[Nat.reduceEqDiff,↓reduceIte,vcu,↓vcd]
  refine fin_one Tryz.results45 ⟨?_,hpt⟩
  simp -implicitDefEqProofs(disch:=omega)only[Nat.reduceEqDiff,↓reduceIte,vcu,↓vcd]
 have d2:decide (K=2)=false:=decide_eq_false hK2
 rw[doO_none (.inr ⟨hK0,hK1,hK2⟩)]
 simp -implicitDefEqProofs(disch:=omega)only[Nat.reduceEqDiff,↓reduceIte,vcu,↓vcd,d0,d1,d2]
 refine fin_one Tryz.results45 ⟨?_,hp1⟩
 simp -implicitDefEqProofs(disch:=omega)only[Nat.reduceEqDiff,↓reduceIte,vcu,↓vcd]
 rfl
set_option maxRecDepth 8000 in
theorem whole_calls (τ:AHeap) (h:Nat) (x:Ex) (vp vc:Value) (hh:τ h=some ⟨pcs x vp vc,false⟩) (tp:∃a l c,vp=.slice a l c) (tc:∃a l c,vc=.slice a l c) :
  ACall Tryz.prog w0 42 [.pointer (some ⟨h,0,none⟩)] τ fun r σ'=>r=exV vp vc x∧σ'=τ:=by
 obtain⟨pA,pL,pC,rfl⟩:=tp
 obtain⟨cA,cL,cC,rfl⟩:=tc
 refine acall_goc mixed Tryz.func42 rfl goodc42 fun pr=>?_
 simp -implicitDefEqProofs(disch:=omega)only[Nat.reduceEqDiff,↓reduceIte,vcu,↓vcd]
 refine r_new ze33 fun h4 T n4 s4 e4=>?_
 replace e4:T h4=some ⟨[.int .i64 0,.int .i64 0,.int .i64 0,.slice none 0 0,.slice none 0 0],false⟩:=e4
 have hh1:=s4 _ _ hh
 have x0:lds T h 0 3=some [.int .i64 x.s.O,.int .i64 x.s.E,.int .i64 x.s.M]:=lds_three (ld_of hh1 rfl) (ld_of hh1 rfl) (ld_of hh1 rfl)
 have x3:ld T h (0+3)=some (.slice cA cL cC):=ld_of hh1 rfl
 have x4:ld T h (0+4)=some (.slice pA pL pC):=ld_of hh1 rfl
 simp -implicitDefEqProofs(disch:=omega)only[Nat.reduceEqDiff,↓reduceIte,vcu,↓vcd]
 refine region_tree mixed (quiets [0,1,2,3,5,6,7,9,10,11,12] (quiets [4,8,13] (quiets [14] (.one 15 .stop)))) [([4,8,13],Sub T)] kr9 kr9 (fun p hp=>by simp only[List.mem_singleton] at hp;subst hp;exact Sub.refl _) ?_
 refine tree_quiets _ _ _ _ sf0 kr9 kr9 ?_
 simp -implicitDefEqProofs(disch:=omega)only[Nat.reduceEqDiff,↓reduceIte,vcu,↓vcd,vcp]
 refine tree_quiets T _ _ _ sf1 kr9 kr9 ?_
 simp -implicitDefEqProofs(disch:=omega)only[Nat.reduceEqDiff,↓reduceIte,vcu,↓vcd,vcp,x0,x3,x4,co29,Nat.add_zero]
 refine tree_quiets _ _ _ _ sf0 kr9 kr9 ?_
 simp -implicitDefEqProofs(disch:=omega)only[Nat.reduceEqDiff,↓reduceIte,vcu,↓vcd,vcp]
 rw[r_build]
 refine⟨(_,#[.int .i64 x.s.O,.int .i64 x.s.E,.int .i64 x.s.M,.slice pA pL pC,.slice cA cL cC]),⟨ze33,by simp -implicitDefEqProofs(disch:=omega)only[Nat.reduceEqDiff,↓reduceIte,vcu,↓vcd];kernel_rfl⟩,?_⟩
 try simp -implicitDefEqProofs(disch:=omega)only[Nat.reduceEqDiff,↓reduceIte,vcu,↓vcd]
 refine tree_one rfl ?_
 try simp -implicitDefEqProofs(disch:=omega)only[Nat.reduceEqDiff,↓reduceIte,vcu,↓vcd]
 refine r_sets (g:=h4) (i:=0) (C:=[.int .i64 0,.int .i64 0,.int .i64 0,.slice none 0 0,.slice none 0 0]) z9q z9co33 z9r z9z e4 z9l fun T9 k9 e9=>?_
 replace e9:T9 h4=some ⟨exC (.slice pA pL pC) (.slice cA cL cC) x,false⟩:=e9
 have l9:lds T9 h4 0 5=some [.int .i64 x.s.O,.int .i64 x.s.E,.int .i64 x.s.M,.slice pA pL pC,.slice cA cL cC]:=by rw[lds_of e9 (by simp [exC])];rfl
 simp -implicitDefEqProofs(disch:=omega)only[Nat.reduceEqDiff,↓reduceIte,vcu,↓vcd]
 refine⟨keep_of rfl (fun p hp=>by simp only[List.mem_singleton] at hp;subst hp;exact .inl kr9),?_⟩
 refine tree_stop ?_
 simp -implicitDefEqProofs(disch:=omega)only[Nat.reduceEqDiff,↓reduceIte,vcu,↓vcd]
 refine fin_cell Tryz.results42 τ (k9.sub s4 n4) (v:=exV (.slice pA pL pC) (.slice cA cL cC) x) (by simp -implicitDefEqProofs(disch:=omega)only[Nat.reduceEqDiff,↓reduceIte,vcu,↓vcd,l9,co33];rfl) ⟨rfl,rfl⟩
theorem Pt.ownX {σ B T:AHeap} {h:Nat} {x:Ex} {vp vc:Value} (hs:Sub σ B) (ow:OwnS (Bs B h h) T vp x.ps) (oc:OwnC (Bs B h h) T vc x.cs):OwnX σ T (exV vp vc x) x :=
 ⟨vp,vc,rfl,ow.imp id fun⟨g,a1,a2,a3⟩=>⟨g,a1,a2,free_sub hs (Bs_none a3).1⟩,oc.imp id fun⟨g,a1,a2,a3⟩=>⟨g,a1,a2,free_sub hs (Bs_none a3).1⟩⟩
end Go.Proofs.YtofdnmlpfagibaaGreatDoor
