/- Parts. -/
import Derived.Test.YtofdnmlpfagibaaGreatDoorSJb
import Derived.Laws.Strings
import Derived.Below
import Derived.WalkSmall
set_option linter.unusedSimpArgs false
set_option linter.unusedVariables false
set_option linter.unusedSectionVars false
namespace Go.Abs
open Go.RowKit
variable {P:Program} {w0:World} {σ:AHeap}
def OwnI (β σ:AHeap) (v:Value) (xs:List Int):Prop:=(v=.slice none 0 0∧xs=[])∨∃g,v=.slice (some ⟨g,0,none⟩) xs.length 1∧σ g=some ⟨ints .i64 xs,false⟩∧β g=none
theorem OwnI.ints {β σ:AHeap} {v:Value} {xs:List Int} (h:OwnI β σ v xs):Ints .i64 σ v xs:=h.imp id fun⟨g,e,hg,_⟩=>⟨g,0,e,intsAt_own hg⟩
theorem OwnI.older {β β' σ:AHeap} {v:Value} {xs:List Int} (h:OwnI β σ v xs) (hs:Sub β' β):OwnI β' σ v xs:=h.imp id fun⟨g,e,hg,hn⟩=>⟨g,e,hg,free_sub hs hn⟩
end Go.Abs
namespace Go.Clos
structure Cl where
 i:Int
 o:Int
 v:Int
deriving DecidableEq
end Go.Clos
namespace Go.Abs
open Go.RowKit Go.ChangeShapes Go.WideShapes Go.ChangeAt Go.Clos
section
variable {P:Program} {w0:World} {σ:AHeap}
theorem lds_three {h i:Nat} {u v w:Value} (h1:ld σ h i=some u) (h2:ld σ h (i+1)=some v) (h3:ld σ h (i+2)=some w):lds σ h i 3=some [u,v,w]:=by
 unfold ld at h1 h2 h3
 cases hσ:σ h with
 | none=>rw[hσ] at h1;cases h1
 | some ob =>
  rw[hσ] at h1 h2 h3
  simp only[Option.bind_some] at h1 h2 h3
  obtain⟨l1,g1⟩:=List.getElem?_eq_some_iff.1 h1
  obtain⟨l2,g2⟩:=List.getElem?_eq_some_iff.1 h2
  obtain⟨l3,g3⟩:=List.getElem?_eq_some_iff.1 h3
  rw[lds_of hσ (by omega)]
  congr 1
  rw[List.drop_eq_getElem_cons l1,List.drop_eq_getElem_cons l2,List.drop_eq_getElem_cons l3]
  simp [g1,g2,g3]
def cl0:Cl:=⟨0,0,0⟩
def tri (c:Cl):List Value:=[.int .i64 c.i,.int .i64 c.o,.int .i64 c.v]
def tris (cs:List Cl):List Value:=cs.flatMap tri
def TrisAt (σ:AHeap) (h o:Nat) (cs:List Cl):Prop:=∀i,i < cs.length→ld σ h (o+i * 3)=some (.int .i64 (cs.getD i cl0).i)∧ld σ h (o+i * 3+1)=some (.int .i64 (cs.getD i cl0).o)∧ld σ h (o+i * 3+2)=some (.int .i64 (cs.getD i cl0).v)
def Tris (σ:AHeap) (v:Value) (cs:List Cl):Prop:=(v=.slice none 0 0∧cs=[])∨∃h o,v=.slice (some ⟨h,o,none⟩) cs.length 3∧TrisAt σ h o cs
theorem tris_cons (c:Cl) (cs:List Cl):tris (c :: cs)=.int .i64 c.i :: .int .i64 c.o :: .int .i64 c.v :: tris cs:=rfl
theorem tris_append (cs ds:List Cl):tris (cs++ds)=tris cs++tris ds:=by simp [tris]
theorem tris_length (cs:List Cl):(tris cs).length=cs.length * 3:=by
 induction cs with
 | nil=>rfl
 | cons c cs ih=>rw[tris_cons];simp [ih];omega
theorem tris_get:∀(cs:List Cl) (i:Nat),i < cs.length→(tris cs)[i * 3]?=some (.int .i64 (cs.getD i cl0).i)∧(tris cs)[i * 3+1]?=some (.int .i64 (cs.getD i cl0).o)∧(tris cs)[i * 3+2]?=some (.int .i64 (cs.getD i cl0).v)
 | [],i,h=>absurd h (by simp)
 | c :: cs,0,_=>⟨rfl,rfl,rfl⟩
 | c :: cs,i+1,h=>by
  have:=tris_get cs i (by simpa using h)
  rw[tris_cons]
  have e1:(i+1) * 3=i * 3+3:=by omega
  have e2:i * 3+3+1=i * 3+1+3:=by omega
  have e3:i * 3+3+2=i * 3+2+3:=by omega
  rw[e1,e2,e3]
  simpa using this
theorem tris_one (cs:List Cl):(tris cs).all Value.oneCell'=true:=by
 rw[List.all_eq_true];intro v hv
 simp only[tris,tri,List.mem_flatMap,List.mem_cons,List.not_mem_nil,or_false] at hv
 obtain⟨c,_,rfl|rfl|rfl⟩:=hv<;>rfl
theorem tris_set:∀(cs:List Cl) (i:Nat),i < cs.length→∀x:Int,(tris cs).set (i * 3) (.int .i64 x)=tris (cs.set i ⟨x,(cs.getD i cl0).o,(cs.getD i cl0).v⟩)∧(tris cs).set (i * 3+1) (.int .i64 x)=tris (cs.set i ⟨(cs.getD i cl0).i,x,(cs.getD i cl0).v⟩)∧(tris cs).set (i * 3+2) (.int .i64 x)=tris (cs.set i ⟨(cs.getD i cl0).i,(cs.getD i cl0).o,x⟩)
 | [],i,h,x=>absurd h (by simp)
 | c :: cs,0,_,x=>⟨rfl,rfl,rfl⟩
 | c :: cs,i+1,h,x=>by
  have:=tris_set cs i (by simpa using h) x
  have e1:(i+1) * 3=i * 3+3:=by omega
  have e2:i * 3+3+1=i * 3+1+3:=by omega
  have e3:i * 3+3+2=i * 3+2+3:=by omega
  rw[e1,e2,e3,tris_cons]
  simp only[List.set_cons_succ,List.getD_cons_succ,tris_cons]
  exact⟨by rw[this.1],by rw[this.2.1],by rw[this.2.2]⟩
theorem trisAt_own {h:Nat} {cs:List Cl} {ro:Bool} (hσ:σ h=some ⟨tris cs,ro⟩):TrisAt σ h 0 cs:=by
 intro i hi
 have:=tris_get cs i hi
 unfold ld
 rw[hσ]
 simp only[Option.bind_some,Nat.zero_add]
 exact this
theorem TrisAt.sub {σ':AHeap} {h o:Nat} {cs:List Cl} (hs:Sub σ σ') (hi:TrisAt σ h o cs):TrisAt σ' h o cs:=fun i hlt=>⟨ld_sub hs (hi i hlt).1,ld_sub hs (hi i hlt).2.1,ld_sub hs (hi i hlt).2.2⟩
theorem Tris.sub {σ':AHeap} {v:Value} {cs:List Cl} (hs:Sub σ σ') (hi:Tris σ v cs):Tris σ' v cs:=hi.imp id fun⟨h,o,e,hh⟩=>⟨h,o,e,hh.sub hs⟩
theorem TrisAt.all {h o:Nat} {cs:List Cl} (hi:TrisAt σ h o cs) {i:Nat} (hlt:i < cs.length):lds σ h (o+i * 3) 3=some [.int .i64 (cs.getD i cl0).i,.int .i64 (cs.getD i cl0).o,.int .i64 (cs.getD i cl0).v]:=lds_three (hi i hlt).1 (hi i hlt).2.1 (hi i hlt).2.2
theorem TrisAt.take {h o:Nat} {cs:List Cl} (hi:TrisAt σ h o cs) (m:Nat):TrisAt σ h o (cs.take m):=by
 intro i hlt
 simp at hlt
 have:=hi i (by omega)
 have e:(cs.take m).getD i cl0=cs.getD i cl0:=by simp only[List.getD,List.getElem?_take];rw[if_pos (by omega)]
 rw[e];exact this
theorem acells_tris {h o:Nat} {cs:List Cl} (hi:TrisAt σ h o cs):acells 3 σ (.slice (some ⟨h,o,none⟩) cs.length 3)=some (tris cs):=by
 unfold acells
 simp only[if_true]
 by_cases h0:cs.length=0
 ·have:=List.eq_nil_of_length_eq_zero h0;subst this;rfl
 ·rw[if_neg h0]
  have hlast:=(hi (cs.length - 1) (by omega)).2.2
  unfold lds
  unfold ld at hlast
  cases hσ:σ h with
  | none=>rw[hσ] at hlast;cases hlast
  | some ob =>
   rw[hσ] at hlast
   simp only[Option.bind_some] at hlast ⊢
   have hfit:o+cs.length * 3≤ob.cells.length:=by
    rcases Nat.lt_or_ge (o+(cs.length - 1) * 3+2) ob.cells.length with h|h
    ·omega
    ·rw[List.getElem?_eq_none h] at hlast;cases hlast
   rw[if_pos hfit]
   congr 1
   apply List.ext_getElem?
   intro j
   rw[List.getElem?_take]
   by_cases hj:j < cs.length * 3
   ·rw[if_pos hj,List.getElem?_drop]
    obtain⟨q,r,rfl,hr⟩:∃q r,j=q * 3+r∧r < 3:=⟨j / 3,j % 3,by omega,by omega⟩
    have hq:q < cs.length:=by omega
    have g:=tris_get cs q hq
    have h2:=hi q hq
    unfold ld at h2
    rw[hσ] at h2
    simp only[Option.bind_some] at h2
    have hr':r=0∨r=1∨r=2:=by omega
    rcases hr' with rfl|rfl|rfl
    ·rw[Nat.add_zero,g.1];exact h2.1
    ·rw[g.2.1,←Nat.add_assoc];exact h2.2.1
    ·rw[g.2.2,←Nat.add_assoc];exact h2.2.2
   ·rw[if_neg hj,List.getElem?_eq_none (by rw[tris_length];omega)]
theorem ACall.tris_arg {f:FuncId} {pre post:List Value} {v:Value} {cs:List Cl} {R:Value→AHeap→Prop} (hc:callable P f=true) (hv:Tris σ v cs)
  (h:∀σ1 g o,Sub σ σ1→TrisAt σ1 g o cs→ACall P w0 f (pre++.slice (some ⟨g,o,none⟩) cs.length 3 :: post) σ1 R):ACall P w0 f (pre++v :: post) σ R:=by
 rcases hv with ⟨rfl,rfl⟩ |⟨g,o,rfl,hg⟩
 ·exact ACall.nil_arg hc fun g hg=>h _ g 0 (sub_upd hg) (fun i hi=>absurd hi (by simp))
 ·exact h σ g o (Sub.refl _) hg
theorem ACall.tris_quiet {f:FuncId} {pre post:List Value} {v F:Value} {cs:List Cl} (hc:callable P f=true) (hv:Tris σ v cs)
  (h:∀σ1 g o,Sub σ σ1→TrisAt σ1 g o cs→ACall P w0 f (pre++.slice (some ⟨g,o,none⟩) cs.length 3 :: post) σ1 fun r σ'=>r=F∧σ'=σ1):ACall P w0 f (pre++v :: post) σ fun r σ'=>r=F∧σ'=σ :=
 ACall.tris_arg hc hv fun σ1 g o hs hg=>(h σ1 g o hs hg).drop fun _ _ ⟨h1,h2⟩=>⟨σ,h2 ▸ hs,h1,rfl⟩
def OwnC (β σ:AHeap) (v:Value) (cs:List Cl):Prop:=(v=.slice none 0 0∧cs=[])∨∃g,v=.slice (some ⟨g,0,none⟩) cs.length 3∧σ g=some ⟨tris cs,false⟩∧β g=none
theorem OwnC.tris {β σ:AHeap} {v:Value} {cs:List Cl} (h:OwnC β σ v cs):Tris σ v cs:=h.imp id fun⟨g,e,hg,_⟩=>⟨g,0,e,trisAt_own hg⟩
theorem OwnC.sub {β σ τ:AHeap} {v:Value} {cs:List Cl} (h:OwnC β σ v cs) (hs:Sub σ τ):OwnC β τ v cs:=h.imp id fun⟨g,e,hg,hn⟩=>⟨g,e,hs _ _ hg,hn⟩
theorem OwnC.kept {β σ τ:AHeap} {v:Value} {cs:List Cl} {k:Nat} {ob:AObj} (h:OwnC β σ v cs) (hk:Kept k σ τ) (hb:β k=some ob):OwnC β τ v cs:=h.imp id fun⟨g,e,hg,hn⟩=>⟨g,e,hk.at hg (ne_of hn hb),hn⟩
theorem OwnC.older {β β' σ:AHeap} {v:Value} {cs:List Cl} (h:OwnC β σ v cs) (hs:Sub β' β):OwnC β' σ v cs:=h.imp id fun⟨g,e,hg,hn⟩=>⟨g,e,hg,free_sub hs hn⟩
theorem OwnC.row {β σ:AHeap} {v:Value} {cs:List Cl} (h:OwnC β σ v cs) (h0:0 < cs.length):∃g,v=.slice (some ⟨g,0,none⟩) cs.length 3∧σ g=some ⟨Go.Abs.tris cs,false⟩∧β g=none:=by
 rcases h with ⟨_,rfl⟩ |⟨g,e1,e2,e3⟩
 ·simp at h0
 ·exact⟨g,e1,e2,e3⟩
end
section
variable {P:Program} {w0:Base} {n:NR} {a:AFrame} {σ:AHeap} {K:AK} {Q:AQ} {q:Bool} {all os:List Oper}
variable {d:Nat} {dd:Option Tmp} {ty:TypeId} {pos:String} {af:Array Edge}
theorem r_pushC {t u:TypeId} {zv:Value} {b:Nat} {x y:Operand} {g e o len m:Nat} {cs ds:List Cl} (hE:Elems P t 3 zv b) (hb:b≤64) (hu:∃e2,P.underlying u=some (.slice e2))
  (hx:ev a x=.slice (some ⟨g,0,none⟩) len 3) (hg:σ g=some ⟨tris cs,false⟩) (hn:cs.length=len) (hy:ev a y=.slice (some ⟨e,o,none⟩) m 3) (he:TrisAt σ e o ds) (hm:ds.length=m) (hl:len+m≤4294967296)
  (hk:∀g' τ,σ g'=none→Kept g σ τ→τ g'=some ⟨tris (cs++ds),false⟩→vcR P w0 false all os (fset a d (.slice (some ⟨g',0,none⟩) (len+m) 3)) τ K) :
  vcR P w0 false all (⟨some d,.call ⟨.builtin .append,#[x,y],#[t,u]⟩,ty,pos,af,none⟩ :: os) a σ K:=by
 subst hn;subst hm
 refine r_push hE hu hx hg (by rw[tris_length]) (by rw[hy];exact acells_tris he) (tris_one ds) ?_ fun g' τ h1 h2 h3=>?_
 ·rw[tris_length]
  have:(cs.length * 3+ds.length * 3) * b≤4294967296 * 3 * 64:=Nat.mul_le_mul (by omega) hb
  omega
 ·rw[←tris_append] at h3
  have:=hk g' τ h1 h2 h3
  rw[tris_length,show ds.length * 3 / 3=ds.length by omega]
  exact this
theorem r_pushC_nil {t u:TypeId} {zv:Value} {b:Nat} {x y:Operand} {e o m:Nat} {ds:List Cl} (hE:Elems P t 3 zv b) (hb:b≤64) (hu:∃e2,P.underlying u=some (.slice e2))
  (hx:ev a x=.slice none 0 0) (hy:ev a y=.slice (some ⟨e,o,none⟩) m 3) (he:TrisAt σ e o ds) (hm:ds.length=m) (hl:m≤4294967296)
  (hk:∀g' τ,σ g'=none→Sub σ τ→τ g'=some ⟨tris ds,false⟩→vcR P w0 false all os (fset a d (.slice (some ⟨g',0,none⟩) m 3)) τ K) :
  vcR P w0 false all (⟨some d,.call ⟨.builtin .append,#[x,y],#[t,u]⟩,ty,pos,af,none⟩ :: os) a σ K:=by
 subst hm
 refine r_push_nil hE hu hx (by rw[hy];exact acells_tris he) ?_ fun g' τ h1 h2 h3=>?_
 ·rw[tris_length]
  have:ds.length * 3 * b≤4294967296 * 3 * 64:=Nat.mul_le_mul (by omega) hb
  omega
 ·have:=hk g' τ h1 h2 h3
  rw[tris_length,show ds.length * 3 / 3=ds.length by omega]
  exact this
end
end Go.Abs
namespace Go.Abs
theorem RelH.shrink {w0:World} {pr:Prot} {β:Beta} {σ:AHeap} {w:World} {g:Nat} {C D:List Value} (hH:RelH w0 pr β σ w) (hσ:σ g=some ⟨C++D,false⟩):RelH w0 pr β (σ.upd g (some ⟨C,false⟩)) w:=by
 obtain⟨p,hp,a1,a2⟩:=hH.obj g _ hσ
 refine⟨hH.below,?_,hH.dom,fun x ox hx=>?_,fun x y ox oy px py hne hx hy hpx hpy hro sx sy=>?_,fun k gd ob hk hgu=>hH.prot k gd ob hk fun G x e=>guard_upd (hgu G x e) rfl,hH.gb⟩
 ·obtain⟨N,hN⟩:=hH.fin
  refine⟨N,fun x hx=>⟨(hN x hx).1,?_⟩⟩
  have hne:x≠g:=by rintro rfl;rw[(hN x hx).2] at hσ;cases hσ
  rw[AHeap.upd_ne _ _ hne];exact (hN x hx).2
 ·by_cases e:x=g
  ·subst e;rw[AHeap.upd_same] at hx;cases hx
   refine⟨p,hp,fun h=>(List.append_eq_nil_iff.1 (a1 h)).1,fun hq=>?_⟩
   obtain⟨cs,elem,lo,hi,h1,h2,h3,h4,h5⟩:=(a2 hq).ex
   refine⟨cs,elem,lo,hi,h1,h2,?_,fun i v hv=>h4 i v ?_,h5⟩
   ·dsimp only at h3 ⊢;rw[List.length_append] at h3;omega
   ·dsimp only at hv ⊢
    rw[List.getElem?_append_left]
    ·exact hv
    ·rcases Nat.lt_or_ge i C.length with h|h
     ·exact h
     ·rw[List.getElem?_eq_none h] at hv;cases hv
  ·rw[AHeap.upd_ne _ _ e] at hx;exact hH.obj x ox hx
 ·by_cases e:x=g
  ·subst e
   rw[AHeap.upd_ne _ _ (fun h=>hne h.symm)] at hy
   exact hH.disj x y _ oy px py hne hσ hy hpx hpy rfl sx sy
  ·rw[AHeap.upd_ne _ _ e] at hx
   by_cases e2:y=g
   ·subst e2;exact hH.disj x y ox _ px py hne hx hσ hpx hpy hro sx sy
   ·rw[AHeap.upd_ne _ _ e2] at hy;exact hH.disj x y ox oy px py hne hx hy hpx hpy hro sx sy
theorem ACall.shrink {P:Program} {w0:World} {f:FuncId} {args:List Value} {σ:AHeap} {R R':Value→AHeap→Prop} (h:ACall P w0 f args σ R)
  (hR:∀r σ',R r σ'→∃g C D,σ' g=some ⟨C++D,false⟩∧R' r (σ'.upd g (some ⟨C,false⟩))):ACall P w0 f args σ R' :=
 ⟨h.1,fun pr β w args' hH hA=>(h.2 pr β w args' hH hA).mono fun _ _ ⟨β',r,r',σ',a1,a2,a3,a4,a5⟩ =>
  let ⟨_,_,_,e1,e2⟩:=hR r σ' a5;⟨β',r,r',_,a1,a2,a3,a4.shrink e1,e2⟩⟩
end Go.Abs
namespace Go.Abs
open Go.RowKit
variable {P:Program} {w0:Base}
def tx (xs:List UInt8):ByteArray:=⟨xs.toArray⟩
theorem tx_of (s:ByteArray):s=tx s.data.toList:=by cases s;simp [tx]
theorem tx_list {xs:List UInt8}:(tx xs).data.toList=xs:=by simp [tx]
theorem tx_inj {xs ys:List UInt8}:tx xs=tx ys ↔ xs=ys:=⟨fun h=>by rw[←tx_list (xs:=xs),h,tx_list],fun h=>h ▸ rfl⟩
theorem tx_size {xs:List UInt8}:(tx xs).size=xs.length:=by simp [tx,ByteArray.size]
theorem tx_nil:(ByteArray.mk #[])=tx []:=rfl
theorem tx_empty:ByteArray.empty=tx []:=rfl
theorem tx_push {xs:List UInt8} {b:UInt8}:(tx xs).push b=tx (xs++[b]):=by simp [tx,ByteArray.push]
theorem tx_extract {xs:List UInt8} {i j:Nat}:(tx xs).extract i j=tx ((xs.drop i).take (j - i)):=by
 apply ByteArray.ext
 rw[ByteArray.data_extract]
 simp only[tx,List.extract_toArray]
theorem tx_append {xs ys:List UInt8}:tx xs++tx ys=tx (xs++ys):=by
 apply ByteArray.ext
 rw[ByteArray.data_append];simp [tx]
theorem tx_toList {xs:List UInt8}:(tx xs).toList=xs:=by rw[ByteArray.toList_eq,tx_list]
theorem foldl_tx (bs:List Int):∀xs:List UInt8,bs.foldl (fun s n=>ByteArray.push s (UInt8.ofNat n.toNat)) (tx xs)=tx (xs++bs.map fun n=>UInt8.ofNat n.toNat):=by
 induction bs with
 | nil=>intro xs;simp
 | cons b bs ih=>intro xs;simp only[List.foldl_cons,tx_push,ih,List.map_cons,List.append_assoc,List.singleton_append]
theorem textOf_tx {bs:List Int}:textOf bs=tx (bs.map fun n=>UInt8.ofNat n.toNat):=by
 have:=foldl_tx bs []
 rw[List.nil_append] at this
 exact this
theorem abin_seql {t:TypeId} {xs ys:List UInt8}:abin P t .eql (.string (tx xs)) (.string (tx ys))=some (.bool (decide (xs=ys))):=by
 simp only[abin,tx_toList];congr 2;rw[Bool.eq_iff_iff];simp
theorem abin_sneq {t:TypeId} {xs ys:List UInt8}:abin P t .neq (.string (tx xs)) (.string (tx ys))=some (.bool (!decide (xs=ys))):=by
 simp only[abin,tx_toList];congr 3;rw[Bool.eq_iff_iff];simp
theorem abin_sadd {t:TypeId} {xs ys:List UInt8} (h:xs.length+ys.length≤1099511627776):abin P t .add (.string (tx xs)) (.string (tx ys))=some (.string (tx (xs++ys))):=by
 simp only[abin,tx_size,tx_append];rw[if_pos h]
theorem alenV_tx {t:TypeId} (h:P.underlying t=some .string) {xs:List UInt8}:alenV P t (.string (tx xs))=some (.int .i64 (xs.length:Int)):=by rw[alenV_string h,tx_size]
theorem aslice_thi {t:TypeId} (h:P.underlying t=some .string) {xs:List UInt8} {k:IntKind} {u:Int}:aslice P t (.string (tx xs)) none (some (.int k u))=some (0≤u∧u≤xs.length,.string (tx (xs.take u.toNat))):=by
 simp [aslice,h,tx_size,tx_extract]
theorem aslice_tlo {t:TypeId} (h:P.underlying t=some .string) {xs:List UInt8} {k:IntKind} {l:Int}:aslice P t (.string (tx xs)) (some (.int k l)) none=some (0≤l∧l≤xs.length,.string (tx (xs.drop l.toNat))):=by
 simp only[aslice,h,tx_size,tx_extract]
 rw[List.take_of_length_le (by rw[List.length_drop];omega)]
theorem aslice_tlohi {t:TypeId} (h:P.underlying t=some .string) {xs:List UInt8} {k k':IntKind} {l u:Int}:aslice P t (.string (tx xs)) (some (.int k l)) (some (.int k' u))=some (0≤l∧l≤u∧u≤xs.length,.string (tx ((xs.drop l.toNat).take (u.toNat - l.toNat)))):=by
 simp only[aslice,h,tx_size,tx_extract]
theorem aconvH_bytes {σ:AHeap} {s t e:TypeId} {h o z:Nat} {bs:List Int} {l:Nat} (hs:P.underlying s=some (.slice e)) (he:P.underlying e=some (.int .u8)) (ht:P.underlying t=some .string) (hl:lds σ h o l=some (bs.map (.int .u8))) :
  aconvH P σ s t (.slice (some ⟨h,o,none⟩) l z)=some (.string (tx (bs.map fun n=>UInt8.ofNat n.toNat))):=by
 have key:∀bs:List Int,(bs.map (Value.int .u8)).mapM byteOf=some bs:=by
  intro bs
  induction bs with
  | nil=>rfl
  | cons b bs ih=>rw[List.map_cons,List.mapM_cons,ih];rfl
 simp only[aconvH,hs,he,ht,hl,Option.bind_some,key,Option.map_some,textOf_tx]
variable {q:Bool} {all os:List Oper} {a:AFrame} {σ:AHeap} {K:AK} {d:Nat} {ty:TypeId} {pos:String} {af:Array Edge}
def bindX (x y:Value) (k:Value→Prop):Prop:=∃xs k' i,x=.string (tx xs)∧y=.int k' i∧0≤i∧i < xs.length∧k (.int .u8 (xs.getD i.toNat 0).toNat)
theorem r_index {t:TypeId} {x y:Operand} (ht:P.underlying t=some .string):vcR P w0 q all (⟨some d,.index t x y,ty,pos,af,none⟩ :: os) a σ K=bindX (ev a x) (ev a y) (stepK P w0 q all os a d σ K):=by
 rw[r_pureE (α:=ByteArray × IntKind × Int) (p:=fun z=>ev a x=.string z.1∧ev a y=.int z.2.1 z.2.2∧0≤z.2.2∧z.2.2 < z.1.size) (v:=fun z=>.int .u8 (z.1.data.toList.getD z.2.2.toNat 0).toNat) rfl fun K=>by
  apply propext;constructor
  ·rintro ⟨_,s,k,i,h1,h2,h3,h4,h5⟩;exact⟨(s,k,i),⟨h1,h2,h3,h4⟩,h5⟩
  ·rintro ⟨⟨s,k,i⟩,⟨h1,h2,h3,h4⟩,h5⟩;exact⟨ht,s,k,i,h1,h2,h3,h4,h5⟩]
 apply propext;constructor
 ·rintro ⟨⟨s,k,i⟩,⟨h1,h2,h3,h4⟩,h5⟩
  refine⟨s.data.toList,k,i,h1.trans ?_,h2,h3,?_,h5⟩
  ·rw[←tx_of]
  ·have:(s.data.toList.length:Int)=s.size:=by rw[Array.length_toList];rfl
   rw[this];exact h4
 ·rintro ⟨xs,k,i,h1,h2,h3,h4,h5⟩
  refine⟨(tx xs,k,i),⟨h1,h2,h3,by rw[tx_size];exact h4⟩,?_⟩
  simp only[tx_list]
  exact h5
theorem bindX_some {xs:List UInt8} {k:IntKind} {i:Int} (hi:0≤i∧i < xs.length):bindX (.string (tx xs)) (.int k i) (stepK P w0 q all os a d σ K)=vcR P w0 q all os (fset a d (.int .u8 (xs.getD i.toNat 0).toNat)) σ K:=by
 apply propext;constructor
 ·rintro ⟨xs',k',i',e1,e2,_,_,hk⟩;cases e2;rw[Value.string.injEq,tx_inj] at e1;subst e1;exact hk
 ·intro hk;exact⟨xs,k,i,rfl,rfl,hi.1,hi.2,hk⟩
theorem aslice_thi' {t:TypeId} (h:P.underlying t=some .string):∀(xs:List UInt8) (k:IntKind) (u:Int),aslice P t (.string (tx xs)) none (some (.int k u))=some (0≤u∧u≤xs.length,.string (tx (xs.take u.toNat))):=fun _ _ _=>aslice_thi h
theorem aslice_tlo' {t:TypeId} (h:P.underlying t=some .string):∀(xs:List UInt8) (k:IntKind) (l:Int),aslice P t (.string (tx xs)) (some (.int k l)) none=some (0≤l∧l≤xs.length,.string (tx (xs.drop l.toNat))):=fun _ _ _=>aslice_tlo h
theorem aslice_tlohi' {t:TypeId} (h:P.underlying t=some .string):∀(xs:List UInt8) (k k':IntKind) (l u:Int),aslice P t (.string (tx xs)) (some (.int k l)) (some (.int k' u))=some (0≤l∧l≤u∧u≤xs.length,.string (tx ((xs.drop l.toNat).take (u.toNat - l.toNat)))):=fun _ _ _ _ _=>aslice_tlohi h
theorem alenV_tx' {t:TypeId} (h:P.underlying t=some .string):∀(xs:List UInt8),alenV P t (.string (tx xs))=some (.int .i64 (xs.length:Int)):=fun _=>alenV_tx h
theorem r_index' {t:TypeId} (ht:P.underlying t=some .string):∀(w0:Base) (q:Bool) (all os:List Oper) (a:AFrame) (σ:AHeap) (K:AK) (d:Nat) (ty:TypeId) (pos:String) (af:Array Edge) (x y:Operand),
  vcR P w0 q all (⟨some d,.index t x y,ty,pos,af,none⟩ :: os) a σ K=bindX (ev a x) (ev a y) (stepK P w0 q all os a d σ K):=fun _ _ _ _ _ _ _ _ _ _ _ _ _=>r_index ht
end Go.Abs
namespace Go.Abs
open Go.RowKit
section
variable {P:Program} {w0:World} {σ:AHeap}
def TextsAt (σ:AHeap) (h o:Nat) (xs:List (List UInt8)):Prop:=∀i,i < xs.length→ld σ h (o+i)=some (.string (tx (xs.getD i [])))
def Texts (σ:AHeap) (v:Value) (xs:List (List UInt8)):Prop:=(v=.slice none 0 0∧xs=[])∨∃h o,v=.slice (some ⟨h,o,none⟩) xs.length 1∧TextsAt σ h o xs
theorem TextsAt.sub {σ σ':AHeap} {h o:Nat} {xs:List (List UInt8)} (hs:Sub σ σ') (hi:TextsAt σ h o xs):TextsAt σ' h o xs:=fun i hlt=>ld_sub hs (hi i hlt)
theorem Texts.sub {σ σ':AHeap} {v:Value} {xs:List (List UInt8)} (hs:Sub σ σ') (hi:Texts σ v xs):Texts σ' v xs:=hi.imp id fun⟨h,o,e,hh⟩=>⟨h,o,e,hh.sub hs⟩
theorem ACall.texts_arg {f:FuncId} {pre post:List Value} {v:Value} {xs:List (List UInt8)} {R:Value→AHeap→Prop} (hc:callable P f=true) (hv:Texts σ v xs)
  (h:∀σ1 g o,Sub σ σ1→TextsAt σ1 g o xs→ACall P w0 f (pre++.slice (some ⟨g,o,none⟩) xs.length 1 :: post) σ1 R):ACall P w0 f (pre++v :: post) σ R:=by
 rcases hv with ⟨rfl,rfl⟩ |⟨g,o,rfl,hg⟩
 ·exact ACall.nil_arg hc fun g hg=>h _ g 0 (sub_upd hg) (fun i hi=>absurd hi (by simp))
 ·exact h σ g o (Sub.refl _) hg
theorem ACall.texts_quiet {f:FuncId} {pre post:List Value} {v F:Value} {xs:List (List UInt8)} (hc:callable P f=true) (hv:Texts σ v xs)
  (h:∀σ1 g o,Sub σ σ1→TextsAt σ1 g o xs→ACall P w0 f (pre++.slice (some ⟨g,o,none⟩) xs.length 1 :: post) σ1 fun r σ'=>r=F∧σ'=σ1):ACall P w0 f (pre++v :: post) σ fun r σ'=>r=F∧σ'=σ :=
 ACall.texts_arg hc hv fun σ1 g o hs hg=>(h σ1 g o hs hg).drop fun _ _ ⟨h1,h2⟩=>⟨σ,h2 ▸ hs,h1,rfl⟩
def texts (xs:List (List UInt8)):List Value:=xs.map fun t=>Value.string (tx t)
theorem texts_length (xs:List (List UInt8)):(texts xs).length=xs.length:=by simp [texts]
theorem texts_get {xs:List (List UInt8)} {i:Nat} (h:i < xs.length):(texts xs)[i]?=some (.string (tx (xs.getD i []))):=by simp [texts,h,List.getD]
theorem textsAt_own {h:Nat} {xs:List (List UInt8)} {ro:Bool} (hσ:σ h=some ⟨texts xs,ro⟩):TextsAt σ h 0 xs:=by
 intro i hi
 unfold ld
 rw[hσ]
 simp only[Option.bind_some,Nat.zero_add]
 exact texts_get hi
theorem texts_one (xs:List (List UInt8)):(texts xs).all Value.oneCell'=true:=by
 rw[List.all_eq_true];intro v hv;simp only[texts,List.mem_map] at hv;obtain⟨i,_,rfl⟩:=hv;rfl
theorem texts_set (xs:List (List UInt8)) (i:Nat) (x:List UInt8):(texts xs).set i (.string (tx x))=texts (xs.set i x):=by simp [texts,List.map_set]
theorem texts_append (xs ys:List (List UInt8)):texts xs++texts ys=texts (xs++ys):=by simp [texts]
theorem azeros_texts (m:Nat):azeros (.string (tx [])) m=texts (List.replicate m []):=by rw[azeros_one _ rfl];simp [texts]
theorem acells_texts_at {h o:Nat} {xs:List (List UInt8)} (hi:TextsAt σ h o xs) (hl:∃ob,σ h=some ob∧o+xs.length≤ob.cells.length):acells 1 σ (.slice (some ⟨h,o,none⟩) xs.length 1)=some (texts xs):=by
 unfold acells
 simp only[if_true]
 by_cases h0:xs.length=0
 ·have:=List.eq_nil_of_length_eq_zero h0
  subst this
  simp [texts]
 ·rw[if_neg h0]
  obtain⟨ob,hσ,hle⟩:=hl
  unfold lds
  rw[hσ]
  simp only[Option.bind_some,Nat.mul_one]
  rw[if_pos hle]
  congr 1
  apply List.ext_getElem?
  intro i
  by_cases hlt:i < xs.length
  ·rw[texts_get hlt,List.getElem?_take,if_pos hlt,List.getElem?_drop]
   have:=hi i hlt
   unfold ld at this
   rw[hσ] at this
   simpa using this
  ·rw[List.getElem?_eq_none (by simp;omega),List.getElem?_eq_none (by simp [texts];omega)]
theorem acells_texts {h o:Nat} {xs:List (List UInt8)} (hi:TextsAt σ h o xs):acells 1 σ (.slice (some ⟨h,o,none⟩) xs.length 1)=some (texts xs):=by
 by_cases h0:xs.length=0
 ·have:=List.eq_nil_of_length_eq_zero h0
  subst this
  simp [acells,texts]
 ·refine acells_texts_at hi ?_
  have:=hi (xs.length - 1) (by omega)
  unfold ld at this
  cases hσ:σ h with
  | none=>rw[hσ] at this;cases this
  | some ob =>
   rw[hσ] at this
   simp only[Option.bind_some] at this
   refine⟨ob,rfl,?_⟩
   rcases Nat.lt_or_ge (o+(xs.length - 1)) ob.cells.length with h|h
   ·omega
   ·rw[List.getElem?_eq_none h] at this;cases this
def OwnS (β σ:AHeap) (v:Value) (xs:List (List UInt8)):Prop:=(v=.slice none 0 0∧xs=[])∨∃g,v=.slice (some ⟨g,0,none⟩) xs.length 1∧σ g=some ⟨texts xs,false⟩∧β g=none
theorem OwnS.texts {β σ:AHeap} {v:Value} {xs:List (List UInt8)} (h:OwnS β σ v xs):Texts σ v xs:=h.imp id fun⟨g,e,hg,_⟩=>⟨g,0,e,textsAt_own hg⟩
theorem OwnS.sub {β σ τ:AHeap} {v:Value} {xs:List (List UInt8)} (h:OwnS β σ v xs) (hs:Sub σ τ):OwnS β τ v xs:=h.imp id fun⟨g,e,hg,hn⟩=>⟨g,e,hs _ _ hg,hn⟩
theorem OwnS.kept {β σ τ:AHeap} {v:Value} {xs:List (List UInt8)} {k:Nat} {ob:AObj} (h:OwnS β σ v xs) (hk:Kept k σ τ) (hb:β k=some ob):OwnS β τ v xs:=h.imp id fun⟨g,e,hg,hn⟩=>⟨g,e,hk.at hg (ne_of hn hb),hn⟩
theorem OwnS.older {β β' σ:AHeap} {v:Value} {xs:List (List UInt8)} (h:OwnS β σ v xs) (hs:Sub β' β):OwnS β' σ v xs:=h.imp id fun⟨g,e,hg,hn⟩=>⟨g,e,hg,free_sub hs hn⟩
end
section
variable {P:Program} {w0:Base} {n:NR} {a:AFrame} {σ:AHeap} {K:AK} {Q:AQ} {q:Bool} {all os:List Oper}
variable {d:Nat} {dd:Option Tmp} {ty:TypeId} {pos:String} {af:Array Edge}
theorem r_pushX {t u:TypeId} {zv:Value} {b:Nat} {x y:Operand} {g e o len m:Nat} {xs ys:List (List UInt8)} (hE:Elems P t 1 zv b) (hb:b≤64) (hu:∃e2,P.underlying u=some (.slice e2))
  (hx:ev a x=.slice (some ⟨g,0,none⟩) len 1) (hg:σ g=some ⟨texts xs,false⟩) (hn:xs.length=len) (hy:ev a y=.slice (some ⟨e,o,none⟩) m 1) (he:TextsAt σ e o ys) (hm:ys.length=m) (hl:len+m≤4294967296)
  (hk:∀g' τ,σ g'=none→Kept g σ τ→τ g'=some ⟨texts (xs++ys),false⟩→vcR P w0 false all os (fset a d (.slice (some ⟨g',0,none⟩) (len+m) 1)) τ K) :
  vcR P w0 false all (⟨some d,.call ⟨.builtin .append,#[x,y],#[t,u]⟩,ty,pos,af,none⟩ :: os) a σ K:=by
 subst hn;subst hm
 refine r_push hE hu hx hg (by rw[texts_length];omega) (by rw[hy];exact acells_texts he) (texts_one ys) ?_ fun g' τ h1 h2 h3=>?_
 ·rw[texts_length]
  have:(xs.length * 1+ys.length) * b≤4294967296 * 64:=Nat.mul_le_mul (by omega) hb
  omega
 ·rw[texts_append] at h3
  rw[texts_length,Nat.div_one]
  exact hk g' τ h1 h2 h3
theorem r_setX {t:TypeId} {x y:Operand} {g i:Nat} {xs:List (List UInt8)} {v:List UInt8} (h1:ev a x=.pointer (some ⟨g,i,none⟩)) (h2:ev a y=.string (tx v)) (hc:P.cellsOf t=1)
  (hg:σ g=some ⟨texts xs,false⟩) (hi:i < xs.length) (hk:∀τ,Kept g σ τ→τ g=some ⟨texts (xs.set i v),false⟩→vcR P w0 false all os a τ K):vcR P w0 false all (⟨none,.store t x y,ty,pos,af,none⟩ :: os) a σ K :=
 r_set h1 (by rw[h2];rfl) hc (by rw[h2];rfl) hg (by rw[texts_length];exact hi) fun τ hk' hg'=>hk τ hk' (by rw[hg',h2,texts_set])
theorem r_makeX {t:TypeId} {b:Nat} {x y:Operand} {kx ky:IntKind} {l c:Nat} (hE:Elems P t 1 (.string (tx [])) b) (hb:b≤64) (h4:ev a x=.int kx l) (h5:ev a y=.int ky c) (h6:l≤c∧c≤4294967296)
  (hk:∀h τ,σ h=none→Sub σ τ→τ h=some ⟨texts (List.replicate l []),false⟩→vcR P w0 false all os (fset a d (.slice (some ⟨h,0,none⟩) l 1)) τ K) :
  vcR P w0 false all (⟨some d,.makeSlice t x y,ty,pos,af,none⟩ :: os) a σ K :=
 r_make hE h4 h5 ⟨h6.1,by have:b * c≤64 * 4294967296:=Nat.mul_le_mul hb h6.2;omega,by omega⟩ fun h τ a1 a2 a3=>hk h τ a1 a2 (by rw[a3,Nat.mul_one,azeros_texts])
end
end Go.Abs
namespace Go.Dial
end Go.Dial
namespace Go.Abs
open Go.RowKit Go.ChangeShapes Go.WideShapes Go.ChangeAt Go.Dial
section
variable {P:Program} {w0:World} {σ:AHeap}
end
section
variable {P:Program} {w0:Base} {n:NR} {a:AFrame} {σ:AHeap} {K:AK} {Q:AQ} {q:Bool} {all os:List Oper}
variable {d:Nat} {dd:Option Tmp} {ty:TypeId} {pos:String} {af:Array Edge}
end
end Go.Abs
namespace Go.Abs
end Go.Abs
namespace Go.Abs
variable {w0:World}
end Go.Abs
namespace Go.Dial
structure Dd where
 k:Int
 l:Int
 t:List UInt8
deriving DecidableEq
end Go.Dial
namespace Go.Abs
open Go.RowKit Go.ChangeShapes Go.WideShapes Go.ChangeAt Go.Dial
section
variable {P:Program} {w0:World} {σ:AHeap}
def dd0:Dd:=⟨0,0,[]⟩
def ddc (c:Dd):List Value:=[.int .i64 c.k,.int .i64 c.l,.string (tx c.t)]
def dds (cs:List Dd):List Value:=cs.flatMap ddc
def DdsAt (σ:AHeap) (h o:Nat) (cs:List Dd):Prop:=∀i,i < cs.length→ld σ h (o+i * 3)=some (.int .i64 (cs.getD i dd0).k)∧ld σ h (o+i * 3+1)=some (.int .i64 (cs.getD i dd0).l)∧ld σ h (o+i * 3+2)=some (.string (tx (cs.getD i dd0).t))
def Dds (σ:AHeap) (v:Value) (cs:List Dd):Prop:=(v=.slice none 0 0∧cs=[])∨∃h o,v=.slice (some ⟨h,o,none⟩) cs.length 3∧DdsAt σ h o cs
theorem dds_cons (c:Dd) (cs:List Dd):dds (c :: cs)=.int .i64 c.k :: .int .i64 c.l :: .string (tx c.t) :: dds cs:=rfl
theorem dds_append (cs ds:List Dd):dds (cs++ds)=dds cs++dds ds:=by simp [dds]
theorem dds_length (cs:List Dd):(dds cs).length=cs.length * 3:=by
 induction cs with
 | nil=>rfl
 | cons c cs ih=>rw[dds_cons];simp [ih];omega
theorem dds_get:∀(cs:List Dd) (i:Nat),i < cs.length→(dds cs)[i * 3]?=some (.int .i64 (cs.getD i dd0).k)∧(dds cs)[i * 3+1]?=some (.int .i64 (cs.getD i dd0).l)∧(dds cs)[i * 3+2]?=some (.string (tx (cs.getD i dd0).t))
 | [],i,h=>absurd h (by simp)
 | c :: cs,0,_=>⟨rfl,rfl,rfl⟩
 | c :: cs,i+1,h=>by
  have:=dds_get cs i (by simpa using h)
  rw[dds_cons]
  have e1:(i+1) * 3=i * 3+3:=by omega
  have e2:i * 3+3+1=i * 3+1+3:=by omega
  have e3:i * 3+3+2=i * 3+2+3:=by omega
  rw[e1,e2,e3]
  simpa using this
theorem dds_one (cs:List Dd):(dds cs).all Value.oneCell'=true:=by
 rw[List.all_eq_true];intro v hv
 simp only[dds,ddc,List.mem_flatMap,List.mem_cons,List.not_mem_nil,or_false] at hv
 obtain⟨c,_,rfl|rfl|rfl⟩:=hv<;>rfl
theorem ddsAt_own {h:Nat} {cs:List Dd} {ro:Bool} (hσ:σ h=some ⟨dds cs,ro⟩):DdsAt σ h 0 cs:=by
 intro i hi
 have:=dds_get cs i hi
 unfold ld
 rw[hσ]
 simp only[Option.bind_some,Nat.zero_add]
 exact this
theorem DdsAt.sub {σ':AHeap} {h o:Nat} {cs:List Dd} (hs:Sub σ σ') (hi:DdsAt σ h o cs):DdsAt σ' h o cs:=fun i hlt=>⟨ld_sub hs (hi i hlt).1,ld_sub hs (hi i hlt).2.1,ld_sub hs (hi i hlt).2.2⟩
theorem Dds.sub {σ':AHeap} {v:Value} {cs:List Dd} (hs:Sub σ σ') (hi:Dds σ v cs):Dds σ' v cs:=hi.imp id fun⟨h,o,e,hh⟩=>⟨h,o,e,hh.sub hs⟩
theorem DdsAt.all {h o:Nat} {cs:List Dd} (hi:DdsAt σ h o cs) {i:Nat} (hlt:i < cs.length):lds σ h (o+i * 3) 3=some (ddc (cs.getD i dd0)):=lds_three (hi i hlt).1 (hi i hlt).2.1 (hi i hlt).2.2
theorem DdsAt.take {h o:Nat} {cs:List Dd} (hi:DdsAt σ h o cs) (m:Nat):DdsAt σ h o (cs.take m):=by
 intro i hlt
 simp at hlt
 have:=hi i (by omega)
 have e:(cs.take m).getD i dd0=cs.getD i dd0:=by simp only[List.getD,List.getElem?_take];rw[if_pos (by omega)]
 rw[e];exact this
theorem acells_dds {h o:Nat} {cs:List Dd} (hi:DdsAt σ h o cs):acells 3 σ (.slice (some ⟨h,o,none⟩) cs.length 3)=some (dds cs):=by
 unfold acells
 simp only[if_true]
 by_cases h0:cs.length=0
 ·have:=List.eq_nil_of_length_eq_zero h0;subst this;rfl
 ·rw[if_neg h0]
  have hlast:=(hi (cs.length - 1) (by omega)).2.2
  unfold lds
  unfold ld at hlast
  cases hσ:σ h with
  | none=>rw[hσ] at hlast;cases hlast
  | some ob =>
   rw[hσ] at hlast
   simp only[Option.bind_some] at hlast ⊢
   have hfit:o+cs.length * 3≤ob.cells.length:=by
    rcases Nat.lt_or_ge (o+(cs.length - 1) * 3+2) ob.cells.length with h|h
    ·omega
    ·rw[List.getElem?_eq_none h] at hlast;cases hlast
   rw[if_pos hfit]
   congr 1
   apply List.ext_getElem?
   intro j
   rw[List.getElem?_take]
   by_cases hj:j < cs.length * 3
   ·rw[if_pos hj,List.getElem?_drop]
    obtain⟨q,r,rfl,hr⟩:∃q r,j=q * 3+r∧r < 3:=⟨j / 3,j % 3,by omega,by omega⟩
    have hq:q < cs.length:=by omega
    have g:=dds_get cs q hq
    have h2:=hi q hq
    unfold ld at h2
    rw[hσ] at h2
    simp only[Option.bind_some] at h2
    have hr':r=0∨r=1∨r=2:=by omega
    rcases hr' with rfl|rfl|rfl
    ·rw[Nat.add_zero,g.1];exact h2.1
    ·rw[g.2.1,←Nat.add_assoc];exact h2.2.1
    ·rw[g.2.2,←Nat.add_assoc];exact h2.2.2
   ·rw[if_neg hj,List.getElem?_eq_none (by rw[dds_length];omega)]
theorem ACall.dds_arg {f:FuncId} {pre post:List Value} {v:Value} {cs:List Dd} {R:Value→AHeap→Prop} (hc:callable P f=true) (hv:Dds σ v cs)
  (h:∀σ1 g o,Sub σ σ1→DdsAt σ1 g o cs→ACall P w0 f (pre++.slice (some ⟨g,o,none⟩) cs.length 3 :: post) σ1 R):ACall P w0 f (pre++v :: post) σ R:=by
 rcases hv with ⟨rfl,rfl⟩ |⟨g,o,rfl,hg⟩
 ·exact ACall.nil_arg hc fun g hg=>h _ g 0 (sub_upd hg) (fun i hi=>absurd hi (by simp))
 ·exact h σ g o (Sub.refl _) hg
theorem ACall.dds_quiet {f:FuncId} {pre post:List Value} {v F:Value} {cs:List Dd} (hc:callable P f=true) (hv:Dds σ v cs)
  (h:∀σ1 g o,Sub σ σ1→DdsAt σ1 g o cs→ACall P w0 f (pre++.slice (some ⟨g,o,none⟩) cs.length 3 :: post) σ1 fun r σ'=>r=F∧σ'=σ1):ACall P w0 f (pre++v :: post) σ fun r σ'=>r=F∧σ'=σ :=
 ACall.dds_arg hc hv fun σ1 g o hs hg=>(h σ1 g o hs hg).drop fun _ _ ⟨h1,h2⟩=>⟨σ,h2 ▸ hs,h1,rfl⟩
def OwnD (β σ:AHeap) (v:Value) (cs:List Dd):Prop:=(v=.slice none 0 0∧cs=[])∨∃g,v=.slice (some ⟨g,0,none⟩) cs.length 3∧σ g=some ⟨dds cs,false⟩∧β g=none
theorem OwnD.dds {β σ:AHeap} {v:Value} {cs:List Dd} (h:OwnD β σ v cs):Dds σ v cs:=h.imp id fun⟨g,e,hg,_⟩=>⟨g,0,e,ddsAt_own hg⟩
theorem OwnD.sub {β σ τ:AHeap} {v:Value} {cs:List Dd} (h:OwnD β σ v cs) (hs:Sub σ τ):OwnD β τ v cs:=h.imp id fun⟨g,e,hg,hn⟩=>⟨g,e,hs _ _ hg,hn⟩
theorem OwnD.older {β β' σ:AHeap} {v:Value} {cs:List Dd} (h:OwnD β σ v cs) (hs:Sub β' β):OwnD β' σ v cs:=h.imp id fun⟨g,e,hg,hn⟩=>⟨g,e,hg,free_sub hs hn⟩
end
section
variable {P:Program} {w0:Base} {n:NR} {a:AFrame} {σ:AHeap} {K:AK} {Q:AQ} {q:Bool} {all os:List Oper}
variable {d:Nat} {dd:Option Tmp} {ty:TypeId} {pos:String} {af:Array Edge}
theorem r_pushD {t u:TypeId} {zv:Value} {b:Nat} {x y:Operand} {g e o len m:Nat} {cs ds:List Dd} (hE:Elems P t 3 zv b) (hb:b≤64) (hu:∃e2,P.underlying u=some (.slice e2))
  (hx:ev a x=.slice (some ⟨g,0,none⟩) len 3) (hg:σ g=some ⟨dds cs,false⟩) (hn:cs.length=len) (hy:ev a y=.slice (some ⟨e,o,none⟩) m 3) (he:DdsAt σ e o ds) (hm:ds.length=m) (hl:len+m≤4294967296)
  (hk:∀g' τ,σ g'=none→Kept g σ τ→τ g'=some ⟨dds (cs++ds),false⟩→vcR P w0 false all os (fset a d (.slice (some ⟨g',0,none⟩) (len+m) 3)) τ K) :
  vcR P w0 false all (⟨some d,.call ⟨.builtin .append,#[x,y],#[t,u]⟩,ty,pos,af,none⟩ :: os) a σ K:=by
 subst hn;subst hm
 refine r_push hE hu hx hg (by rw[dds_length]) (by rw[hy];exact acells_dds he) (dds_one ds) ?_ fun g' τ h1 h2 h3=>?_
 ·rw[dds_length]
  have:(cs.length * 3+ds.length * 3) * b≤4294967296 * 3 * 64:=Nat.mul_le_mul (by omega) hb
  omega
 ·rw[←dds_append] at h3
  have:=hk g' τ h1 h2 h3
  rw[dds_length,show ds.length * 3 / 3=ds.length by omega]
  exact this
end
end Go.Abs
namespace Go.Abs
open Go.RowKit Go.ChangeShapes Go.WideShapes Go.ChangeAt Go.Dial Go.Clos
section
variable {P:Program} {w0:World} {σ:AHeap}
end
end Go.Abs
namespace Go.Abs
open Go.RowKit
variable {P:Program} {w0:World} {σ:AHeap}
theorem relL_scal {β:Beta} {xs ys:List Value} (h:RelL β xs ys) (hs:xs.all scal=true):ys=xs:=by
 refine List.ext_getElem? fun i=>?_
 rcases Nat.lt_or_ge i xs.length with hi|hi
 ·obtain⟨y,e1,e2⟩:=h.2 i xs[i] (by simp [hi])
  rw[List.all_eq_true] at hs
  have:=e2.scal_eq (hs _ (List.getElem_mem hi))
  rw[e1,this];simp [hi]
 ·rw[List.getElem?_eq_none hi,List.getElem?_eq_none (by rw[←h.1];exact hi)]
theorem ACall.shelf {f:FuncId} {args:List Value} {R:Value→Prop} (hc:callable P f=true) (ha:args.all scal=true)
  (h:∀w,Below w0.heap.size w0 w→Calls P f args.toArray w fun e w'=>∃r r',e=.returned r'∧(∀β,RelV β r r')∧Below w.heap.size w w'∧R r) :
  ACall P w0 f args σ fun r σ'=>R r∧σ'=σ :=
 ⟨hc,fun pr β w args' hH hA=>by
  have:=relL_scal hA ha
  subst this
  exact (h w hH.below).mono fun e w' ⟨r,r',he,hr,hb,hR⟩=>⟨β,r,r',σ,.refl _,he,hr β,hH.grow (hH.below.trans (hb.mono hH.below.size)) hb.size (fun k hk=>hb.block k hk),hR,rfl⟩⟩
theorem below_cell {w:World} (h:Below w0.heap.size w0 w) {b o:Nat} {v:Value} (hv:w0.cell? ⟨b,o,none⟩=some v):w.cell? ⟨b,o,none⟩=some v:=by
 have hb:b < w0.heap.size:=by
  rcases Nat.lt_or_ge b w0.heap.size with hh|hh
  ·exact hh
  ·simp [World.cell?,Array.getElem?_eq_none hh] at hv
 have:=h.block b hb
 simpa [World.cell?,this] using hv
theorem below_var {w:World} (h:Below w0.heap.size w0 w) {n:String} {cs:Array Value} (hv:w0.var? P n=some cs):w.var? P n=some cs:=by
 unfold World.var? at hv ⊢
 cases hg:P.globalNamed n with
 | none=>rw[hg] at hv;cases hv
 | some g =>
  rw[hg] at hv
  simp only[Option.bind_some] at hv ⊢
  have hb:g < w0.heap.size:=by
   rcases Nat.lt_or_ge g w0.heap.size with hh|hh
   ·exact hh
   ·rw[Array.getElem?_eq_none hh] at hv;cases hv
  rw[h.block g hb];exact hv
end Go.Abs
