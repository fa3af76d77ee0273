/- Parts. -/
import Derived.Test.YtofdnmlpfagibaaGreatDoorSJj
import Derived.WalkSpells
import Derived.BigCall
set_option linter.unusedSimpArgs false
set_option linter.unusedVariables false
set_option linter.unusedSectionVars false
namespace Go.Proofs.YtofdnmlpfagibaaGreatDoor
open Go Go.Abs Go.RowKit Go.Dial Go.Clos
theorem dt_walk (d:Dd) (ht:d.t.length≤1048576) (w:World):Calls Tryz.prog 13 #[.agg #[.int .i64 d.k,.int .i64 d.l,.string (tx d.t)]] w fun e w'=>e=.returned (.string (tx (deedT d)))∧Below w.heap.size w w' :=
 ((implDT_calls (w0:=w) (fun _=>none) d ht).2 noProt (fun _=>none) w [ddA d] (RelH.start w) (.cons (RelV.scal_refl rfl) (.nil _))).mono fun e w' ⟨β',r,r',σ',_,he,hr,hH,h1,_⟩=>⟨by subst h1;rw[he,hr.scal_eq rfl],hH.below⟩
theorem own_below {w w':World} {B b:Nat} {T e:TypeId} {bs:List Value} (h:Lib.IsBuilder T e B b bs w) (hk:∀k,k < w.heap.size→w'.heap[k]?=w.heap[k]?) (hs:w.heap.size≤w'.heap.size):Lib.IsBuilder T e B b bs w':=by
 have one:∀p,Lib.BuilderAt T e B b p bs w→Lib.BuilderAt T e B b p bs w':=by
  rintro p ⟨hB,v,hb,hown,hne⟩
  have lt:∀g o,w.heap[g]?=some o→g < w.heap.size:=fun g o h=>(Array.getElem?_eq_some_iff.1 h).1
  refine⟨hB,v,(hk _ (lt _ _ hb)).trans hb,?_,hne⟩
  refine⟨hown.1,?_⟩
  rcases hown.2 with h |⟨g,cap,cur,hv,hg,hh,r⟩
  ·exact .inl h
  ·exact .inr ⟨g,cap,cur,hv,hg,(hk _ (lt _ _ hh)).trans hh,r⟩
 exact h.imp (one _) (one _)
theorem alloc_size (w:World) (o:Obj):(w.alloc o).heap.size=w.heap.size+1:=by
 unfold World.alloc
 exact Array.size_push _
set_option maxHeartbeats 4000000 in
set_option maxRecDepth 1000000 in
theorem jt_walk (oa:Option Addr) (bk off cap:Nat) (ds:List Dd) (w:World)
  (hc:∀i,i < ds.length→w.cell? ⟨bk,off+i * 3,none⟩=some (.int .i64 (ds.getD i dd0).k)∧w.cell? ⟨bk,off+i * 3+1,none⟩=some (.int .i64 (ds.getD i dd0).l)∧w.cell? ⟨bk,off+i * 3+2,none⟩=some (.string (tx (ds.getD i dd0).t)))
  (hoa:0 < ds.length→oa=some ⟨bk,off,none⟩) (hbk:0 < ds.length→bk < w.heap.size) (hl:ds.length≤1048576) (hp:∀d∈ds,d.t.length≤1048576) :
  Calls Tryz.prog 15 #[.slice oa ds.length cap] w fun e w'=>e=.returned (.string (tx (jrnV ds)))∧Below w.heap.size w w':=by
 go_enter Tryz.func15,Tryz.ntmps15
 go_wp2
 go_loopw [9] (fun i wr=>∃k:Nat,k≤ds.length∧i=.int .i64 k∧Lib.IsBuilder 80 5 w.heap.size w.heap.size (Lib.byteCells (jrn (ds.take k))) wr∧Below w.heap.size w wr∧(∀j,j < k→deedT (ds.getD j dd0)≠[])) (fun i _=>ds.length - (intOf i).toNat)
 case atStart =>
  exact⟨0,Nat.zero_le _,rfl,Lib.fresh_isBuilder 80 5 w,(Below.refl _ w).alloc (Nat.le_refl _) _,fun j hj=>absurd hj om9⟩
 case round =>
  obtain⟨k,hk,rfl,hI,hbw,he⟩:=hrel
  by_cases hlt:k < ds.length
  ·obtain rfl:=hoa om9
   obtain⟨c0,c1,c2⟩:=hc k hlt
   have hb:=hbk om9
   have x0:=(hbw.cell (p:=⟨bk,off+k * 3,none⟩) hb).trans c0
   have x1:=(hbw.cell (p:=⟨bk,off+k * 3+1,none⟩) hb).trans c1
   have x2:=(hbw.cell (p:=⟨bk,off+k * 3+2,none⟩) hb).trans c2
   have hst:=jrn_take ds hlt
   have hdl:=deedT_len (ds.getD k dd0)
   have ht:(ds.getD k dd0).t.length≤1048576:=hp _ (by simp [List.getD,hlt])
   have hjl:=jrn_len (ds.take k)
   rw[List.length_take] at hjl
   have hmem:ds.getD k dd0∈ds:=by simp [List.getD,hlt]
   generalize hdd:ds.getD k dd0=d at c0 c1 c2 x0 x1 x2 hst hdl ht hmem
   clear c0 c1 c2
   iterate 40 go_step
   refine (dt_walk d ht _).mono ?_
   rintro _ w2 ⟨rfl,hb2⟩
   have hz2:=hb2.size
   rw[alloc_size] at hz2
   have hI2:Lib.IsBuilder 80 5 w.heap.size w.heap.size (Lib.byteCells (jrn (ds.take k))) w2:=own_below hI (fun q hq=>(hb2.block q (by rw[alloc_size];omega)).trans (Below.heap_alloc _ _ _ hq)) om9
   have hbw2:Below w.heap.size w w2:=(hbw.alloc hbw.size _).trans (hb2.mono (by rw[alloc_size];have:=hbw.size;omega))
   dsimp only
   clear hb2 hI
   by_cases h0:deedT d=[]
   ·have hE:(tx []).toList.isEmpty=true:=by rw[tx_toList];rfl
    have hj0:jrnV ds=[]:=by rw[jrnV,if_neg fun hh=>hh _ hmem h0]
    iterate 30 go_step
    simp +zetaDelta only[Exit.inBlock,Exit.then]
    refine bodyPost_ret (results_tmp rfl _ _ _) rfl ?_
    rw[hj0]
    exact⟨rfl,hbw2⟩
   ·have hE:(tx (deedT d)).toList.isEmpty=false:=by rw[tx_toList];simpa using h0
    have hsz:(tx (deedT d)).size≤120:=hdl
    have hcat:tx (deedT d)++{ data:=#[10] }=tx (deedT d++[10]):=by
     apply ByteArray.ext
     simp [tx]
    have hz3:(tx (deedT d)++{ data:=#[10] }).size=(deedT d).length+1:=by rw[hcat];simp [tx,ByteArray.size]
    have hlen:(Lib.byteCells (jrn (ds.take k))).length+(tx (deedT d)++{ data:=#[10] }).size≤140737488355328:=by rw[Lib.byteCells_length,hz3];omega
    have hW:=Tryz.Builder_WriteString w.heap.size w.heap.size (Lib.byteCells (jrn (ds.take k))) (tx (deedT d)++{ data:=#[10] }) w2 hI2 hlen hbw2.size
    clear hlen
    iterate 24 go_step
    go_wp2_with (go_at_call 46;refine hW.mono ?_;rintro _ w3 ⟨rfl,h1,b1⟩)
    go_roundw
    case rel =>
     refine⟨k+1,hlt,by simp,?_,hbw2.trans b1,fun j hj=>?_⟩
     ·refine Or.inr ?_
      rw[hst,List.append_assoc,Lib.byteCells_append]
      rw[hcat] at h1
      exact h1
     ·rcases Nat.lt_or_ge j k with h|h
      ·exact he j h
      ·obtain rfl:j=k:=by omega
       rw[hdd];exact h0
    case measure =>
     simp only[intOf]
     omega
  ·obtain rfl:k=ds.length:=by omega
   have hj1:jrnV ds=jrn ds:=by
    refine if_pos fun d hd=>?_
    obtain⟨j,hj,rfl⟩:=List.mem_iff_getElem.1 hd
    have:=he j hj
    simpa [List.getD,hj] using this
   rw[List.take_length] at hI
   have hS:=Tryz.Builder_String_any w.heap.size w.heap.size (jrn ds) wr hI hbw.size
   clear hc
   go_wp2_with (go_at_call 47;refine hS.mono ?_;rintro _ w3 ⟨rfl,b1⟩)
   go_ret
   rw[hj1]
   exact⟨rfl,hbw.trans b1⟩
variable {w0:World}
theorem implJT_calls (σ:AHeap) (v:Value) (ds:List Dd) (hv:Dds σ v ds) (hl:ds.length≤1048576) (hp:∀d∈ds,d.t.length≤1048576):ACall Tryz.prog w0 15 [v] σ fun r σ'=>r=.string (tx (jrnV ds))∧σ'=σ:=by
 refine ACall.dds_quiet (pre:=[]) (post:=[]) kr9 hv fun σ1 h o _ hat=>⟨by kernel_rfl,fun pr β w args' hH hA=>?_⟩
 obtain⟨v',e1,r1⟩:=hA.2 0 _ rfl
 have hlen:args'.length=1:=hA.1.symm
 obtain rfl:args'=[v']:=by
  match args',hlen with
  | [a],_=>simp at e1;rw[e1]
 have fin:Calls Tryz.prog 15 #[v'] w (fun e w'=>e=.returned (.string (tx (jrnV ds)))∧Below w.heap.size w w'):=by
  rcases relv_slc r1 with ⟨p,cap,hpb,hc,hlc,rfl⟩ |⟨hl0,p,x,hpb,_,rfl⟩
  ·have hcell:∀(j:Nat) (u:Value),scal u=true→ld σ1 h j=some u→w.cell? ⟨p.block,p.shift+j,none⟩=some u:=fun j u hu h2=>by
    unfold ld at h2
    obtain⟨ob,hob,hcl⟩:=Option.bind_eq_some_iff.1 h2
    obtain⟨y,q1,q2⟩:=hH.cell hob hcl hpb
    rw[q1,q2.scal_eq hu]
   refine jt_walk _ p.block (p.shift+o) cap ds w (fun i hi=>?_) (fun _=>rfl) (fun h0=>?_) hl hp
   ·obtain⟨a0,a1,a2⟩:=hat i hi
    have b0:=hcell _ _ rfl a0
    have b1:=hcell _ _ rfl a1
    have b2:=hcell _ _ rfl a2
    refine⟨?_,?_,?_⟩
    ·rw[Nat.add_assoc];exact b0
    ·rw[show p.shift+o+i * 3+1=p.shift+(o+i * 3+1) by omega];exact b1
    ·rw[show p.shift+o+i * 3+2=p.shift+(o+i * 3+2) by omega];exact b2
   ·have:=hcell _ _ rfl (hat 0 h0).1
    rcases Nat.lt_or_ge p.block w.heap.size with hh|hh
    ·exact hh
    ·simp [World.cell?,Array.getElem?_eq_none hh] at this
  ·have:=jt_walk x 0 0 0 ds w (fun i hi=>absurd hi om9) (fun h=>absurd h om9) (fun h=>absurd h om9) hl hp
   rw[hl0] at this
   exact this
 exact fin.mono fun e w' ⟨he,hb⟩=>⟨β,_,_,σ1,.refl _,he,.string _,hH.grow (hH.below.trans (hb.mono hH.below.size)) hb.size (fun k hk=>hb.block k hk),rfl,rfl⟩
end Go.Proofs.YtofdnmlpfagibaaGreatDoor
