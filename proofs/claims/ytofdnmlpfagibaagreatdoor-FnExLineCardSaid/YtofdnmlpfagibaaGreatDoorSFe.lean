/- Parts. -/
import Derived.Test.YtofdnmlpfagibaaGreatDoorSFd
set_option linter.unusedSimpArgs false
set_option linter.unusedVariables false
set_option linter.unusedSectionVars false
namespace Go.Clos
theorem b_ne {t sd:Bool} (h:¬ t=sd):t=!sd:=by cases t<;>cases sd<;>simp_all
def gc (cs:List Cl) (k:Nat):Cl:=cs.getD k Go.Abs.cl0
theorem gc_some {cs:List Cl} {k:Nat} (h:k < cs.length):cs[k]?=some (gc cs k):=by simp [gc,List.getD,h]
theorem gc_mem {cs:List Cl} {k:Nat} (h:k < cs.length):gc cs k∈cs:=List.mem_of_getElem? (gc_some h)
theorem mem_gc {cs:List Cl} {c:Cl} (h:c∈cs):∃k,k < cs.length∧gc cs k=c:=by
 obtain⟨k,hk,rfl⟩:=List.getElem_of_mem h
 exact⟨k,hk,by simp [gc,List.getD,hk]⟩
def sw (s:Sp) (sd:Bool) (c:Cl):Int:=bif sd then c.o / s.E else c.i / s.E
def AtC (s:Sp) (sd:Bool) (x w:Int) (c:Cl):Prop:=sw s sd c=x∧c.v=w
instance (s:Sp) (sd:Bool) (x w:Int) (c:Cl):Decidable (AtC s sd x w c):=by unfold AtC;infer_instance
theorem hit_sw {s:Sp} {sd:Bool} {c d:Cl} (h1:sw s sd c=sw s sd d) (h2:c.v=d.v):Hit s c d:=by
 cases sd
 ·exact .inr (.inr ⟨h2,.inl h1⟩)
 ·exact .inr (.inr ⟨h2,.inr h1⟩)
theorem CV.sw_one {s:Sp} {cs:List Cl} (h:CV s cs) {sd:Bool} {k l:Nat} (hk:k < cs.length) (hl:l < cs.length) (h1:sw s sd (gc cs k)=sw s sd (gc cs l)) (h2:(gc cs k).v=(gc cs l).v):k=l :=
 h.one (gc_some hk) (gc_some hl) (hit_sw h1 h2)
def nxt (s:Sp) (cs:List Cl) (ch:List Nat) (sd:Bool) (x w:Int):Nat→Option Nat
 | 0=>none
 | n+1=>if AtC s sd x w (gc cs n)∧n ∉ ch then some n else nxt s cs ch sd x w n
theorem nxt_none {s:Sp} {cs:List Cl} {ch:List Nat} {sd:Bool} {x w:Int}:∀{n:Nat},nxt s cs ch sd x w n=none→∀l,l < n→AtC s sd x w (gc cs l)→l∈ch
 | 0,_,l,hl,_=>absurd hl om9
 | n+1,h,l,hl,hc=>by
  unfold nxt at h
  split at h
  ·cases h
  ·rename_i hn
   by_cases e:l=n
   ·subst e;exact Classical.byContradiction fun hm=>hn ⟨hc,hm⟩
   ·exact nxt_none h l om9 hc
theorem nxt_some {s:Sp} {cs:List Cl} {ch:List Nat} {sd:Bool} {x w:Int}:∀{n k:Nat},nxt s cs ch sd x w n=some k→k < n∧AtC s sd x w (gc cs k)∧k ∉ ch
 | 0,k,h=>by cases h
 | n+1,k,h=>by
  unfold nxt at h
  split at h
  ·rename_i hn
   cases h;exact⟨by omega,hn⟩
  ·obtain⟨a,b⟩:=nxt_some h
   exact⟨by omega,b⟩
def wantOf (a b:Int) (sd:Bool):Int:=bif sd then a else b
def go (s:Sp) (cs:List Cl) (a b:Int):Nat→List Nat→Bool→Int→List Nat
 | 0,ch,_,_=>ch
 | f+1,ch,sd,x=>match nxt s cs ch sd x (wantOf a b sd) cs.length with
  | none=>ch
  | some k=>go s cs a b f (ch++[k]) (!sd) (sw s (!sd) (gc cs k))
def chain (s:Sp) (cs:List Cl) (a b:Int) (B:Int):List Nat:=go s cs a b cs.length [] true B
structure Inv (s:Sp) (cs:List Cl) (a b B:Int) (ch:List Nat) (sd:Bool) (x:Int):Prop where
 nd:ch.Nodup
 lt:∀k∈ch,k < cs.length
 ab:∀k∈ch,(gc cs k).v=a∨(gc cs k).v=b
 from_:∀k∈ch,(gc cs k).v=b→∃l∈ch,(gc cs l).v=a∧sw s false (gc cs l)=sw s false (gc cs k)
 fr:sd=false→∃l∈ch,(gc cs l).v=a∧sw s false (gc cs l)=x
 cl:∀k∈ch,∀t l,l < cs.length→sw s t (gc cs l)=sw s t (gc cs k)→(gc cs l).v=a+b - (gc cs k).v→l∈ch∨AtC s sd x (wantOf a b sd) (gc cs l)
 st:∀l,l < cs.length→AtC s true B a (gc cs l)→l∈ch∨AtC s sd x (wantOf a b sd) (gc cs l)
 six:∀l,l < cs.length→sw s sd (gc cs l)=x→(gc cs l).v=a+b - wantOf a b sd→l∈ch
section
variable {s:Sp} {cs:List Cl} {a b B:Int} (h:CV s cs) (hab:a≠b) (hB:∀l,l < cs.length→sw s true (gc cs l)=B→(gc cs l).v≠b)
include h hab hB
theorem inv_start:Inv s cs a b B [] true B where
 nd:=List.nodup_nil
 lt:=fun k hk=>absurd hk (by simp)
 ab:=fun k hk=>absurd hk (by simp)
 from_:=fun k hk=>absurd hk (by simp)
 fr:=fun e=>by cases e
 cl:=fun k hk=>absurd hk (by simp)
 st:=fun l hl hc=>.inr hc
 six:=fun l hl h1 h2=>absurd (show (gc cs l).v=b by rw[h2];show a+b - a=b;omega) (hB l hl h1)
theorem Inv.step {ch:List Nat} {sd:Bool} {x:Int} {k:Nat} (hi:Inv s cs a b B ch sd x) (hn:nxt s cs ch sd x (wantOf a b sd) cs.length=some k):Inv s cs a b B (ch++[k]) (!sd) (sw s (!sd) (gc cs k)):=by
 obtain⟨hk,⟨k1,k2⟩,k3⟩:=nxt_some hn
 have one:∀l,l < cs.length→AtC s sd x (wantOf a b sd) (gc cs l)→l=k:=fun l hl hc=>h.sw_one (sd:=sd) hl hk (by rw[hc.1,k1]) (by rw[hc.2,k2])
 have hw:wantOf a b (!sd)=a+b - wantOf a b sd:=by cases sd<;>simp [wantOf]<;>omega
 refine⟨?_,?_,?_,?_,?_,?_,?_,?_⟩
 ·rw[List.nodup_append]
  refine⟨hi.nd,by simp,fun y hy z hz e=>?_⟩
  rw[List.mem_singleton] at hz
  exact k3 (by rw[←hz,←e];exact hy)
 ·intro l hl
  rcases List.mem_append.1 hl with hl|hl
  ·exact hi.lt l hl
  ·rw[List.mem_singleton] at hl;omega
 ·intro l hl
  rcases List.mem_append.1 hl with hl|hl
  ·exact hi.ab l hl
  ·rw[List.mem_singleton] at hl
   subst hl
   rw[k2];cases sd
   ·exact .inr rfl
   ·exact .inl rfl
 ·intro l hl hv
  rcases List.mem_append.1 hl with hl|hl
  ·obtain⟨m,hm,h1,h2⟩:=hi.from_ l hl hv
   exact⟨m,List.mem_append.2 (.inl hm),h1,h2⟩
  ·rw[List.mem_singleton] at hl
   subst hl
   rw[k2] at hv
   cases sd with
   | true=>exact absurd hv hab
   | false =>
    obtain⟨m,hm,h1,h2⟩:=hi.fr rfl
    exact⟨m,List.mem_append.2 (.inl hm),h1,by rw[h2,k1]⟩
 ·intro e
  cases sd with
  | false=>cases e
  | true=>exact⟨k,List.mem_append.2 (.inr (by simp)),k2,rfl⟩
 ·intro j hj t l hl h1 h2
  rcases List.mem_append.1 hj with hj|hj
  ·rcases hi.cl j hj t l hl h1 h2 with h3|h3
   ·exact .inl (List.mem_append.2 (.inl h3))
   ·exact .inl (List.mem_append.2 (.inr (by rw[one l hl h3];simp)))
  ·rw[List.mem_singleton] at hj
   subst hj
   rw[k2] at h2
   by_cases e:t=sd
   ·subst e
    exact .inl (List.mem_append.2 (.inl (hi.six l hl (by rw[h1,k1]) h2)))
   ·have e2:t=!sd:=b_ne e
    subst e2
    exact .inr ⟨h1,by rw[hw];exact h2⟩
 ·intro l hl hc
  rcases hi.st l hl hc with h3|h3
  ·exact .inl (List.mem_append.2 (.inl h3))
  ·exact .inl (List.mem_append.2 (.inr (by rw[one l hl h3];simp)))
 ·intro l hl h1 h2
  have:l=k:=h.sw_one (sd:=!sd) hl hk h1 (by rw[h2,k2,hw];omega)
  exact List.mem_append.2 (.inr (by rw[this];simp))
structure Closed (s:Sp) (cs:List Cl) (a b B:Int) (ch:List Nat):Prop where
 nd:ch.Nodup
 lt:∀k∈ch,k < cs.length
 ab:∀k∈ch,(gc cs k).v=a∨(gc cs k).v=b
 from_:∀k∈ch,(gc cs k).v=b→∃l∈ch,(gc cs l).v=a∧sw s false (gc cs l)=sw s false (gc cs k)
 cl:∀k∈ch,∀t l,l < cs.length→sw s t (gc cs l)=sw s t (gc cs k)→(gc cs l).v=a+b - (gc cs k).v→l∈ch
 st:∀l,l < cs.length→AtC s true B a (gc cs l)→l∈ch
omit h hab hB in
theorem Inv.stop {ch:List Nat} {sd:Bool} {x:Int} (hi:Inv s cs a b B ch sd x) (hn:∀l,l < cs.length→AtC s sd x (wantOf a b sd) (gc cs l)→l∈ch):Closed s cs a b B ch :=
 ⟨hi.nd,hi.lt,hi.ab,hi.from_,fun k hk t l hl h1 h2=>(hi.cl k hk t l hl h1 h2).elim id (hn l hl),fun l hl hc=>(hi.st l hl hc).elim id (hn l hl)⟩
omit h hab hB in
theorem all_in {ch:List Nat} {n:Nat} (h1:ch.Nodup) (h2:∀k∈ch,k < n) (h3:n≤ch.length) {l:Nat} (hl:l < n):l∈ch :=
 Classical.byContradiction fun hm=>by
  have:=sub_len (xs:=l :: ch) (ys:=List.range n) (List.nodup_cons.2 ⟨hm,h1⟩) fun y hy=>by
   rcases List.mem_cons.1 hy with rfl|hy
   ·exact List.mem_range.2 hl
   ·exact List.mem_range.2 (h2 y hy)
  simp at this;omega
theorem go_closed:∀(f:Nat) {ch:List Nat} {sd:Bool} {x:Int},Inv s cs a b B ch sd x→cs.length≤ch.length+f→Closed s cs a b B (go s cs a b f ch sd x)
 | 0,ch,sd,x,hi,hf=>hi.stop fun l hl _=>all_in hi.nd hi.lt hf hl
 | f+1,ch,sd,x,hi,hf=>by
  unfold go
  cases hn:nxt s cs ch sd x (wantOf a b sd) cs.length with
  | none=>exact hi.stop (nxt_none hn)
  | some k=>exact go_closed f (Inv.step h hab hB hi hn) (by simp;omega)
theorem chain_closed:Closed s cs a b B (chain s cs a b B):=go_closed h hab hB cs.length (inv_start h hab hB) (by simp)
end
def flip (a b:Int) (ch:List Nat) (cs:List Cl):List Cl:=cs.mapIdx fun k c=>if k∈ch then ⟨c.i,c.o,a+b - c.v⟩ else c
theorem flip_length (a b:Int) (ch:List Nat) (cs:List Cl):(flip a b ch cs).length=cs.length:=by simp [flip]
theorem flip_some {a b:Int} {ch:List Nat} {cs:List Cl} {k:Nat} {c:Cl} (h:(flip a b ch cs)[k]?=some c):k < cs.length∧c.i=(gc cs k).i∧c.o=(gc cs k).o∧((k∈ch∧c.v=a+b - (gc cs k).v)∨(k ∉ ch∧c.v=(gc cs k).v)):=by
 have hk:k < cs.length:=by
  have:=(List.getElem?_eq_some_iff.1 h).1
  rwa [flip_length] at this
 unfold flip at h
 rw[List.getElem?_mapIdx,gc_some hk] at h
 simp only[Option.map_some,Option.some.injEq] at h
 subst h
 refine⟨hk,?_⟩
 by_cases hm:k∈ch
 ·simp [hm]
 ·simp [hm]
theorem flip_gc {a b:Int} {ch:List Nat} {cs:List Cl} {k:Nat} (hk:k < cs.length):gc (flip a b ch cs) k=if k∈ch then ⟨(gc cs k).i,(gc cs k).o,a+b - (gc cs k).v⟩ else gc cs k:=by
 have h1:=gc_some (cs:=flip a b ch cs) (k:=k) (by rw[flip_length];exact hk)
 unfold flip at h1
 rw[List.getElem?_mapIdx,gc_some hk] at h1
 simp only[Option.map_some,Option.some.injEq] at h1
 exact h1.symm
theorem flip_CV {s:Sp} {cs:List Cl} {a b i o:Int} {ch:List Nat} (h:CV s cs) (hl:Lines s i o) (hb:¬ Busy cs i o) (ha:0≤a∧a≤s.M - 1) (hb2:0≤b∧b≤s.M - 1)
  (hA:a ∉ usedI s cs (i / s.E)) (hB:b ∉ usedO s cs (o / s.E)) (hc:Closed s cs a b (o / s.E) ch):CV s (flip a b ch cs++[⟨i,o,a⟩]):=by
 have hAk:∀k,k < cs.length→sw s false (gc cs k)=i / s.E→(gc cs k).v≠a:=fun k hk e e2=>hA (mem_usedI.2 ⟨_,gc_mem hk,e,e2⟩)
 have hBk:∀k,k < cs.length→sw s true (gc cs k)=o / s.E→(gc cs k).v≠b:=fun k hk e e2=>hB (mem_usedO.2 ⟨_,gc_mem hk,e,e2⟩)
 rw[CV_snoc]
 refine⟨CV.of_index h.1 (fun c hcm=>?_) (fun k l c d hk hl2 hlt hh=>?_),⟨hl.1,hl.2,ha⟩,fun d hd hh=>?_⟩
 ·obtain⟨k,hk⟩:=List.mem_iff_getElem?.1 hcm
  obtain⟨hk1,e1,e2,e3⟩:=flip_some hk
  have hr:=h.2.1 _ (gc_mem hk1)
  refine⟨by rw[e1];exact hr.1,by rw[e2];exact hr.2.1,?_⟩
  rcases e3 with ⟨hm,e3⟩ |⟨hm,e3⟩
  ·rw[e3]
   rcases hc.ab k hm with e|e<;>rw[e]
   ·rw[show a+b - a=b by omega];exact hb2
   ·rw[show a+b - b=a by omega];exact ha
  ·rw[e3];exact hr.2.2
 ·obtain⟨hk1,e1,e2,e3⟩:=flip_some hk
  obtain⟨hl1,f1,f2,f3⟩:=flip_some hl2
  have hno:=h.two (gc_some hk1) (gc_some hl1) om9
  have key:∀t,sw s t (gc cs k)=sw s t (gc cs l)→c.v=d.v→False:=fun t ht hv=>by
   rcases e3 with ⟨m1,e3⟩ |⟨m1,e3⟩<;>rcases f3 with ⟨m2,f3⟩ |⟨m2,f3⟩
   ·exact hno (hit_sw (sd:=t) ht om9)
   ·exact m2 (hc.cl k m1 t l hl1 ht.symm om9)
   ·exact m1 (hc.cl l m2 t k hk1 ht om9)
   ·exact hno (hit_sw (sd:=t) ht om9)
  rcases hh with e|e |⟨e,g|g⟩
  ·exact hno (.inl (by rw[←e1,←f1];exact e))
  ·exact hno (.inr (.inl (by rw[←e2,←f2];exact e)))
  ·exact key false (by rw[e1,f1] at g;exact g) e
  ·exact key true (by rw[e2,f2] at g;exact g) e
 ·obtain⟨k,hk⟩:=List.mem_iff_getElem?.1 hd
  obtain⟨hk1,e1,e2,e3⟩:=flip_some hk
  rcases hh with e|e |⟨e,g⟩
  ·exact hb ⟨_,gc_mem hk1,.inl (by rw[←e1];exact e.symm)⟩
  ·exact hb ⟨_,gc_mem hk1,.inr (by rw[←e2];exact e.symm)⟩
  ·rcases e3 with ⟨m1,e3⟩ |⟨m1,e3⟩
   ·have hv:(gc cs k).v=b:=by have:a=a+b - (gc cs k).v:=e.trans e3;omega
    rcases g with g|g
    ·obtain⟨m,hm,h1,h2⟩:=hc.from_ k m1 hv
     exact hAk m (hc.lt m hm) (by rw[h2];rw[e1] at g;exact g.symm) h1
    ·exact hBk k hk1 (by rw[e2] at g;exact g.symm) hv
   ·have hv:(gc cs k).v=a:=(e.trans e3).symm
    rcases g with g|g
    ·exact hAk k hk1 (by rw[e1] at g;exact g.symm) hv
    ·exact m1 (hc.st k hk1 ⟨by rw[e2] at g;exact g.symm,hv⟩)
end Go.Clos
namespace Go.Clos
theorem gc_append {cs ds:List Cl} {k:Nat} (h:k < cs.length):gc (cs++ds) k=gc cs k:=by simp [gc,List.getD,List.getElem?_append_left h]
theorem gc_last {cs:List Cl} {c:Cl}:gc (cs++[c]) cs.length=c:=by simp [gc,List.getD]
def wayA (s:Sp) (cs:List Cl) (i:Int):Int:=firstN (usedI s cs (i / s.E)) s.M.toNat 0
def wayB (s:Sp) (cs:List Cl) (o:Int):Int:=firstN (usedO s cs (o / s.E)) s.M.toNat 0
def moveL (s:Sp) (cs:List Cl) (i o:Int):List Cl :=
 match freeV s cs i o with
 | v :: _=>cs++[⟨i,o,v⟩]
 | []=>flip (wayA s cs i) (wayB s cs o) (chain s cs (wayA s cs i) (wayB s cs o) (o / s.E)) cs++[⟨i,o,wayA s cs i⟩]
section
variable {s:Sp} {cs:List Cl} {i o:Int} (hs:Enough s) (h:CV s cs) (hl:Lines s i o) (hb:¬ Busy cs i o)
include hs h hl hb
theorem wayA_ok:(0≤wayA s cs i∧wayA s cs i≤s.M - 1)∧wayA s cs i ∉ usedI s cs (i / s.E):=by
 have f1:=h.from_ (not_busyI hb)
 obtain⟨⟨-,⟨e1,e2⟩,-⟩,hm⟩:=hs
 obtain⟨j,hj,h1,h2⟩:=firstN_some (used:=usedI s cs (i / s.E)) (n:=s.M.toNat) (by unfold usedI;rw[List.length_map];omega)
 unfold wayA;rw[hj];exact⟨by omega,h2⟩
theorem wayB_ok:(0≤wayB s cs o∧wayB s cs o≤s.M - 1)∧wayB s cs o ∉ usedO s cs (o / s.E):=by
 have f1:=h.to_ (not_busyO hb)
 obtain⟨⟨-,⟨e1,e2⟩,-⟩,hm⟩:=hs
 obtain⟨j,hj,h1,h2⟩:=firstN_some (used:=usedO s cs (o / s.E)) (n:=s.M.toNat) (by unfold usedO;rw[List.length_map];omega)
 unfold wayB;rw[hj];exact⟨by omega,h2⟩
theorem way_ne (hf:freeV s cs i o=[]):wayA s cs i≠wayB s cs o:=fun e=>by
 obtain⟨a1,a2⟩:=wayA_ok hs h hl hb
 obtain⟨b1,b2⟩:=wayB_ok hs h hl hb
 have:=mem_freeV.2 ((free_iff h hl hb a1).2 ⟨a2,by rw[e];exact b2⟩)
 rw[hf] at this;cases this
theorem way_free:∀l,l < cs.length→sw s true (gc cs l)=o / s.E→(gc cs l).v≠wayB s cs o:=fun l hl2 e e2 =>
 (wayB_ok hs h hl hb).2 (mem_usedO.2 ⟨_,gc_mem hl2,e,e2⟩)
theorem chain_ok (hf:freeV s cs i o=[]):Closed s cs (wayA s cs i) (wayB s cs o) (o / s.E) (chain s cs (wayA s cs i) (wayB s cs o) (o / s.E)) :=
 chain_closed h (way_ne hs h hl hb hf) (way_free hs h hl hb)
theorem moveL_CV:CV s (moveL s cs i o):=by
 unfold moveL
 cases hf:freeV s cs i o with
 | cons v vs=>exact mem_freeV.1 (by rw[hf];simp)
 | nil =>
  obtain⟨a1,a2⟩:=wayA_ok hs h hl hb
  obtain⟨b1,b2⟩:=wayB_ok hs h hl hb
  exact flip_CV h hl hb a1 b1 a2 b2 (chain_ok hs h hl hb hf)
omit hs h hl hb in
theorem moveL_length:(moveL s cs i o).length=cs.length+1:=by
 unfold moveL
 split
 ·simp
 ·simp [flip_length]
omit hs h hl hb in
theorem moveL_last:(gc (moveL s cs i o) cs.length).i=i∧(gc (moveL s cs i o) cs.length).o=o:=by
 unfold moveL
 split
 ·rw[gc_last];exact⟨rfl,rfl⟩
 ·have:=gc_last (cs:=flip (wayA s cs i) (wayB s cs o) (chain s cs (wayA s cs i) (wayB s cs o) (o / s.E)) cs) (c:=⟨i,o,wayA s cs i⟩)
  rw[flip_length] at this
  rw[this];exact⟨rfl,rfl⟩
omit hs h hl hb in
theorem moveL_old {k:Nat} (hk:k < cs.length):(gc (moveL s cs i o) k).i=(gc cs k).i∧(gc (moveL s cs i o) k).o=(gc cs k).o:=by
 unfold moveL
 split
 ·rw[gc_append hk];exact⟨rfl,rfl⟩
 ·rw[gc_append (by rw[flip_length];exact hk),flip_gc hk]
  split<;>exact⟨rfl,rfl⟩
end
def dropL (cs:List Cl) (i:Int):List Cl:=cs.filter fun c=>c.i≠i
theorem dropL_sub (cs:List Cl) (i:Int):(dropL cs i).Sublist cs:=List.filter_sublist
theorem dropL_no {cs:List Cl} {i:Int} (h:∀c∈cs,c.i≠i):dropL cs i=cs:=List.filter_eq_self.2 fun c hc=>by simpa using h c hc
theorem dropL_gone {cs:List Cl} {i:Int} {c:Cl} (h:c∈dropL cs i):c.i≠i:=by simpa using (List.mem_filter.1 h).2
theorem dropL_take (cs:List Cl) (i:Int) {k:Nat} (hk:k < cs.length):dropL (cs.take (k+1)) i=dropL (cs.take k) i++if (gc cs k).i=i then [] else [gc cs k]:=by
 unfold dropL
 rw[List.take_add_one,gc_some hk,List.filter_append]
 congr 1
 by_cases h:(gc cs k).i=i<;>simp [h]
theorem dropL_len {s:Sp} {cs:List Cl} (h:CV s cs) {i:Int} (hi:∃c∈cs,c.i=i):(dropL cs i).length+1=cs.length:=by
 obtain⟨c,hc,rfl⟩:=hi
 have hn:=h.ins
 clear h
 induction cs with
 | nil=>cases hc
 | cons d ds ih =>
  rw[List.map_cons,List.nodup_cons] at hn
  unfold dropL
  rcases List.mem_cons.1 hc with rfl|hc
  ·have:dropL ds c.i=ds:=dropL_no fun d hd e=>hn.1 (List.mem_map.2 ⟨d,hd,e⟩)
   rw[List.filter_cons_of_neg (by simp)]
   unfold dropL at this;rw[this];rfl
  ·have hne:d.i≠c.i:=fun e=>hn.1 (List.mem_map.2 ⟨c,hc,e.symm⟩)
   have:=ih hc hn.2
   rw[List.filter_cons_of_pos (by simpa using hne)]
   unfold dropL at this
   simp only[List.length_cons];omega
end Go.Clos
namespace Go.Proofs.YtofdnmlpfagibaaGreatDoor
open Go Go.Abs Go.RowKit Go.Dial Go.Clos
structure Ex where
 s:Sp
 ps:List (List UInt8)
 cs:List Cl
deriving DecidableEq
def ex0:Ex:=⟨⟨0,0,0⟩,[],[]⟩
def SepC (cs:List Cl):Prop:=∀c∈cs,∀d∈cs,c.i≠d.o
instance (cs:List Cl):Decidable (SepC cs):=inferInstanceAs (Decidable (∀c∈cs,∀d∈cs,c.i≠d.o))
def ExOk (e:Ex):Prop:=Enough e.s∧PlanOk e.ps∧(e.ps.length:Int)=e.s.O * e.s.E∧CV e.s e.cs∧SepC e.cs
instance (e:Ex):Decidable (ExOk e):=inferInstanceAs (Decidable (_∧_∧_∧_∧_))
def Pr (cs:List Cl) (x y:Int):Prop:=∃c∈cs,(c.i=x∧c.o=y)∨(c.o=x∧c.i=y)
theorem ins_inj {s:Sp} {cs:List Cl} (h:CV s cs) {c d:Cl} (hc:c∈cs) (hd:d∈cs) (e:c.i=d.i):c=d:=by
 obtain⟨k,hk,rfl⟩:=mem_gc hc
 obtain⟨l,hl,rfl⟩:=mem_gc hd
 rw[h.one (gc_some hk) (gc_some hl) (.inl e)]
theorem outs_inj {s:Sp} {cs:List Cl} (h:CV s cs) {c d:Cl} (hc:c∈cs) (hd:d∈cs) (e:c.o=d.o):c=d:=by
 obtain⟨k,hk,rfl⟩:=mem_gc hc
 obtain⟨l,hl,rfl⟩:=mem_gc hd
 rw[h.one (gc_some hk) (gc_some hl) (.inr (.inl e))]
theorem Pr.lines {s:Sp} {cs:List Cl} (h:CV s cs) {x y:Int} (h1:Pr cs x y):(0≤x∧x≤s.O * s.E - 1)∧(0≤y∧y≤s.O * s.E - 1):=by
 obtain⟨c,hc,⟨a1,a2⟩ |⟨a1,a2⟩⟩:=h1
 ·have:=h.2.1 c hc;rw[←a1,←a2];exact⟨this.1,this.2.1⟩
 ·have:=h.2.1 c hc;rw[←a1,←a2];exact⟨this.2.1,this.1⟩
def peerS:List Cl→Int→Int
 | [],_=>-1
 | c :: cs,x=>if c.i=x then c.o else if c.o=x then c.i else peerS cs x
def peerV (e:Ex) (x:Int):Int:=if ExOk e then peerS e.cs x else -1
theorem peerS_spec:∀(cs:List Cl) (x:Int),Pr cs x (peerS cs x)∨(peerS cs x=-1∧∀y,¬ Pr cs x y)
 | [],x=>.inr ⟨rfl,fun y ⟨c,hc,_⟩=>by cases hc⟩
 | c :: cs,x=>by
  unfold peerS
  by_cases h1:c.i=x
  ·rw[if_pos h1];exact .inl ⟨c,by simp,.inl ⟨h1,rfl⟩⟩
  rw[if_neg h1]
  by_cases h2:c.o=x
  ·rw[if_pos h2];exact .inl ⟨c,by simp,.inr ⟨h2,rfl⟩⟩
  rw[if_neg h2]
  rcases peerS_spec cs x with ⟨d,hd,h⟩ |⟨e,h⟩
  ·exact .inl ⟨d,by simp [hd],h⟩
  ·refine .inr ⟨e,fun y ⟨d,hd,hh⟩=>?_⟩
   rcases List.mem_cons.1 hd with rfl|hd
   ·rcases hh with hh|hh
    ·exact h1 hh.1
    ·exact h2 hh.1
   ·exact h y ⟨d,hd,hh⟩
section
variable {s:Sp} {cs:List Cl} (h:CV s cs) (hs:SepC cs)
include h hs
omit hs in
theorem peer_neg {x:Int}:peerS cs x < 0 ↔ ∀y,¬ Pr cs x y:=by
 constructor
 ·intro hn y hy
  rcases peerS_spec cs x with h1 |⟨_,h1⟩
  ·have:=(h1.lines h).2;omega
  ·exact h1 y hy
 ·intro hn
  rcases peerS_spec cs x with h1 |⟨e,_⟩
  ·exact absurd h1 (hn _)
  ·omega
omit hs in
theorem peer_pos {x:Int} (hx:0≤peerS cs x):Pr cs x (peerS cs x):=by
 rcases peerS_spec cs x with h1 |⟨e,_⟩
 ·exact h1
 ·omega
end
theorem pr_move {s:Sp} {cs:List Cl} {i o x y:Int}:Pr (moveL s cs i o) x y ↔ Pr cs x y∨(x=i∧y=o)∨(x=o∧y=i):=by
 have hl:=moveL_length (s:=s) (cs:=cs) (i:=i) (o:=o)
 have hlast:=moveL_last (s:=s) (cs:=cs) (i:=i) (o:=o)
 have hold:=fun k hk=>moveL_old (s:=s) (cs:=cs) (i:=i) (o:=o) (k:=k) hk
 constructor
 ·rintro ⟨c,hc,hh⟩
  obtain⟨k,hk,rfl⟩:=mem_gc hc
  by_cases hkl:k < cs.length
  ·obtain⟨e1,e2⟩:=hold k hkl
   rw[e1,e2] at hh
   exact .inl ⟨_,gc_mem hkl,hh⟩
  ·obtain rfl:k=cs.length:=by omega
   rw[hlast.1,hlast.2] at hh
   rcases hh with ⟨a,b⟩ |⟨a,b⟩
   ·exact .inr (.inl ⟨a.symm,b.symm⟩)
   ·exact .inr (.inr ⟨a.symm,b.symm⟩)
 ·rintro (⟨c,hc,hh⟩ |⟨rfl,rfl⟩ |⟨rfl,rfl⟩)
  ·obtain⟨k,hk,rfl⟩:=mem_gc hc
   obtain⟨e1,e2⟩:=hold k hk
   exact⟨_,gc_mem (show k < _ by omega),by rw[e1,e2];exact hh⟩
  ·exact⟨_,gc_mem (show cs.length < _ by omega),.inl hlast⟩
  ·exact⟨_,gc_mem (show cs.length < _ by omega),.inr ⟨hlast.2,hlast.1⟩⟩
theorem move_ends {s:Sp} {cs:List Cl} {i o:Int} {c:Cl} (hc:c∈moveL s cs i o):(c.i=i∧c.o=o)∨∃d∈cs,c.i=d.i∧c.o=d.o:=by
 obtain⟨k,hk,rfl⟩:=mem_gc hc
 rw[moveL_length] at hk
 by_cases hkl:k < cs.length
 ·exact .inr ⟨_,gc_mem hkl,moveL_old hkl⟩
 ·obtain rfl:k=cs.length:=by omega
  exact .inl moveL_last
theorem move_sep {s:Sp} {cs:List Cl} (hs:SepC cs) {i o:Int} (hne:i≠o) (hi:∀y,¬ Pr cs i y) (ho:∀y,¬ Pr cs o y):SepC (moveL s cs i o):=by
 intro c hc d hd
 rcases move_ends hc with ⟨a1,a2⟩ |⟨c',hc',a1,a2⟩<;>rcases move_ends hd with ⟨b1,b2⟩ |⟨d',hd',b1,b2⟩
 ·rw[a1,b2];exact hne
 ·rw[a1,b2];exact fun e=>hi d'.i ⟨d',hd',.inr ⟨e.symm,rfl⟩⟩
 ·rw[a1,b2];exact fun e=>ho c'.o ⟨c',hc',.inl ⟨e,rfl⟩⟩
 ·rw[a1,b2];exact hs c' hc' d' hd'
theorem pr_drop {s:Sp} {cs:List Cl} (h:CV s cs) (hs:SepC cs) {i o:Int} (hp:∃c∈cs,c.i=i∧c.o=o) {x y:Int}:Pr (dropL cs i) x y ↔ Pr cs x y∧x≠i∧x≠o:=by
 obtain⟨c0,h0,rfl,rfl⟩:=hp
 constructor
 ·rintro ⟨c,hc,hh⟩
  have hm:=(dropL_sub cs c0.i).subset hc
  have hg:=dropL_gone hc
  have hne:c.o≠c0.o:=fun e=>hg (by rw[outs_inj h hm h0 e])
  refine⟨⟨c,hm,hh⟩,?_⟩
  rcases hh with ⟨rfl,rfl⟩ |⟨rfl,rfl⟩
  ·exact⟨hg,hs c hm c0 h0⟩
  ·exact⟨(hs c0 h0 c hm).symm,hne⟩
 ·rintro ⟨⟨c,hc,hh⟩,n1,n2⟩
  refine⟨c,?_,hh⟩
  unfold dropL
  refine List.mem_filter.2 ⟨hc,?_⟩
  rcases hh with ⟨rfl,rfl⟩ |⟨rfl,rfl⟩
  ·simpa using n1
  ·have:c.i≠c0.i:=fun e=>n2 (by rw[ins_inj h hc h0 e])
   simpa using this
theorem sep_sub {cs ds:List Cl} (hs:SepC cs) (hsub:∀c∈ds,c∈cs):SepC ds:=fun c hc d hd=>hs c (hsub c hc) d (hsub d hd)
end Go.Proofs.YtofdnmlpfagibaaGreatDoor
namespace Go.Proofs.YtofdnmlpfagibaaGreatDoor
open Go Go.Abs Go.RowKit Go.Clos
variable {w0:World}
theorem azeros_tris (l:Nat):azeros (.agg #[.int .i64 0,.int .i64 0,.int .i64 0]) (l * 3)=tris (List.replicate l cl0):=by
 apply List.ext_getElem?
 intro j
 by_cases hj:j < l * 3
 ·obtain⟨q,r,rfl,hr⟩:∃q r,j=q * 3+r∧r < 3:=⟨j / 3,j % 3,by omega,by omega⟩
  have hq:q < l:=by omega
  have g:=tris_get (List.replicate l cl0) q (by simpa using hq)
  have e:(List.replicate l cl0).getD q cl0=cl0:=by simp [List.getD,hq]
  rw[e] at g
  have hr':r=0∨r=1∨r=2:=by omega
  rcases hr' with rfl|rfl|rfl
  ·rw[Nat.add_zero,g.1]
   have:q * 3 % 3=0:=by omega
   simp [azeros,madeCells,Value.cells,this,hq,cl0]
  ·rw[g.2.1]
   have h1:q * 3+1 < l * 3:=by omega
   have:(q * 3+1) % 3=1:=by omega
   simp [azeros,madeCells,Value.cells,this,h1,cl0]
  ·rw[g.2.2]
   have h1:q * 3+2 < l * 3:=by omega
   have:(q * 3+2) % 3=2:=by omega
   simp [azeros,madeCells,Value.cells,this,h1,cl0]
 ·rw[List.getElem?_eq_none (by rw[azeros_length];omega),List.getElem?_eq_none (by rw[tris_length];simp;omega)]
theorem tris_write:∀(cs:List Cl) (i:Nat),i < cs.length→∀c:Cl,lwrite (tris cs) (i * 3) [.int .i64 c.i,.int .i64 c.o,.int .i64 c.v]=tris (cs.set i c):=by
 intro cs i h c
 have hl:=tris_length cs
 apply List.ext_getElem?
 intro j
 rw[lwrite_get _ _ _ (by simp;omega)]
 by_cases hj:j < cs.length * 3
 ·obtain⟨q,r,rfl,hr⟩:∃q r,j=q * 3+r∧r < 3:=⟨j / 3,j % 3,by omega,by omega⟩
  have hq:q < cs.length:=by omega
  have g:=tris_get (cs.set i c) q (by simpa using hq)
  have g0:=tris_get cs q hq
  have hget:(cs.set i c).getD q cl0=if i=q then c else cs.getD q cl0:=by
   simp only[List.getD,List.getElem?_set]
   by_cases e:i=q
   ·subst e;simp [h]
   ·simp [e]
  rw[hget] at g
  have hr':r=0∨r=1∨r=2:=by omega
  rcases hr' with rfl|rfl|rfl
  ·rw[Nat.add_zero,g.1]
   by_cases e:i=q
   ·subst e;rw[if_pos ⟨Nat.le_refl _,by simp⟩,if_pos rfl];simp
   ·rw[if_neg (by simp;omega),if_neg e];exact g0.1
  ·rw[g.2.1]
   by_cases e:i=q
   ·subst e;rw[if_pos ⟨by omega,by simp⟩,if_pos rfl];simp
   ·rw[if_neg (by simp;omega),if_neg e];exact g0.2.1
  ·rw[g.2.2]
   by_cases e:i=q
   ·subst e;rw[if_pos ⟨by omega,by simp⟩,if_pos rfl];simp
   ·rw[if_neg (by simp;omega),if_neg e];exact g0.2.2
 ·rw[if_neg (by simp;omega),List.getElem?_eq_none om9,List.getElem?_eq_none (by rw[tris_length];simp;omega)]
theorem list_eq {xs ys:List Cl} (hlen:xs.length=ys.length) (he:∀j,j < xs.length→xs.getD j cl0=ys.getD j cl0):xs=ys:=by
 apply List.ext_getElem hlen
 intro i h1 h2
 have:=he i h1
 simpa [List.getD,h1,h2] using this
end Go.Proofs.YtofdnmlpfagibaaGreatDoor
namespace Go.Proofs.YtofdnmlpfagibaaGreatDoor
open Go Go.Abs Go.RowKit Go.Dial Go.Clos
variable {w0:World}
def exV (v1 v2:Value) (e:Ex):Value:=.agg #[.int .i64 e.s.O,.int .i64 e.s.E,.int .i64 e.s.M,v1,v2]
def OwnX (β σ:AHeap) (v:Value) (e:Ex):Prop:=∃v1 v2,v=exV v1 v2 e∧OwnS β σ v1 e.ps∧OwnC β σ v2 e.cs
def ExV (σ:AHeap) (v:Value) (e:Ex):Prop:=∃v1 v2,v=exV v1 v2 e∧Texts σ v1 e.ps∧Tris σ v2 e.cs
def ExB (e:Ex):Prop:=e.ps.length≤1048576∧(∀x∈e.ps,x.length≤1048576)∧e.cs.length≤1048576
theorem OwnX.ex {β σ:AHeap} {v:Value} {e:Ex} (h:OwnX β σ v e):ExV σ v e:=let ⟨v1,v2,h1,h2,h3⟩:=h;⟨v1,v2,h1,h2.texts,h3.tris⟩
theorem OwnX.sub {β σ τ:AHeap} {v:Value} {e:Ex} (h:OwnX β σ v e) (hs:Sub σ τ):OwnX β τ v e:=let ⟨v1,v2,h1,h2,h3⟩:=h;⟨v1,v2,h1,h2.sub hs,h3.sub hs⟩
theorem OwnX.older {β β' σ:AHeap} {v:Value} {e:Ex} (h:OwnX β σ v e) (hs:Sub β' β):OwnX β' σ v e:=let ⟨v1,v2,h1,h2,h3⟩:=h;⟨v1,v2,h1,h2.older hs,h3.older hs⟩
theorem ExV.sub {σ τ:AHeap} {v:Value} {e:Ex} (h:ExV σ v e) (hs:Sub σ τ):ExV τ v e:=let ⟨v1,v2,h1,h2,h3⟩:=h;⟨v1,v2,h1,h2.sub hs,h3.sub hs⟩
theorem texts_cellV {σ:AHeap} {v:Value} {xs:List (List UInt8)} (h:Texts σ v xs):v.cells=#[v]∧Value.oneCell' v=true:=by
 rcases h with ⟨rfl,rfl⟩ |⟨g,o,rfl,-⟩<;>exact⟨rfl,rfl⟩
theorem tris_cellV {σ:AHeap} {v:Value} {xs:List Cl} (h:Tris σ v xs):v.cells=#[v]∧Value.oneCell' v=true:=by
 rcases h with ⟨rfl,rfl⟩ |⟨g,o,rfl,-⟩<;>exact⟨rfl,rfl⟩
end Go.Proofs.YtofdnmlpfagibaaGreatDoor
namespace Go.Proofs.YtofdnmlpfagibaaGreatDoor
open Go Go.Abs Go.RowKit Go.Dial Go.Clos
def lineS (ps:List (List UInt8)) (t:List UInt8):Int:=match fstN (fun k=>decide (ps.getD k []=t)) 0 ps.length with|some k=>k|none=>-1
def lineV (e:Ex) (t:List UInt8):Int:=if ExOk e then lineS e.ps t else -1
theorem lineS_spec (ps:List (List UInt8)) (t:List UInt8):(∃k:Nat,k < ps.length∧lineS ps t=k∧ps.getD k []=t)∨(lineS ps t=-1∧∀k,k < ps.length→ps.getD k []≠t):=by
 unfold lineS
 cases h:fstN (fun k=>decide (ps.getD k []=t)) 0 ps.length with
 | none=>exact .inr ⟨rfl,fun k hk e=>by have:=fstN_none h (Nat.zero_le k) om9;exact absurd e (of_decide_eq_false this)⟩
 | some k =>
  obtain⟨_,h1,h2⟩:=fstN_some h
  exact .inl ⟨k,by omega,rfl,by simpa using h2⟩
theorem lineS_lt {ps:List (List UInt8)} {t:List UInt8}:lineS ps t < ps.length:=by
 rcases lineS_spec ps t with ⟨j,hj,e1,e2⟩ |⟨e,_⟩
 ·omega
 ·omega
theorem lineS_ge {ps:List (List UInt8)} {t:List UInt8}:-1≤lineS ps t:=by
 rcases lineS_spec ps t with ⟨j,hj,e1,e2⟩ |⟨e,_⟩<;>omega
def doO (e:Ex) (d:Dd):Option Ex :=
 if ¬ (0≤d.l∧d.l≤(e.ps.length:Int) - 1) then none
 else if d.k=0 then
  if lineS e.ps d.t < 0∨lineS e.ps d.t=d.l∨0≤peerS e.cs d.l∨0≤peerS e.cs (lineS e.ps d.t) then none
  else some ⟨e.s,e.ps,moveL e.s e.cs d.l (lineS e.ps d.t)⟩
 else if d.k=1 then
  if peerS e.cs d.l < 0∨d.t≠[] then none
  else some ⟨e.s,e.ps,if (dropL e.cs d.l).length < e.cs.length then dropL e.cs d.l else dropL e.cs (peerS e.cs d.l)⟩
 else if d.k=2 then
  if d.t=e.ps.getD d.l.toNat []∨¬ PlanOk (e.ps.set d.l.toNat d.t) then none
  else some ⟨e.s,e.ps.set d.l.toNat d.t,e.cs⟩
 else none
def exDo (e:Ex) (d:Dd):Ex × Bool:=if ExOk e then (match doO e d with|some x=>(x,true)|none=>(e,false)) else (ex0,false)
structure Did (e:Ex) (d:Dd) (x:Ex):Prop where
 ok:ExOk x
 s:x.s=e.s
 len:x.ps.length=e.ps.length
 ne:x≠e
 line:0≤d.l∧d.l < e.ps.length
 call:d.k=0→x.ps=e.ps∧(0≤lineS e.ps d.t∧lineS e.ps d.t≠d.l)∧(∀a b,Pr x.cs a b ↔ Pr e.cs a b∨(a=d.l∧b=lineS e.ps d.t)∨(a=lineS e.ps d.t∧b=d.l))∧(∀y,¬ Pr e.cs d.l y)∧∀y,¬ Pr e.cs (lineS e.ps d.t) y
 drop:d.k=1→x.ps=e.ps∧Pr e.cs d.l (peerS e.cs d.l)∧∀a b,Pr x.cs a b ↔ Pr e.cs a b∧a≠d.l∧a≠peerS e.cs d.l
 num:d.k=2→x.cs=e.cs
 kind:d.k=0∨d.k=1∨d.k=2
theorem free_move {e:Ex} (h:ExOk e) {i o:Int} (hi:0≤i∧i < e.ps.length) (ho:0≤o∧o < e.ps.length) (hne:i≠o) (pi:∀y,¬ Pr e.cs i y) (po:∀y,¬ Pr e.cs o y) :
  Lines e.s i o∧¬ Busy e.cs i o∧CV e.s (moveL e.s e.cs i o)∧SepC (moveL e.s e.cs i o):=by
 obtain⟨h1,h2,h3,h4,h5⟩:=h
 have hl:Lines e.s i o:=⟨by omega,by omega⟩
 have hb:¬ Busy e.cs i o:=by
  rintro ⟨c,hc,rfl|rfl⟩
  ·exact pi c.o ⟨c,hc,.inl ⟨rfl,rfl⟩⟩
  ·exact po c.i ⟨c,hc,.inr ⟨rfl,rfl⟩⟩
 exact⟨hl,hb,moveL_CV h1 h4 hl hb,move_sep h5 hne pi po⟩
theorem doO_did {e x:Ex} {d:Dd} (h:ExOk e) (hd:doO e d=some x):Did e d x:=by
 obtain⟨h1,h2,h3,h4,h5⟩:=id h
 unfold doO at hd
 split at hd
 ·cases hd
 rename_i hl
 have hl:0≤d.l∧d.l < e.ps.length:=by omega
 split at hd
 ·rename_i hk
  split at hd
  ·cases hd
  rename_i hn
  simp only[not_or] at hn
  obtain⟨n1,n2,n3,n4⟩:=hn
  cases hd
  have pi:=(peer_neg h4 (x:=d.l)).1 om9
  have po:=(peer_neg h4 (x:=lineS e.ps d.t)).1 om9
  have hlt:=lineS_lt (ps:=e.ps) (t:=d.t)
  obtain⟨m1,m2,m3,m4⟩:=free_move h hl (show 0≤lineS e.ps d.t∧lineS e.ps d.t < e.ps.length by omega) (fun e=>n2 e.symm) pi po
  refine⟨⟨h1,h2,h3,m3,m4⟩,rfl,rfl,fun ee=>?_,hl,fun _=>⟨rfl,⟨by omega,n2⟩,fun a b=>pr_move,pi,po⟩,fun e=>by omega,fun e=>by omega,.inl hk⟩
  have:=congrArg (fun e=>e.cs.length) ee
  simp only[moveL_length] at this
  omega
 rename_i hk0
 split at hd
 ·rename_i hk
  split at hd
  ·cases hd
  rename_i hn
  simp only[not_or] at hn
  obtain⟨n1,n2⟩:=hn
  cases hd
  have hp:=peer_pos (s:=e.s) (cs:=e.cs) (x:=d.l) h4 om9
  -- the call that ends
  have key:∃i o,(∃c∈e.cs,c.i=i∧c.o=o)∧((i=d.l∧o=peerS e.cs d.l)∨(o=d.l∧i=peerS e.cs d.l))∧(if (dropL e.cs d.l).length < e.cs.length then dropL e.cs d.l else dropL e.cs (peerS e.cs d.l))=dropL e.cs i:=by
   obtain⟨c,hc,⟨a1,a2⟩ |⟨a1,a2⟩⟩:=hp
   ·have hlen:=dropL_len h4 ⟨c,hc,a1⟩
    exact⟨d.l,peerS e.cs d.l,⟨c,hc,a1,a2⟩,.inl ⟨rfl,rfl⟩,if_pos om9⟩
   ·have hno:dropL e.cs d.l=e.cs:=dropL_no fun c' hc' e'=>h5 c' hc' c hc (by rw[e',a1])
    exact⟨peerS e.cs d.l,d.l,⟨c,hc,a2,a1⟩,.inr ⟨rfl,rfl⟩,if_neg (by rw[hno];omega)⟩
  obtain⟨i,o,hio,hor,he⟩:=key
  rw[he]
  have hlen:=dropL_len h4 (i:=i) (by obtain⟨c,hc,a,_⟩:=hio;exact⟨c,hc,a⟩)
  refine⟨⟨h1,h2,h3,h4.sub (dropL_sub _ _),sep_sub h5 fun c hc=>(dropL_sub _ _).subset hc⟩,rfl,rfl,fun ee=>?_,hl,fun e=>by omega,fun _=>⟨rfl,hp,fun a b=>?_⟩,fun e=>by omega,.inr (.inl hk)⟩
  ·have:=congrArg (fun e=>e.cs.length) ee
   simp only at this
   omega
  ·rw[pr_drop h4 h5 hio]
   rcases hor with ⟨rfl,rfl⟩ |⟨rfl,rfl⟩
   ·exact Iff.rfl
   ·exact and_congr_right fun _=>And.comm
 rename_i hk1
 split at hd
 ·rename_i hk
  split at hd
  ·cases hd
  rename_i hn
  simp only[not_or] at hn
  obtain⟨n1,n2⟩:=hn
  cases hd
  refine⟨⟨h1,Classical.byContradiction n2,by rw[List.length_set];exact h3,h4,h5⟩,rfl,by rw[List.length_set],fun ee=>?_,hl,fun e=>by omega,fun e=>by omega,fun _=>rfl,.inr (.inr hk)⟩
  have:=congrArg (fun e=>e.ps.getD d.l.toNat []) ee
  simp only[List.getD,List.getElem?_set,if_true] at this
  rw[if_pos om9] at this
  exact n1 (by simpa [List.getD] using this)
 ·cases hd
section
variable {e x:Ex} {d:Dd} (h:ExOk e) (D:Did e d x)
include h D
end
def runN (e:Ex):List Dd→Ex × Nat
 | []=>(e,0)
 | d :: ds=>match doO e d with
  | some x=>((runN x ds).1,(runN x ds).2+1)
  | none=>runN e ds
def exRun (e:Ex) (ds:List Dd):Ex × Nat:=if ExOk e then runN e ds else (ex0,0)
def nightL (cs:List Cl):List Dd:=cs.map fun c=>⟨1,c.i,[]⟩
theorem night_run:∀(cs:List Cl) (s:Sp) (ps:List (List UInt8)),ExOk ⟨s,ps,cs⟩→runN ⟨s,ps,cs⟩ (nightL cs)=(⟨s,ps,[]⟩,cs.length)
 | [],s,ps,h=>rfl
 | c :: cs,s,ps,h=>by
  obtain⟨h1,h2,h3,h4,h5⟩:=id h
  have hc:c∈c :: cs:=by simp
  obtain⟨r1,r2,-⟩:=h4.2.1 c hc
  have hp:peerS (c :: cs) c.i=c.o:=by simp [peerS]
  have hdr:dropL (c :: cs) c.i=cs:=by
   unfold dropL
   rw[List.filter_cons_of_neg (by simp)]
   refine List.filter_eq_self.2 fun d hd=>?_
   have hne:d.i≠c.i:=fun e=>by
    have hn:=h4.ins
    rw[List.map_cons,List.nodup_cons] at hn
    exact hn.1 (List.mem_map.2 ⟨d,hd,e⟩)
   simpa using hne
  have hdo:doO ⟨s,ps,c :: cs⟩ ⟨1,c.i,[]⟩=some ⟨s,ps,cs⟩:=by
   unfold doO
   simp only at h3 r1 r2 ⊢
   rw[if_neg (fun hh=>hh om9),if_neg (by decide),if_pos trivial,hp,if_neg (by simp;omega),hdr,if_pos (by simp)]
  have ih:=night_run cs s ps ⟨h1,h2,h3,h4.sub (List.sublist_cons_self _ _),sep_sub h5 fun d hd=>by simp [hd]⟩
  show runN ⟨s,ps,c :: cs⟩ (⟨1,c.i,[]⟩ :: nightL cs)=_
  rw[runN,hdo]
  simp only[ih]
  rfl
end Go.Proofs.YtofdnmlpfagibaaGreatDoor
namespace Go.Proofs.YtofdnmlpfagibaaGreatDoor
open Go Go.Abs Go.RowKit Go.Dial Go.Clos
def w_ok:List UInt8:=[111,107]
def w_no:List UInt8:=[110,111]
def w_wrong:List UInt8:=[119,114,111,110,103]
def w_busy:List UInt8:=[98,117,115,121]
def w_night:List UInt8:=[110,105,103,104,116]
def w_calls:List UInt8:=[99,97,108,108,115]
def w_plan:List UInt8:=[112,108,97,110]
def w_who:List UInt8:=[119,104,111]
def w_via:List UInt8:=[118,105,97]
def w_none:List UInt8:=[110,111,110,101]
def w_what:List UInt8:=[119,104,97,116]
theorem decN_ne (n:Nat):decN n≠[]:=by
 unfold decN
 split<;>simp
def viaS:List Cl→Int→Int
 | [],_=>-1
 | c :: cs,x=>if c.i=x∨c.o=x then c.v else viaS cs x
theorem viaS_ge {s:Sp}:∀{cs:List Cl},(∀c∈cs,Rg s c)→∀{x:Int},0≤peerS cs x→0≤viaS cs x
 | [],_,x,hx=>by simp [peerS] at hx
 | c :: cs,h,x,hx=>by
  unfold viaS
  unfold peerS at hx
  by_cases h1:c.i=x
  ·rw[if_pos (.inl h1)];exact (h c (by simp)).2.2.1
  by_cases h2:c.o=x
  ·rw[if_pos (.inr h2)];exact (h c (by simp)).2.2.1
  rw[if_neg h1,if_neg h2] at hx
  rw[if_neg fun hh=>hh.elim h1 h2]
  exact viaS_ge (fun d hd=>h d (by simp [hd])) hx
def joinT (ps:List (List UInt8)):Nat→List UInt8
 | 0=>ps.getD 0 []
 | k+1=>joinT ps k++([44]++ps.getD (k+1) [])
theorem joinT_ne {ps:List (List UInt8)} (h:ps.getD 0 []≠[]):∀k,joinT ps k≠[]
 | 0=>h
 | k+1=>by simp [joinT]
def askN (t:List UInt8):Int:=if (cutT 32 t).length=2 then rdN ((cutT 32 t).getD 1 []) else -1
def ask0 (t:List UInt8):List UInt8:=(cutT 32 t).getD 0 []
def refuse (e:Ex) (d:Dd):List UInt8:=if d.k≠0∨(e.ps.length:Int)≤d.l then w_no else if lineS e.ps d.t < 0 then w_wrong else w_busy
def askT (e:Ex) (t:List UInt8):List UInt8 :=
 if t=w_calls then decN e.cs.length
 else if t=w_plan then joinT e.ps (e.ps.length - 1)
 else if 0≤askN t∧(ask0 t=w_who∨ask0 t=w_via)∧peerS e.cs (askN t) < 0 then w_none
 else if 0≤askN t∧ask0 t=w_who then decN (peerS e.cs (askN t)).toNat
 else if 0≤askN t∧ask0 t=w_via then decN (viaS e.cs (askN t)).toNat
 else w_what
def lineX (e:Ex) (t:List UInt8):Ex × List UInt8 :=
 match readO t with
 | some d=>match doO e d with
  | some x=>(x,w_ok)
  | none=>(e,refuse e d)
 | none=>if t=w_night then (⟨e.s,e.ps,[]⟩,w_ok) else (e,askT e t)
def exLine (e:Ex) (t:List UInt8):Ex × List UInt8:=if ExOk e then lineX e t else (ex0,[])
theorem readO_night:readO w_night=none:=by decide +kernel
theorem lineX_night (e:Ex):lineX e w_night=(⟨e.s,e.ps,[]⟩,w_ok):=by unfold lineX;rw[readO_night];simp
theorem ex_quiet {e:Ex} (h:ExOk e):ExOk ⟨e.s,e.ps,[]⟩:=⟨h.1,h.2.1,h.2.2.1,CV_nil.2 h.1.1,fun c hc=>by cases hc⟩
theorem night_is {e:Ex} (h:ExOk e):runN e (nightL e.cs)=(⟨e.s,e.ps,[]⟩,e.cs.length):=night_run e.cs e.s e.ps h
theorem ex_plan {e:Ex} (h:ExOk e):1≤e.ps.length∧e.ps.length≤10∧e.ps.getD 0 []≠[]:=by
 obtain⟨h1,h2,h3,-⟩:=h
 have:=h1.1.lines
 have hl:1≤e.ps.length:=by omega
 refine⟨hl,h2.2,fun e0=>?_⟩
 have:=(h2.1 0 om9).2.1.1
 rw[e0] at this;simp at this
theorem askT_ne {e:Ex} (h:ExOk e) (t:List UInt8):askT e t≠[]:=by
 unfold askT
 split
 ·exact decN_ne _
 split
 ·exact joinT_ne (ex_plan h).2.2 _
 split
 ·decide
 split
 ·exact decN_ne _
 split
 ·exact decN_ne _
 ·decide
theorem refuse_cases (e:Ex) (d:Dd):refuse e d=w_no∨refuse e d=w_wrong∨refuse e d=w_busy:=by
 unfold refuse
 split
 ·exact .inl rfl
 split
 ·exact .inr (.inl rfl)
 ·exact .inr (.inr rfl)
theorem refuse_ne (e:Ex) (d:Dd):refuse e d≠[]:=by
 rcases refuse_cases e d with e1|e1|e1<;>(rw[e1];decide)
theorem lineX_ok {e:Ex} (h:ExOk e) (t:List UInt8):ExOk (lineX e t).1∧(lineX e t).2≠[]∧((lineX e t).2=w_ok∨(lineX e t).1=e)∧(lineX e t).1.s=e.s∧(lineX e t).1.ps.length=e.ps.length:=by
 unfold lineX
 cases hr:readO t with
 | some d =>
  simp only
  cases hd:doO e d with
  | some x=>have D:=doO_did h hd;exact⟨D.ok,(show w_ok≠[] by decide),.inl rfl,D.s,D.len⟩
  | none=>exact⟨h,refuse_ne e d,.inr rfl,rfl,rfl⟩
 | none =>
  simp only
  split
  ·exact⟨ex_quiet h,(show w_ok≠[] by decide),.inl rfl,rfl,rfl⟩
  ·exact⟨h,askT_ne h t,.inr rfl,rfl,rfl⟩
def linesN (e:Ex):List (List UInt8)→Ex × List (List UInt8)
 | []=>(e,[])
 | t :: ts=>((linesN (lineX e t).1 ts).1,(lineX e t).2 :: (linesN (lineX e t).1 ts).2)
def exLines (e:Ex) (ts:List (List UInt8)):Ex × List (List UInt8):=if ExOk e∧ts.length≤40 then linesN e ts else (ex0,[])
theorem linesN_ok:∀(ts:List (List UInt8)) {e:Ex},ExOk e→ExOk (linesN e ts).1∧(linesN e ts).2.length=ts.length∧∀a∈(linesN e ts).2,a≠[]
 | [],e,h=>⟨h,rfl,fun a ha=>by cases ha⟩
 | t :: ts,e,h=>by
  obtain⟨h1,h2,_⟩:=lineX_ok h t
  obtain⟨i1,i2,i3⟩:=linesN_ok ts h1
  refine⟨i1,by simp [linesN,i2],fun a ha=>?_⟩
  rcases List.mem_cons.1 ha with rfl|ha
  ·exact h2
  ·exact i3 a ha
theorem linesN_app:∀(us vs:List (List UInt8)) (e:Ex),linesN e (us++vs)=((linesN (linesN e us).1 vs).1,(linesN e us).2++(linesN (linesN e us).1 vs).2)
 | [],vs,e=>rfl
 | t :: us,vs,e=>by
  rw[List.cons_append,linesN,linesN,linesN_app us vs]
  rfl
end Go.Proofs.YtofdnmlpfagibaaGreatDoor
namespace Go.Clos
theorem take_gc {cs:List Cl} {k:Nat} (h:k < cs.length):cs.take (k+1)=cs.take k++[gc cs k]:=by
 rw[List.take_succ_eq_append_getElem h];simp [gc,List.getD,h]
theorem CV_take {s:Sp} {cs:List Cl} {k:Nat} (hk:k < cs.length):CV s (cs.take (k+1)) ↔ CV s (cs.take k)∧Rg s (gc cs k)∧∀d∈cs.take k,¬ Hit s (gc cs k) d:=by
 rw[take_gc hk,CV_snoc]
theorem CV.take {s:Sp} {cs:List Cl} (h:CV s cs) (k:Nat):CV s (cs.take k):=h.sub (List.take_sublist _ _)
end Go.Clos
namespace Go.Clos
theorem flip_nil (a b:Int) (cs:List Cl):flip a b [] cs=cs:=by
 apply List.ext_getElem?
 intro j
 unfold flip
 rw[List.getElem?_mapIdx]
 cases cs[j]?<;>simp
theorem flip_step {a b:Int} {ch:List Nat} {cs:List Cl} {k:Nat} (hk:k < cs.length) (hm:k ∉ ch):(flip a b ch cs).set k ⟨(gc cs k).i,(gc cs k).o,a+b - (gc cs k).v⟩=flip a b (ch++[k]) cs∧gc (flip a b ch cs) k=gc cs k:=by
 refine⟨?_,by rw[flip_gc hk,if_neg hm]⟩
 apply List.ext_getElem?
 intro j
 rw[List.getElem?_set]
 have hl:=flip_length a b ch cs
 by_cases e:k=j
 ·subst e
  rw[if_pos rfl,if_pos om9]
  unfold flip
  rw[List.getElem?_mapIdx,gc_some hk]
  simp
 ·rw[if_neg e]
  unfold flip
  rw[List.getElem?_mapIdx,List.getElem?_mapIdx]
  cases hj:cs[j]? with
  | none=>rfl
  | some c =>
   have:j≠k:=fun h=>e h.symm
   simp [this]
def nI:Option Nat→Int
 | none=>-1
 | some k=>k
theorem nxt_succ (s:Sp) (cs:List Cl) (ch:List Nat) (sd:Bool) (x w:Int) (n:Nat):nI (nxt s cs ch sd x w (n+1))=if AtC s sd x w (gc cs n)∧n ∉ ch then (n:Int) else nI (nxt s cs ch sd x w n):=by
 conv=>lhs;rw[nxt]
 split<;>rfl
def chI (ch:List Nat):List Int:=ch.map fun (k:Nat)=>(k:Int)
theorem chI_length (ch:List Nat):(chI ch).length=ch.length:=by simp [chI]
theorem chI_getD {ch:List Nat} {k:Nat} (h:k < ch.length):(chI ch).getD k 0=(ch.getD k 0:Nat):=by simp [chI,List.getD,h]
theorem mem_chI {ch:List Nat} {k:Nat}:(k:Int)∈chI ch ↔ k∈ch:=by
 simp only[chI,List.mem_map]
 constructor
 ·rintro ⟨j,hj,e⟩
  have:j=k:=by omega
  rw[←this];exact hj
 ·intro h;exact⟨k,h,rfl⟩
theorem chI_snoc (ch:List Nat) (k:Nat):chI (ch++[k])=chI ch++[(k:Int)]:=by simp [chI]
theorem go_none {s:Sp} {cs:List Cl} {a b:Int} {f:Nat} {ch:List Nat} {sd:Bool} {x:Int} (h:nxt s cs ch sd x (wantOf a b sd) cs.length=none):go s cs a b f ch sd x=ch:=by
 cases f with
 | zero=>rfl
 | succ f=>rw[go,h]
theorem go_some {s:Sp} {cs:List Cl} {a b:Int} {f:Nat} {ch:List Nat} {sd:Bool} {x:Int} {k:Nat} (h:nxt s cs ch sd x (wantOf a b sd) cs.length=some k):go s cs a b (f+1) ch sd x=go s cs a b f (ch++[k]) (!sd) (sw s (!sd) (gc cs k)):=by
 rw[go,h]
theorem Inv.room {s:Sp} {cs:List Cl} {a b B:Int} {ch:List Nat} {sd:Bool} {x w:Int} {k:Nat} (hi:Inv s cs a b B ch sd x) (h:nxt s cs ch sd x w cs.length=some k):ch.length < cs.length:=by
 obtain⟨h1,-,h3⟩:=nxt_some h
 have:=sub_len (xs:=k :: ch) (ys:=List.range cs.length) (List.nodup_cons.2 ⟨h3,hi.nd⟩) fun y hy=>by
  rcases List.mem_cons.1 hy with rfl|hy
  ·exact List.mem_range.2 h1
  ·exact List.mem_range.2 (hi.lt y hy)
 simp at this;omega
theorem wantOf_not (a b:Int) (sd:Bool):wantOf a b (!sd)=a+b - wantOf a b sd:=by cases sd<;>simp [wantOf]<;>omega
theorem usedI_take {s:Sp} {cs:List Cl} {x:Int} {k:Nat} (h:k < cs.length):usedI s (cs.take (k+1)) x=usedI s (cs.take k) x++if (gc cs k).i / s.E=x then [(gc cs k).v] else []:=by
 unfold usedI
 rw[take_gc h,List.filter_append,List.map_append]
 congr 1
 by_cases e:(gc cs k).i / s.E=x<;>simp [e]
theorem usedO_take {s:Sp} {cs:List Cl} {x:Int} {k:Nat} (h:k < cs.length):usedO s (cs.take (k+1)) x=usedO s (cs.take k) x++if (gc cs k).o / s.E=x then [(gc cs k).v] else []:=by
 unfold usedO
 rw[take_gc h,List.filter_append,List.map_append]
 congr 1
 by_cases e:(gc cs k).o / s.E=x<;>simp [e]
theorem used_length (s:Sp) (cs:List Cl) (x:Int):(usedI s cs x).length≤cs.length∧(usedO s cs x).length≤cs.length:=by
 unfold usedI usedO
 rw[List.length_map,List.length_map]
 exact⟨List.length_filter_le _ _,List.length_filter_le _ _⟩
theorem firstN_step (used:List Int) (n k:Nat):firstN used (n+1) k=if (k:Int)∈used then firstN used n (k+1) else k:=rfl
end Go.Clos
namespace Go.Proofs.YtofdnmlpfagibaaGreatDoor
open Go Go.Abs Go.RowKit Go.Clos
variable {w0:World}
set_option maxRecDepth 8000 in
theorem specSV_at (σ:AHeap) (O E M:Int):ACall Tryz.prog w0 74 [.agg #[.int .i64 O,.int .i64 E,.int .i64 M]] σ fun r σ'=>r=.bool (decide (SV ⟨O,E,M⟩))∧σ'=σ:=by
 refine acall_go mixed Tryz.func74 rfl good74 fun pr=>?_
 simp -implicitDefEqProofs(disch:=omega)only[Nat.reduceEqDiff,↓reduceIte,vcu,↓vcd]
 refine r_boxed fun b τ nb s1 e1=>?_
 replace e1:τ b=some ⟨[.int .i64 O,.int .i64 E,.int .i64 M],false⟩:=e1
 have lO:ld τ b (0+0)=some (.int .i64 O):=ld_of e1 rfl
 have lE:ld τ b (0+1)=some (.int .i64 E):=ld_of e1 rfl
 have lM:ld τ b (0+2)=some (.int .i64 M):=ld_of e1 rfl
 simp -implicitDefEqProofs(disch:=omega)only[Nat.reduceEqDiff,↓reduceIte,vcu,↓vcd,lO,lE,lM]
 refine (in_calls τ O 1 4).mono ?_
 rintro r _ ⟨rfl,rfl⟩
 rename_i τ
 by_cases h1:1≤O∧O≤4
 case neg =>
  have hS:¬ SV ⟨O,E,M⟩:=fun h=>h1 h.1
  rw[decide_eq_false h1,decide_eq_false hS]
  simp -implicitDefEqProofs(disch:=omega)only[Nat.reduceEqDiff,↓reduceIte,vcu,↓vcd,opK_some]
  refine fin_drop Tryz.results74 σ s1 ⟨?_,rfl⟩
  simp -implicitDefEqProofs(disch:=omega)only[Nat.reduceEqDiff,↓reduceIte,vcu,↓vcd]
 rw[decide_eq_true h1]
 simp -implicitDefEqProofs(disch:=omega)only[Nat.reduceEqDiff,↓reduceIte,vcu,↓vcd,opK_some,lO,lE,lM]
 refine (in_calls τ E 1 3).mono ?_
 rintro r _ ⟨rfl,rfl⟩
 rename_i τ
 by_cases h2:1≤E∧E≤3
 case neg =>
  have hS:¬ SV ⟨O,E,M⟩:=fun h=>h2 h.2.1
  rw[decide_eq_false h2,decide_eq_false hS]
  simp -implicitDefEqProofs(disch:=omega)only[Nat.reduceEqDiff,↓reduceIte,vcu,↓vcd,opK_some]
  refine fin_drop Tryz.results74 σ s1 ⟨?_,rfl⟩
  simp -implicitDefEqProofs(disch:=omega)only[Nat.reduceEqDiff,↓reduceIte,vcu,↓vcd]
 rw[decide_eq_true h2]
 simp -implicitDefEqProofs(disch:=omega)only[Nat.reduceEqDiff,↓reduceIte,vcu,↓vcd,opK_some,lO,lE,lM]
 refine (in_calls τ M 1 5).mono ?_
 rintro r _ ⟨rfl,rfl⟩
 by_cases h3:1≤M∧M≤5
 ·have hS:SV ⟨O,E,M⟩:=⟨h1,h2,h3⟩
  rw[decide_eq_true h3,decide_eq_true hS]
  simp -implicitDefEqProofs(disch:=omega)only[Nat.reduceEqDiff,↓reduceIte,vcu,↓vcd,opK_some]
  refine fin_drop Tryz.results74 σ s1 ⟨?_,rfl⟩
  simp -implicitDefEqProofs(disch:=omega)only[Nat.reduceEqDiff,↓reduceIte,vcu,↓vcd]
 ·have hS:¬ SV ⟨O,E,M⟩:=fun h=>h3 h.2.2
  rw[decide_eq_false h3,decide_eq_false hS]
  simp -implicitDefEqProofs(disch:=omega)only[Nat.reduceEqDiff,↓reduceIte,vcu,↓vcd,opK_some]
  refine fin_drop Tryz.results74 σ s1 ⟨?_,rfl⟩
  simp -implicitDefEqProofs(disch:=omega)only[Nat.reduceEqDiff,↓reduceIte,vcu,↓vcd]
set_option maxRecDepth 8000 in
theorem specLines_at (σ:AHeap) (O E M:Int) (hS:SV ⟨O,E,M⟩):ACall Tryz.prog w0 38 [.agg #[.int .i64 O,.int .i64 E,.int .i64 M]] σ fun r σ'=>r=.int .i64 (O * E)∧σ'=σ:=by
 have hL:=hS.lines
 dsimp only at hL
 refine acall_go mixed Tryz.func38 rfl good38 fun pr=>?_
 simp -implicitDefEqProofs(disch:=omega)only[Nat.reduceEqDiff,↓reduceIte,vcu,↓vcd]
 refine r_boxed fun b τ nb s1 e1=>?_
 replace e1:τ b=some ⟨[.int .i64 O,.int .i64 E,.int .i64 M],false⟩:=e1
 have lO:ld τ b (0+0)=some (.int .i64 O):=ld_of e1 rfl
 have lE:ld τ b (0+1)=some (.int .i64 E):=ld_of e1 rfl
 simp -implicitDefEqProofs(disch:=omega)only[Nat.reduceEqDiff,↓reduceIte,vcu,↓vcd,lO,lE]
 refine fin_drop Tryz.results38 σ s1 ⟨?_,rfl⟩
 simp -implicitDefEqProofs(disch:=omega)only[Nat.reduceEqDiff,↓reduceIte,vcu,↓vcd]
set_option maxRecDepth 8000 in
theorem specEnough_at (σ:AHeap) (O E M:Int):ACall Tryz.prog w0 36 [.agg #[.int .i64 O,.int .i64 E,.int .i64 M]] σ fun r σ'=>r=.bool (decide (Enough ⟨O,E,M⟩))∧σ'=σ:=by
 refine acall_go mixed Tryz.func36 rfl good36 fun pr=>?_
 simp -implicitDefEqProofs(disch:=omega)only[Nat.reduceEqDiff,↓reduceIte,vcu,↓vcd]
 refine r_boxed fun b τ nb s1 e1=>?_
 replace e1:τ b=some ⟨[.int .i64 O,.int .i64 E,.int .i64 M],false⟩:=e1
 have lE:ld τ b (0+1)=some (.int .i64 E):=ld_of e1 rfl
 have lM:ld τ b (0+2)=some (.int .i64 M):=ld_of e1 rfl
 have l3:lds τ b 0 3=some [.int .i64 O,.int .i64 E,.int .i64 M]:=lds_three (ld_of e1 rfl) (ld_of e1 rfl) (ld_of e1 rfl)
 simp -implicitDefEqProofs(disch:=omega)only[Nat.reduceEqDiff,↓reduceIte,vcu,↓vcd,l3,co29]
 refine (specSV_at τ O E M).mono ?_
 rintro r _ ⟨rfl,rfl⟩
 rename_i τ
 by_cases hS:SV ⟨O,E,M⟩
 case neg =>
  have hE:¬ Enough ⟨O,E,M⟩:=fun h=>hS h.1
  rw[decide_eq_false hS,decide_eq_false hE]
  simp -implicitDefEqProofs(disch:=omega)only[Nat.reduceEqDiff,↓reduceIte,vcu,↓vcd,opK_some]
  refine fin_drop Tryz.results36 σ s1 ⟨?_,rfl⟩
  simp -implicitDefEqProofs(disch:=omega)only[Nat.reduceEqDiff,↓reduceIte,vcu,↓vcd]
 rw[decide_eq_true hS]
 have hd:decide (Enough ⟨O,E,M⟩)=decide (E≤M):=by
  by_cases h:E≤M
  ·rw[decide_eq_true h,decide_eq_true (show Enough ⟨O,E,M⟩ from ⟨hS,h⟩)]
  ·rw[decide_eq_false h,decide_eq_false (fun hE:Enough ⟨O,E,M⟩=>h hE.2)]
 rw[hd]
 simp -implicitDefEqProofs(disch:=omega)only[Nat.reduceEqDiff,↓reduceIte,vcu,↓vcd,opK_some,lE,lM]
 refine fin_drop Tryz.results36 σ s1 ⟨?_,rfl⟩
 simp -implicitDefEqProofs(disch:=omega)only[Nat.reduceEqDiff,↓reduceIte,vcu,↓vcd]
set_option maxRecDepth 8000 in
theorem specCV_at (σ:AHeap) (O E M:Int) (h o:Nat) (cs:List Cl) (hv:TrisAt σ h o cs) (hl:cs.length≤1048576) :
  ACall Tryz.prog w0 39 [.agg #[.int .i64 O,.int .i64 E,.int .i64 M],.slice (some ⟨h,o,none⟩) cs.length 3] σ fun r σ'=>r=.bool (decide (CV ⟨O,E,M⟩ cs))∧σ'=σ:=by
 refine acall_go mixed Tryz.func39 rfl good39 fun pr=>?_
 simp -implicitDefEqProofs(disch:=omega)only[Nat.reduceEqDiff,↓reduceIte,vcu,↓vcd]
 refine r_boxed fun b τ nb s1 e1=>?_
 replace e1:τ b=some ⟨[.int .i64 O,.int .i64 E,.int .i64 M],false⟩:=e1
 have l3:lds τ b 0 3=some [.int .i64 O,.int .i64 E,.int .i64 M]:=lds_three (ld_of e1 rfl) (ld_of e1 rfl) (ld_of e1 rfl)
 simp -implicitDefEqProofs(disch:=omega)only[Nat.reduceEqDiff,↓reduceIte,vcu,↓vcd,l3,co29]
 refine (specSV_at τ O E M).mono ?_
 rintro r _ ⟨rfl,rfl⟩
 rename_i τ
 by_cases hS:SV ⟨O,E,M⟩
 case neg =>
  rw[decide_eq_false hS,decide_eq_false (fun hC:CV ⟨O,E,M⟩ cs=>hS hC.1)]
  simp -implicitDefEqProofs(disch:=omega)only[Nat.reduceEqDiff,↓reduceIte,vcu,↓vcd,opK_some,Bool.not_false]
  refine fin_drop Tryz.results39 σ s1 ⟨?_,rfl⟩
  simp -implicitDefEqProofs(disch:=omega)only[Nat.reduceEqDiff,↓reduceIte,vcu,↓vcd]
 rw[decide_eq_true hS]
 have hL:=hS.lines
 have hS':=hS
 obtain⟨-,⟨hE1,hE2⟩,hM1,hM2⟩:=hS'
 dsimp only at hL hE1 hE2 hM1 hM2
 simp -implicitDefEqProofs(disch:=omega)only[Nat.reduceEqDiff,↓reduceIte,vcu,↓vcd,opK_some,Bool.not_true]
 refine vc_loop_c mixed kr9 [1,2] (fun m a τ'=>∃k:Nat,m+k=cs.length∧a 5=.int .i64 k∧Sub τ τ'∧CV ⟨O,E,M⟩ (cs.take k)) cs.length ⟨0,by simp,rfl,Sub.refl _,by simpa using CV_nil.2 hS⟩ ?_
 rintro m a τ1 hc ⟨k,hk,h5,hs,hC⟩
 simp -implicitDefEqProofs(disch:=omega)only[Nat.reduceEqDiff,↓reduceIte,vcu,↓vcd] at hc
 obtain⟨h1,h2,-⟩:=hc
 by_cases hlt:k < cs.length
 case neg =>
  obtain rfl:k=cs.length:=by omega
  rw[List.take_length] at hC
  rw[decide_eq_true hC]
  simp -implicitDefEqProofs(disch:=omega)only[Nat.reduceEqDiff,↓reduceIte,vcu,↓vcd,h1,h2,h5]
  refine fin_drop Tryz.results39 σ (s1.trans hs) ⟨?_,rfl⟩
  simp -implicitDefEqProofs(disch:=omega)only[Nat.reduceEqDiff,↓reduceIte,vcu,↓vcd]
 have hx:=((hv.sub s1).sub hs).all hlt
 have hgk:cs.getD k cl0=gc cs k:=rfl
 have htk:=CV_take (s:=⟨O,E,M⟩) hlt
 have bad:¬ (Rg ⟨O,E,M⟩ (gc cs k)∧∀d∈cs.take k,¬ Hit ⟨O,E,M⟩ (gc cs k) d)→¬ CV ⟨O,E,M⟩ cs:=fun hn hC=>hn (htk.1 (hC.take (k+1))).2
 rw[hgk] at hx
 generalize gc cs k=c at hx htk bad
 obtain⟨ci,co,cv⟩:=c
 dsimp only at hx
 simp -implicitDefEqProofs(disch:=omega)only[Nat.reduceEqDiff,↓reduceIte,vcu,↓vcd,h1,h2,h5,hx,co70]
 refine r_local (cs:=#[.int .i64 ci,.int .i64 co,.int .i64 cv]) ze70 (by decide) z9q (by rw[co70];rfl) rfl rfl (Nat.zero_lt_succ _) fun g τ2 ng s2 e2=>?_
 replace e2:τ2 g=some ⟨[.int .i64 ci,.int .i64 co,.int .i64 cv],false⟩:=e2
 have li:ld τ2 g (0+0)=some (.int .i64 ci):=ld_of e2 rfl
 have lo:ld τ2 g (0+1)=some (.int .i64 co):=ld_of e2 rfl
 have lv:ld τ2 g (0+2)=some (.int .i64 cv):=ld_of e2 rfl
 have hs2:=hs.trans s2
 have f1:=hs2 _ _ e1
 have m3:lds τ2 b 0 3=some [.int .i64 O,.int .i64 E,.int .i64 M]:=lds_three (ld_of f1 rfl) (ld_of f1 rfl) (ld_of f1 rfl)
 have mM:ld τ2 b (0+2)=some (.int .i64 M):=ld_of f1 rfl
 simp -implicitDefEqProofs(disch:=omega)only[Nat.reduceEqDiff,↓reduceIte,vcu,↓vcd,h1,h2,h5,li,lo,lv,m3,mM,co29]
 rw[r_callq]
 refine⟨_,specLines_at τ2 O E M hS,?_⟩
 simp -implicitDefEqProofs(disch:=omega)only[Nat.reduceEqDiff,↓reduceIte,vcu,↓vcd,h1,h2,h5,li,lo,lv,m3,mM,co29]
 rw[r_callq]
 refine⟨_,in_calls τ2 _ _ _,?_⟩
 by_cases hI:0≤ci∧ci≤O * E - 1
 case neg =>
  have hn:=bad fun hh=>hI hh.1.1
  rw[decide_eq_false hI,decide_eq_false hn]
  simp -implicitDefEqProofs(disch:=omega)only[Nat.reduceEqDiff,↓reduceIte,vcu,↓vcd,Bool.not_false]
  refine fin_drop Tryz.results39 σ (s1.trans hs2) ⟨?_,rfl⟩
  simp -implicitDefEqProofs(disch:=omega)only[Nat.reduceEqDiff,↓reduceIte,vcu,↓vcd]
 rw[decide_eq_true hI]
 simp -implicitDefEqProofs(disch:=omega)only[Nat.reduceEqDiff,↓reduceIte,vcu,↓vcd,h1,h2,h5,li,lo,lv,m3,mM,co29,Bool.not_true]
 rw[r_callq]
 refine⟨_,specLines_at τ2 O E M hS,?_⟩
 simp -implicitDefEqProofs(disch:=omega)only[Nat.reduceEqDiff,↓reduceIte,vcu,↓vcd,h1,h2,h5,li,lo,lv,m3,mM,co29]
 rw[r_callq]
 refine⟨_,in_calls τ2 _ _ _,?_⟩
 by_cases hO:0≤co∧co≤O * E - 1
 case neg =>
  have hn:=bad fun hh=>hO hh.1.2.1
  rw[decide_eq_false hO,decide_eq_false hn]
  simp -implicitDefEqProofs(disch:=omega)only[Nat.reduceEqDiff,↓reduceIte,vcu,↓vcd,Bool.not_false]
  refine fin_drop Tryz.results39 σ (s1.trans hs2) ⟨?_,rfl⟩
  simp -implicitDefEqProofs(disch:=omega)only[Nat.reduceEqDiff,↓reduceIte,vcu,↓vcd]
 rw[decide_eq_true hO]
 simp -implicitDefEqProofs(disch:=omega)only[Nat.reduceEqDiff,↓reduceIte,vcu,↓vcd,h1,h2,h5,li,lo,lv,m3,mM,co29,Bool.not_true]
 rw[r_callq]
 refine⟨_,in_calls τ2 _ _ _,?_⟩
 by_cases hV:0≤cv∧cv≤M - 1
 case neg =>
  have hn:=bad fun hh=>hV hh.1.2.2
  rw[decide_eq_false hV,decide_eq_false hn]
  simp -implicitDefEqProofs(disch:=omega)only[Nat.reduceEqDiff,↓reduceIte,vcu,↓vcd,Bool.not_false]
  refine fin_drop Tryz.results39 σ (s1.trans hs2) ⟨?_,rfl⟩
  simp -implicitDefEqProofs(disch:=omega)only[Nat.reduceEqDiff,↓reduceIte,vcu,↓vcd]
 rw[decide_eq_true hV]
 have hRg:Rg ⟨O,E,M⟩ ⟨ci,co,cv⟩:=⟨hI,hO,hV⟩
 simp -implicitDefEqProofs(disch:=omega)only[Nat.reduceEqDiff,↓reduceIte,vcu,↓vcd,h1,h2,h5,Bool.not_true]
 refine vc_loop_c mixed kr9 [1,2,5,6] (fun m a τ'=>∃j:Nat,m+j=k∧a 7=.int .i64 j∧Sub τ2 τ'∧∀d∈cs.take j,¬ Hit ⟨O,E,M⟩ ⟨ci,co,cv⟩ d) k ⟨0,by simp,rfl,Sub.refl _,by simp⟩ ?_
 rintro m2 a2 τ3 hc2 ⟨j,hj,h7,hs3,hN⟩
 simp -implicitDefEqProofs(disch:=omega)only[Nat.reduceEqDiff,↓reduceIte,vcu,↓vcd,h1,h2,h5] at hc2
 obtain⟨q1,q2,q5,q6,-⟩:=hc2
 by_cases hjk:j < k
 case neg =>
  obtain rfl:j=k:=by omega
  simp -implicitDefEqProofs(disch:=omega)only[Nat.reduceEqDiff,↓reduceIte,vcu,↓vcd,q1,q2,q5,q6,h7]
  refine⟨⟨trivial,trivial,trivial⟩,m - 1,by omega,j+1,by omega,by simp,hs2.trans hs3,?_⟩
  rw[htk]
  exact⟨hC,hRg,hN⟩
 have hjl:j < cs.length:=by omega
 have hy:=(((hv.sub s1).sub hs2).sub hs3).all hjl
 have hgj:cs.getD j cl0=gc cs j:=rfl
 have hdk:gc cs j∈cs.take k:=List.mem_of_getElem? (i:=j) (by rw[List.getElem?_take,if_pos hjk];exact gc_some hjl)
 have hdr:=hC.2.1 _ hdk
 have bad2:Hit ⟨O,E,M⟩ ⟨ci,co,cv⟩ (gc cs j)→¬ CV ⟨O,E,M⟩ cs:=fun hh=>bad fun h2=>h2.2 _ hdk hh
 have hjt:=take_gc hjl
 rw[hgj] at hy
 generalize gc cs j=d at hy hdk hdr bad2 hjt
 obtain⟨di,do',dv⟩:=d
 obtain⟨⟨d1,d2⟩,⟨d3,d4⟩,d5,d6⟩:=hdr
 dsimp only at hy d1 d2 d3 d4 d5 d6
 simp -implicitDefEqProofs(disch:=omega)only[Nat.reduceEqDiff,↓reduceIte,vcu,↓vcd,q1,q2,q5,q6,h7,hy,co70]
 refine r_local (cs:=#[.int .i64 di,.int .i64 do',.int .i64 dv]) ze70 (by decide) z9q (by rw[co70];rfl) rfl rfl (Nat.zero_lt_succ _) fun g2 τ4 ng4 s4 e4=>?_
 replace e4:τ4 g2=some ⟨[.int .i64 di,.int .i64 do',.int .i64 dv],false⟩:=e4
 have hs4:=hs3.trans s4
 have f2:=hs4 _ _ e2
 have f3:=hs4 _ _ f1
 have ki:ld τ4 g (0+0)=some (.int .i64 ci):=ld_of f2 rfl
 have ko:ld τ4 g (0+1)=some (.int .i64 co):=ld_of f2 rfl
 have kv:ld τ4 g (0+2)=some (.int .i64 cv):=ld_of f2 rfl
 have ji:ld τ4 g2 (0+0)=some (.int .i64 di):=ld_of e4 rfl
 have jo:ld τ4 g2 (0+1)=some (.int .i64 do'):=ld_of e4 rfl
 have jv:ld τ4 g2 (0+2)=some (.int .i64 dv):=ld_of e4 rfl
 have lE:ld τ4 b (0+1)=some (.int .i64 E):=ld_of f3 rfl
 have fine:¬ Hit ⟨O,E,M⟩ ⟨ci,co,cv⟩ ⟨di,do',dv⟩→∀d∈cs.take (j+1),¬ Hit ⟨O,E,M⟩ ⟨ci,co,cv⟩ d:=fun hn d hd=>by
  rw[hjt] at hd
  rcases List.mem_append.1 hd with hd|hd
  ·exact hN d hd
  ·rw[List.mem_singleton] at hd;subst hd;exact hn
 by_cases c1:ci=di
 ·rw[decide_eq_false (bad2 (.inl c1))]
  simp -implicitDefEqProofs(disch:=omega)only[Nat.reduceEqDiff,↓reduceIte,vcu,↓vcd,q1,q2,q5,q6,h7,ki,ko,kv,ji,jo,jv,lE]
  refine fin_drop Tryz.results39 σ (s1.trans (hs2.trans hs4)) ⟨?_,rfl⟩
  simp -implicitDefEqProofs(disch:=omega)only[Nat.reduceEqDiff,↓reduceIte,vcu,↓vcd]
 by_cases c2:co=do'
 ·rw[decide_eq_false (bad2 (.inr (.inl c2)))]
  simp -implicitDefEqProofs(disch:=omega)only[Nat.reduceEqDiff,↓reduceIte,vcu,↓vcd,q1,q2,q5,q6,h7,ki,ko,kv,ji,jo,jv,lE]
  refine fin_drop Tryz.results39 σ (s1.trans (hs2.trans hs4)) ⟨?_,rfl⟩
  simp -implicitDefEqProofs(disch:=omega)only[Nat.reduceEqDiff,↓reduceIte,vcu,↓vcd]
 by_cases c3:cv=dv
 case neg =>
  have hn:=fine fun hh=>hh.elim c1 fun hh=>hh.elim c2 fun hh=>c3 hh.1
  simp -implicitDefEqProofs(disch:=omega)only[Nat.reduceEqDiff,↓reduceIte,vcu,↓vcd,q1,q2,q5,q6,h7,ki,ko,kv,ji,jo,jv,lE]
  exact⟨⟨h1.symm,h2.symm,h5.symm,trivial,trivial⟩,m2 - 1,by omega,j+1,by omega,by simp,hs4,hn⟩
 by_cases c4:ci / E=di / E
 ·rw[decide_eq_false (bad2 (.inr (.inr ⟨c3,.inl c4⟩)))]
  simp -implicitDefEqProofs(disch:=omega)only[Nat.reduceEqDiff,↓reduceIte,vcu,↓vcd,q1,q2,q5,q6,h7,ki,ko,kv,ji,jo,jv,lE]
  refine fin_drop Tryz.results39 σ (s1.trans (hs2.trans hs4)) ⟨?_,rfl⟩
  simp -implicitDefEqProofs(disch:=omega)only[Nat.reduceEqDiff,↓reduceIte,vcu,↓vcd]
 by_cases c5:co / E=do' / E
 ·rw[decide_eq_false (bad2 (.inr (.inr ⟨c3,.inr c5⟩)))]
  simp -implicitDefEqProofs(disch:=omega)only[Nat.reduceEqDiff,↓reduceIte,vcu,↓vcd,q1,q2,q5,q6,h7,ki,ko,kv,ji,jo,jv,lE]
  refine fin_drop Tryz.results39 σ (s1.trans (hs2.trans hs4)) ⟨?_,rfl⟩
  simp -implicitDefEqProofs(disch:=omega)only[Nat.reduceEqDiff,↓reduceIte,vcu,↓vcd]
 have hn:=fine fun hh=>hh.elim c1 fun hh=>hh.elim c2 fun hh=>hh.2.elim c4 c5
 simp -implicitDefEqProofs(disch:=omega)only[Nat.reduceEqDiff,↓reduceIte,vcu,↓vcd,q1,q2,q5,q6,h7,ki,ko,kv,ji,jo,jv,lE]
 exact⟨⟨h1.symm,h2.symm,h5.symm,trivial,trivial⟩,m2 - 1,by omega,j+1,by omega,by simp,hs4,hn⟩
end Go.Proofs.YtofdnmlpfagibaaGreatDoor
namespace Go.Proofs.YtofdnmlpfagibaaGreatDoor
open Go Go.Abs Go.RowKit Go.Dial Go.Clos
variable {w0:World}
theorem rowC {σ:AHeap} {v:Value} {cs:List Cl} (h:Tris σ v cs) (h0:0 < cs.length):∃g o,v=.slice (some ⟨g,o,none⟩) cs.length 3∧TrisAt σ g o cs:=by
 rcases h with ⟨_,rfl⟩|h
 ·simp at h0
 ·exact h
theorem rowT {σ:AHeap} {v:Value} {xs:List (List UInt8)} (h:Texts σ v xs) (h0:0 < xs.length):∃g o,v=.slice (some ⟨g,o,none⟩) xs.length 1∧TextsAt σ g o xs:=by
 rcases h with ⟨_,rfl⟩|h
 ·simp at h0
 ·exact h
theorem lenC {σ:AHeap} {v:Value} {cs:List Cl} (h:Tris σ v cs):alenV Tryz.prog 31 v=some (.int .i64 (cs.length:Int)):=by
 rcases h with ⟨rfl,rfl⟩ |⟨g,o,rfl,-⟩<;>exact alenV_slice Tryz.underlying31
theorem lenT {σ:AHeap} {v:Value} {xs:List (List UInt8)} (h:Texts σ v xs):alenV Tryz.prog 30 v=some (.int .i64 (xs.length:Int)):=by
 rcases h with ⟨rfl,rfl⟩ |⟨g,o,rfl,-⟩<;>exact alenV_slice Tryz.underlying30
theorem specCV_calls (σ:AHeap) (O E M:Int) (v:Value) (cs:List Cl) (hv:Tris σ v cs) (hl:cs.length≤1048576) :
  ACall Tryz.prog w0 39 [.agg #[.int .i64 O,.int .i64 E,.int .i64 M],v] σ fun r σ'=>r=.bool (decide (CV ⟨O,E,M⟩ cs))∧σ'=σ :=
 ACall.tris_quiet (pre:=[_]) (post:=[]) kr9 hv fun σ1 h o _ hg=>specCV_at σ1 O E M h o cs hg hl
theorem sep_of {cs:List Cl} (h:∀k,k < cs.length→∀j,j < cs.length→(gc cs k).i≠(gc cs j).o):SepC cs:=by
 intro c hc d hd
 obtain⟨k,hk,rfl⟩:=mem_gc hc
 obtain⟨j,hj,rfl⟩:=mem_gc hd
 exact h k hk j hj
set_option maxRecDepth 8000 in
theorem exVal_calls (σ:AHeap) (v:Value) (e:Ex) (hv:ExV σ v e) (hb:ExB e) :
  ACall Tryz.prog w0 11 [v] σ fun r σ'=>r=.bool (decide (ExOk e))∧σ'=σ:=by
 obtain⟨⟨O,E,M⟩,ps,cs⟩:=e
 obtain⟨v1,v2,rfl,t1,t2⟩:=hv
 obtain⟨b1,b2,b3⟩:=hb
 dsimp only at t1 t2 b1 b2 b3
 unfold exV
 refine acall_go mixed Tryz.func11 rfl good11 fun pr=>?_
 simp -implicitDefEqProofs(disch:=omega)only[Nat.reduceEqDiff,↓reduceIte,vcu,↓vcd]
 refine r_boxed fun b τ nb s1 e1=>?_
 replace e1:τ b=some ⟨[.int .i64 O,.int .i64 E,.int .i64 M,v1,v2],false⟩:=e1
 have x0:lds τ b 0 3=some [.int .i64 O,.int .i64 E,.int .i64 M]:=lds_three (ld_of e1 rfl) (ld_of e1 rfl) (ld_of e1 rfl)
 have x3:ld τ b (0+3)=some v1:=ld_of e1 rfl
 have x4:ld τ b (0+4)=some v2:=ld_of e1 rfl
 have l1:=lenT (t1.sub s1)
 have l2:=lenC (t2.sub s1)
 simp -implicitDefEqProofs(disch:=omega)only[Nat.reduceEqDiff,↓reduceIte,vcu,↓vcd,x0,co29,Nat.add_zero]
 rw[r_callq]
 refine⟨_,specEnough_at τ O E M,?_⟩
 by_cases hE:Enough ⟨O,E,M⟩
 case neg =>
  rw[decide_eq_false hE]
  simp -implicitDefEqProofs(disch:=omega)only[Nat.reduceEqDiff,↓reduceIte,vcu,↓vcd,Bool.not_false]
  refine fin_drop Tryz.results11 σ s1 ⟨?_,rfl⟩
  simp -implicitDefEqProofs(disch:=omega)only[Nat.reduceEqDiff,↓reduceIte,vcu,↓vcd]
  rw[decide_eq_false fun h=>hE h.1]
 rw[decide_eq_true hE]
 simp -implicitDefEqProofs(disch:=omega)only[Nat.reduceEqDiff,↓reduceIte,vcu,↓vcd,Bool.not_true,x3]
 rw[r_callq]
 refine⟨_,planValid_calls τ v1 ps (t1.sub s1) b1 b2,?_⟩
 by_cases hP:PlanOk ps
 case neg =>
  rw[decide_eq_false hP]
  simp -implicitDefEqProofs(disch:=omega)only[Nat.reduceEqDiff,↓reduceIte,vcu,↓vcd,Bool.not_false]
  refine fin_drop Tryz.results11 σ s1 ⟨?_,rfl⟩
  simp -implicitDefEqProofs(disch:=omega)only[Nat.reduceEqDiff,↓reduceIte,vcu,↓vcd]
  rw[decide_eq_false fun h=>hP h.2.1]
 rw[decide_eq_true hP]
 simp -implicitDefEqProofs(disch:=omega)only[Nat.reduceEqDiff,↓reduceIte,vcu,↓vcd,Bool.not_true,x3,x0,l1,co29,Nat.add_zero]
 rw[r_callq]
 refine⟨_,specLines_at τ O E M hE.1,?_⟩
 by_cases hL:(ps.length:Int)=O * E
 case neg =>
  have d:decide ((ps.length:Int)≠O * E)=true:=decide_eq_true hL
  simp -implicitDefEqProofs(disch:=omega)only[Nat.reduceEqDiff,↓reduceIte,vcu,↓vcd,d]
  refine fin_drop Tryz.results11 σ s1 ⟨?_,rfl⟩
  simp -implicitDefEqProofs(disch:=omega)only[Nat.reduceEqDiff,↓reduceIte,vcu,↓vcd]
  rw[decide_eq_false fun h=>hL h.2.2.1]
 have d:decide ((ps.length:Int)≠O * E)=false:=decide_eq_false fun h=>h hL
 simp -implicitDefEqProofs(disch:=omega)only[Nat.reduceEqDiff,↓reduceIte,vcu,↓vcd,d,x0,x4,co29,Nat.add_zero]
 rw[r_callq]
 refine⟨_,specCV_calls τ O E M v2 cs (t2.sub s1) b3,?_⟩
 by_cases hC:CV ⟨O,E,M⟩ cs
 case neg =>
  rw[decide_eq_false hC]
  simp -implicitDefEqProofs(disch:=omega)only[Nat.reduceEqDiff,↓reduceIte,vcu,↓vcd,Bool.not_false]
  refine fin_drop Tryz.results11 σ s1 ⟨?_,rfl⟩
  simp -implicitDefEqProofs(disch:=omega)only[Nat.reduceEqDiff,↓reduceIte,vcu,↓vcd]
  rw[decide_eq_false fun h=>hC h.2.2.2.1]
 rw[decide_eq_true hC]
 simp -implicitDefEqProofs(disch:=omega)only[Nat.reduceEqDiff,↓reduceIte,vcu,↓vcd,Bool.not_true]
 refine vc_loop_c mixed kr9 [1] (fun m a σ'=>∃k:Nat,m+k=cs.length∧a 3=.int .i64 k∧(∀i,i < k→∀j,j < cs.length→(gc cs i).i≠(gc cs j).o)∧σ'=τ) cs.length ⟨0,by simp,rfl,fun i hi=>absurd hi om9,rfl⟩ ?_
 rintro m a _ hc ⟨k,hk,h3,hall,rfl⟩
 rename_i τ
 simp -implicitDefEqProofs(disch:=omega)only[Nat.reduceEqDiff,↓reduceIte,vcu,↓vcd] at hc
 obtain⟨h1,-⟩:=hc
 by_cases hlt:k < cs.length
 case neg =>
  simp -implicitDefEqProofs(disch:=omega)only[Nat.reduceEqDiff,↓reduceIte,vcu,↓vcd,h1,h3,x4,l2]
  refine fin_drop Tryz.results11 σ s1 ⟨?_,rfl⟩
  simp -implicitDefEqProofs(disch:=omega)only[Nat.reduceEqDiff,↓reduceIte,vcu,↓vcd]
  rw[decide_eq_true ⟨hE,hP,hL,hC,sep_of (cs:=cs) fun i hi j hj=>hall i om9 j hj⟩]
 simp -implicitDefEqProofs(disch:=omega)only[Nat.reduceEqDiff,↓reduceIte,vcu,↓vcd,h1,h3,x4,l2]
 refine vc_loop_c mixed kr9 [1,3] (fun m a σ'=>∃j:Nat,m+j=cs.length∧a 4=.int .i64 j∧(∀i,i < j→(gc cs k).i≠(gc cs i).o)∧σ'=τ) cs.length ⟨0,by simp,rfl,fun i hi=>absurd hi om9,rfl⟩ ?_
 rintro m2 a2 _ hc2 ⟨j,hj,h4,hin,rfl⟩
 rename_i τ
 simp -implicitDefEqProofs(disch:=omega)only[Nat.reduceEqDiff,↓reduceIte,vcu,↓vcd,h1,h3] at hc2
 obtain⟨g1,g3,-⟩:=hc2
 by_cases hjl:j < cs.length
 case neg =>
  simp -implicitDefEqProofs(disch:=omega)only[Nat.reduceEqDiff,↓reduceIte,vcu,↓vcd,g1,g3,h4,x4,l2]
  refine⟨⟨by first|trivial|exact h1.symm,trivial⟩,m - 1,by omega,k+1,by omega,by simp,fun i hi j' hj'=>?_,trivial⟩
  by_cases e:i=k
  ·subst e;exact hin j' om9
  ·exact hall i om9 j' hj'
 obtain⟨hg,ho,rfl,hrow⟩:=rowC (t2.sub s1) om9
 have hx:=(hrow k hlt).1
 have hy:=(hrow j hjl).2.1
 have hgk:cs.getD k cl0=gc cs k:=rfl
 have hgj:cs.getD j cl0=gc cs j:=rfl
 rw[hgk] at hx
 rw[hgj] at hy
 by_cases hij:(gc cs k).i=(gc cs j).o
 ·have d2:decide ((gc cs k).i=(gc cs j).o)=true:=decide_eq_true hij
  simp -implicitDefEqProofs(disch:=omega)only[Nat.reduceEqDiff,↓reduceIte,vcu,↓vcd,g1,g3,h4,x4,hx,hy,d2,Nat.add_zero]
  refine fin_drop Tryz.results11 σ s1 ⟨?_,rfl⟩
  simp -implicitDefEqProofs(disch:=omega)only[Nat.reduceEqDiff,↓reduceIte,vcu,↓vcd]
  rw[decide_eq_false fun h=>h.2.2.2.2 _ (gc_mem hlt) _ (gc_mem hjl) hij]
 ·have d2:decide ((gc cs k).i=(gc cs j).o)=false:=decide_eq_false hij
  simp -implicitDefEqProofs(disch:=omega)only[Nat.reduceEqDiff,↓reduceIte,vcu,↓vcd,g1,g3,h4,x4,hx,hy,d2,Nat.add_zero]
  refine⟨⟨by first|trivial|exact h1.symm,by first|trivial|exact h3.symm,trivial⟩,m2 - 1,by omega,j+1,by omega,by simp,fun i hi=>?_,trivial⟩
  by_cases e:i=j
  ·subst e;exact hij
  ·exact hin i om9
theorem drop_gc {cs:List Cl} {k:Nat} (h:k < cs.length):cs.drop k=gc cs k :: cs.drop (k+1):=by
 rw[List.drop_eq_getElem_cons h];simp [gc,List.getD,h]
set_option maxRecDepth 8000 in
theorem peerOf_calls (σ:AHeap) (v:Value) (e:Ex) (x:Int) (hv:ExV σ v e) (hb:ExB e) :
  ACall Tryz.prog w0 59 [v,.int .i64 x] σ fun r σ'=>r=.int .i64 (peerV e x)∧σ'=σ:=by
 have hv0:=hv
 obtain⟨⟨O,E,M⟩,ps,cs⟩:=e
 obtain⟨v1,v2,rfl,t1,t2⟩:=hv
 have hb0:=hb
 obtain⟨b1,b2,b3⟩:=hb
 dsimp only at t1 t2 b1 b2 b3
 unfold exV
 refine acall_go mixed Tryz.func59 rfl good59 fun pr=>?_
 simp -implicitDefEqProofs(disch:=omega)only[Nat.reduceEqDiff,↓reduceIte,vcu,↓vcd]
 refine r_boxed fun b τ nb s1 e1=>?_
 replace e1:τ b=some ⟨[.int .i64 O,.int .i64 E,.int .i64 M,v1,v2],false⟩:=e1
 have x5:lds τ b 0 5=some [.int .i64 O,.int .i64 E,.int .i64 M,v1,v2]:=by rw[lds_of e1 (by simp)];rfl
 have x4:ld τ b (0+4)=some v2:=ld_of e1 rfl
 have l2:=lenC (t2.sub s1)
 have hval:=exVal_calls (w0:=w0) τ (exV v1 v2 ⟨⟨O,E,M⟩,ps,cs⟩) ⟨⟨O,E,M⟩,ps,cs⟩ (hv0.sub s1) hb0
 unfold exV at hval
 dsimp only at hval
 simp -implicitDefEqProofs(disch:=omega)only[Nat.reduceEqDiff,↓reduceIte,vcu,↓vcd]
 refine vc_loop_c mixed kr9 [1,2] (fun m a σ'=>∃k:Nat,m+k=cs.length∧a 5=.int .i64 k∧(0 < k→ExOk ⟨⟨O,E,M⟩,ps,cs⟩)∧peerS cs x=peerS (cs.drop k) x∧σ'=τ) cs.length ⟨0,by simp,rfl,fun h=>absurd h om9,rfl,rfl⟩ ?_
 rintro m a _ hc ⟨k,hk,h5,hk0,hp,rfl⟩
 rename_i τ
 simp -implicitDefEqProofs(disch:=omega)only[Nat.reduceEqDiff,↓reduceIte,vcu,↓vcd] at hc
 obtain⟨h1,h2,-⟩:=hc
 by_cases hlt:k < cs.length
 case neg =>
  obtain rfl:k=cs.length:=by omega
  simp -implicitDefEqProofs(disch:=omega)only[Nat.reduceEqDiff,↓reduceIte,vcu,↓vcd,h1,h2,h5,x4,l2]
  refine fin_drop Tryz.results59 σ s1 ⟨?_,rfl⟩
  simp -implicitDefEqProofs(disch:=omega)only[Nat.reduceEqDiff,↓reduceIte,vcu,↓vcd]
  rw[List.drop_length] at hp
  unfold peerV
  split
  ·show _=Value.int .i64 (peerS cs x);rw[hp];rfl
  ·rfl
 by_cases hok:ExOk ⟨⟨O,E,M⟩,ps,cs⟩
 case neg =>
  rw[decide_eq_false hok] at hval
  simp -implicitDefEqProofs(disch:=omega)only[Nat.reduceEqDiff,↓reduceIte,vcu,↓vcd,h1,h2,h5,x4,l2,x5,co33]
  refine hval.mono ?_
  rintro _ _ ⟨rfl,rfl⟩
  simp -implicitDefEqProofs(disch:=omega)only[Nat.reduceEqDiff,↓reduceIte,vcu,↓vcd,opK_some]
  refine fin_drop Tryz.results59 σ s1 ⟨?_,rfl⟩
  simp -implicitDefEqProofs(disch:=omega)only[Nat.reduceEqDiff,↓reduceIte,vcu,↓vcd]
  rw[peerV,if_neg hok]
 rw[decide_eq_true hok] at hval
 have hpv:peerV ⟨⟨O,E,M⟩,ps,cs⟩ x=peerS cs x:=if_pos hok
 rw[drop_gc hlt] at hp
 obtain⟨hg,ho,rfl,hrow⟩:=rowC (t2.sub s1) om9
 obtain⟨hx,hy,-⟩:=hrow k hlt
 have hgk:cs.getD k cl0=gc cs k:=rfl
 rw[hgk] at hx hy
 have hpc:peerS (gc cs k :: cs.drop (k+1)) x=if (gc cs k).i=x then (gc cs k).o else if (gc cs k).o=x then (gc cs k).i else peerS (cs.drop (k+1)) x:=rfl
 rw[hpc] at hp
 simp -implicitDefEqProofs(disch:=omega)only[Nat.reduceEqDiff,↓reduceIte,vcu,↓vcd,h1,h2,h5,x4,l2,x5,co33]
 refine hval.mono ?_
 rintro _ _ ⟨rfl,rfl⟩
 rename_i τ
 by_cases hi:(gc cs k).i=x
 ·have d:decide ((gc cs k).i=x)=true:=decide_eq_true hi
  rw[if_pos hi] at hp
  simp -implicitDefEqProofs(disch:=omega)only[Nat.reduceEqDiff,↓reduceIte,vcu,↓vcd,opK_some,h1,h2,h5,x4,hx,hy,d,Nat.add_zero]
  refine fin_drop Tryz.results59 σ s1 ⟨?_,rfl⟩
  simp -implicitDefEqProofs(disch:=omega)only[Nat.reduceEqDiff,↓reduceIte,vcu,↓vcd]
  rw[hpv,hp]
 have d:decide ((gc cs k).i=x)=false:=decide_eq_false hi
 rw[if_neg hi] at hp
 by_cases ho':(gc cs k).o=x
 ·have d2:decide ((gc cs k).o=x)=true:=decide_eq_true ho'
  rw[if_pos ho'] at hp
  simp -implicitDefEqProofs(disch:=omega)only[Nat.reduceEqDiff,↓reduceIte,vcu,↓vcd,opK_some,h1,h2,h5,x4,hx,hy,d,d2,Nat.add_zero]
  refine fin_drop Tryz.results59 σ s1 ⟨?_,rfl⟩
  simp -implicitDefEqProofs(disch:=omega)only[Nat.reduceEqDiff,↓reduceIte,vcu,↓vcd]
  rw[hpv,hp]
 have d2:decide ((gc cs k).o=x)=false:=decide_eq_false ho'
 rw[if_neg ho'] at hp
 simp -implicitDefEqProofs(disch:=omega)only[Nat.reduceEqDiff,↓reduceIte,vcu,↓vcd,opK_some,h1,h2,h5,x4,hx,hy,d,d2,Nat.add_zero]
 exact⟨⟨trivial,trivial,trivial⟩,m - 1,by omega,k+1,by omega,by simp,fun _=>hok,hp,trivial⟩
end Go.Proofs.YtofdnmlpfagibaaGreatDoor
namespace Go.Proofs.YtofdnmlpfagibaaGreatDoor
open Go Go.Abs Go.RowKit Go.Dial Go.Clos
section
variable {P:Program} {w0:Base} {n:NR} {a:AFrame} {σ:AHeap} {K:AK} {Q:AQ} {q:Bool} {all os:List Oper}
variable {d:Nat} {dd:Option Tmp} {ty:TypeId} {pos:String} {af:Array Edge}
theorem r_pushXV {t u:TypeId} {zv:Value} {b:Nat} {x y:Operand} {g len:Nat} {xs ys:List (List UInt8)} (hE:Elems P t 1 zv b) (hb:b≤64) (hu:∃e2,P.underlying u=some (.slice e2))
  (hx:ev a x=.slice (some ⟨g,0,none⟩) len 1) (hg:σ g=some ⟨texts xs,false⟩) (hn:xs.length=len) (hy:Texts σ (ev a y) ys) (hl:len+ys.length≤4294967296)
  (hk:∀g' τ,σ g'=none→Kept g σ τ→τ g'=some ⟨texts (xs++ys),false⟩→vcR P w0 false all os (fset a d (.slice (some ⟨g',0,none⟩) (len+ys.length) 1)) τ K) :
  vcR P w0 false all (⟨some d,.call ⟨.builtin .append,#[x,y],#[t,u]⟩,ty,pos,af,none⟩ :: os) a σ K:=by
 rcases hy with ⟨e,rfl⟩ |⟨h,o,e,hat⟩
 ·subst hn
  refine r_push hE hu hx hg (by rw[texts_length];omega) (D:=[]) (by rw[e];rfl) rfl ?_ fun g' τ h1 h2 h3=>?_
  ·have:xs.length * 1 * b≤4294967296 * 64:=Nat.mul_le_mul (by simp at hl;omega) hb
   simp at hl
   refine⟨?_,?_⟩
   ·show (xs.length * 1+0) * b≤_
    rw[Nat.add_zero];omega
   ·show xs.length * 1+0≤_
    omega
  ·exact hk g' τ h1 h2 (by rw[List.append_nil];rwa [List.append_nil] at h3)
 ·exact r_pushX hE hb hu hx hg hn e hat rfl hl hk
theorem r_pushCV {t u:TypeId} {zv:Value} {b:Nat} {x y:Operand} {g len:Nat} {xs ys:List Cl} (hE:Elems P t 3 zv b) (hb:b≤64) (hu:∃e2,P.underlying u=some (.slice e2))
  (hx:ev a x=.slice (some ⟨g,0,none⟩) len 3) (hg:σ g=some ⟨tris xs,false⟩) (hn:xs.length=len) (hy:Tris σ (ev a y) ys) (hl:len+ys.length≤4294967296)
  (hk:∀g' τ,σ g'=none→Kept g σ τ→τ g'=some ⟨tris (xs++ys),false⟩→vcR P w0 false all os (fset a d (.slice (some ⟨g',0,none⟩) (len+ys.length) 3)) τ K) :
  vcR P w0 false all (⟨some d,.call ⟨.builtin .append,#[x,y],#[t,u]⟩,ty,pos,af,none⟩ :: os) a σ K:=by
 rcases hy with ⟨e,rfl⟩ |⟨h,o,e,hat⟩
 ·subst hn
  refine r_push hE hu hx hg (by rw[tris_length]) (D:=[]) (by rw[e];rfl) rfl ?_ fun g' τ h1 h2 h3=>?_
  ·have:xs.length * 3 * b≤4294967296 * 3 * 64:=Nat.mul_le_mul (by simp at hl;omega) hb
   simp at hl
   refine⟨?_,?_⟩
   ·show (xs.length * 3+0) * b≤_
    rw[Nat.add_zero];omega
   ·show xs.length * 3+0≤_
    omega
  ·exact hk g' τ h1 h2 (by rw[List.append_nil];rwa [List.append_nil] at h3)
 ·exact r_pushC hE hb hu hx hg hn e hat rfl hl hk
end
variable {w0:World}
set_option maxRecDepth 8000 in
theorem lineOf_calls (σ:AHeap) (v:Value) (e:Ex) (t:List UInt8) (hv:ExV σ v e) (hb:ExB e) :
  ACall Tryz.prog w0 55 [v,.string (tx t)] σ fun r σ'=>r=.int .i64 (lineV e t)∧σ'=σ:=by
 have hv0:=hv
 obtain⟨⟨O,E,M⟩,ps,cs⟩:=e
 obtain⟨v1,v2,rfl,t1,t2⟩:=hv
 have hb0:=hb
 obtain⟨b1,b2,b3⟩:=hb
 dsimp only at t1 t2 b1 b2 b3
 unfold exV
 refine acall_go mixed Tryz.func55 rfl good55 fun pr=>?_
 simp -implicitDefEqProofs(disch:=omega)only[Nat.reduceEqDiff,↓reduceIte,vcu,↓vcd]
 refine r_boxed fun b τ nb s1 e1=>?_
 replace e1:τ b=some ⟨[.int .i64 O,.int .i64 E,.int .i64 M,v1,v2],false⟩:=e1
 have x5:lds τ b 0 5=some [.int .i64 O,.int .i64 E,.int .i64 M,v1,v2]:=by rw[lds_of e1 (by simp)];rfl
 have x3:ld τ b (0+3)=some v1:=ld_of e1 rfl
 have l1:=lenT (t1.sub s1)
 have hval:=exVal_calls (w0:=w0) τ (exV v1 v2 ⟨⟨O,E,M⟩,ps,cs⟩) ⟨⟨O,E,M⟩,ps,cs⟩ (hv0.sub s1) hb0
 unfold exV at hval
 dsimp only at hval
 simp -implicitDefEqProofs(disch:=omega)only[Nat.reduceEqDiff,↓reduceIte,vcu,↓vcd]
 refine vc_loop_c mixed kr9 [1,2] (fun m a σ'=>∃k:Nat,m+k=ps.length∧a 5=.int .i64 k∧(0 < k→ExOk ⟨⟨O,E,M⟩,ps,cs⟩)∧fstN (fun k=>decide (ps.getD k []=t)) 0 ps.length=fstN (fun k=>decide (ps.getD k []=t)) k m∧σ'=τ) ps.length ⟨0,by simp,rfl,fun h=>absurd h om9,rfl,rfl⟩ ?_
 rintro m a _ hc ⟨k,hk,h5,hk0,hp,rfl⟩
 rename_i τ
 simp -implicitDefEqProofs(disch:=omega)only[Nat.reduceEqDiff,↓reduceIte,vcu,↓vcd] at hc
 obtain⟨h1,h2,-⟩:=hc
 by_cases hlt:k < ps.length
 case neg =>
  obtain rfl:m=0:=by omega
  simp -implicitDefEqProofs(disch:=omega)only[Nat.reduceEqDiff,↓reduceIte,vcu,↓vcd,h1,h2,h5,x3,l1]
  refine fin_drop Tryz.results55 σ s1 ⟨?_,rfl⟩
  simp -implicitDefEqProofs(disch:=omega)only[Nat.reduceEqDiff,↓reduceIte,vcu,↓vcd]
  unfold lineV
  split
  ·show _=Value.int .i64 (lineS ps t)
   unfold lineS;rw[hp];rfl
  ·rfl
 by_cases hok:ExOk ⟨⟨O,E,M⟩,ps,cs⟩
 case neg =>
  rw[decide_eq_false hok] at hval
  simp -implicitDefEqProofs(disch:=omega)only[Nat.reduceEqDiff,↓reduceIte,vcu,↓vcd,h1,h2,h5,x3,l1,x5,co33]
  refine hval.mono ?_
  rintro _ _ ⟨rfl,rfl⟩
  simp -implicitDefEqProofs(disch:=omega)only[Nat.reduceEqDiff,↓reduceIte,vcu,↓vcd,opK_some]
  refine fin_drop Tryz.results55 σ s1 ⟨?_,rfl⟩
  simp -implicitDefEqProofs(disch:=omega)only[Nat.reduceEqDiff,↓reduceIte,vcu,↓vcd]
  rw[lineV,if_neg hok]
 rw[decide_eq_true hok] at hval
 have hpv:lineV ⟨⟨O,E,M⟩,ps,cs⟩ t=lineS ps t:=if_pos hok
 obtain⟨m',rfl⟩:∃m',m=m'+1:=⟨m - 1,by omega⟩
 rw[fstN] at hp
 obtain⟨hg,ho,rfl,hrow⟩:=rowT (t1.sub s1) om9
 have hx:=hrow k hlt
 simp -implicitDefEqProofs(disch:=omega)only[Nat.reduceEqDiff,↓reduceIte,vcu,↓vcd,h1,h2,h5,x3,l1,x5,co33]
 refine hval.mono ?_
 rintro _ _ ⟨rfl,rfl⟩
 rename_i τ
 by_cases hi:ps.getD k []=t
 ·have d:decide (ps.getD k []=t)=true:=decide_eq_true hi
  rw[d,if_pos rfl] at hp
  simp -implicitDefEqProofs(disch:=omega)only[Nat.reduceEqDiff,↓reduceIte,vcu,↓vcd,opK_some,h1,h2,h5,x3,hx,abin_seql,d]
  refine fin_drop Tryz.results55 σ s1 ⟨?_,rfl⟩
  simp -implicitDefEqProofs(disch:=omega)only[Nat.reduceEqDiff,↓reduceIte,vcu,↓vcd]
  rw[hpv];unfold lineS;rw[hp]
 have d:decide (ps.getD k []=t)=false:=decide_eq_false hi
 rw[d,if_neg (by simp)] at hp
 simp -implicitDefEqProofs(disch:=omega)only[Nat.reduceEqDiff,↓reduceIte,vcu,↓vcd,opK_some,h1,h2,h5,x3,hx,abin_seql,d]
 exact⟨⟨trivial,trivial,trivial⟩,m',by omega,k+1,by omega,by simp,fun _=>hok,hp,trivial⟩
set_option maxRecDepth 8000 in
theorem via_calls (σ:AHeap) (v:Value) (e:Ex) (x:Int) (hv:ExV σ v e) (hb:ExB e) :
  ACall Tryz.prog w0 60 [v,.int .i64 x] σ fun r σ'=>r=.int .i64 (viaS e.cs x)∧σ'=σ:=by
 obtain⟨⟨O,E,M⟩,ps,cs⟩:=e
 obtain⟨v1,v2,rfl,t1,t2⟩:=hv
 obtain⟨b1,b2,b3⟩:=hb
 dsimp only at t1 t2 b1 b2 b3
 unfold exV
 refine acall_go mixed Tryz.func60 rfl good60 fun pr=>?_
 simp -implicitDefEqProofs(disch:=omega)only[Nat.reduceEqDiff,↓reduceIte,vcu,↓vcd]
 refine r_boxed fun b τ nb s1 e1=>?_
 replace e1:τ b=some ⟨[.int .i64 O,.int .i64 E,.int .i64 M,v1,v2],false⟩:=e1
 have x4:ld τ b (0+4)=some v2:=ld_of e1 rfl
 have l2:=lenC (t2.sub s1)
 simp -implicitDefEqProofs(disch:=omega)only[Nat.reduceEqDiff,↓reduceIte,vcu,↓vcd]
 refine vc_loop_c mixed kr9 [1,2] (fun m a σ'=>∃k:Nat,m+k=cs.length∧a 5=.int .i64 k∧viaS cs x=viaS (cs.drop k) x∧σ'=τ) cs.length ⟨0,by simp,rfl,rfl,rfl⟩ ?_
 rintro m a _ hc ⟨k,hk,h5,hp,rfl⟩
 rename_i τ
 simp -implicitDefEqProofs(disch:=omega)only[Nat.reduceEqDiff,↓reduceIte,vcu,↓vcd] at hc
 obtain⟨h1,h2,-⟩:=hc
 by_cases hlt:k < cs.length
 case neg =>
  obtain rfl:k=cs.length:=by omega
  simp -implicitDefEqProofs(disch:=omega)only[Nat.reduceEqDiff,↓reduceIte,vcu,↓vcd,h1,h2,h5,x4,l2]
  refine fin_drop Tryz.results60 σ s1 ⟨?_,rfl⟩
  simp -implicitDefEqProofs(disch:=omega)only[Nat.reduceEqDiff,↓reduceIte,vcu,↓vcd]
  rw[List.drop_length] at hp
  show _=Value.int .i64 (viaS cs x);rw[hp];rfl
 rw[drop_gc hlt] at hp
 obtain⟨hg,ho,rfl,hrow⟩:=rowC (t2.sub s1) om9
 obtain⟨hx,hy,hz⟩:=hrow k hlt
 have hgk:cs.getD k cl0=gc cs k:=rfl
 rw[hgk] at hx hy hz
 have hpc:viaS (gc cs k :: cs.drop (k+1)) x=if (gc cs k).i=x∨(gc cs k).o=x then (gc cs k).v else viaS (cs.drop (k+1)) x:=rfl
 rw[hpc] at hp
 by_cases hi:(gc cs k).i=x
 ·have d:decide ((gc cs k).i=x)=true:=decide_eq_true hi
  rw[if_pos (.inl hi)] at hp
  simp -implicitDefEqProofs(disch:=omega)only[Nat.reduceEqDiff,↓reduceIte,vcu,↓vcd,h1,h2,h5,x4,l2,hx,hz,d,Nat.add_zero]
  refine fin_drop Tryz.results60 σ s1 ⟨?_,rfl⟩
  simp -implicitDefEqProofs(disch:=omega)only[Nat.reduceEqDiff,↓reduceIte,vcu,↓vcd]
  rw[hp]
 have d:decide ((gc cs k).i=x)=false:=decide_eq_false hi
 by_cases ho':(gc cs k).o=x
 ·have d2:decide ((gc cs k).o=x)=true:=decide_eq_true ho'
  rw[if_pos (.inr ho')] at hp
  simp -implicitDefEqProofs(disch:=omega)only[Nat.reduceEqDiff,↓reduceIte,vcu,↓vcd,h1,h2,h5,x4,l2,hx,hy,hz,d,d2,Nat.add_zero]
  refine fin_drop Tryz.results60 σ s1 ⟨?_,rfl⟩
  simp -implicitDefEqProofs(disch:=omega)only[Nat.reduceEqDiff,↓reduceIte,vcu,↓vcd]
  rw[hp]
 have d2:decide ((gc cs k).o=x)=false:=decide_eq_false ho'
 rw[if_neg fun h=>h.elim hi ho'] at hp
 simp -implicitDefEqProofs(disch:=omega)only[Nat.reduceEqDiff,↓reduceIte,vcu,↓vcd,h1,h2,h5,x4,l2,hx,hy,d,d2,Nat.add_zero]
 exact⟨⟨trivial,trivial,trivial⟩,m - 1,by omega,k+1,by omega,by simp,hp,trivial⟩
def nightV (e:Ex):List Dd:=if ExOk e then nightL e.cs else []
set_option maxRecDepth 8000 in
theorem night_calls (σ:AHeap) (v:Value) (e:Ex) (hv:ExV σ v e) (hb:ExB e) :
  ACall Tryz.prog w0 57 [v] σ fun r σ'=>Sub σ σ'∧OwnD σ σ' r (nightV e):=by
 have hv0:=hv
 obtain⟨⟨O,E,M⟩,ps,cs⟩:=e
 obtain⟨v1,v2,rfl,t1,t2⟩:=hv
 have hb0:=hb
 obtain⟨b1,b2,b3⟩:=hb
 dsimp only at t1 t2 b1 b2 b3
 unfold exV
 refine acall_go mixed Tryz.func57 rfl good57 fun pr=>?_
 simp -implicitDefEqProofs(disch:=omega)only[Nat.reduceEqDiff,↓reduceIte,vcu,↓vcd]
 refine r_boxed fun b τ nb s1 e1=>?_
 replace e1:τ b=some ⟨[.int .i64 O,.int .i64 E,.int .i64 M,v1,v2],false⟩:=e1
 simp -implicitDefEqProofs(disch:=omega)only[Nat.reduceEqDiff,↓reduceIte,vcu,↓vcd]
 refine r_lit el24 (out:=#[]) kr9 kr9 fun e0 τ1 n1 s2 w1=>?_
 have x5:∀τ',Sub τ τ'→lds τ' b 0 5=some [.int .i64 O,.int .i64 E,.int .i64 M,v1,v2]:=fun τ' hs=>by rw[lds_of (hs _ _ e1) (by simp)];rfl
 have x4:∀τ',Sub τ τ'→ld τ' b (0+4)=some v2:=fun τ' hs=>ld_of (hs _ _ e1) rfl
 have l2:=lenC (t2.sub s1)
 have hval:=fun (τ':AHeap) (hs:Sub τ τ')=>exVal_calls (w0:=w0) τ' (exV v1 v2 ⟨⟨O,E,M⟩,ps,cs⟩) ⟨⟨O,E,M⟩,ps,cs⟩ (hv0.sub (s1.trans hs)) hb0
 unfold exV at hval
 dsimp only at hval
 simp -implicitDefEqProofs(disch:=omega)only[Nat.reduceEqDiff,↓reduceIte,vcu,↓vcd]
 refine vc_loop_c mixed kr9 [1] (fun m a τ'=>∃(k g:Nat),m+k=cs.length∧a 4=.int .i64 k∧(0 < k→ExOk ⟨⟨O,E,M⟩,ps,cs⟩)∧a 3=.slice (some ⟨g,0,none⟩) k 3∧Sub τ τ'∧τ' g=some ⟨dds (nightL (cs.take k)),false⟩∧τ g=none) cs.length ⟨0,e0,by simp,rfl,fun h=>absurd h om9,rfl,s2,w1,n1⟩ ?_
 rintro m a τ2 hc ⟨k,g,hk,h4,hk0,h3,hs,hg,hn⟩
 simp -implicitDefEqProofs(disch:=omega)only[Nat.reduceEqDiff,↓reduceIte,vcu,↓vcd] at hc
 obtain⟨h1,-⟩:=hc
 have y4:=x4 τ2 hs
 have y5:=x5 τ2 hs
 have hval:=hval τ2 hs
 have hlen:(nightL (cs.take k)).length=k:=by simp [nightL];omega
 by_cases hlt:k < cs.length
 case neg =>
  obtain rfl:k=cs.length:=by omega
  simp -implicitDefEqProofs(disch:=omega)only[Nat.reduceEqDiff,↓reduceIte,vcu,↓vcd,h1,h3,h4,y4,l2]
  rw[List.take_length] at hg
  have hV:nightV ⟨⟨O,E,M⟩,ps,cs⟩=nightL cs:=by
   unfold nightV
   split
   ·rfl
   ·rename_i hno
    have h0:cs=[]:=by
     rcases Nat.eq_zero_or_pos cs.length with h|h
     ·exact List.eq_nil_of_length_eq_zero h
     ·exact absurd (hk0 h) hno
    rw[h0];rfl
  refine fin_one Tryz.results57 ⟨s1.trans hs,.inr ⟨g,?_,by rw[hV];exact hg,free_sub s1 hn⟩⟩
  simp -implicitDefEqProofs(disch:=omega)only[Nat.reduceEqDiff,↓reduceIte,vcu,↓vcd,h3]
  rw[hV];simp [nightL]
 by_cases hok:ExOk ⟨⟨O,E,M⟩,ps,cs⟩
 case neg =>
  rw[decide_eq_false hok] at hval
  have hV:nightV ⟨⟨O,E,M⟩,ps,cs⟩=[]:=if_neg hok
  obtain rfl:k=0:=by
   rcases Nat.eq_zero_or_pos k with h|h
   ·exact h
   ·exact absurd (hk0 h) hok
  simp -implicitDefEqProofs(disch:=omega)only[Nat.reduceEqDiff,↓reduceIte,vcu,↓vcd,h1,h3,h4,y4,l2,y5,co33]
  refine hval.mono ?_
  rintro _ _ ⟨rfl,rfl⟩
  simp -implicitDefEqProofs(disch:=omega)only[Nat.reduceEqDiff,↓reduceIte,vcu,↓vcd,opK_some,h3]
  refine fin_one Tryz.results57 ⟨s1.trans hs,.inr ⟨g,?_,by rw[hV];exact hg,free_sub s1 hn⟩⟩
  simp -implicitDefEqProofs(disch:=omega)only[Nat.reduceEqDiff,↓reduceIte,vcu,↓vcd,h3]
  rw[hV];rfl
 rw[decide_eq_true hok] at hval
 obtain⟨hg',ho,rfl,hrow⟩:=rowC ((t2.sub s1).sub hs) om9
 obtain⟨hx,-,-⟩:=hrow k hlt
 have hgk:cs.getD k cl0=gc cs k:=rfl
 rw[hgk] at hx
 have htk:nightL (cs.take (k+1))=nightL (cs.take k)++[⟨1,(gc cs k).i,[]⟩]:=by
  rw[take_gc hlt];simp [nightL]
 simp -implicitDefEqProofs(disch:=omega)only[Nat.reduceEqDiff,↓reduceIte,vcu,↓vcd,h1,h3,h4,y4,l2,y5,co33]
 refine hval.mono ?_
 rintro _ _ ⟨rfl,rfl⟩
 rename_i τ2
 simp -implicitDefEqProofs(disch:=omega)only[Nat.reduceEqDiff,↓reduceIte,vcu,↓vcd,opK_some,h1,h3,h4,y4,hx,Nat.add_zero]
 rw[r_build]
 refine⟨(_,#[.int .i64 1,.int .i64 (gc cs k).i,.string (tx [])]),⟨ze41,by simp -implicitDefEqProofs(disch:=omega)only[Nat.reduceEqDiff,↓reduceIte,vcu,↓vcd];kernel_rfl⟩,?_⟩
 simp -implicitDefEqProofs(disch:=omega)only[Nat.reduceEqDiff,↓reduceIte,vcu,↓vcd]
 refine r_lit el24 (out:=#[.int .i64 1,.int .i64 (gc cs k).i,.string (tx [])]) (by first|kernel_rfl | (simp -implicitDefEqProofs(disch:=omega)only[Nat.reduceEqDiff,↓reduceIte,vcu,↓vcd];kernel_rfl)) (by rfl) fun e3 τ3 n3 s3 w3=>?_
 replace w3:τ3 e3=some ⟨dds [⟨1,(gc cs k).i,[]⟩],false⟩:=w3
 refine r_pushD (g:=g) (e:=e3) (o:=0) (cs:=nightL (cs.take k)) (ds:=[⟨1,(gc cs k).i,[]⟩]) (m:=1) (len:=k) el24 om9 sl24 (by simp -implicitDefEqProofs(disch:=omega)only[Nat.reduceEqDiff,↓reduceIte,vcu,↓vcd,h3]) (s3 _ _ hg) hlen z9q (ddsAt_own w3) rfl om9 fun g6 τ6 n6 k6 w6=>?_
 rw[←htk] at w6
 simp -implicitDefEqProofs(disch:=omega)only[Nat.reduceEqDiff,↓reduceIte,vcu,↓vcd,h1,h4]
 exact⟨⟨trivial,trivial⟩,m - 1,by omega,k+1,g6,by omega,by simp,fun _=>hok,rfl,k6.sub (hs.trans s3) hn,w6,free_sub (hs.trans s3) n6⟩
end Go.Proofs.YtofdnmlpfagibaaGreatDoor
namespace Go.Proofs.YtofdnmlpfagibaaGreatDoor
open Go Go.Abs Go.RowKit Go.Dial Go.Clos
variable {w0:World}
theorem acodeB_monoX {P:Program} {b:Base} {n:NR} {c:Code} {a:AFrame} {σ:AHeap} {Q Q':AQ} (h:ACodeB P b n c a σ Q') (hq:∀e a σ,Q' e a σ→Q e a σ):ACodeB P b n c a σ Q:=ACode.mono h hq
set_option maxRecDepth 8000 in
theorem copyX_rows (σ:AHeap) (v:Value) (e:Ex) (hv:ExV σ v e) (hb:ExB e) :
  ACall Tryz.prog w0 52 [v] σ fun r σ'=>∃g1 g2,r=exV (.slice (some ⟨g1,0,none⟩) e.ps.length 1) (.slice (some ⟨g2,0,none⟩) e.cs.length 3) e∧Sub σ σ'∧σ' g1=some ⟨texts e.ps,false⟩∧σ' g2=some ⟨tris e.cs,false⟩∧σ g1=none∧σ g2=none:=by
 obtain⟨⟨O,E,M⟩,ps,cs⟩:=e
 obtain⟨v1,v2,rfl,t1,t2⟩:=hv
 obtain⟨b1,b2,b3⟩:=hb
 dsimp only at t1 t2 b1 b2 b3
 unfold exV
 refine acall_goc mixed Tryz.func52 rfl goodc52 fun pr=>?_
 simp -implicitDefEqProofs(disch:=omega)only[Nat.reduceEqDiff,↓reduceIte,vcu,↓vcd]
 refine r_boxed fun b τ1 nb s1 e1=>?_
 replace e1:τ1 b=some ⟨[.int .i64 O,.int .i64 E,.int .i64 M,v1,v2],false⟩:=e1
 refine r_new ze33 fun h2 τ n2 s2 e2=>?_
 replace e2:τ h2=some ⟨[.int .i64 0,.int .i64 0,.int .i64 0,.slice none 0 0,.slice none 0 0],false⟩:=e2
 replace e1:=s2 _ _ e1
 have s12:=s1.trans s2
 have z2:σ h2=none:=free_sub s1 n2
 replace t1:=t1.sub s12
 replace t2:=t2.sub s12
 have x0:lds τ b 0 3=some [.int .i64 O,.int .i64 E,.int .i64 M]:=lds_three (ld_of e1 rfl) (ld_of e1 rfl) (ld_of e1 rfl)
 have x3:ld τ b (0+3)=some v1:=ld_of e1 rfl
 have x4:ld τ b (0+4)=some v2:=ld_of e1 rfl
 simp -implicitDefEqProofs(disch:=omega)only[Nat.reduceEqDiff,↓reduceIte,vcu,↓vcd]
 refine acodeB_monoX (Q':=fun e a' τ'=>e=.normal∧a' 2=.pointer (some ⟨h2,0,none⟩)∧∃g1 g2,Sub σ τ'∧τ' h2=some ⟨[.int .i64 O,.int .i64 E,.int .i64 M,.slice (some ⟨g1,0,none⟩) ps.length 1,.slice (some ⟨g2,0,none⟩) cs.length 3],false⟩∧τ' g1=some ⟨texts ps,false⟩∧τ' g2=some ⟨tris cs,false⟩∧σ g1=none∧σ g2=none)
  (region_tree mixed (quiets [0,3,7] (quiets [1,4,8] (.two 2 (.two 5 (.one 6 (.one 9 (quiets [10] (.one 11 .stop)))) 6 (.one 5 (.one 9 (quiets [10] (.one 11 .stop))))) 6 (.one 2 (.one 5 (.one 9 (quiets [10] (.one 11 .stop)))))))) [([1,4,8],Sub τ)] kr9 kr9 (fun p hp=>by simp only[List.mem_singleton] at hp;subst hp;exact Sub.refl _) ?_) ?_
 ·refine tree_quiets _ _ _ _ sf0 kr9 kr9 ?_
  simp -implicitDefEqProofs(disch:=omega)only[Nat.reduceEqDiff,↓reduceIte,vcu,↓vcd,vcp,Nat.add_zero]
  refine tree_quiets τ _ _ _ sf1 kr9 kr9 ?_
  simp -implicitDefEqProofs(disch:=omega)only[Nat.reduceEqDiff,↓reduceIte,vcu,↓vcd,vcp,x0,x3,x4,co29,Nat.add_zero]
  refine tree_two rfl rfl ?_ ?_
  ·try simp -implicitDefEqProofs(disch:=omega)only[Nat.reduceEqDiff,↓reduceIte,vcu,↓vcd]
   refine r_lit el30 (out:=#[]) kr9 kr9 fun e1 T2 n3 s4 v5=>?_
   replace v5:T2 e1=some ⟨texts [],false⟩:=v5
   simp -implicitDefEqProofs(disch:=omega)only[Nat.reduceEqDiff,↓reduceIte,vcu,↓vcd]
   have z6:=free_sub (Sub.refl τ) n3
   have f7:=s4 _ _ e2
   have S8:=(Sub.refl τ).trans s4
   refine⟨keep_of rfl (fun p hp=>by simp only[List.mem_singleton] at hp;subst hp;exact .inr S8),?_⟩
   refine tree_two rfl rfl ?_ ?_
   ·try simp -implicitDefEqProofs(disch:=omega)only[Nat.reduceEqDiff,↓reduceIte,vcu,↓vcd]
    refine r_pushXV (g:=e1) (len:=0) (xs:=[]) (ys:=ps) el30 om9 sl30 z9q v5 rfl (by simp -implicitDefEqProofs(disch:=omega)only[Nat.reduceEqDiff,↓reduceIte,vcu,↓vcd];exact t1.sub S8) om9 fun g9 T10 n11 k12 w13=>?_
    rw[List.nil_append] at w13
    simp -implicitDefEqProofs(disch:=omega)only[Nat.reduceEqDiff,↓reduceIte,vcu,↓vcd,Nat.zero_add]
    have z14:=free_sub S8 n11
    have S15:=k12.sub S8 z6
    have f16:=k12.at f7 (ne_of' n3 e2)
    refine⟨keep_of rfl (fun p hp=>by simp only[List.mem_singleton] at hp;subst hp;exact .inr S15),?_⟩
    refine tree_one rfl ?_
    refine r_lit el31 (out:=#[]) kr9 kr9 fun e17 T18 n19 s20 v21=>?_
    replace v21:T18 e17=some ⟨tris [],false⟩:=v21
    simp -implicitDefEqProofs(disch:=omega)only[Nat.reduceEqDiff,↓reduceIte,vcu,↓vcd]
    have z22:=free_sub S15 n19
    have f23:=s20 _ _ f16
    have f24:=s20 _ _ w13
    have S25:=S15.trans s20
    refine⟨keep_of rfl (fun p hp=>by simp only[List.mem_singleton] at hp;subst hp;exact .inr S25),?_⟩
    refine tree_one rfl ?_
    refine r_pushCV (g:=e17) (len:=0) (xs:=[]) (ys:=cs) el31 om9 sl31 z9q v21 rfl (by simp -implicitDefEqProofs(disch:=omega)only[Nat.reduceEqDiff,↓reduceIte,vcu,↓vcd];exact t2.sub S25) om9 fun g26 T27 n28 k29 w30=>?_
    rw[List.nil_append] at w30
    simp -implicitDefEqProofs(disch:=omega)only[Nat.reduceEqDiff,↓reduceIte,vcu,↓vcd,Nat.zero_add]
    have z31:=free_sub S25 n28
    have S32:=k29.sub S25 z22
    have f33:=k29.at f23 (ne_of' n19 f16)
    have f34:=k29.at f24 (ne_of' n19 w13)
    refine⟨keep_of rfl (fun p hp=>by simp only[List.mem_singleton] at hp;subst hp;exact .inr S32),?_⟩
    refine tree_quiets _ _ _ _ sf0 kr9 kr9 ?_
    simp -implicitDefEqProofs(disch:=omega)only[Nat.reduceEqDiff,↓reduceIte,vcu,↓vcd,vcp]
    rw[r_build]
    refine⟨(_,#[.int .i64 O,.int .i64 E,.int .i64 M,.slice (some ⟨g9,0,none⟩) ps.length 1,.slice (some ⟨g26,0,none⟩) cs.length 3]),⟨ze33,by simp -implicitDefEqProofs(disch:=omega)only[Nat.reduceEqDiff,↓reduceIte,vcu,↓vcd];kernel_rfl⟩,?_⟩
    simp -implicitDefEqProofs(disch:=omega)only[Nat.reduceEqDiff,↓reduceIte,vcu,↓vcd]
    refine tree_one rfl ?_
    refine r_sets (g:=h2) (i:=0) (C:=[.int .i64 0,.int .i64 0,.int .i64 0,.slice none 0 0,.slice none 0 0]) z9q z9co33 z9r z9z f33 z9l fun T35 k36 e37=>?_
    replace e37:T35 h2=some ⟨[.int .i64 O,.int .i64 E,.int .i64 M,.slice (some ⟨g9,0,none⟩) ps.length 1,.slice (some ⟨g26,0,none⟩) cs.length 3],false⟩:=e37
    have q39:=k36.at f34 (ne_of n11 f7)
    have q40:=k36.at w30 (ne_of n28 f23)
    have S38:Sub σ T35:=k36.sub (s12.trans S32) z2
    simp -implicitDefEqProofs(disch:=omega)only[Nat.reduceEqDiff,↓reduceIte,vcu,↓vcd]
    refine⟨keep_of rfl (fun p hp=>by simp only[List.mem_singleton] at hp;subst hp;exact .inl kr9),?_⟩
    refine tree_stop ?_
    exact⟨by first|trivial|rfl,by first|trivial|rfl|simp -implicitDefEqProofs(disch:=omega)only[Nat.reduceEqDiff,↓reduceIte,vcu,↓vcd],g9,g26,S38,e37,q39,q40,free_sub s12 z14,free_sub s12 z31⟩
   ·try simp -implicitDefEqProofs(disch:=omega)only[Nat.reduceEqDiff,↓reduceIte,vcu,↓vcd]
    refine r_lit el31 (out:=#[]) kr9 kr9 fun e41 T42 n43 s44 v45=>?_
    replace v45:T42 e41=some ⟨tris [],false⟩:=v45
    simp -implicitDefEqProofs(disch:=omega)only[Nat.reduceEqDiff,↓reduceIte,vcu,↓vcd]
    have z46:=free_sub S8 n43
    have f47:=s44 _ _ f7
    have f48:=s44 _ _ v5
    have S49:=S8.trans s44
    refine⟨keep_of rfl (fun p hp=>by simp only[List.mem_singleton] at hp;subst hp;exact .inr S49),?_⟩
    refine tree_one rfl ?_
    refine r_pushXV (g:=e1) (len:=0) (xs:=[]) (ys:=ps) el30 om9 sl30 z9q f48 rfl (by simp -implicitDefEqProofs(disch:=omega)only[Nat.reduceEqDiff,↓reduceIte,vcu,↓vcd];exact t1.sub S49) om9 fun g50 T51 n52 k53 w54=>?_
    rw[List.nil_append] at w54
    simp -implicitDefEqProofs(disch:=omega)only[Nat.reduceEqDiff,↓reduceIte,vcu,↓vcd,Nat.zero_add]
    have z55:=free_sub S49 n52
    have S56:=k53.sub S49 z6
    have f57:=k53.at f47 (ne_of' n3 e2)
    have f58:=k53.at v45 (ne_of n43 v5)
    refine⟨keep_of rfl (fun p hp=>by simp only[List.mem_singleton] at hp;subst hp;exact .inr S56),?_⟩
    refine tree_one rfl ?_
    refine r_pushCV (g:=e41) (len:=0) (xs:=[]) (ys:=cs) el31 om9 sl31 z9q f58 rfl (by simp -implicitDefEqProofs(disch:=omega)only[Nat.reduceEqDiff,↓reduceIte,vcu,↓vcd];exact t2.sub S56) om9 fun g59 T60 n61 k62 w63=>?_
    rw[List.nil_append] at w63
    simp -implicitDefEqProofs(disch:=omega)only[Nat.reduceEqDiff,↓reduceIte,vcu,↓vcd,Nat.zero_add]
    have z64:=free_sub S56 n61
    have S65:=k62.sub S56 z46
    have f66:=k62.at f57 (ne_of' n43 f7)
    have f67:=k62.at w54 (ne_of n52 v45)
    refine⟨keep_of rfl (fun p hp=>by simp only[List.mem_singleton] at hp;subst hp;exact .inr S65),?_⟩
    refine tree_quiets _ _ _ _ sf0 kr9 kr9 ?_
    simp -implicitDefEqProofs(disch:=omega)only[Nat.reduceEqDiff,↓reduceIte,vcu,↓vcd,vcp]
    rw[r_build]
    refine⟨(_,#[.int .i64 O,.int .i64 E,.int .i64 M,.slice (some ⟨g50,0,none⟩) ps.length 1,.slice (some ⟨g59,0,none⟩) cs.length 3]),⟨ze33,by simp -implicitDefEqProofs(disch:=omega)only[Nat.reduceEqDiff,↓reduceIte,vcu,↓vcd];kernel_rfl⟩,?_⟩
    simp -implicitDefEqProofs(disch:=omega)only[Nat.reduceEqDiff,↓reduceIte,vcu,↓vcd]
    refine tree_one rfl ?_
    refine r_sets (g:=h2) (i:=0) (C:=[.int .i64 0,.int .i64 0,.int .i64 0,.slice none 0 0,.slice none 0 0]) z9q z9co33 z9r z9z f66 z9l fun T68 k69 e70=>?_
    replace e70:T68 h2=some ⟨[.int .i64 O,.int .i64 E,.int .i64 M,.slice (some ⟨g50,0,none⟩) ps.length 1,.slice (some ⟨g59,0,none⟩) cs.length 3],false⟩:=e70
    have q72:=k69.at f67 (ne_of n52 f47)
    have q73:=k69.at w63 (ne_of n61 f57)
    have S71:Sub σ T68:=k69.sub (s12.trans S65) z2
    simp -implicitDefEqProofs(disch:=omega)only[Nat.reduceEqDiff,↓reduceIte,vcu,↓vcd]
    refine⟨keep_of rfl (fun p hp=>by simp only[List.mem_singleton] at hp;subst hp;exact .inl kr9),?_⟩
    refine tree_stop ?_
    exact⟨by first|trivial|rfl,by first|trivial|rfl|simp -implicitDefEqProofs(disch:=omega)only[Nat.reduceEqDiff,↓reduceIte,vcu,↓vcd],g50,g59,S71,e70,q72,q73,free_sub s12 z55,free_sub s12 z64⟩
  ·try simp -implicitDefEqProofs(disch:=omega)only[Nat.reduceEqDiff,↓reduceIte,vcu,↓vcd]
   refine r_lit el31 (out:=#[]) kr9 kr9 fun e74 T75 n76 s77 v78=>?_
   replace v78:T75 e74=some ⟨tris [],false⟩:=v78
   simp -implicitDefEqProofs(disch:=omega)only[Nat.reduceEqDiff,↓reduceIte,vcu,↓vcd]
   have z79:=free_sub (Sub.refl τ) n76
   have f80:=s77 _ _ e2
   have S81:=(Sub.refl τ).trans s77
   refine⟨keep_of rfl (fun p hp=>by simp only[List.mem_singleton] at hp;subst hp;exact .inr S81),?_⟩
   refine tree_one rfl ?_
   refine r_lit el30 (out:=#[]) kr9 kr9 fun e82 T83 n84 s85 v86=>?_
   replace v86:T83 e82=some ⟨texts [],false⟩:=v86
   simp -implicitDefEqProofs(disch:=omega)only[Nat.reduceEqDiff,↓reduceIte,vcu,↓vcd]
   have z87:=free_sub S81 n84
   have f88:=s85 _ _ f80
   have f89:=s85 _ _ v78
   have S90:=S81.trans s85
   refine⟨keep_of rfl (fun p hp=>by simp only[List.mem_singleton] at hp;subst hp;exact .inr S90),?_⟩
   refine tree_one rfl ?_
   refine r_pushXV (g:=e82) (len:=0) (xs:=[]) (ys:=ps) el30 om9 sl30 z9q v86 rfl (by simp -implicitDefEqProofs(disch:=omega)only[Nat.reduceEqDiff,↓reduceIte,vcu,↓vcd];exact t1.sub S90) om9 fun g91 T92 n93 k94 w95=>?_
   rw[List.nil_append] at w95
   simp -implicitDefEqProofs(disch:=omega)only[Nat.reduceEqDiff,↓reduceIte,vcu,↓vcd,Nat.zero_add]
   have z96:=free_sub S90 n93
   have S97:=k94.sub S90 z87
   have f98:=k94.at f88 (ne_of' n84 f80)
   have f99:=k94.at f89 (ne_of' n84 v78)
   refine⟨keep_of rfl (fun p hp=>by simp only[List.mem_singleton] at hp;subst hp;exact .inr S97),?_⟩
   refine tree_one rfl ?_
   refine r_pushCV (g:=e74) (len:=0) (xs:=[]) (ys:=cs) el31 om9 sl31 z9q f99 rfl (by simp -implicitDefEqProofs(disch:=omega)only[Nat.reduceEqDiff,↓reduceIte,vcu,↓vcd];exact t2.sub S97) om9 fun g100 T101 n102 k103 w104=>?_
   rw[List.nil_append] at w104
   simp -implicitDefEqProofs(disch:=omega)only[Nat.reduceEqDiff,↓reduceIte,vcu,↓vcd,Nat.zero_add]
   have z105:=free_sub S97 n102
   have S106:=k103.sub S97 z79
   have f107:=k103.at f98 (ne_of' n76 e2)
   have f108:=k103.at w95 (ne_of n93 f89)
   refine⟨keep_of rfl (fun p hp=>by simp only[List.mem_singleton] at hp;subst hp;exact .inr S106),?_⟩
   refine tree_quiets _ _ _ _ sf0 kr9 kr9 ?_
   simp -implicitDefEqProofs(disch:=omega)only[Nat.reduceEqDiff,↓reduceIte,vcu,↓vcd,vcp]
   rw[r_build]
   refine⟨(_,#[.int .i64 O,.int .i64 E,.int .i64 M,.slice (some ⟨g91,0,none⟩) ps.length 1,.slice (some ⟨g100,0,none⟩) cs.length 3]),⟨ze33,by simp -implicitDefEqProofs(disch:=omega)only[Nat.reduceEqDiff,↓reduceIte,vcu,↓vcd];kernel_rfl⟩,?_⟩
   simp -implicitDefEqProofs(disch:=omega)only[Nat.reduceEqDiff,↓reduceIte,vcu,↓vcd]
   refine tree_one rfl ?_
   refine r_sets (g:=h2) (i:=0) (C:=[.int .i64 0,.int .i64 0,.int .i64 0,.slice none 0 0,.slice none 0 0]) z9q z9co33 z9r z9z f107 z9l fun T109 k110 e111=>?_
   replace e111:T109 h2=some ⟨[.int .i64 O,.int .i64 E,.int .i64 M,.slice (some ⟨g91,0,none⟩) ps.length 1,.slice (some ⟨g100,0,none⟩) cs.length 3],false⟩:=e111
   have q113:=k110.at f108 (ne_of n93 f88)
   have q114:=k110.at w104 (ne_of n102 f98)
   have S112:Sub σ T109:=k110.sub (s12.trans S106) z2
   simp -implicitDefEqProofs(disch:=omega)only[Nat.reduceEqDiff,↓reduceIte,vcu,↓vcd]
   refine⟨keep_of rfl (fun p hp=>by simp only[List.mem_singleton] at hp;subst hp;exact .inl kr9),?_⟩
   refine tree_stop ?_
   exact⟨by first|trivial|rfl,by first|trivial|rfl|simp -implicitDefEqProofs(disch:=omega)only[Nat.reduceEqDiff,↓reduceIte,vcu,↓vcd],g91,g100,S112,e111,q113,q114,free_sub s12 z96,free_sub s12 z105⟩
 ·rintro _ a τ' ⟨rfl,q2,g1,g2,S,w0',w1,w2,z1,z3⟩
  have l5:lds τ' h2 0 5=some [.int .i64 O,.int .i64 E,.int .i64 M,.slice (some ⟨g1,0,none⟩) ps.length 1,.slice (some ⟨g2,0,none⟩) cs.length 3]:=by rw[lds_of w0' (by simp)];rfl
  simp -implicitDefEqProofs(disch:=omega)only[Nat.reduceEqDiff,↓reduceIte,vcu,↓vcd,q2]
  refine fin_cell Tryz.results52 τ' (Sub.refl _) (v:=exV (.slice (some ⟨g1,0,none⟩) ps.length 1) (.slice (some ⟨g2,0,none⟩) cs.length 3) ⟨⟨O,E,M⟩,ps,cs⟩) (by simp -implicitDefEqProofs(disch:=omega)only[Nat.reduceEqDiff,↓reduceIte,vcu,↓vcd,q2,l5,co33];rfl) ⟨g1,g2,rfl,S,w1,w2,z1,z3⟩
def newX (s:Sp) (ps:List (List UInt8)):Ex:=if ExOk ⟨s,ps,[]⟩ then ⟨s,ps,[]⟩ else ex0
set_option maxRecDepth 8000 in
theorem newX_calls (σ:AHeap) (s:Sp) (v1:Value) (ps:List (List UInt8)) (t1:Texts σ v1 ps) (b1:ps.length≤1048576) (b2:∀x∈ps,x.length≤1048576) :
  ACall Tryz.prog w0 72 [.agg #[.int .i64 s.O,.int .i64 s.E,.int .i64 s.M],v1] σ fun r σ'=>Sub σ σ'∧OwnX σ σ' r (newX s ps):=by
 obtain⟨O,E,M⟩:=s
 refine acall_goc mixed Tryz.func72 rfl goodc72 fun pr=>?_
 simp -implicitDefEqProofs(disch:=omega)only[Nat.reduceEqDiff,↓reduceIte,vcu,↓vcd]
 refine r_boxed fun b τ1 nb s1 e1=>?_
 replace e1:τ1 b=some ⟨[.int .i64 O,.int .i64 E,.int .i64 M],false⟩:=e1
 refine r_new ze33 fun h4 τ n2 s2 e2=>?_
 replace e2:τ h4=some ⟨[.int .i64 0,.int .i64 0,.int .i64 0,.slice none 0 0,.slice none 0 0],false⟩:=e2
 replace e1:=s2 _ _ e1
 have s12:=s1.trans s2
 have z2:σ h4=none:=free_sub s1 n2
 replace t1:=t1.sub s12
 have x0:lds τ b 0 3=some [.int .i64 O,.int .i64 E,.int .i64 M]:=lds_three (ld_of e1 rfl) (ld_of e1 rfl) (ld_of e1 rfl)
 simp -implicitDefEqProofs(disch:=omega)only[Nat.reduceEqDiff,↓reduceIte,vcu,↓vcd]
 refine acodeB_monoX (Q':=fun e a' τ'=>e=.normal∧∃g1 g2 h5,a' 5=.pointer (some ⟨h5,0,none⟩)∧a' 4=.pointer (some ⟨h4,0,none⟩)∧Sub τ τ'∧τ' h5=some ⟨[.int .i64 O,.int .i64 E,.int .i64 M,.slice (some ⟨g1,0,none⟩) ps.length 1,.slice (some ⟨g2,0,none⟩) 0 3],false⟩∧τ' g1=some ⟨texts ps,false⟩∧τ' g2=some ⟨tris [],false⟩∧τ g1=none∧τ g2=none)
  (region_tree mixed (quiets [2] (quiets [0] (.three 1 (.three 3 (.two 4 (quiets [5] (.one 6 (.one 7 .stop))) 6 (.one 4 (quiets [5] (.one 7 .stop)))) 4 (.two 3 (quiets [5] (.one 6 (.one 7 .stop))) 6 (.one 3 (quiets [5] (.one 7 .stop)))) 6 (.two 3 (.one 4 (quiets [5] (.one 7 .stop))) 4 (.one 3 (quiets [5] (.one 7 .stop))))) 4 (.two 1 (.two 3 (quiets [5] (.one 6 (.one 7 .stop))) 6 (.one 3 (quiets [5] (.one 7 .stop)))) 6 (.one 1 (.one 3 (quiets [5] (.one 7 .stop))))) 6 (.two 1 (.two 3 (.one 4 (quiets [5] (.one 7 .stop))) 4 (.one 3 (quiets [5] (.one 7 .stop)))) 4 (.one 1 (.one 3 (quiets [5] (.one 7 .stop)))))))) [([0],Sub τ)] kr9 kr9 (fun p hp=>by simp only[List.mem_singleton] at hp;subst hp;exact Sub.refl _) ?_) ?_
 ·refine tree_quiets _ _ _ _ sf0 kr9 kr9 ?_
  simp -implicitDefEqProofs(disch:=omega)only[Nat.reduceEqDiff,↓reduceIte,vcu,↓vcd,vcp]
  refine tree_quiets τ _ _ _ sf1 kr9 kr9 ?_
  simp -implicitDefEqProofs(disch:=omega)only[Nat.reduceEqDiff,↓reduceIte,vcu,↓vcd,vcp,x0,co29]
  refine tree_three rfl rfl rfl ?_ ?_ ?_
  ·try simp -implicitDefEqProofs(disch:=omega)only[Nat.reduceEqDiff,↓reduceIte,vcu,↓vcd]
   refine r_lit el30 (out:=#[]) kr9 kr9 fun e1 T2 n3 s4 v5=>?_
   replace v5:T2 e1=some ⟨texts [],false⟩:=v5
   simp -implicitDefEqProofs(disch:=omega)only[Nat.reduceEqDiff,↓reduceIte,vcu,↓vcd]
   have z6:=free_sub (Sub.refl τ) n3
   have f7:=s4 _ _ e2
   have S8:=(Sub.refl τ).trans s4
   refine⟨keep_of rfl (fun p hp=>by simp only[List.mem_singleton] at hp;subst hp;exact .inr S8),?_⟩
   refine tree_three rfl rfl rfl ?_ ?_ ?_
   ·try simp -implicitDefEqProofs(disch:=omega)only[Nat.reduceEqDiff,↓reduceIte,vcu,↓vcd]
    refine r_pushXV (g:=e1) (len:=0) (xs:=[]) (ys:=ps) el30 om9 sl30 z9q v5 rfl (by simp -implicitDefEqProofs(disch:=omega)only[Nat.reduceEqDiff,↓reduceIte,vcu,↓vcd];exact t1.sub S8) om9 fun g9 T10 n11 k12 w13=>?_
    rw[List.nil_append] at w13
    simp -implicitDefEqProofs(disch:=omega)only[Nat.reduceEqDiff,↓reduceIte,vcu,↓vcd,Nat.zero_add]
    have z14:=free_sub S8 n11
    have S15:=k12.sub S8 z6
    have f16:=k12.at f7 (ne_of' n3 e2)
    refine⟨keep_of rfl (fun p hp=>by simp only[List.mem_singleton] at hp;subst hp;exact .inr S15),?_⟩
    refine tree_two rfl rfl ?_ ?_
    ·try simp -implicitDefEqProofs(disch:=omega)only[Nat.reduceEqDiff,↓reduceIte,vcu,↓vcd]
     refine r_lit el31 (out:=#[]) kr9 kr9 fun e17 T18 n19 s20 v21=>?_
     replace v21:T18 e17=some ⟨tris [],false⟩:=v21
     simp -implicitDefEqProofs(disch:=omega)only[Nat.reduceEqDiff,↓reduceIte,vcu,↓vcd]
     have z22:=free_sub S15 n19
     have f23:=s20 _ _ f16
     have f24:=s20 _ _ w13
     have S25:=S15.trans s20
     refine⟨keep_of rfl (fun p hp=>by simp only[List.mem_singleton] at hp;subst hp;exact .inr S25),?_⟩
     refine tree_quiets _ _ _ _ sf0 kr9 kr9 ?_
     simp -implicitDefEqProofs(disch:=omega)only[Nat.reduceEqDiff,↓reduceIte,vcu,↓vcd,vcp]
     rw[r_build]
     refine⟨(_,#[.int .i64 O,.int .i64 E,.int .i64 M,.slice (some ⟨g9,0,none⟩) ps.length 1,.slice (some ⟨e17,0,none⟩) 0 3]),⟨ze33,by simp -implicitDefEqProofs(disch:=omega)only[Nat.reduceEqDiff,↓reduceIte,vcu,↓vcd];kernel_rfl⟩,?_⟩
     try simp -implicitDefEqProofs(disch:=omega)only[Nat.reduceEqDiff,↓reduceIte,vcu,↓vcd]
     refine tree_one rfl ?_
     try simp -implicitDefEqProofs(disch:=omega)only[Nat.reduceEqDiff,↓reduceIte,vcu,↓vcd]
     refine r_new ze33 fun h26 T27 n28 s29 e30=>?_
     replace e30:T27 h26=some ⟨[.int .i64 0,.int .i64 0,.int .i64 0,.slice none 0 0,.slice none 0 0],false⟩:=e30
     simp -implicitDefEqProofs(disch:=omega)only[Nat.reduceEqDiff,↓reduceIte,vcu,↓vcd]
     have z31:=free_sub S25 n28
     have f32:=s29 _ _ f23
     have f33:=s29 _ _ f24
     have f34:=s29 _ _ v21
     have S35:=S25.trans s29
     refine⟨keep_of rfl (fun p hp=>by simp only[List.mem_singleton] at hp;subst hp;exact .inr S35),?_⟩
     refine tree_one rfl ?_
     refine r_sets (g:=h26) (i:=0) (C:=[.int .i64 0,.int .i64 0,.int .i64 0,.slice none 0 0,.slice none 0 0]) z9q z9co33 z9r z9z e30 z9l fun T36 k37 e38=>?_
     replace e38:T36 h26=some ⟨[.int .i64 O,.int .i64 E,.int .i64 M,.slice (some ⟨g9,0,none⟩) ps.length 1,.slice (some ⟨e17,0,none⟩) 0 3],false⟩:=e38
     have q39:=k37.at f33 (ne_of' n28 f24)
     have q40:=k37.at f34 (ne_of' n28 v21)
     have q41:=k37.at f32 (ne_of' n28 f23)
     have S42:Sub τ T36:=k37.sub S35 z31
     simp -implicitDefEqProofs(disch:=omega)only[Nat.reduceEqDiff,↓reduceIte,vcu,↓vcd]
     refine⟨keep_of rfl (fun p hp=>by simp only[List.mem_singleton] at hp;subst hp;exact .inr S42),?_⟩
     refine tree_stop ?_
     exact⟨by first|trivial|rfl,g9,e17,h26,by first|trivial|rfl|simp -implicitDefEqProofs(disch:=omega)only[Nat.reduceEqDiff,↓reduceIte,vcu,↓vcd],by first|trivial|rfl|simp -implicitDefEqProofs(disch:=omega)only[Nat.reduceEqDiff,↓reduceIte,vcu,↓vcd],S42,e38,q39,q40,z14,z22⟩
    ·try simp -implicitDefEqProofs(disch:=omega)only[Nat.reduceEqDiff,↓reduceIte,vcu,↓vcd]
     refine r_new ze33 fun h43 T44 n45 s46 e47=>?_
     replace e47:T44 h43=some ⟨[.int .i64 0,.int .i64 0,.int .i64 0,.slice none 0 0,.slice none 0 0],false⟩:=e47
     simp -implicitDefEqProofs(disch:=omega)only[Nat.reduceEqDiff,↓reduceIte,vcu,↓vcd]
     have z48:=free_sub S15 n45
     have f49:=s46 _ _ f16
     have f50:=s46 _ _ w13
     have S51:=S15.trans s46
     refine⟨keep_of rfl (fun p hp=>by simp only[List.mem_singleton] at hp;subst hp;exact .inr S51),?_⟩
     refine tree_one rfl ?_
     try simp -implicitDefEqProofs(disch:=omega)only[Nat.reduceEqDiff,↓reduceIte,vcu,↓vcd]
     refine r_lit el31 (out:=#[]) kr9 kr9 fun e52 T53 n54 s55 v56=>?_
     replace v56:T53 e52=some ⟨tris [],false⟩:=v56
     simp -implicitDefEqProofs(disch:=omega)only[Nat.reduceEqDiff,↓reduceIte,vcu,↓vcd]
     have z57:=free_sub S51 n54
     have f58:=s55 _ _ f49
     have f59:=s55 _ _ f50
     have f60:=s55 _ _ e47
     have S61:=S51.trans s55
     refine⟨keep_of rfl (fun p hp=>by simp only[List.mem_singleton] at hp;subst hp;exact .inr S61),?_⟩
     refine tree_quiets _ _ _ _ sf0 kr9 kr9 ?_
     simp -implicitDefEqProofs(disch:=omega)only[Nat.reduceEqDiff,↓reduceIte,vcu,↓vcd,vcp]
     rw[r_build]
     refine⟨(_,#[.int .i64 O,.int .i64 E,.int .i64 M,.slice (some ⟨g9,0,none⟩) ps.length 1,.slice (some ⟨e52,0,none⟩) 0 3]),⟨ze33,by simp -implicitDefEqProofs(disch:=omega)only[Nat.reduceEqDiff,↓reduceIte,vcu,↓vcd];kernel_rfl⟩,?_⟩
     try simp -implicitDefEqProofs(disch:=omega)only[Nat.reduceEqDiff,↓reduceIte,vcu,↓vcd]
     refine tree_one rfl ?_
     refine r_sets (g:=h43) (i:=0) (C:=[.int .i64 0,.int .i64 0,.int .i64 0,.slice none 0 0,.slice none 0 0]) z9q z9co33 z9r z9z f60 z9l fun T62 k63 e64=>?_
     replace e64:T62 h43=some ⟨[.int .i64 O,.int .i64 E,.int .i64 M,.slice (some ⟨g9,0,none⟩) ps.length 1,.slice (some ⟨e52,0,none⟩) 0 3],false⟩:=e64
     have q65:=k63.at f59 (ne_of' n45 w13)
     have q66:=k63.at v56 (ne_of n54 e47)
     have q67:=k63.at f58 (ne_of' n45 f16)
     have S68:Sub τ T62:=k63.sub S61 z48
     simp -implicitDefEqProofs(disch:=omega)only[Nat.reduceEqDiff,↓reduceIte,vcu,↓vcd]
     refine⟨keep_of rfl (fun p hp=>by simp only[List.mem_singleton] at hp;subst hp;exact .inr S68),?_⟩
     refine tree_stop ?_
     exact⟨by first|trivial|rfl,g9,e52,h43,by first|trivial|rfl|simp -implicitDefEqProofs(disch:=omega)only[Nat.reduceEqDiff,↓reduceIte,vcu,↓vcd],by first|trivial|rfl|simp -implicitDefEqProofs(disch:=omega)only[Nat.reduceEqDiff,↓reduceIte,vcu,↓vcd],S68,e64,q65,q66,z14,z57⟩
   ·try simp -implicitDefEqProofs(disch:=omega)only[Nat.reduceEqDiff,↓reduceIte,vcu,↓vcd]
    refine r_lit el31 (out:=#[]) kr9 kr9 fun e69 T70 n71 s72 v73=>?_
    replace v73:T70 e69=some ⟨tris [],false⟩:=v73
    simp -implicitDefEqProofs(disch:=omega)only[Nat.reduceEqDiff,↓reduceIte,vcu,↓vcd]
    have z74:=free_sub S8 n71
    have f75:=s72 _ _ f7
    have f76:=s72 _ _ v5
    have S77:=S8.trans s72
    refine⟨keep_of rfl (fun p hp=>by simp only[List.mem_singleton] at hp;subst hp;exact .inr S77),?_⟩
    refine tree_two rfl rfl ?_ ?_
    ·try simp -implicitDefEqProofs(disch:=omega)only[Nat.reduceEqDiff,↓reduceIte,vcu,↓vcd]
     refine r_pushXV (g:=e1) (len:=0) (xs:=[]) (ys:=ps) el30 om9 sl30 z9q f76 rfl (by simp -implicitDefEqProofs(disch:=omega)only[Nat.reduceEqDiff,↓reduceIte,vcu,↓vcd];exact t1.sub S77) om9 fun g78 T79 n80 k81 w82=>?_
     rw[List.nil_append] at w82
     simp -implicitDefEqProofs(disch:=omega)only[Nat.reduceEqDiff,↓reduceIte,vcu,↓vcd,Nat.zero_add]
     have z83:=free_sub S77 n80
     have S84:=k81.sub S77 z6
     have f85:=k81.at f75 (ne_of' n3 e2)
     have f86:=k81.at v73 (ne_of n71 v5)
     refine⟨keep_of rfl (fun p hp=>by simp only[List.mem_singleton] at hp;subst hp;exact .inr S84),?_⟩
     refine tree_quiets _ _ _ _ sf0 kr9 kr9 ?_
     simp -implicitDefEqProofs(disch:=omega)only[Nat.reduceEqDiff,↓reduceIte,vcu,↓vcd,vcp]
     rw[r_build]
     refine⟨(_,#[.int .i64 O,.int .i64 E,.int .i64 M,.slice (some ⟨g78,0,none⟩) ps.length 1,.slice (some ⟨e69,0,none⟩) 0 3]),⟨ze33,by simp -implicitDefEqProofs(disch:=omega)only[Nat.reduceEqDiff,↓reduceIte,vcu,↓vcd];kernel_rfl⟩,?_⟩
     try simp -implicitDefEqProofs(disch:=omega)only[Nat.reduceEqDiff,↓reduceIte,vcu,↓vcd]
     refine tree_one rfl ?_
     try simp -implicitDefEqProofs(disch:=omega)only[Nat.reduceEqDiff,↓reduceIte,vcu,↓vcd]
     refine r_new ze33 fun h87 T88 n89 s90 e91=>?_
     replace e91:T88 h87=some ⟨[.int .i64 0,.int .i64 0,.int .i64 0,.slice none 0 0,.slice none 0 0],false⟩:=e91
     simp -implicitDefEqProofs(disch:=omega)only[Nat.reduceEqDiff,↓reduceIte,vcu,↓vcd]
     have z92:=free_sub S84 n89
     have f93:=s90 _ _ f85
     have f94:=s90 _ _ f86
     have f95:=s90 _ _ w82
     have S96:=S84.trans s90
     refine⟨keep_of rfl (fun p hp=>by simp only[List.mem_singleton] at hp;subst hp;exact .inr S96),?_⟩
     refine tree_one rfl ?_
     refine r_sets (g:=h87) (i:=0) (C:=[.int .i64 0,.int .i64 0,.int .i64 0,.slice none 0 0,.slice none 0 0]) z9q z9co33 z9r z9z e91 z9l fun T97 k98 e99=>?_
     replace e99:T97 h87=some ⟨[.int .i64 O,.int .i64 E,.int .i64 M,.slice (some ⟨g78,0,none⟩) ps.length 1,.slice (some ⟨e69,0,none⟩) 0 3],false⟩:=e99
     have q100:=k98.at f95 (ne_of' n89 w82)
     have q101:=k98.at f94 (ne_of' n89 f86)
     have q102:=k98.at f93 (ne_of' n89 f85)
     have S103:Sub τ T97:=k98.sub S96 z92
     simp -implicitDefEqProofs(disch:=omega)only[Nat.reduceEqDiff,↓reduceIte,vcu,↓vcd]
     refine⟨keep_of rfl (fun p hp=>by simp only[List.mem_singleton] at hp;subst hp;exact .inr S103),?_⟩
     refine tree_stop ?_
     exact⟨by first|trivial|rfl,g78,e69,h87,by first|trivial|rfl|simp -implicitDefEqProofs(disch:=omega)only[Nat.reduceEqDiff,↓reduceIte,vcu,↓vcd],by first|trivial|rfl|simp -implicitDefEqProofs(disch:=omega)only[Nat.reduceEqDiff,↓reduceIte,vcu,↓vcd],S103,e99,q100,q101,z83,z74⟩
    ·try simp -implicitDefEqProofs(disch:=omega)only[Nat.reduceEqDiff,↓reduceIte,vcu,↓vcd]
     refine r_new ze33 fun h104 T105 n106 s107 e108=>?_
     replace e108:T105 h104=some ⟨[.int .i64 0,.int .i64 0,.int .i64 0,.slice none 0 0,.slice none 0 0],false⟩:=e108
     simp -implicitDefEqProofs(disch:=omega)only[Nat.reduceEqDiff,↓reduceIte,vcu,↓vcd]
     have z109:=free_sub S77 n106
     have f110:=s107 _ _ f75
     have f111:=s107 _ _ f76
     have f112:=s107 _ _ v73
     have S113:=S77.trans s107
     refine⟨keep_of rfl (fun p hp=>by simp only[List.mem_singleton] at hp;subst hp;exact .inr S113),?_⟩
     refine tree_one rfl ?_
     try simp -implicitDefEqProofs(disch:=omega)only[Nat.reduceEqDiff,↓reduceIte,vcu,↓vcd]
     refine r_pushXV (g:=e1) (len:=0) (xs:=[]) (ys:=ps) el30 om9 sl30 z9q f111 rfl (by simp -implicitDefEqProofs(disch:=omega)only[Nat.reduceEqDiff,↓reduceIte,vcu,↓vcd];exact t1.sub S113) om9 fun g114 T115 n116 k117 w118=>?_
     rw[List.nil_append] at w118
     simp -implicitDefEqProofs(disch:=omega)only[Nat.reduceEqDiff,↓reduceIte,vcu,↓vcd,Nat.zero_add]
     have z119:=free_sub S113 n116
     have S120:=k117.sub S113 z6
     have f121:=k117.at f110 (ne_of' n3 e2)
     have f122:=k117.at f112 (ne_of n71 v5)
     have f123:=k117.at e108 (ne_of n106 f76)
     refine⟨keep_of rfl (fun p hp=>by simp only[List.mem_singleton] at hp;subst hp;exact .inr S120),?_⟩
     refine tree_quiets _ _ _ _ sf0 kr9 kr9 ?_
     simp -implicitDefEqProofs(disch:=omega)only[Nat.reduceEqDiff,↓reduceIte,vcu,↓vcd,vcp]
     rw[r_build]
     refine⟨(_,#[.int .i64 O,.int .i64 E,.int .i64 M,.slice (some ⟨g114,0,none⟩) ps.length 1,.slice (some ⟨e69,0,none⟩) 0 3]),⟨ze33,by simp -implicitDefEqProofs(disch:=omega)only[Nat.reduceEqDiff,↓reduceIte,vcu,↓vcd];kernel_rfl⟩,?_⟩
     try simp -implicitDefEqProofs(disch:=omega)only[Nat.reduceEqDiff,↓reduceIte,vcu,↓vcd]
     refine tree_one rfl ?_
     refine r_sets (g:=h104) (i:=0) (C:=[.int .i64 0,.int .i64 0,.int .i64 0,.slice none 0 0,.slice none 0 0]) z9q z9co33 z9r z9z f123 z9l fun T124 k125 e126=>?_
     replace e126:T124 h104=some ⟨[.int .i64 O,.int .i64 E,.int .i64 M,.slice (some ⟨g114,0,none⟩) ps.length 1,.slice (some ⟨e69,0,none⟩) 0 3],false⟩:=e126
     have q127:=k125.at w118 (ne_of n116 e108)
     have q128:=k125.at f122 (ne_of' n106 v73)
     have q129:=k125.at f121 (ne_of' n106 f75)
     have S130:Sub τ T124:=k125.sub S120 z109
     simp -implicitDefEqProofs(disch:=omega)only[Nat.reduceEqDiff,↓reduceIte,vcu,↓vcd]
     refine⟨keep_of rfl (fun p hp=>by simp only[List.mem_singleton] at hp;subst hp;exact .inr S130),?_⟩
     refine tree_stop ?_
     exact⟨by first|trivial|rfl,g114,e69,h104,by first|trivial|rfl|simp -implicitDefEqProofs(disch:=omega)only[Nat.reduceEqDiff,↓reduceIte,vcu,↓vcd],by first|trivial|rfl|simp -implicitDefEqProofs(disch:=omega)only[Nat.reduceEqDiff,↓reduceIte,vcu,↓vcd],S130,e126,q127,q128,z119,z74⟩
   ·try simp -implicitDefEqProofs(disch:=omega)only[Nat.reduceEqDiff,↓reduceIte,vcu,↓vcd]
    refine r_new ze33 fun h131 T132 n133 s134 e135=>?_
    replace e135:T132 h131=some ⟨[.int .i64 0,.int .i64 0,.int .i64 0,.slice none 0 0,.slice none 0 0],false⟩:=e135
    simp -implicitDefEqProofs(disch:=omega)only[Nat.reduceEqDiff,↓reduceIte,vcu,↓vcd]
    have z136:=free_sub S8 n133
    have f137:=s134 _ _ f7
    have f138:=s134 _ _ v5
    have S139:=S8.trans s134
    refine⟨keep_of rfl (fun p hp=>by simp only[List.mem_singleton] at hp;subst hp;exact .inr S139),?_⟩
    refine tree_two rfl rfl ?_ ?_
    ·try simp -implicitDefEqProofs(disch:=omega)only[Nat.reduceEqDiff,↓reduceIte,vcu,↓vcd]
     refine r_pushXV (g:=e1) (len:=0) (xs:=[]) (ys:=ps) el30 om9 sl30 z9q f138 rfl (by simp -implicitDefEqProofs(disch:=omega)only[Nat.reduceEqDiff,↓reduceIte,vcu,↓vcd];exact t1.sub S139) om9 fun g140 T141 n142 k143 w144=>?_
     rw[List.nil_append] at w144
     simp -implicitDefEqProofs(disch:=omega)only[Nat.reduceEqDiff,↓reduceIte,vcu,↓vcd,Nat.zero_add]
     have z145:=free_sub S139 n142
     have S146:=k143.sub S139 z6
     have f147:=k143.at f137 (ne_of' n3 e2)
     have f148:=k143.at e135 (ne_of n133 v5)
     refine⟨keep_of rfl (fun p hp=>by simp only[List.mem_singleton] at hp;subst hp;exact .inr S146),?_⟩
     refine tree_one rfl ?_
     try simp -implicitDefEqProofs(disch:=omega)only[Nat.reduceEqDiff,↓reduceIte,vcu,↓vcd]
     refine r_lit el31 (out:=#[]) kr9 kr9 fun e149 T150 n151 s152 v153=>?_
     replace v153:T150 e149=some ⟨tris [],false⟩:=v153
     simp -implicitDefEqProofs(disch:=omega)only[Nat.reduceEqDiff,↓reduceIte,vcu,↓vcd]
     have z154:=free_sub S146 n151
     have f155:=s152 _ _ f147
     have f156:=s152 _ _ f148
     have f157:=s152 _ _ w144
     have S158:=S146.trans s152
     refine⟨keep_of rfl (fun p hp=>by simp only[List.mem_singleton] at hp;subst hp;exact .inr S158),?_⟩
     refine tree_quiets _ _ _ _ sf0 kr9 kr9 ?_
     simp -implicitDefEqProofs(disch:=omega)only[Nat.reduceEqDiff,↓reduceIte,vcu,↓vcd,vcp]
     rw[r_build]
     refine⟨(_,#[.int .i64 O,.int .i64 E,.int .i64 M,.slice (some ⟨g140,0,none⟩) ps.length 1,.slice (some ⟨e149,0,none⟩) 0 3]),⟨ze33,by simp -implicitDefEqProofs(disch:=omega)only[Nat.reduceEqDiff,↓reduceIte,vcu,↓vcd];kernel_rfl⟩,?_⟩
     try simp -implicitDefEqProofs(disch:=omega)only[Nat.reduceEqDiff,↓reduceIte,vcu,↓vcd]
     refine tree_one rfl ?_
     refine r_sets (g:=h131) (i:=0) (C:=[.int .i64 0,.int .i64 0,.int .i64 0,.slice none 0 0,.slice none 0 0]) z9q z9co33 z9r z9z f156 z9l fun T159 k160 e161=>?_
     replace e161:T159 h131=some ⟨[.int .i64 O,.int .i64 E,.int .i64 M,.slice (some ⟨g140,0,none⟩) ps.length 1,.slice (some ⟨e149,0,none⟩) 0 3],false⟩:=e161
     have q162:=k160.at f157 (ne_of n142 e135)
     have q163:=k160.at v153 (ne_of n151 f148)
     have q164:=k160.at f155 (ne_of' n133 f7)
     have S165:Sub τ T159:=k160.sub S158 z136
     simp -implicitDefEqProofs(disch:=omega)only[Nat.reduceEqDiff,↓reduceIte,vcu,↓vcd]
     refine⟨keep_of rfl (fun p hp=>by simp only[List.mem_singleton] at hp;subst hp;exact .inr S165),?_⟩
     refine tree_stop ?_
     exact⟨by first|trivial|rfl,g140,e149,h131,by first|trivial|rfl|simp -implicitDefEqProofs(disch:=omega)only[Nat.reduceEqDiff,↓reduceIte,vcu,↓vcd],by first|trivial|rfl|simp -implicitDefEqProofs(disch:=omega)only[Nat.reduceEqDiff,↓reduceIte,vcu,↓vcd],S165,e161,q162,q163,z145,z154⟩
    ·try simp -implicitDefEqProofs(disch:=omega)only[Nat.reduceEqDiff,↓reduceIte,vcu,↓vcd]
     refine r_lit el31 (out:=#[]) kr9 kr9 fun e166 T167 n168 s169 v170=>?_
     replace v170:T167 e166=some ⟨tris [],false⟩:=v170
     simp -implicitDefEqProofs(disch:=omega)only[Nat.reduceEqDiff,↓reduceIte,vcu,↓vcd]
     have z171:=free_sub S139 n168
     have f172:=s169 _ _ f137
     have f173:=s169 _ _ f138
     have f174:=s169 _ _ e135
     have S175:=S139.trans s169
     refine⟨keep_of rfl (fun p hp=>by simp only[List.mem_singleton] at hp;subst hp;exact .inr S175),?_⟩
     refine tree_one rfl ?_
     try simp -implicitDefEqProofs(disch:=omega)only[Nat.reduceEqDiff,↓reduceIte,vcu,↓vcd]
     refine r_pushXV (g:=e1) (len:=0) (xs:=[]) (ys:=ps) el30 om9 sl30 z9q f173 rfl (by simp -implicitDefEqProofs(disch:=omega)only[Nat.reduceEqDiff,↓reduceIte,vcu,↓vcd];exact t1.sub S175) om9 fun g176 T177 n178 k179 w180=>?_
     rw[List.nil_append] at w180
     simp -implicitDefEqProofs(disch:=omega)only[Nat.reduceEqDiff,↓reduceIte,vcu,↓vcd,Nat.zero_add]
     have z181:=free_sub S175 n178
     have S182:=k179.sub S175 z6
     have f183:=k179.at f172 (ne_of' n3 e2)
     have f184:=k179.at f174 (ne_of n133 v5)
     have f185:=k179.at v170 (ne_of n168 f138)
     refine⟨keep_of rfl (fun p hp=>by simp only[List.mem_singleton] at hp;subst hp;exact .inr S182),?_⟩
     refine tree_quiets _ _ _ _ sf0 kr9 kr9 ?_
     simp -implicitDefEqProofs(disch:=omega)only[Nat.reduceEqDiff,↓reduceIte,vcu,↓vcd,vcp]
     rw[r_build]
     refine⟨(_,#[.int .i64 O,.int .i64 E,.int .i64 M,.slice (some ⟨g176,0,none⟩) ps.length 1,.slice (some ⟨e166,0,none⟩) 0 3]),⟨ze33,by simp -implicitDefEqProofs(disch:=omega)only[Nat.reduceEqDiff,↓reduceIte,vcu,↓vcd];kernel_rfl⟩,?_⟩
     try simp -implicitDefEqProofs(disch:=omega)only[Nat.reduceEqDiff,↓reduceIte,vcu,↓vcd]
     refine tree_one rfl ?_
     refine r_sets (g:=h131) (i:=0) (C:=[.int .i64 0,.int .i64 0,.int .i64 0,.slice none 0 0,.slice none 0 0]) z9q z9co33 z9r z9z f184 z9l fun T186 k187 e188=>?_
     replace e188:T186 h131=some ⟨[.int .i64 O,.int .i64 E,.int .i64 M,.slice (some ⟨g176,0,none⟩) ps.length 1,.slice (some ⟨e166,0,none⟩) 0 3],false⟩:=e188
     have q189:=k187.at w180 (ne_of n178 f174)
     have q190:=k187.at f185 (ne_of n168 e135)
     have q191:=k187.at f183 (ne_of' n133 f7)
     have S192:Sub τ T186:=k187.sub S182 z136
     simp -implicitDefEqProofs(disch:=omega)only[Nat.reduceEqDiff,↓reduceIte,vcu,↓vcd]
     refine⟨keep_of rfl (fun p hp=>by simp only[List.mem_singleton] at hp;subst hp;exact .inr S192),?_⟩
     refine tree_stop ?_
     exact⟨by first|trivial|rfl,g176,e166,h131,by first|trivial|rfl|simp -implicitDefEqProofs(disch:=omega)only[Nat.reduceEqDiff,↓reduceIte,vcu,↓vcd],by first|trivial|rfl|simp -implicitDefEqProofs(disch:=omega)only[Nat.reduceEqDiff,↓reduceIte,vcu,↓vcd],S192,e188,q189,q190,z181,z171⟩
  ·try simp -implicitDefEqProofs(disch:=omega)only[Nat.reduceEqDiff,↓reduceIte,vcu,↓vcd]
   refine r_lit el31 (out:=#[]) kr9 kr9 fun e193 T194 n195 s196 v197=>?_
   replace v197:T194 e193=some ⟨tris [],false⟩:=v197
   simp -implicitDefEqProofs(disch:=omega)only[Nat.reduceEqDiff,↓reduceIte,vcu,↓vcd]
   have z198:=free_sub (Sub.refl τ) n195
   have f199:=s196 _ _ e2
   have S200:=(Sub.refl τ).trans s196
   refine⟨keep_of rfl (fun p hp=>by simp only[List.mem_singleton] at hp;subst hp;exact .inr S200),?_⟩
   refine tree_two rfl rfl ?_ ?_
   ·try simp -implicitDefEqProofs(disch:=omega)only[Nat.reduceEqDiff,↓reduceIte,vcu,↓vcd]
    refine r_lit el30 (out:=#[]) kr9 kr9 fun e201 T202 n203 s204 v205=>?_
    replace v205:T202 e201=some ⟨texts [],false⟩:=v205
    simp -implicitDefEqProofs(disch:=omega)only[Nat.reduceEqDiff,↓reduceIte,vcu,↓vcd]
    have z206:=free_sub S200 n203
    have f207:=s204 _ _ f199
    have f208:=s204 _ _ v197
    have S209:=S200.trans s204
    refine⟨keep_of rfl (fun p hp=>by simp only[List.mem_singleton] at hp;subst hp;exact .inr S209),?_⟩
    refine tree_two rfl rfl ?_ ?_
    ·try simp -implicitDefEqProofs(disch:=omega)only[Nat.reduceEqDiff,↓reduceIte,vcu,↓vcd]
     refine r_pushXV (g:=e201) (len:=0) (xs:=[]) (ys:=ps) el30 om9 sl30 z9q v205 rfl (by simp -implicitDefEqProofs(disch:=omega)only[Nat.reduceEqDiff,↓reduceIte,vcu,↓vcd];exact t1.sub S209) om9 fun g210 T211 n212 k213 w214=>?_
     rw[List.nil_append] at w214
     simp -implicitDefEqProofs(disch:=omega)only[Nat.reduceEqDiff,↓reduceIte,vcu,↓vcd,Nat.zero_add]
     have z215:=free_sub S209 n212
     have S216:=k213.sub S209 z206
     have f217:=k213.at f207 (ne_of' n203 f199)
     have f218:=k213.at f208 (ne_of' n203 v197)
     refine⟨keep_of rfl (fun p hp=>by simp only[List.mem_singleton] at hp;subst hp;exact .inr S216),?_⟩
     refine tree_quiets _ _ _ _ sf0 kr9 kr9 ?_
     simp -implicitDefEqProofs(disch:=omega)only[Nat.reduceEqDiff,↓reduceIte,vcu,↓vcd,vcp]
     rw[r_build]
     refine⟨(_,#[.int .i64 O,.int .i64 E,.int .i64 M,.slice (some ⟨g210,0,none⟩) ps.length 1,.slice (some ⟨e193,0,none⟩) 0 3]),⟨ze33,by simp -implicitDefEqProofs(disch:=omega)only[Nat.reduceEqDiff,↓reduceIte,vcu,↓vcd];kernel_rfl⟩,?_⟩
     try simp -implicitDefEqProofs(disch:=omega)only[Nat.reduceEqDiff,↓reduceIte,vcu,↓vcd]
     refine tree_one rfl ?_
     try simp -implicitDefEqProofs(disch:=omega)only[Nat.reduceEqDiff,↓reduceIte,vcu,↓vcd]
     refine r_new ze33 fun h219 T220 n221 s222 e223=>?_
     replace e223:T220 h219=some ⟨[.int .i64 0,.int .i64 0,.int .i64 0,.slice none 0 0,.slice none 0 0],false⟩:=e223
     simp -implicitDefEqProofs(disch:=omega)only[Nat.reduceEqDiff,↓reduceIte,vcu,↓vcd]
     have z224:=free_sub S216 n221
     have f225:=s222 _ _ f217
     have f226:=s222 _ _ f218
     have f227:=s222 _ _ w214
     have S228:=S216.trans s222
     refine⟨keep_of rfl (fun p hp=>by simp only[List.mem_singleton] at hp;subst hp;exact .inr S228),?_⟩
     refine tree_one rfl ?_
     refine r_sets (g:=h219) (i:=0) (C:=[.int .i64 0,.int .i64 0,.int .i64 0,.slice none 0 0,.slice none 0 0]) z9q z9co33 z9r z9z e223 z9l fun T229 k230 e231=>?_
     replace e231:T229 h219=some ⟨[.int .i64 O,.int .i64 E,.int .i64 M,.slice (some ⟨g210,0,none⟩) ps.length 1,.slice (some ⟨e193,0,none⟩) 0 3],false⟩:=e231
     have q232:=k230.at f227 (ne_of' n221 w214)
     have q233:=k230.at f226 (ne_of' n221 f218)
     have q234:=k230.at f225 (ne_of' n221 f217)
     have S235:Sub τ T229:=k230.sub S228 z224
     simp -implicitDefEqProofs(disch:=omega)only[Nat.reduceEqDiff,↓reduceIte,vcu,↓vcd]
     refine⟨keep_of rfl (fun p hp=>by simp only[List.mem_singleton] at hp;subst hp;exact .inr S235),?_⟩
     refine tree_stop ?_
     exact⟨by first|trivial|rfl,g210,e193,h219,by first|trivial|rfl|simp -implicitDefEqProofs(disch:=omega)only[Nat.reduceEqDiff,↓reduceIte,vcu,↓vcd],by first|trivial|rfl|simp -implicitDefEqProofs(disch:=omega)only[Nat.reduceEqDiff,↓reduceIte,vcu,↓vcd],S235,e231,q232,q233,z215,z198⟩
    ·try simp -implicitDefEqProofs(disch:=omega)only[Nat.reduceEqDiff,↓reduceIte,vcu,↓vcd]
     refine r_new ze33 fun h236 T237 n238 s239 e240=>?_
     replace e240:T237 h236=some ⟨[.int .i64 0,.int .i64 0,.int .i64 0,.slice none 0 0,.slice none 0 0],false⟩:=e240
     simp -implicitDefEqProofs(disch:=omega)only[Nat.reduceEqDiff,↓reduceIte,vcu,↓vcd]
     have z241:=free_sub S209 n238
     have f242:=s239 _ _ f207
     have f243:=s239 _ _ f208
     have f244:=s239 _ _ v205
     have S245:=S209.trans s239
     refine⟨keep_of rfl (fun p hp=>by simp only[List.mem_singleton] at hp;subst hp;exact .inr S245),?_⟩
     refine tree_one rfl ?_
     try simp -implicitDefEqProofs(disch:=omega)only[Nat.reduceEqDiff,↓reduceIte,vcu,↓vcd]
     refine r_pushXV (g:=e201) (len:=0) (xs:=[]) (ys:=ps) el30 om9 sl30 z9q f244 rfl (by simp -implicitDefEqProofs(disch:=omega)only[Nat.reduceEqDiff,↓reduceIte,vcu,↓vcd];exact t1.sub S245) om9 fun g246 T247 n248 k249 w250=>?_
     rw[List.nil_append] at w250
     simp -implicitDefEqProofs(disch:=omega)only[Nat.reduceEqDiff,↓reduceIte,vcu,↓vcd,Nat.zero_add]
     have z251:=free_sub S245 n248
     have S252:=k249.sub S245 z206
     have f253:=k249.at f242 (ne_of' n203 f199)
     have f254:=k249.at f243 (ne_of' n203 v197)
     have f255:=k249.at e240 (ne_of n238 v205)
     refine⟨keep_of rfl (fun p hp=>by simp only[List.mem_singleton] at hp;subst hp;exact .inr S252),?_⟩
     refine tree_quiets _ _ _ _ sf0 kr9 kr9 ?_
     simp -implicitDefEqProofs(disch:=omega)only[Nat.reduceEqDiff,↓reduceIte,vcu,↓vcd,vcp]
     rw[r_build]
     refine⟨(_,#[.int .i64 O,.int .i64 E,.int .i64 M,.slice (some ⟨g246,0,none⟩) ps.length 1,.slice (some ⟨e193,0,none⟩) 0 3]),⟨ze33,by simp -implicitDefEqProofs(disch:=omega)only[Nat.reduceEqDiff,↓reduceIte,vcu,↓vcd];kernel_rfl⟩,?_⟩
     try simp -implicitDefEqProofs(disch:=omega)only[Nat.reduceEqDiff,↓reduceIte,vcu,↓vcd]
     refine tree_one rfl ?_
     refine r_sets (g:=h236) (i:=0) (C:=[.int .i64 0,.int .i64 0,.int .i64 0,.slice none 0 0,.slice none 0 0]) z9q z9co33 z9r z9z f255 z9l fun T256 k257 e258=>?_
     replace e258:T256 h236=some ⟨[.int .i64 O,.int .i64 E,.int .i64 M,.slice (some ⟨g246,0,none⟩) ps.length 1,.slice (some ⟨e193,0,none⟩) 0 3],false⟩:=e258
     have q259:=k257.at w250 (ne_of n248 e240)
     have q260:=k257.at f254 (ne_of' n238 f208)
     have q261:=k257.at f253 (ne_of' n238 f207)
     have S262:Sub τ T256:=k257.sub S252 z241
     simp -implicitDefEqProofs(disch:=omega)only[Nat.reduceEqDiff,↓reduceIte,vcu,↓vcd]
     refine⟨keep_of rfl (fun p hp=>by simp only[List.mem_singleton] at hp;subst hp;exact .inr S262),?_⟩
     refine tree_stop ?_
     exact⟨by first|trivial|rfl,g246,e193,h236,by first|trivial|rfl|simp -implicitDefEqProofs(disch:=omega)only[Nat.reduceEqDiff,↓reduceIte,vcu,↓vcd],by first|trivial|rfl|simp -implicitDefEqProofs(disch:=omega)only[Nat.reduceEqDiff,↓reduceIte,vcu,↓vcd],S262,e258,q259,q260,z251,z198⟩
   ·try simp -implicitDefEqProofs(disch:=omega)only[Nat.reduceEqDiff,↓reduceIte,vcu,↓vcd]
    refine r_new ze33 fun h263 T264 n265 s266 e267=>?_
    replace e267:T264 h263=some ⟨[.int .i64 0,.int .i64 0,.int .i64 0,.slice none 0 0,.slice none 0 0],false⟩:=e267
    simp -implicitDefEqProofs(disch:=omega)only[Nat.reduceEqDiff,↓reduceIte,vcu,↓vcd]
    have z268:=free_sub S200 n265
    have f269:=s266 _ _ f199
    have f270:=s266 _ _ v197
    have S271:=S200.trans s266
    refine⟨keep_of rfl (fun p hp=>by simp only[List.mem_singleton] at hp;subst hp;exact .inr S271),?_⟩
    refine tree_one rfl ?_
    try simp -implicitDefEqProofs(disch:=omega)only[Nat.reduceEqDiff,↓reduceIte,vcu,↓vcd]
    refine r_lit el30 (out:=#[]) kr9 kr9 fun e272 T273 n274 s275 v276=>?_
    replace v276:T273 e272=some ⟨texts [],false⟩:=v276
    simp -implicitDefEqProofs(disch:=omega)only[Nat.reduceEqDiff,↓reduceIte,vcu,↓vcd]
    have z277:=free_sub S271 n274
    have f278:=s275 _ _ f269
    have f279:=s275 _ _ f270
    have f280:=s275 _ _ e267
    have S281:=S271.trans s275
    refine⟨keep_of rfl (fun p hp=>by simp only[List.mem_singleton] at hp;subst hp;exact .inr S281),?_⟩
    refine tree_one rfl ?_
    try simp -implicitDefEqProofs(disch:=omega)only[Nat.reduceEqDiff,↓reduceIte,vcu,↓vcd]
    refine r_pushXV (g:=e272) (len:=0) (xs:=[]) (ys:=ps) el30 om9 sl30 z9q v276 rfl (by simp -implicitDefEqProofs(disch:=omega)only[Nat.reduceEqDiff,↓reduceIte,vcu,↓vcd];exact t1.sub S281) om9 fun g282 T283 n284 k285 w286=>?_
    rw[List.nil_append] at w286
    simp -implicitDefEqProofs(disch:=omega)only[Nat.reduceEqDiff,↓reduceIte,vcu,↓vcd,Nat.zero_add]
    have z287:=free_sub S281 n284
    have S288:=k285.sub S281 z277
    have f289:=k285.at f278 (ne_of' n274 f269)
    have f290:=k285.at f279 (ne_of' n274 f270)
    have f291:=k285.at f280 (ne_of' n274 e267)
    refine⟨keep_of rfl (fun p hp=>by simp only[List.mem_singleton] at hp;subst hp;exact .inr S288),?_⟩
    refine tree_quiets _ _ _ _ sf0 kr9 kr9 ?_
    simp -implicitDefEqProofs(disch:=omega)only[Nat.reduceEqDiff,↓reduceIte,vcu,↓vcd,vcp]
    rw[r_build]
    refine⟨(_,#[.int .i64 O,.int .i64 E,.int .i64 M,.slice (some ⟨g282,0,none⟩) ps.length 1,.slice (some ⟨e193,0,none⟩) 0 3]),⟨ze33,by simp -implicitDefEqProofs(disch:=omega)only[Nat.reduceEqDiff,↓reduceIte,vcu,↓vcd];kernel_rfl⟩,?_⟩
    try simp -implicitDefEqProofs(disch:=omega)only[Nat.reduceEqDiff,↓reduceIte,vcu,↓vcd]
    refine tree_one rfl ?_
    refine r_sets (g:=h263) (i:=0) (C:=[.int .i64 0,.int .i64 0,.int .i64 0,.slice none 0 0,.slice none 0 0]) z9q z9co33 z9r z9z f291 z9l fun T292 k293 e294=>?_
    replace e294:T292 h263=some ⟨[.int .i64 O,.int .i64 E,.int .i64 M,.slice (some ⟨g282,0,none⟩) ps.length 1,.slice (some ⟨e193,0,none⟩) 0 3],false⟩:=e294
    have q295:=k293.at w286 (ne_of n284 f280)
    have q296:=k293.at f290 (ne_of' n265 v197)
    have q297:=k293.at f289 (ne_of' n265 f199)
    have S298:Sub τ T292:=k293.sub S288 z268
    simp -implicitDefEqProofs(disch:=omega)only[Nat.reduceEqDiff,↓reduceIte,vcu,↓vcd]
    refine⟨keep_of rfl (fun p hp=>by simp only[List.mem_singleton] at hp;subst hp;exact .inr S298),?_⟩
    refine tree_stop ?_
    exact⟨by first|trivial|rfl,g282,e193,h263,by first|trivial|rfl|simp -implicitDefEqProofs(disch:=omega)only[Nat.reduceEqDiff,↓reduceIte,vcu,↓vcd],by first|trivial|rfl|simp -implicitDefEqProofs(disch:=omega)only[Nat.reduceEqDiff,↓reduceIte,vcu,↓vcd],S298,e294,q295,q296,z287,z198⟩
  ·try simp -implicitDefEqProofs(disch:=omega)only[Nat.reduceEqDiff,↓reduceIte,vcu,↓vcd]
   refine r_new ze33 fun h299 T300 n301 s302 e303=>?_
   replace e303:T300 h299=some ⟨[.int .i64 0,.int .i64 0,.int .i64 0,.slice none 0 0,.slice none 0 0],false⟩:=e303
   simp -implicitDefEqProofs(disch:=omega)only[Nat.reduceEqDiff,↓reduceIte,vcu,↓vcd]
   have z304:=free_sub (Sub.refl τ) n301
   have f305:=s302 _ _ e2
   have S306:=(Sub.refl τ).trans s302
   refine⟨keep_of rfl (fun p hp=>by simp only[List.mem_singleton] at hp;subst hp;exact .inr S306),?_⟩
   refine tree_two rfl rfl ?_ ?_
   ·try simp -implicitDefEqProofs(disch:=omega)only[Nat.reduceEqDiff,↓reduceIte,vcu,↓vcd]
    refine r_lit el30 (out:=#[]) kr9 kr9 fun e307 T308 n309 s310 v311=>?_
    replace v311:T308 e307=some ⟨texts [],false⟩:=v311
    simp -implicitDefEqProofs(disch:=omega)only[Nat.reduceEqDiff,↓reduceIte,vcu,↓vcd]
    have z312:=free_sub S306 n309
    have f313:=s310 _ _ f305
    have f314:=s310 _ _ e303
    have S315:=S306.trans s310
    refine⟨keep_of rfl (fun p hp=>by simp only[List.mem_singleton] at hp;subst hp;exact .inr S315),?_⟩
    refine tree_two rfl rfl ?_ ?_
    ·try simp -implicitDefEqProofs(disch:=omega)only[Nat.reduceEqDiff,↓reduceIte,vcu,↓vcd]
     refine r_pushXV (g:=e307) (len:=0) (xs:=[]) (ys:=ps) el30 om9 sl30 z9q v311 rfl (by simp -implicitDefEqProofs(disch:=omega)only[Nat.reduceEqDiff,↓reduceIte,vcu,↓vcd];exact t1.sub S315) om9 fun g316 T317 n318 k319 w320=>?_
     rw[List.nil_append] at w320
     simp -implicitDefEqProofs(disch:=omega)only[Nat.reduceEqDiff,↓reduceIte,vcu,↓vcd,Nat.zero_add]
     have z321:=free_sub S315 n318
     have S322:=k319.sub S315 z312
     have f323:=k319.at f313 (ne_of' n309 f305)
     have f324:=k319.at f314 (ne_of' n309 e303)
     refine⟨keep_of rfl (fun p hp=>by simp only[List.mem_singleton] at hp;subst hp;exact .inr S322),?_⟩
     refine tree_one rfl ?_
     try simp -implicitDefEqProofs(disch:=omega)only[Nat.reduceEqDiff,↓reduceIte,vcu,↓vcd]
     refine r_lit el31 (out:=#[]) kr9 kr9 fun e325 T326 n327 s328 v329=>?_
     replace v329:T326 e325=some ⟨tris [],false⟩:=v329
     simp -implicitDefEqProofs(disch:=omega)only[Nat.reduceEqDiff,↓reduceIte,vcu,↓vcd]
     have z330:=free_sub S322 n327
     have f331:=s328 _ _ f323
     have f332:=s328 _ _ f324
     have f333:=s328 _ _ w320
     have S334:=S322.trans s328
     refine⟨keep_of rfl (fun p hp=>by simp only[List.mem_singleton] at hp;subst hp;exact .inr S334),?_⟩
     refine tree_quiets _ _ _ _ sf0 kr9 kr9 ?_
     simp -implicitDefEqProofs(disch:=omega)only[Nat.reduceEqDiff,↓reduceIte,vcu,↓vcd,vcp]
     rw[r_build]
     refine⟨(_,#[.int .i64 O,.int .i64 E,.int .i64 M,.slice (some ⟨g316,0,none⟩) ps.length 1,.slice (some ⟨e325,0,none⟩) 0 3]),⟨ze33,by simp -implicitDefEqProofs(disch:=omega)only[Nat.reduceEqDiff,↓reduceIte,vcu,↓vcd];kernel_rfl⟩,?_⟩
     try simp -implicitDefEqProofs(disch:=omega)only[Nat.reduceEqDiff,↓reduceIte,vcu,↓vcd]
     refine tree_one rfl ?_
     refine r_sets (g:=h299) (i:=0) (C:=[.int .i64 0,.int .i64 0,.int .i64 0,.slice none 0 0,.slice none 0 0]) z9q z9co33 z9r z9z f332 z9l fun T335 k336 e337=>?_
     replace e337:T335 h299=some ⟨[.int .i64 O,.int .i64 E,.int .i64 M,.slice (some ⟨g316,0,none⟩) ps.length 1,.slice (some ⟨e325,0,none⟩) 0 3],false⟩:=e337
     have q338:=k336.at f333 (ne_of n318 f314)
     have q339:=k336.at v329 (ne_of n327 f324)
     have q340:=k336.at f331 (ne_of' n301 e2)
     have S341:Sub τ T335:=k336.sub S334 z304
     simp -implicitDefEqProofs(disch:=omega)only[Nat.reduceEqDiff,↓reduceIte,vcu,↓vcd]
     refine⟨keep_of rfl (fun p hp=>by simp only[List.mem_singleton] at hp;subst hp;exact .inr S341),?_⟩
     refine tree_stop ?_
     exact⟨by first|trivial|rfl,g316,e325,h299,by first|trivial|rfl|simp -implicitDefEqProofs(disch:=omega)only[Nat.reduceEqDiff,↓reduceIte,vcu,↓vcd],by first|trivial|rfl|simp -implicitDefEqProofs(disch:=omega)only[Nat.reduceEqDiff,↓reduceIte,vcu,↓vcd],S341,e337,q338,q339,z321,z330⟩
    ·try simp -implicitDefEqProofs(disch:=omega)only[Nat.reduceEqDiff,↓reduceIte,vcu,↓vcd]
     refine r_lit el31 (out:=#[]) kr9 kr9 fun e342 T343 n344 s345 v346=>?_
     replace v346:T343 e342=some ⟨tris [],false⟩:=v346
     simp -implicitDefEqProofs(disch:=omega)only[Nat.reduceEqDiff,↓reduceIte,vcu,↓vcd]
     have z347:=free_sub S315 n344
     have f348:=s345 _ _ f313
     have f349:=s345 _ _ f314
     have f350:=s345 _ _ v311
     have S351:=S315.trans s345
     refine⟨keep_of rfl (fun p hp=>by simp only[List.mem_singleton] at hp;subst hp;exact .inr S351),?_⟩
     refine tree_one rfl ?_
     try simp -implicitDefEqProofs(disch:=omega)only[Nat.reduceEqDiff,↓reduceIte,vcu,↓vcd]
     refine r_pushXV (g:=e307) (len:=0) (xs:=[]) (ys:=ps) el30 om9 sl30 z9q f350 rfl (by simp -implicitDefEqProofs(disch:=omega)only[Nat.reduceEqDiff,↓reduceIte,vcu,↓vcd];exact t1.sub S351) om9 fun g352 T353 n354 k355 w356=>?_
     rw[List.nil_append] at w356
     simp -implicitDefEqProofs(disch:=omega)only[Nat.reduceEqDiff,↓reduceIte,vcu,↓vcd,Nat.zero_add]
     have z357:=free_sub S351 n354
     have S358:=k355.sub S351 z312
     have f359:=k355.at f348 (ne_of' n309 f305)
     have f360:=k355.at f349 (ne_of' n309 e303)
     have f361:=k355.at v346 (ne_of n344 v311)
     refine⟨keep_of rfl (fun p hp=>by simp only[List.mem_singleton] at hp;subst hp;exact .inr S358),?_⟩
     refine tree_quiets _ _ _ _ sf0 kr9 kr9 ?_
     simp -implicitDefEqProofs(disch:=omega)only[Nat.reduceEqDiff,↓reduceIte,vcu,↓vcd,vcp]
     rw[r_build]
     refine⟨(_,#[.int .i64 O,.int .i64 E,.int .i64 M,.slice (some ⟨g352,0,none⟩) ps.length 1,.slice (some ⟨e342,0,none⟩) 0 3]),⟨ze33,by simp -implicitDefEqProofs(disch:=omega)only[Nat.reduceEqDiff,↓reduceIte,vcu,↓vcd];kernel_rfl⟩,?_⟩
     try simp -implicitDefEqProofs(disch:=omega)only[Nat.reduceEqDiff,↓reduceIte,vcu,↓vcd]
     refine tree_one rfl ?_
     refine r_sets (g:=h299) (i:=0) (C:=[.int .i64 0,.int .i64 0,.int .i64 0,.slice none 0 0,.slice none 0 0]) z9q z9co33 z9r z9z f360 z9l fun T362 k363 e364=>?_
     replace e364:T362 h299=some ⟨[.int .i64 O,.int .i64 E,.int .i64 M,.slice (some ⟨g352,0,none⟩) ps.length 1,.slice (some ⟨e342,0,none⟩) 0 3],false⟩:=e364
     have q365:=k363.at w356 (ne_of n354 f349)
     have q366:=k363.at f361 (ne_of n344 f314)
     have q367:=k363.at f359 (ne_of' n301 e2)
     have S368:Sub τ T362:=k363.sub S358 z304
     simp -implicitDefEqProofs(disch:=omega)only[Nat.reduceEqDiff,↓reduceIte,vcu,↓vcd]
     refine⟨keep_of rfl (fun p hp=>by simp only[List.mem_singleton] at hp;subst hp;exact .inr S368),?_⟩
     refine tree_stop ?_
     exact⟨by first|trivial|rfl,g352,e342,h299,by first|trivial|rfl|simp -implicitDefEqProofs(disch:=omega)only[Nat.reduceEqDiff,↓reduceIte,vcu,↓vcd],by first|trivial|rfl|simp -implicitDefEqProofs(disch:=omega)only[Nat.reduceEqDiff,↓reduceIte,vcu,↓vcd],S368,e364,q365,q366,z357,z347⟩
   ·try simp -implicitDefEqProofs(disch:=omega)only[Nat.reduceEqDiff,↓reduceIte,vcu,↓vcd]
    refine r_lit el31 (out:=#[]) kr9 kr9 fun e369 T370 n371 s372 v373=>?_
    replace v373:T370 e369=some ⟨tris [],false⟩:=v373
    simp -implicitDefEqProofs(disch:=omega)only[Nat.reduceEqDiff,↓reduceIte,vcu,↓vcd]
    have z374:=free_sub S306 n371
    have f375:=s372 _ _ f305
    have f376:=s372 _ _ e303
    have S377:=S306.trans s372
    refine⟨keep_of rfl (fun p hp=>by simp only[List.mem_singleton] at hp;subst hp;exact .inr S377),?_⟩
    refine tree_one rfl ?_
    try simp -implicitDefEqProofs(disch:=omega)only[Nat.reduceEqDiff,↓reduceIte,vcu,↓vcd]
    refine r_lit el30 (out:=#[]) kr9 kr9 fun e378 T379 n380 s381 v382=>?_
    replace v382:T379 e378=some ⟨texts [],false⟩:=v382
    simp -implicitDefEqProofs(disch:=omega)only[Nat.reduceEqDiff,↓reduceIte,vcu,↓vcd]
    have z383:=free_sub S377 n380
    have f384:=s381 _ _ f375
    have f385:=s381 _ _ f376
    have f386:=s381 _ _ v373
    have S387:=S377.trans s381
    refine⟨keep_of rfl (fun p hp=>by simp only[List.mem_singleton] at hp;subst hp;exact .inr S387),?_⟩
    refine tree_one rfl ?_
    try simp -implicitDefEqProofs(disch:=omega)only[Nat.reduceEqDiff,↓reduceIte,vcu,↓vcd]
    refine r_pushXV (g:=e378) (len:=0) (xs:=[]) (ys:=ps) el30 om9 sl30 z9q v382 rfl (by simp -implicitDefEqProofs(disch:=omega)only[Nat.reduceEqDiff,↓reduceIte,vcu,↓vcd];exact t1.sub S387) om9 fun g388 T389 n390 k391 w392=>?_
    rw[List.nil_append] at w392
    simp -implicitDefEqProofs(disch:=omega)only[Nat.reduceEqDiff,↓reduceIte,vcu,↓vcd,Nat.zero_add]
    have z393:=free_sub S387 n390
    have S394:=k391.sub S387 z383
    have f395:=k391.at f384 (ne_of' n380 f375)
    have f396:=k391.at f385 (ne_of' n380 f376)
    have f397:=k391.at f386 (ne_of' n380 v373)
    refine⟨keep_of rfl (fun p hp=>by simp only[List.mem_singleton] at hp;subst hp;exact .inr S394),?_⟩
    refine tree_quiets _ _ _ _ sf0 kr9 kr9 ?_
    simp -implicitDefEqProofs(disch:=omega)only[Nat.reduceEqDiff,↓reduceIte,vcu,↓vcd,vcp]
    rw[r_build]
    refine⟨(_,#[.int .i64 O,.int .i64 E,.int .i64 M,.slice (some ⟨g388,0,none⟩) ps.length 1,.slice (some ⟨e369,0,none⟩) 0 3]),⟨ze33,by simp -implicitDefEqProofs(disch:=omega)only[Nat.reduceEqDiff,↓reduceIte,vcu,↓vcd];kernel_rfl⟩,?_⟩
    try simp -implicitDefEqProofs(disch:=omega)only[Nat.reduceEqDiff,↓reduceIte,vcu,↓vcd]
    refine tree_one rfl ?_
    refine r_sets (g:=h299) (i:=0) (C:=[.int .i64 0,.int .i64 0,.int .i64 0,.slice none 0 0,.slice none 0 0]) z9q z9co33 z9r z9z f396 z9l fun T398 k399 e400=>?_
    replace e400:T398 h299=some ⟨[.int .i64 O,.int .i64 E,.int .i64 M,.slice (some ⟨g388,0,none⟩) ps.length 1,.slice (some ⟨e369,0,none⟩) 0 3],false⟩:=e400
    have q401:=k399.at w392 (ne_of n390 f385)
    have q402:=k399.at f397 (ne_of n371 e303)
    have q403:=k399.at f395 (ne_of' n301 e2)
    have S404:Sub τ T398:=k399.sub S394 z304
    simp -implicitDefEqProofs(disch:=omega)only[Nat.reduceEqDiff,↓reduceIte,vcu,↓vcd]
    refine⟨keep_of rfl (fun p hp=>by simp only[List.mem_singleton] at hp;subst hp;exact .inr S404),?_⟩
    refine tree_stop ?_
    exact⟨by first|trivial|rfl,g388,e369,h299,by first|trivial|rfl|simp -implicitDefEqProofs(disch:=omega)only[Nat.reduceEqDiff,↓reduceIte,vcu,↓vcd],by first|trivial|rfl|simp -implicitDefEqProofs(disch:=omega)only[Nat.reduceEqDiff,↓reduceIte,vcu,↓vcd],S404,e400,q401,q402,z393,z374⟩
 ·rintro _ a τ' ⟨rfl,g1,g2,h5,q5,q4,S,f5,w1,w2,z1,z3⟩
  have f4:=S _ _ e2
  have l5:lds τ' h5 0 5=some [.int .i64 O,.int .i64 E,.int .i64 M,.slice (some ⟨g1,0,none⟩) ps.length 1,.slice (some ⟨g2,0,none⟩) 0 3]:=by rw[lds_of f5 (by simp)];rfl
  have hX:OwnX σ τ' (exV (.slice (some ⟨g1,0,none⟩) ps.length 1) (.slice (some ⟨g2,0,none⟩) 0 3) ⟨⟨O,E,M⟩,ps,[]⟩) ⟨⟨O,E,M⟩,ps,[]⟩ :=
   ⟨_,_,rfl,.inr ⟨g1,rfl,w1,free_sub s12 z1⟩,.inr ⟨g2,rfl,w2,free_sub s12 z3⟩⟩
  have hval:=exVal_calls (w0:=w0) τ' _ _ hX.ex ⟨b1,b2,by simp⟩
  unfold exV at hval
  dsimp only at hval
  simp -implicitDefEqProofs(disch:=omega)only[Nat.reduceEqDiff,↓reduceIte,vcu,↓vcd,q4,q5,l5,co33]
  refine hval.mono ?_
  rintro _ _ ⟨rfl,rfl⟩
  rename_i τ'
  have d1:g1≠h4:=ne_of z1 e2
  have d2:g2≠h4:=ne_of z3 e2
  by_cases hok:ExOk ⟨⟨O,E,M⟩,ps,[]⟩
  ·rw[decide_eq_true hok]
   have hV:newX ⟨O,E,M⟩ ps=⟨⟨O,E,M⟩,ps,[]⟩:=if_pos hok
   simp -implicitDefEqProofs(disch:=omega)only[Nat.reduceEqDiff,↓reduceIte,vcu,↓vcd,opK_some,q4,q5,l5,co33,Bool.not_true]
   refine r_sets (g:=h4) (i:=0) (C:=[.int .i64 0,.int .i64 0,.int .i64 0,.slice none 0 0,.slice none 0 0]) (by simp -implicitDefEqProofs(disch:=omega)only[Nat.reduceEqDiff,↓reduceIte,vcu,↓vcd,q4]) z9co33 z9r z9z f4 z9l fun τ9 k9 e9=>?_
   replace e9:τ9 h4=some ⟨[.int .i64 O,.int .i64 E,.int .i64 M,.slice (some ⟨g1,0,none⟩) ps.length 1,.slice (some ⟨g2,0,none⟩) 0 3],false⟩:=e9
   have l9:lds τ9 h4 0 5=some [.int .i64 O,.int .i64 E,.int .i64 M,.slice (some ⟨g1,0,none⟩) ps.length 1,.slice (some ⟨g2,0,none⟩) 0 3]:=by rw[lds_of e9 (by simp)];rfl
   simp -implicitDefEqProofs(disch:=omega)only[Nat.reduceEqDiff,↓reduceIte,vcu,↓vcd,q4]
   refine fin_cell Tryz.results72 τ9 (Sub.refl _) (v:=exV (.slice (some ⟨g1,0,none⟩) ps.length 1) (.slice (some ⟨g2,0,none⟩) 0 3) ⟨⟨O,E,M⟩,ps,[]⟩) (by simp -implicitDefEqProofs(disch:=omega)only[Nat.reduceEqDiff,↓reduceIte,vcu,↓vcd,q4,l9,co33];rfl) ⟨k9.sub (s12.trans S) z2,?_⟩
   rw[hV]
   exact⟨_,_,rfl,.inr ⟨g1,rfl,k9.at w1 d1,free_sub s12 z1⟩,.inr ⟨g2,rfl,k9.at w2 d2,free_sub s12 z3⟩⟩
  ·rw[decide_eq_false hok]
   have hV:newX ⟨O,E,M⟩ ps=ex0:=if_neg hok
   simp -implicitDefEqProofs(disch:=omega)only[Nat.reduceEqDiff,↓reduceIte,vcu,↓vcd,opK_some,q4,Bool.not_false]
   rw[r_build]
   refine⟨(_,#[.int .i64 0,.int .i64 0,.int .i64 0,.slice none 0 0,.slice none 0 0]),⟨ze33,by first|kernel_rfl | (simp -implicitDefEqProofs(disch:=omega)only[Nat.reduceEqDiff,↓reduceIte,vcu,↓vcd];kernel_rfl)⟩,?_⟩
   simp -implicitDefEqProofs(disch:=omega)only[Nat.reduceEqDiff,↓reduceIte,vcu,↓vcd]
   refine r_sets (g:=h4) (i:=0) (C:=[.int .i64 0,.int .i64 0,.int .i64 0,.slice none 0 0,.slice none 0 0]) (by simp -implicitDefEqProofs(disch:=omega)only[Nat.reduceEqDiff,↓reduceIte,vcu,↓vcd,q4]) z9co33 z9r z9z f4 z9l fun τ9 k9 e9=>?_
   replace e9:τ9 h4=some ⟨[.int .i64 0,.int .i64 0,.int .i64 0,.slice none 0 0,.slice none 0 0],false⟩:=e9
   have l9:lds τ9 h4 0 5=some [.int .i64 0,.int .i64 0,.int .i64 0,.slice none 0 0,.slice none 0 0]:=by rw[lds_of e9 (by simp)];rfl
   simp -implicitDefEqProofs(disch:=omega)only[Nat.reduceEqDiff,↓reduceIte,vcu,↓vcd,q4]
   refine fin_cell Tryz.results72 τ9 (Sub.refl _) (v:=exV (.slice none 0 0) (.slice none 0 0) ex0) (by simp -implicitDefEqProofs(disch:=omega)only[Nat.reduceEqDiff,↓reduceIte,vcu,↓vcd,q4,l9,co33];rfl) ⟨k9.sub (s12.trans S) z2,?_⟩
   rw[hV]
   exact⟨_,_,rfl,.inl ⟨rfl,rfl⟩,.inl ⟨rfl,rfl⟩⟩
end Go.Proofs.YtofdnmlpfagibaaGreatDoor
namespace Go.Proofs.YtofdnmlpfagibaaGreatDoor
open Go Go.Abs Go.RowKit Go.Clos
variable {w0:World}
set_option maxRecDepth 8000 in
theorem specBusy_at (σ:AHeap) (h o:Nat) (cs:List Cl) (I O:Int) (hv:TrisAt σ h o cs) (hl:cs.length≤1048576) :
  ACall Tryz.prog w0 116 [.slice (some ⟨h,o,none⟩) cs.length 3,.int .i64 I,.int .i64 O] σ fun r σ'=>r=.bool (decide (Busy cs I O))∧σ'=σ:=by
 refine acall_go mixed Tryz.func116 rfl good116 fun pr=>?_
 simp -implicitDefEqProofs(disch:=omega)only[Nat.reduceEqDiff,↓reduceIte,vcu,↓vcd]
 refine vc_loop_c mixed kr9 [0,1,2] (fun m a τ=>∃k:Nat,m+k=cs.length∧a 7=.int .i64 k∧τ=σ∧∀c∈cs.take k,c.i≠I∧c.o≠O) cs.length ⟨0,by simp,rfl,rfl,by simp⟩ ?_
 rintro m a τ hc ⟨k,hk,h7,rfl,hN⟩
 simp -implicitDefEqProofs(disch:=omega)only[Nat.reduceEqDiff,↓reduceIte,vcu,↓vcd] at hc
 obtain⟨h0,h1,h2,-⟩:=hc
 by_cases hlt:k < cs.length
 case neg =>
  obtain rfl:k=cs.length:=by omega
  rw[List.take_length] at hN
  rw[decide_eq_false (fun hB:Busy cs I O=>by obtain⟨c,hc,e⟩:=hB;exact e.elim (hN c hc).1 (hN c hc).2)]
  simp -implicitDefEqProofs(disch:=omega)only[Nat.reduceEqDiff,↓reduceIte,vcu,↓vcd,h0,h1,h2,h7]
  refine fin_one Tryz.results116 ⟨?_,rfl⟩
  simp -implicitDefEqProofs(disch:=omega)only[Nat.reduceEqDiff,↓reduceIte,vcu,↓vcd]
 obtain⟨x1,x2,-⟩:=hv k hlt
 have hm:=gc_mem hlt
 have ht:=take_gc hlt
 have hgk:cs.getD k cl0=gc cs k:=rfl
 rw[hgk] at x1 x2
 generalize gc cs k=c at x1 x2 hm ht
 by_cases c1:c.i=I
 ·rw[decide_eq_true (show Busy cs I O from ⟨c,hm,.inl c1⟩)]
  simp -implicitDefEqProofs(disch:=omega)only[Nat.reduceEqDiff,↓reduceIte,vcu,↓vcd,h0,h1,h2,h7,x1,x2,Nat.add_zero]
  refine fin_one Tryz.results116 ⟨?_,rfl⟩
  simp -implicitDefEqProofs(disch:=omega)only[Nat.reduceEqDiff,↓reduceIte,vcu,↓vcd]
 by_cases c2:c.o=O
 ·rw[decide_eq_true (show Busy cs I O from ⟨c,hm,.inr c2⟩)]
  simp -implicitDefEqProofs(disch:=omega)only[Nat.reduceEqDiff,↓reduceIte,vcu,↓vcd,h0,h1,h2,h7,x1,x2,Nat.add_zero]
  refine fin_one Tryz.results116 ⟨?_,rfl⟩
  simp -implicitDefEqProofs(disch:=omega)only[Nat.reduceEqDiff,↓reduceIte,vcu,↓vcd]
 simp -implicitDefEqProofs(disch:=omega)only[Nat.reduceEqDiff,↓reduceIte,vcu,↓vcd,h0,h1,h2,h7,x1,x2,Nat.add_zero]
 refine⟨⟨trivial,trivial,trivial,trivial⟩,m - 1,by omega,k+1,by omega,by simp,trivial,fun d hd=>?_⟩
 rw[ht] at hd
 rcases List.mem_append.1 hd with hd|hd
 ·exact hN d hd
 ·rw[List.mem_singleton] at hd;subst hd;exact⟨c1,c2⟩
set_option maxRecDepth 8000 in
theorem specFirst_at (σ:AHeap) (O E M:Int) (g p:Nat) (used:List Int) (hv:IntsAt .i64 σ g p used) (hl:used.length≤1048576) (hM:0≤M∧M≤5) :
  ACall Tryz.prog w0 118 [.agg #[.int .i64 O,.int .i64 E,.int .i64 M],.slice (some ⟨g,p,none⟩) used.length 1] σ fun r σ'=>r=.int .i64 (firstN used M.toNat 0)∧σ'=σ:=by
 refine acall_go mixed Tryz.func118 rfl good118 fun pr=>?_
 simp -implicitDefEqProofs(disch:=omega)only[Nat.reduceEqDiff,↓reduceIte,vcu,↓vcd]
 refine r_boxed fun b τ nb s1 e1=>?_
 replace e1:τ b=some ⟨[.int .i64 O,.int .i64 E,.int .i64 M],false⟩:=e1
 have lM:ld τ b (0+2)=some (.int .i64 M):=ld_of e1 rfl
 simp -implicitDefEqProofs(disch:=omega)only[Nat.reduceEqDiff,↓reduceIte,vcu,↓vcd]
 refine vc_loop_c mixed kr9 [1,2] (fun m a τ'=>∃k:Nat,m+k=M.toNat∧a 5=.int .i64 k∧τ'=τ∧firstN used M.toNat 0=firstN used m k) M.toNat ⟨0,by simp,rfl,rfl,rfl⟩ ?_
 rintro m a τ2 hc ⟨k,hk,h5,rfl,hf⟩
 simp -implicitDefEqProofs(disch:=omega)only[Nat.reduceEqDiff,↓reduceIte,vcu,↓vcd] at hc
 obtain⟨h1,h2,-⟩:=hc
 by_cases hlt:k < M.toNat
 case neg =>
  obtain rfl:m=0:=by omega
  simp -implicitDefEqProofs(disch:=omega)only[Nat.reduceEqDiff,↓reduceIte,vcu,↓vcd,h1,h2,h5,lM]
  refine fin_drop Tryz.results118 σ s1 ⟨?_,rfl⟩
  simp -implicitDefEqProofs(disch:=omega)only[Nat.reduceEqDiff,↓reduceIte,vcu,↓vcd]
  rw[hf];rfl
 obtain⟨m2,rfl⟩:∃m2,m=m2+1:=⟨m - 1,by omega⟩
 rw[firstN_step] at hf
 simp -implicitDefEqProofs(disch:=omega)only[Nat.reduceEqDiff,↓reduceIte,vcu,↓vcd,h1,h2,h5,lM]
 refine (has_at τ2 g p used k (hv.sub s1) hl).mono ?_
 rintro r _ ⟨rfl,rfl⟩
 rename_i τ
 by_cases hu:(k:Int)∈used
 ·rw[if_pos hu] at hf
  rw[decide_eq_true hu]
  simp -implicitDefEqProofs(disch:=omega)only[Nat.reduceEqDiff,↓reduceIte,vcu,↓vcd,opK_some,Bool.not_true,h1,h2,h5]
  exact⟨⟨trivial,trivial,trivial⟩,m2,by omega,k+1,by omega,by simp,trivial,hf⟩
 ·rw[if_neg hu] at hf
  rw[decide_eq_false hu]
  simp -implicitDefEqProofs(disch:=omega)only[Nat.reduceEqDiff,↓reduceIte,vcu,↓vcd,opK_some,Bool.not_false,h1,h2,h5]
  refine fin_drop Tryz.results118 σ s1 ⟨?_,rfl⟩
  simp -implicitDefEqProofs(disch:=omega)only[Nat.reduceEqDiff,↓reduceIte,vcu,↓vcd]
  rw[hf]
set_option maxRecDepth 8000 in
theorem specUsedI_at (σ:AHeap) (s:Sp) (h o:Nat) (cs:List Cl) (x:Int) (hv:TrisAt σ h o cs) (hl:cs.length≤1048576) (hR:∀c∈cs,Rg s c) (hS:SV s) :
  ACall Tryz.prog w0 119 [.agg #[.int .i64 s.O,.int .i64 s.E,.int .i64 s.M],.slice (some ⟨h,o,none⟩) cs.length 3,.int .i64 x,.int .i64 0] σ fun r σ'=>Sub σ σ'∧OwnI σ σ' r (usedI s cs x):=by
 have hL:=hS.lines
 have hE:=hS.2.1
 have hlen:=fun k=>(used_length s (cs.take k) x).1
 have hlk:∀k,(cs.take k).length≤cs.length:=fun k=>by simp;omega
 refine acall_go mixed Tryz.func119 rfl good119 fun pr=>?_
 simp -implicitDefEqProofs(disch:=omega)only[Nat.reduceEqDiff,↓reduceIte,vcu,↓vcd]
 refine r_boxed fun b τ nb s1 e1=>?_
 replace e1:τ b=some ⟨[.int .i64 s.O,.int .i64 s.E,.int .i64 s.M],false⟩:=e1
 simp -implicitDefEqProofs(disch:=omega)only[Nat.reduceEqDiff,↓reduceIte,vcu,↓vcd]
 refine r_lit el88 (out:=#[]) kr9 kr9 fun e0 τ1 n1 s2 e2=>?_
 simp -implicitDefEqProofs(disch:=omega)only[Nat.reduceEqDiff,↓reduceIte,vcu,↓vcd]
 refine vc_loop_c mixed kr9 [1,2,3,4] (fun m a τ'=>∃(k g:Nat),m+k=cs.length∧a 10=.int .i64 k∧a 9=.slice (some ⟨g,0,none⟩) (usedI s (cs.take k) x).length 1∧Sub τ τ'∧τ' g=some ⟨ints .i64 (usedI s (cs.take k) x),false⟩∧τ g=none) cs.length ⟨0,e0,by simp,rfl,rfl,s2,e2,n1⟩ ?_
 rintro m a τ2 hc ⟨k,g,hk,h10,h9,hs,hg,hn⟩
 simp -implicitDefEqProofs(disch:=omega)only[Nat.reduceEqDiff,↓reduceIte,vcu,↓vcd] at hc
 obtain⟨h1,h2,h3,h4,-⟩:=hc
 by_cases hlt:k < cs.length
 case neg =>
  obtain rfl:k=cs.length:=by omega
  rw[List.take_length] at h9 hg
  simp -implicitDefEqProofs(disch:=omega)only[Nat.reduceEqDiff,↓reduceIte,vcu,↓vcd,h1,h2,h3,h4,h9,h10]
  refine fin_one Tryz.results119 ⟨s1.trans hs,.inr ⟨g,?_,hg,free_sub s1 hn⟩⟩
  simp -implicitDefEqProofs(disch:=omega)only[Nat.reduceEqDiff,↓reduceIte,vcu,↓vcd,h9]
 obtain⟨x1,x2,x3⟩:=((hv.sub s1).sub hs) k hlt
 have hm:=hR _ (gc_mem hlt)
 have ht:=usedI_take (s:=s) (x:=x) hlt
 have hl1:=hlen (k+1)
 have hl0:=hlen k
 have hk1:=hlk k
 have hgk:cs.getD k cl0=gc cs k:=rfl
 rw[hgk] at x1 x2 x3
 generalize gc cs k=c at x1 x2 x3 hm ht
 obtain⟨⟨a1,a2⟩,⟨a3,a4⟩,-⟩:=hm
 have lE:ld τ2 b (0+1)=some (.int .i64 s.E):=ld_of (hs _ _ e1) rfl
 by_cases ci:c.i / s.E=x
 ·rw[if_pos ci] at ht
  simp -implicitDefEqProofs(disch:=omega)only[Nat.reduceEqDiff,↓reduceIte,vcu,↓vcd,h1,h2,h3,h4,h10,x1,x2,x3,lE,Nat.add_zero]
  refine r_lit el88 (out:=#[.int .i64 c.v]) (by first|kernel_rfl | (simp -implicitDefEqProofs(disch:=omega)only[Nat.reduceEqDiff,↓reduceIte,vcu,↓vcd];kernel_rfl)) (by rfl) fun e3 τ3 n3 s3 v3=>?_
  simp -implicitDefEqProofs(disch:=omega)only[Nat.reduceEqDiff,↓reduceIte,vcu,↓vcd,h9]
  refine r_pushI (g:=g) (e:=e3) (o:=0) (k:=.i64) (xs:=usedI s (cs.take k) x) (ys:=[c.v]) (m:=1) (len:=(usedI s (cs.take k) x).length) el88 om9 sl88 (by simp -implicitDefEqProofs(disch:=omega)only[Nat.reduceEqDiff,↓reduceIte,vcu,↓vcd,h9]) (s3 _ _ hg) rfl z9q (intsAt_own v3) rfl om9 fun g6 τ6 n6 k6 v6=>?_
  rw[←ht] at v6
  have hle:(usedI s (cs.take k) x).length+1=(usedI s (cs.take (k+1)) x).length:=by rw[ht];simp
  simp -implicitDefEqProofs(disch:=omega)only[Nat.reduceEqDiff,↓reduceIte,vcu,↓vcd,h1,h2,h3,h4,h10,hle]
  exact⟨⟨trivial,trivial,trivial,trivial,trivial⟩,m - 1,by omega,k+1,g6,by omega,by simp,rfl,k6.sub (hs.trans s3) hn,v6,free_sub (hs.trans s3) n6⟩
 ·rw[if_neg ci,List.append_nil] at ht
  simp -implicitDefEqProofs(disch:=omega)only[Nat.reduceEqDiff,↓reduceIte,vcu,↓vcd,h1,h2,h3,h4,h10,x1,x2,x3,lE,Nat.add_zero]
  exact⟨⟨trivial,trivial,trivial,trivial,trivial⟩,m - 1,by omega,k+1,g,by omega,by simp,by rw[ht];exact h9,hs,by rw[ht];exact hg,hn⟩
set_option maxRecDepth 8000 in
theorem specUsedO_at (σ:AHeap) (s:Sp) (h o:Nat) (cs:List Cl) (x:Int) (hv:TrisAt σ h o cs) (hl:cs.length≤1048576) (hR:∀c∈cs,Rg s c) (hS:SV s) :
  ACall Tryz.prog w0 119 [.agg #[.int .i64 s.O,.int .i64 s.E,.int .i64 s.M],.slice (some ⟨h,o,none⟩) cs.length 3,.int .i64 x,.int .i64 1] σ fun r σ'=>Sub σ σ'∧OwnI σ σ' r (usedO s cs x):=by
 have hL:=hS.lines
 have hE:=hS.2.1
 have hlen:=fun k=>(used_length s (cs.take k) x).2
 have hlk:∀k,(cs.take k).length≤cs.length:=fun k=>by simp;omega
 refine acall_go mixed Tryz.func119 rfl good119 fun pr=>?_
 simp -implicitDefEqProofs(disch:=omega)only[Nat.reduceEqDiff,↓reduceIte,vcu,↓vcd]
 refine r_boxed fun b τ nb s1 e1=>?_
 replace e1:τ b=some ⟨[.int .i64 s.O,.int .i64 s.E,.int .i64 s.M],false⟩:=e1
 simp -implicitDefEqProofs(disch:=omega)only[Nat.reduceEqDiff,↓reduceIte,vcu,↓vcd]
 refine r_lit el88 (out:=#[]) kr9 kr9 fun e0 τ1 n1 s2 e2=>?_
 simp -implicitDefEqProofs(disch:=omega)only[Nat.reduceEqDiff,↓reduceIte,vcu,↓vcd]
 refine vc_loop_c mixed kr9 [1,2,3,4] (fun m a τ'=>∃(k g:Nat),m+k=cs.length∧a 10=.int .i64 k∧a 9=.slice (some ⟨g,0,none⟩) (usedO s (cs.take k) x).length 1∧Sub τ τ'∧τ' g=some ⟨ints .i64 (usedO s (cs.take k) x),false⟩∧τ g=none) cs.length ⟨0,e0,by simp,rfl,rfl,s2,e2,n1⟩ ?_
 rintro m a τ2 hc ⟨k,g,hk,h10,h9,hs,hg,hn⟩
 simp -implicitDefEqProofs(disch:=omega)only[Nat.reduceEqDiff,↓reduceIte,vcu,↓vcd] at hc
 obtain⟨h1,h2,h3,h4,-⟩:=hc
 by_cases hlt:k < cs.length
 case neg =>
  obtain rfl:k=cs.length:=by omega
  rw[List.take_length] at h9 hg
  simp -implicitDefEqProofs(disch:=omega)only[Nat.reduceEqDiff,↓reduceIte,vcu,↓vcd,h1,h2,h3,h4,h9,h10]
  refine fin_one Tryz.results119 ⟨s1.trans hs,.inr ⟨g,?_,hg,free_sub s1 hn⟩⟩
  simp -implicitDefEqProofs(disch:=omega)only[Nat.reduceEqDiff,↓reduceIte,vcu,↓vcd,h9]
 obtain⟨x1,x2,x3⟩:=((hv.sub s1).sub hs) k hlt
 have hm:=hR _ (gc_mem hlt)
 have ht:=usedO_take (s:=s) (x:=x) hlt
 have hl1:=hlen (k+1)
 have hl0:=hlen k
 have hk1:=hlk k
 have hgk:cs.getD k cl0=gc cs k:=rfl
 rw[hgk] at x1 x2 x3
 generalize gc cs k=c at x1 x2 x3 hm ht
 obtain⟨⟨a1,a2⟩,⟨a3,a4⟩,-⟩:=hm
 have lE:ld τ2 b (0+1)=some (.int .i64 s.E):=ld_of (hs _ _ e1) rfl
 by_cases ci:c.o / s.E=x
 ·rw[if_pos ci] at ht
  simp -implicitDefEqProofs(disch:=omega)only[Nat.reduceEqDiff,↓reduceIte,vcu,↓vcd,h1,h2,h3,h4,h10,x1,x2,x3,lE,Nat.add_zero]
  refine r_lit el88 (out:=#[.int .i64 c.v]) (by first|kernel_rfl | (simp -implicitDefEqProofs(disch:=omega)only[Nat.reduceEqDiff,↓reduceIte,vcu,↓vcd];kernel_rfl)) (by rfl) fun e3 τ3 n3 s3 v3=>?_
  simp -implicitDefEqProofs(disch:=omega)only[Nat.reduceEqDiff,↓reduceIte,vcu,↓vcd,h9]
  refine r_pushI (g:=g) (e:=e3) (o:=0) (k:=.i64) (xs:=usedO s (cs.take k) x) (ys:=[c.v]) (m:=1) (len:=(usedO s (cs.take k) x).length) el88 om9 sl88 (by simp -implicitDefEqProofs(disch:=omega)only[Nat.reduceEqDiff,↓reduceIte,vcu,↓vcd,h9]) (s3 _ _ hg) rfl z9q (intsAt_own v3) rfl om9 fun g6 τ6 n6 k6 v6=>?_
  rw[←ht] at v6
  have hle:(usedO s (cs.take k) x).length+1=(usedO s (cs.take (k+1)) x).length:=by rw[ht];simp
  simp -implicitDefEqProofs(disch:=omega)only[Nat.reduceEqDiff,↓reduceIte,vcu,↓vcd,h1,h2,h3,h4,h10,hle]
  exact⟨⟨trivial,trivial,trivial,trivial,trivial⟩,m - 1,by omega,k+1,g6,by omega,by simp,rfl,k6.sub (hs.trans s3) hn,v6,free_sub (hs.trans s3) n6⟩
 ·rw[if_neg ci,List.append_nil] at ht
  simp -implicitDefEqProofs(disch:=omega)only[Nat.reduceEqDiff,↓reduceIte,vcu,↓vcd,h1,h2,h3,h4,h10,x1,x2,x3,lE,Nat.add_zero]
  exact⟨⟨trivial,trivial,trivial,trivial,trivial⟩,m - 1,by omega,k+1,g,by omega,by simp,by rw[ht];exact h9,hs,by rw[ht];exact hg,hn⟩
theorem acodeB_mono {P:Program} {b:Base} {n:NR} {c:Code} {a:AFrame} {σ:AHeap} {Q Q':AQ} (h:ACodeB P b n c a σ Q') (hq:∀e a σ,Q' e a σ→Q e a σ):ACodeB P b n c a σ Q:=ACode.mono h hq
set_option maxRecDepth 8000 in
theorem specFree_at (σ:AHeap) (s:Sp) (h o:Nat) (cs:List Cl) (I O:Int) (hv:TrisAt σ h o cs) (hl:cs.length≤1048576) :
  ACall Tryz.prog w0 117 [.agg #[.int .i64 s.O,.int .i64 s.E,.int .i64 s.M],.slice (some ⟨h,o,none⟩) cs.length 3,.int .i64 I,.int .i64 O] σ fun r σ'=>Sub σ σ'∧OwnI σ σ' r (freeV s cs I O):=by
 refine acall_go mixed Tryz.func117 rfl good117 fun pr=>?_
 simp -implicitDefEqProofs(disch:=omega)only[Nat.reduceEqDiff,↓reduceIte,vcu,↓vcd]
 refine r_boxed fun b τ nb s1 e1=>?_
 replace e1:τ b=some ⟨[.int .i64 s.O,.int .i64 s.E,.int .i64 s.M],false⟩:=e1
 simp -implicitDefEqProofs(disch:=omega)only[Nat.reduceEqDiff,↓reduceIte,vcu,↓vcd]
 refine r_lit el88 (out:=#[]) kr9 kr9 fun e0 τ1 n1 s2 e2=>?_
 have hs1:=s1.trans s2
 have nσ:=free_sub s1 n1
 have hve:=fun (τ':AHeap) (hs:Sub σ τ')=>specCV_at (w0:=w0) τ' s.O s.E s.M h o cs (hv.sub hs) hl
 have m3:∀τ',Sub τ τ'→lds τ' b 0 3=some [.int .i64 s.O,.int .i64 s.E,.int .i64 s.M]:=fun τ' hs=>lds_three (ld_of (hs _ _ e1) rfl) (ld_of (hs _ _ e1) rfl) (ld_of (hs _ _ e1) rfl)
 have mM:∀τ',Sub τ τ'→ld τ' b (0+2)=some (.int .i64 s.M):=fun τ' hs=>ld_of (hs _ _ e1) rfl
 by_cases hC:CV s cs
 case neg =>
  rw[freeV_no fun hh=>hC hh.1]
  simp -implicitDefEqProofs(disch:=omega)only[Nat.reduceEqDiff,↓reduceIte,vcu,↓vcd]
  refine vc_loop_c mixed kr9 [9] (fun m a τ'=>a 1=.slice (some ⟨h,o,none⟩) cs.length 3∧a 4=.pointer (some ⟨b,0,none⟩)∧a 10=.int .i64 0∧τ'=τ1) 0 ⟨rfl,rfl,rfl,rfl⟩ ?_
  rintro m a τ2 hc ⟨h1,h4,h10,rfl⟩
  simp -implicitDefEqProofs(disch:=omega)only[Nat.reduceEqDiff,↓reduceIte,vcu,↓vcd] at hc
  obtain⟨h9,-⟩:=hc
  have l1:=mM τ2 s2
  have l2:=m3 τ2 s2
  by_cases hM:0 < s.M
  ·simp -implicitDefEqProofs(disch:=omega)only[Nat.reduceEqDiff,↓reduceIte,vcu,↓vcd,h1,h4,h9,h10,l1,l2,co29]
   refine (hve τ2 hs1).mono ?_
   rintro r _ ⟨rfl,rfl⟩
   rw[decide_eq_false hC]
   simp -implicitDefEqProofs(disch:=omega)only[Nat.reduceEqDiff,↓reduceIte,vcu,↓vcd,opK_some,h9]
   refine fin_one Tryz.results117 ⟨hs1,.inr ⟨e0,?_,e2,nσ⟩⟩
   simp -implicitDefEqProofs(disch:=omega)only[Nat.reduceEqDiff,↓reduceIte,vcu,↓vcd,h9]
   rfl
  ·simp -implicitDefEqProofs(disch:=omega)only[Nat.reduceEqDiff,↓reduceIte,vcu,↓vcd,h1,h4,h9,h10,l1,l2,co29]
   refine fin_one Tryz.results117 ⟨hs1,.inr ⟨e0,?_,e2,nσ⟩⟩
   simp -implicitDefEqProofs(disch:=omega)only[Nat.reduceEqDiff,↓reduceIte,vcu,↓vcd,h9]
   rfl
 have hS:=hC.1
 obtain⟨-,-,hM1,hM2⟩:=hS
 have hl12:=hC.len
 have hle:∀k,(freeL s cs I O k).length≤k:=fun k=>by
  have:=List.length_filter_le (fun v=>decide (Free s cs I O v)) (rng k)
  rw[rng_length] at this;exact this
 simp -implicitDefEqProofs(disch:=omega)only[Nat.reduceEqDiff,↓reduceIte,vcu,↓vcd]
 refine vc_loop_c mixed kr9 [1,2,3,4] (fun m a τ'=>∃(k g:Nat),m+k=s.M.toNat∧a 10=.int .i64 k∧a 9=.slice (some ⟨g,0,none⟩) (freeL s cs I O k).length 1∧Sub τ τ'∧τ' g=some ⟨ints .i64 (freeL s cs I O k),false⟩∧τ g=none) s.M.toNat ⟨0,e0,by simp,rfl,rfl,s2,e2,n1⟩ ?_
 rintro m a τ2 hc ⟨k,g,hk,h10,h9,hs,hg,hn⟩
 simp -implicitDefEqProofs(disch:=omega)only[Nat.reduceEqDiff,↓reduceIte,vcu,↓vcd] at hc
 obtain⟨h1,h2,h3,h4,-⟩:=hc
 have l1:=mM τ2 hs
 have l2:=m3 τ2 hs
 by_cases hlt:k < s.M.toNat
 case neg =>
  obtain rfl:k=s.M.toNat:=by omega
  simp -implicitDefEqProofs(disch:=omega)only[Nat.reduceEqDiff,↓reduceIte,vcu,↓vcd,h1,h2,h3,h4,h9,h10,l1,l2]
  refine fin_one Tryz.results117 ⟨s1.trans hs,.inr ⟨g,?_,hg,free_sub s1 hn⟩⟩
  simp -implicitDefEqProofs(disch:=omega)only[Nat.reduceEqDiff,↓reduceIte,vcu,↓vcd,h9]
  rfl
 simp -implicitDefEqProofs(disch:=omega)only[Nat.reduceEqDiff,↓reduceIte,vcu,↓vcd,h1,h2,h3,h4,h9,h10,l1,l2,co29]
 refine (hve τ2 (s1.trans hs)).mono ?_
 rintro r _ ⟨rfl,rfl⟩
 rename_i τ2
 rw[decide_eq_true hC]
 have hlk:=hle k
 have hsucc:=freeL_succ s cs I O k
 have hve2:=fun (τ':AHeap) (g9:Nat) (hh:τ' g9=some ⟨tris (cs++[⟨I,O,(k:Int)⟩]),false⟩)=>specCV_at (w0:=w0) τ' s.O s.E s.M g9 0 (cs++[⟨I,O,(k:Int)⟩]) (trisAt_own hh) (by simp;omega)
 have hll:(cs++[(⟨I,O,(k:Int)⟩:Cl)]).length=cs.length+1:=by simp
 rw[hll] at hve2
 simp -implicitDefEqProofs(disch:=omega)only[Nat.reduceEqDiff,↓reduceIte,vcu,↓vcd,opK_some,h1,h2,h3,h4,h9,h10,co29]
 refine acodeB_mono (Q':=fun e a' τ8=>e=.normal∧(a' 1=.slice (some ⟨h,o,none⟩) cs.length 3∧a' 2=.int .i64 I∧a' 3=.int .i64 O∧a' 4=.pointer (some ⟨b,0,none⟩)∧a' 9=.slice (some ⟨g,0,none⟩) (freeL s cs I O k).length 1∧a' 10=.int .i64 (k:Int)∧a' 33=.bool (decide (Free s cs I O k)))∧Sub τ2 τ8)
  (region_tree mixed (quiets [0,2,4,5,6,7] (.two 1 (.two 3 (.one 8 (.one 9 (.one 10 .stop))) 8 (.one 3 (.one 9 (.one 10 .stop)))) 8 (.one 1 (.one 3 (.one 9 (.one 10 .stop)))))) [([0,2,4,5,6,7],Sub τ2)] kr9 kr9 (fun p hp=>by simp only[List.mem_singleton] at hp;subst hp;exact Sub.refl _) ?_) ?_
 ·refine tree_quiets τ2 _ _ _ sf1 kr9 kr9 ?_
  simp -implicitDefEqProofs(disch:=omega)only[Nat.reduceEqDiff,↓reduceIte,vcu,↓vcd,vcp,h1,h2,h3,h4,h9,h10,l2,co29]
  rw[r_build]
  refine⟨(_,#[.int .i64 I,.int .i64 O,.int .i64 (k:Int)]),⟨ze70,by simp -implicitDefEqProofs(disch:=omega)only[Nat.reduceEqDiff,↓reduceIte,vcu,↓vcd,h2,h3,h10];kernel_rfl⟩,?_⟩
  simp -implicitDefEqProofs(disch:=omega)only[Nat.reduceEqDiff,↓reduceIte,vcu,↓vcd,vcp]
  refine tree_two rfl rfl ?_ ?_
  ·refine r_lit el31 (out:=#[]) kr9 kr9 fun ea τ3 n3 s3 v3=>?_
   simp -implicitDefEqProofs(disch:=omega)only[Nat.reduceEqDiff,↓reduceIte,vcu,↓vcd]
   refine⟨keep_of rfl (fun p hp=>by simp only[List.mem_singleton] at hp;subst hp;exact .inr s3),?_⟩
   refine tree_two rfl rfl ?_ ?_
   ·refine r_pushC (g:=ea) (e:=h) (o:=o) (cs:=[]) (ds:=cs) (m:=cs.length) (len:=0) el31 om9 sl31 z9q v3 rfl z9q (hv.sub (s1.trans (hs.trans s3))) rfl om9 fun gb τ4 n4 k4 v4=>?_
    rw[List.nil_append] at v4
    have s4:Sub τ2 τ4:=k4.sub s3 n3
    simp -implicitDefEqProofs(disch:=omega)only[Nat.reduceEqDiff,↓reduceIte,vcu,↓vcd]
    refine⟨keep_of rfl (fun p hp=>by simp only[List.mem_singleton] at hp;subst hp;exact .inr s4),tree_one rfl ?_⟩
    refine r_lit el31 (out:=#[.int .i64 I,.int .i64 O,.int .i64 (k:Int)]) (by first|kernel_rfl | (simp -implicitDefEqProofs(disch:=omega)only[Nat.reduceEqDiff,↓reduceIte,vcu,↓vcd];kernel_rfl)) (by rfl) fun eb τ5 n5 s5 v5=>?_
    replace v5:τ5 eb=some ⟨tris [⟨I,O,(k:Int)⟩],false⟩:=v5
    simp -implicitDefEqProofs(disch:=omega)only[Nat.reduceEqDiff,↓reduceIte,vcu,↓vcd]
    have v4':=s5 _ _ v4
    have s5':=s4.trans s5
    refine⟨keep_of rfl (fun p hp=>by simp only[List.mem_singleton] at hp;subst hp;exact .inr s5'),?_⟩
    refine tree_one rfl ?_
    refine r_pushC (g:=gb) (e:=eb) (o:=0) (cs:=cs) (ds:=[⟨I,O,(k:Int)⟩]) (m:=1) (len:=cs.length) el31 om9 sl31 (by simp -implicitDefEqProofs(disch:=omega)only[Nat.reduceEqDiff,↓reduceIte,vcu,↓vcd,Nat.zero_add]) v4' rfl z9q (trisAt_own v5) rfl om9 fun gc9 τ9 n9 k9 v9=>?_
    have s9:Sub τ2 τ9:=fun z ob e=>k9.at (s5' _ _ e) (ne_of' (free_sub s3 n4) e)
    simp -implicitDefEqProofs(disch:=omega)only[Nat.reduceEqDiff,↓reduceIte,vcu,↓vcd]
    refine⟨keep_of rfl (fun p hp=>by simp only[List.mem_singleton] at hp;subst hp;exact .inr s9),tree_one rfl ?_⟩
    simp -implicitDefEqProofs(disch:=omega)only[Nat.reduceEqDiff,↓reduceIte,vcu,↓vcd]
    refine (hve2 τ9 gc9 v9).mono ?_
    rintro r τ10 ⟨rfl,e10⟩
    subst e10
    simp -implicitDefEqProofs(disch:=omega)only[Nat.reduceEqDiff,↓reduceIte,vcu,↓vcd,opK_some]
    refine⟨keep_of rfl (fun p hp=>by simp only[List.mem_singleton] at hp;subst hp;exact .inr s9),tree_stop ?_⟩
    refine⟨trivial,⟨?_,?_,?_,?_,?_,?_,?_⟩,s9⟩
    ·simp -implicitDefEqProofs(disch:=omega)only[Nat.reduceEqDiff,↓reduceIte,vcu,↓vcd,h1]
    ·simp -implicitDefEqProofs(disch:=omega)only[Nat.reduceEqDiff,↓reduceIte,vcu,↓vcd,h2]
    ·simp -implicitDefEqProofs(disch:=omega)only[Nat.reduceEqDiff,↓reduceIte,vcu,↓vcd,h3]
    ·simp -implicitDefEqProofs(disch:=omega)only[Nat.reduceEqDiff,↓reduceIte,vcu,↓vcd,h4]
    ·simp -implicitDefEqProofs(disch:=omega)only[Nat.reduceEqDiff,↓reduceIte,vcu,↓vcd,h9]
    ·simp -implicitDefEqProofs(disch:=omega)only[Nat.reduceEqDiff,↓reduceIte,vcu,↓vcd,h10]
    ·simp -implicitDefEqProofs(disch:=omega)only[Nat.reduceEqDiff,↓reduceIte,vcu,↓vcd]
     rfl
   ·refine r_lit el31 (out:=#[.int .i64 I,.int .i64 O,.int .i64 (k:Int)]) (by first|kernel_rfl | (simp -implicitDefEqProofs(disch:=omega)only[Nat.reduceEqDiff,↓reduceIte,vcu,↓vcd];kernel_rfl)) (by rfl) fun eb τ4 n4 s4 v4=>?_
    replace v4:τ4 eb=some ⟨tris [⟨I,O,(k:Int)⟩],false⟩:=v4
    simp -implicitDefEqProofs(disch:=omega)only[Nat.reduceEqDiff,↓reduceIte,vcu,↓vcd]
    have s4':=s3.trans s4
    refine⟨keep_of rfl (fun p hp=>by simp only[List.mem_singleton] at hp;subst hp;exact .inr s4'),tree_one rfl ?_⟩
    refine r_pushC (g:=ea) (e:=h) (o:=o) (cs:=[]) (ds:=cs) (m:=cs.length) (len:=0) el31 om9 sl31 z9q (s4 _ _ v3) rfl z9q (hv.sub (s1.trans (hs.trans s4'))) rfl om9 fun gb τ5 n5 k5 v5=>?_
    rw[List.nil_append] at v5
    have s5':Sub τ2 τ5:=k5.sub s4' n3
    have v4':=k5.at v4 (ne_of n4 v3)
    simp -implicitDefEqProofs(disch:=omega)only[Nat.reduceEqDiff,↓reduceIte,vcu,↓vcd]
    refine⟨keep_of rfl (fun p hp=>by simp only[List.mem_singleton] at hp;subst hp;exact .inr s5'),?_⟩
    refine tree_one rfl ?_
    refine r_pushC (g:=gb) (e:=eb) (o:=0) (cs:=cs) (ds:=[⟨I,O,(k:Int)⟩]) (m:=1) (len:=cs.length) el31 om9 sl31 (by simp -implicitDefEqProofs(disch:=omega)only[Nat.reduceEqDiff,↓reduceIte,vcu,↓vcd,Nat.zero_add]) v5 rfl z9q (trisAt_own v4') rfl om9 fun gc9 τ9 n9 k9 v9=>?_
    have s9:Sub τ2 τ9:=fun z ob e=>k9.at (s5' _ _ e) (ne_of' (free_sub s4' n5) e)
    simp -implicitDefEqProofs(disch:=omega)only[Nat.reduceEqDiff,↓reduceIte,vcu,↓vcd]
    refine⟨keep_of rfl (fun p hp=>by simp only[List.mem_singleton] at hp;subst hp;exact .inr s9),tree_one rfl ?_⟩
    simp -implicitDefEqProofs(disch:=omega)only[Nat.reduceEqDiff,↓reduceIte,vcu,↓vcd]
    refine (hve2 τ9 gc9 v9).mono ?_
    rintro r τ10 ⟨rfl,e10⟩
    subst e10
    simp -implicitDefEqProofs(disch:=omega)only[Nat.reduceEqDiff,↓reduceIte,vcu,↓vcd,opK_some]
    refine⟨keep_of rfl (fun p hp=>by simp only[List.mem_singleton] at hp;subst hp;exact .inr s9),tree_stop ?_⟩
    refine⟨trivial,⟨?_,?_,?_,?_,?_,?_,?_⟩,s9⟩
    ·simp -implicitDefEqProofs(disch:=omega)only[Nat.reduceEqDiff,↓reduceIte,vcu,↓vcd,h1]
    ·simp -implicitDefEqProofs(disch:=omega)only[Nat.reduceEqDiff,↓reduceIte,vcu,↓vcd,h2]
    ·simp -implicitDefEqProofs(disch:=omega)only[Nat.reduceEqDiff,↓reduceIte,vcu,↓vcd,h3]
    ·simp -implicitDefEqProofs(disch:=omega)only[Nat.reduceEqDiff,↓reduceIte,vcu,↓vcd,h4]
    ·simp -implicitDefEqProofs(disch:=omega)only[Nat.reduceEqDiff,↓reduceIte,vcu,↓vcd,h9]
    ·simp -implicitDefEqProofs(disch:=omega)only[Nat.reduceEqDiff,↓reduceIte,vcu,↓vcd,h10]
    ·simp -implicitDefEqProofs(disch:=omega)only[Nat.reduceEqDiff,↓reduceIte,vcu,↓vcd]
     rfl
  ·refine r_lit el31 (out:=#[.int .i64 I,.int .i64 O,.int .i64 (k:Int)]) (by first|kernel_rfl | (simp -implicitDefEqProofs(disch:=omega)only[Nat.reduceEqDiff,↓reduceIte,vcu,↓vcd];kernel_rfl)) (by rfl) fun eb τ3 n3 s3 v3=>?_
   replace v3:τ3 eb=some ⟨tris [⟨I,O,(k:Int)⟩],false⟩:=v3
   simp -implicitDefEqProofs(disch:=omega)only[Nat.reduceEqDiff,↓reduceIte,vcu,↓vcd]
   refine⟨keep_of rfl (fun p hp=>by simp only[List.mem_singleton] at hp;subst hp;exact .inr s3),tree_one rfl ?_⟩
   refine r_lit el31 (out:=#[]) kr9 kr9 fun ea τ4 n4 s4 v4=>?_
   have s4':=s3.trans s4
   simp -implicitDefEqProofs(disch:=omega)only[Nat.reduceEqDiff,↓reduceIte,vcu,↓vcd]
   refine⟨keep_of rfl (fun p hp=>by simp only[List.mem_singleton] at hp;subst hp;exact .inr s4'),tree_one rfl ?_⟩
   refine r_pushC (g:=ea) (e:=h) (o:=o) (cs:=[]) (ds:=cs) (m:=cs.length) (len:=0) el31 om9 sl31 z9q v4 rfl z9q (hv.sub (s1.trans (hs.trans s4'))) rfl om9 fun gb τ5 n5 k5 v5=>?_
   rw[List.nil_append] at v5
   have s5':Sub τ2 τ5:=k5.sub s4' (free_sub s3 n4)
   have v3':=k5.at (s4 _ _ v3) (ne_of' n4 v3)
   simp -implicitDefEqProofs(disch:=omega)only[Nat.reduceEqDiff,↓reduceIte,vcu,↓vcd]
   refine⟨keep_of rfl (fun p hp=>by simp only[List.mem_singleton] at hp;subst hp;exact .inr s5'),?_⟩
   refine tree_one rfl ?_
   refine r_pushC (g:=gb) (e:=eb) (o:=0) (cs:=cs) (ds:=[⟨I,O,(k:Int)⟩]) (m:=1) (len:=cs.length) el31 om9 sl31 (by simp -implicitDefEqProofs(disch:=omega)only[Nat.reduceEqDiff,↓reduceIte,vcu,↓vcd,Nat.zero_add]) v5 rfl z9q (trisAt_own v3') rfl om9 fun gc9 τ9 n9 k9 v9=>?_
   have s9:Sub τ2 τ9:=fun z ob e=>k9.at (s5' _ _ e) (ne_of' (free_sub s4' n5) e)
   simp -implicitDefEqProofs(disch:=omega)only[Nat.reduceEqDiff,↓reduceIte,vcu,↓vcd]
   refine⟨keep_of rfl (fun p hp=>by simp only[List.mem_singleton] at hp;subst hp;exact .inr s9),tree_one rfl ?_⟩
   simp -implicitDefEqProofs(disch:=omega)only[Nat.reduceEqDiff,↓reduceIte,vcu,↓vcd]
   refine (hve2 τ9 gc9 v9).mono ?_
   rintro r τ10 ⟨rfl,e10⟩
   subst e10
   simp -implicitDefEqProofs(disch:=omega)only[Nat.reduceEqDiff,↓reduceIte,vcu,↓vcd,opK_some]
   refine⟨keep_of rfl (fun p hp=>by simp only[List.mem_singleton] at hp;subst hp;exact .inr s9),tree_stop ?_⟩
   refine⟨trivial,⟨?_,?_,?_,?_,?_,?_,?_⟩,s9⟩
   ·simp -implicitDefEqProofs(disch:=omega)only[Nat.reduceEqDiff,↓reduceIte,vcu,↓vcd,h1]
   ·simp -implicitDefEqProofs(disch:=omega)only[Nat.reduceEqDiff,↓reduceIte,vcu,↓vcd,h2]
   ·simp -implicitDefEqProofs(disch:=omega)only[Nat.reduceEqDiff,↓reduceIte,vcu,↓vcd,h3]
   ·simp -implicitDefEqProofs(disch:=omega)only[Nat.reduceEqDiff,↓reduceIte,vcu,↓vcd,h4]
   ·simp -implicitDefEqProofs(disch:=omega)only[Nat.reduceEqDiff,↓reduceIte,vcu,↓vcd,h9]
   ·simp -implicitDefEqProofs(disch:=omega)only[Nat.reduceEqDiff,↓reduceIte,vcu,↓vcd,h10]
   ·simp -implicitDefEqProofs(disch:=omega)only[Nat.reduceEqDiff,↓reduceIte,vcu,↓vcd]
    rfl
 rintro _ a' τ8 ⟨rfl,⟨f1,f2,f3,f4,f9,f10,f33⟩,s8⟩
 by_cases hF:Free s cs I O k
 ·rw[decide_eq_true hF] at f33
  rw[if_pos hF] at hsucc
  have hg8:=s8 _ _ hg
  simp -implicitDefEqProofs(disch:=omega)only[Nat.reduceEqDiff,↓reduceIte,vcu,↓vcd,f1,f2,f3,f4,f9,f10,f33]
  refine r_lit el88 (out:=#[.int .i64 (k:Int)]) (by first|kernel_rfl | (simp -implicitDefEqProofs(disch:=omega)only[Nat.reduceEqDiff,↓reduceIte,vcu,↓vcd,f10];kernel_rfl)) (by rfl) fun e3 τ9 n9 s9 v9=>?_
  refine r_pushI (g:=g) (e:=e3) (o:=0) (k:=.i64) (xs:=freeL s cs I O k) (ys:=[(k:Int)]) (m:=1) (len:=(freeL s cs I O k).length) el88 om9 sl88 (by simp -implicitDefEqProofs(disch:=omega)only[Nat.reduceEqDiff,↓reduceIte,vcu,↓vcd,f9]) (s9 _ _ hg8) rfl z9q (intsAt_own v9) rfl om9 fun g6 τ6 n6 k6 v6=>?_
  rw[←hsucc] at v6
  have hle2:(freeL s cs I O k).length+1=(freeL s cs I O (k+1)).length:=by rw[hsucc];simp
  have hs9:=(hs.trans s8).trans s9
  simp -implicitDefEqProofs(disch:=omega)only[Nat.reduceEqDiff,↓reduceIte,vcu,↓vcd,f1,f2,f3,f4,f10,hle2]
  exact⟨⟨trivial,trivial,trivial,trivial,trivial⟩,m - 1,by omega,k+1,g6,by omega,by simp,rfl,k6.sub hs9 hn,v6,free_sub hs9 n6⟩
 ·rw[decide_eq_false hF] at f33
  rw[if_neg hF,List.append_nil] at hsucc
  simp -implicitDefEqProofs(disch:=omega)only[Nat.reduceEqDiff,↓reduceIte,vcu,↓vcd,f1,f2,f3,f4,f9,f10,f33]
  exact⟨⟨trivial,trivial,trivial,trivial,trivial⟩,m - 1,by omega,k+1,g,by omega,by simp,by rw[hsucc],hs.trans s8,by rw[hsucc];exact s8 _ _ hg,hn⟩
def mvOk (s:Sp) (cs:List Cl) (i o:Int):Prop:=(CV s cs∧Enough s)∧Lines s i o∧¬ Busy cs i o
instance (s:Sp) (cs:List Cl) (i o:Int):Decidable (mvOk s cs i o):=by unfold mvOk;infer_instance
def mvL (s:Sp) (cs:List Cl) (i o:Int):List Cl:=if CV s cs∧Enough s then if mvOk s cs i o then moveL s cs i o else cs else []
theorem mvL_no {s:Sp} {cs:List Cl} {i o:Int} (h:¬ (CV s cs∧Enough s)):mvL s cs i o=[]:=by unfold mvL;rw[if_neg h]
theorem mvL_same {s:Sp} {cs:List Cl} {i o:Int} (h:CV s cs∧Enough s) (h2:¬ mvOk s cs i o):mvL s cs i o=cs:=by unfold mvL;rw[if_pos h,if_neg h2]
theorem mvL_ok {s:Sp} {cs:List Cl} {i o:Int} (h2:mvOk s cs i o):mvL s cs i o=moveL s cs i o:=by unfold mvL;rw[if_pos h2.1,if_pos h2]
theorem ownI_lenC {β σ:AHeap} {v:Value} {xs:List Int} (h:OwnI β σ v xs):alenV Tryz.prog 88 v=some (.int .i64 (xs.length:Int)):=by
 rcases h with ⟨rfl,rfl⟩ |⟨g,rfl,-,-⟩
 ·exact alenV_slice Tryz.underlying88
 ·exact alenV_slice Tryz.underlying88
theorem rowI_of {β σ:AHeap} {v:Value} {xs:List Int} (h:OwnI β σ v xs) (h0:0 < xs.length):∃g,v=.slice (some ⟨g,0,none⟩) xs.length 1∧σ g=some ⟨ints .i64 xs,false⟩∧β g=none:=by
 rcases h with ⟨_,rfl⟩ |⟨g,e1,e2,e3⟩
 ·simp at h0
 ·exact⟨g,e1,e2,e3⟩
theorem all_le {s:Sp} {cs:List Cl} {a b B:Int} {ch:List Nat} {sd:Bool} {x:Int} (h:Inv s cs a b B ch sd x):ch.length≤cs.length:=by
 have:=sub_len (xs:=ch) (ys:=List.range cs.length) h.nd fun y hy=>List.mem_range.2 (h.lt y hy)
 simpa using this
set_option maxRecDepth 8000 in
set_option maxHeartbeats 1600000 in
set_option maxRecDepth 8000 in
theorem specMove_at (σ:AHeap) (s:Sp) (h o:Nat) (cs:List Cl) (I O:Int) (hv:TrisAt σ h o cs) (hl:cs.length≤1048576) :
  ACall Tryz.prog w0 95 [.agg #[.int .i64 s.O,.int .i64 s.E,.int .i64 s.M],.slice (some ⟨h,o,none⟩) cs.length 3,.int .i64 I,.int .i64 O] σ fun r σ'=>∃v,r=.tuple #[v,.bool (decide (mvOk s cs I O))]∧Sub σ σ'∧OwnC σ σ' v (mvL s cs I O):=by
 refine acall_go mixed Tryz.func95 rfl good95 fun pr=>?_
 simp -implicitDefEqProofs(disch:=omega)only[Nat.reduceEqDiff,↓reduceIte,vcu,↓vcd]
 refine r_boxed fun b τ nb s1 e1=>?_
 replace e1:τ b=some ⟨[.int .i64 s.O,.int .i64 s.E,.int .i64 s.M],false⟩:=e1
 have m3:∀τ',Sub τ τ'→lds τ' b 0 3=some [.int .i64 s.O,.int .i64 s.E,.int .i64 s.M]:=fun τ' hs=>lds_three (ld_of (hs _ _ e1) rfl) (ld_of (hs _ _ e1) rfl) (ld_of (hs _ _ e1) rfl)
 have mE:∀τ',Sub τ τ'→ld τ' b (0+1)=some (.int .i64 s.E):=fun τ' hs=>ld_of (hs _ _ e1) rfl
 have l3:=m3 τ (Sub.refl _)
 simp -implicitDefEqProofs(disch:=omega)only[Nat.reduceEqDiff,↓reduceIte,vcu,↓vcd,l3,co29]
 refine (specCV_at τ s.O s.E s.M h o cs (hv.sub s1) hl).mono ?_
 rintro r _ ⟨rfl,rfl⟩
 rename_i τ
 by_cases hC:CV s cs
 case neg =>
  rw[decide_eq_false hC,mvL_no fun hh=>hC hh.1,decide_eq_false fun hh:mvOk s cs I O=>hC hh.1.1]
  simp -implicitDefEqProofs(disch:=omega)only[Nat.reduceEqDiff,↓reduceIte,vcu,↓vcd,opK_some,Bool.not_false]
  refine r_lit el31 (out:=#[]) kr9 kr9 fun ea τ3 n3 s3 v3=>?_
  simp -implicitDefEqProofs(disch:=omega)only[Nat.reduceEqDiff,↓reduceIte,vcu,↓vcd]
  refine fin_two Tryz.results95 ⟨.slice (some ⟨ea,0,none⟩) 0 3,?_,s1.trans s3,.inr ⟨ea,rfl,v3,free_sub s1 n3⟩⟩
  simp -implicitDefEqProofs(disch:=omega)only[Nat.reduceEqDiff,↓reduceIte,vcu,↓vcd]
 rw[decide_eq_true hC]
 simp -implicitDefEqProofs(disch:=omega)only[Nat.reduceEqDiff,↓reduceIte,vcu,↓vcd,opK_some,Bool.not_true,l3,co29]
 refine (specEnough_at τ s.O s.E s.M).mono ?_
 rintro r _ ⟨rfl,rfl⟩
 rename_i τ
 by_cases hE:Enough s
 case neg =>
  rw[decide_eq_false hE,mvL_no fun hh=>hE hh.2,decide_eq_false fun hh:mvOk s cs I O=>hE hh.1.2]
  simp -implicitDefEqProofs(disch:=omega)only[Nat.reduceEqDiff,↓reduceIte,vcu,↓vcd,opK_some,Bool.not_false]
  refine r_lit el31 (out:=#[]) kr9 kr9 fun ea τ3 n3 s3 v3=>?_
  simp -implicitDefEqProofs(disch:=omega)only[Nat.reduceEqDiff,↓reduceIte,vcu,↓vcd]
  refine fin_two Tryz.results95 ⟨.slice (some ⟨ea,0,none⟩) 0 3,?_,s1.trans s3,.inr ⟨ea,rfl,v3,free_sub s1 n3⟩⟩
  simp -implicitDefEqProofs(disch:=omega)only[Nat.reduceEqDiff,↓reduceIte,vcu,↓vcd]
 rw[decide_eq_true hE]
 have hS:=hC.1
 have hLn:=hS.lines
 have hEE:=hS.2.1
 have hMM:=hS.2.2
 have hl12:=hC.len
 simp -implicitDefEqProofs(disch:=omega)only[Nat.reduceEqDiff,↓reduceIte,vcu,↓vcd,opK_some,Bool.not_true]
 refine r_lit el31 (out:=#[]) kr9 kr9 fun ea τ3 n3 s3 v3=>?_
 simp -implicitDefEqProofs(disch:=omega)only[Nat.reduceEqDiff,↓reduceIte,vcu,↓vcd]
 refine r_pushC (g:=ea) (e:=h) (o:=o) (cs:=[]) (ds:=cs) (m:=cs.length) (len:=0) el31 om9 sl31 z9q v3 rfl z9q (hv.sub (s1.trans s3)) rfl om9 fun gb τ4 n4 k4 v4=>?_
 rw[List.nil_append] at v4
 have hs4:Sub τ τ4:=k4.sub s3 n3
 have nτb:τ gb=none:=free_sub s3 n4
 have nσb:σ gb=none:=free_sub s1 nτb
 have l4:=m3 τ4 hs4
 clear v3 n3 s3 k4 n4
 have hso:=fun (hh:¬ mvOk s cs I O)=>(⟨mvL_same ⟨hC,hE⟩ hh,decide_eq_false hh⟩:mvL s cs I O=cs∧decide (mvOk s cs I O)=false)
 simp -implicitDefEqProofs(disch:=omega)only[Nat.reduceEqDiff,↓reduceIte,vcu,↓vcd,l4,co29,Nat.zero_add]
 refine (specLines_at τ4 s.O s.E s.M hS).mono ?_
 rintro r _ ⟨rfl,rfl⟩
 rename_i τ4
 simp -implicitDefEqProofs(disch:=omega)only[Nat.reduceEqDiff,↓reduceIte,vcu,↓vcd,opK_some]
 refine (in_calls τ4 I 0 (s.O * s.E - 1)).mono ?_
 rintro r _ ⟨rfl,rfl⟩
 rename_i τ4
 by_cases hI:0≤I∧I≤s.O * s.E - 1
 case neg =>
  obtain⟨q1,q2⟩:=hso fun hh=>hI hh.2.1.1
  rw[decide_eq_false hI,q1,q2]
  simp -implicitDefEqProofs(disch:=omega)only[Nat.reduceEqDiff,↓reduceIte,vcu,↓vcd,opK_some,Bool.not_false]
  refine fin_two Tryz.results95 ⟨.slice (some ⟨gb,0,none⟩) cs.length 3,?_,s1.trans hs4,.inr ⟨gb,rfl,v4,nσb⟩⟩
  simp -implicitDefEqProofs(disch:=omega)only[Nat.reduceEqDiff,↓reduceIte,vcu,↓vcd]
 rw[decide_eq_true hI]
 simp -implicitDefEqProofs(disch:=omega)only[Nat.reduceEqDiff,↓reduceIte,vcu,↓vcd,opK_some,Bool.not_true,l4,co29]
 refine (specLines_at τ4 s.O s.E s.M hS).mono ?_
 rintro r _ ⟨rfl,rfl⟩
 rename_i τ4
 simp -implicitDefEqProofs(disch:=omega)only[Nat.reduceEqDiff,↓reduceIte,vcu,↓vcd,opK_some]
 refine (in_calls τ4 O 0 (s.O * s.E - 1)).mono ?_
 rintro r _ ⟨rfl,rfl⟩
 rename_i τ4
 by_cases hO:0≤O∧O≤s.O * s.E - 1
 case neg =>
  obtain⟨q1,q2⟩:=hso fun hh=>hO hh.2.1.2
  rw[decide_eq_false hO,q1,q2]
  simp -implicitDefEqProofs(disch:=omega)only[Nat.reduceEqDiff,↓reduceIte,vcu,↓vcd,opK_some,Bool.not_false]
  refine fin_two Tryz.results95 ⟨.slice (some ⟨gb,0,none⟩) cs.length 3,?_,s1.trans hs4,.inr ⟨gb,rfl,v4,nσb⟩⟩
  simp -implicitDefEqProofs(disch:=omega)only[Nat.reduceEqDiff,↓reduceIte,vcu,↓vcd]
 rw[decide_eq_true hO]
 simp -implicitDefEqProofs(disch:=omega)only[Nat.reduceEqDiff,↓reduceIte,vcu,↓vcd,opK_some,Bool.not_true]
 refine (specBusy_at τ4 h o cs I O (hv.sub (s1.trans hs4)) hl).mono ?_
 rintro r _ ⟨rfl,rfl⟩
 rename_i τ4
 by_cases hB:Busy cs I O
 ·obtain⟨q1,q2⟩:=hso fun hh=>hh.2.2 hB
  rw[decide_eq_true hB,q1,q2]
  simp -implicitDefEqProofs(disch:=omega)only[Nat.reduceEqDiff,↓reduceIte,vcu,↓vcd,opK_some]
  refine fin_two Tryz.results95 ⟨.slice (some ⟨gb,0,none⟩) cs.length 3,?_,s1.trans hs4,.inr ⟨gb,rfl,v4,nσb⟩⟩
  simp -implicitDefEqProofs(disch:=omega)only[Nat.reduceEqDiff,↓reduceIte,vcu,↓vcd]
 have hok:mvOk s cs I O:=⟨⟨hC,hE⟩,⟨hI,hO⟩,hB⟩
 have hLi:Lines s I O:=⟨hI,hO⟩
 rw[decide_eq_false hB,mvL_ok hok,decide_eq_true hok]
 clear hso
 simp -implicitDefEqProofs(disch:=omega)only[Nat.reduceEqDiff,↓reduceIte,vcu,↓vcd,opK_some,l4,co29]
 refine (specFree_at τ4 s h o cs I O (hv.sub (s1.trans hs4)) hl).mono ?_
 rintro vf τ5 ⟨s5,wf⟩
 have hs5:=hs4.trans s5
 have hlf:=ownI_lenC wf
 have v5:=s5 _ _ v4
 cases hf:freeV s cs I O with
 | cons v0 vs =>
  have hml:moveL s cs I O=cs++[⟨I,O,v0⟩]:=by unfold moveL;rw[hf]
  rw[hf] at wf hlf
  obtain⟨gf,rfl,wf1,-⟩:=rowI_of wf (by simp)
  have lx:=intsAt_own wf1 0 (by simp)
  have hg0:(v0 :: vs).getD 0 0=v0:=rfl
  rw[hg0] at lx
  have hpos:(0:Int) < ((v0 :: vs).length:Int):=by simp
  have hpos':0 < (v0 :: vs).length:=by simp
  rw[hml]
  generalize (v0 :: vs).length=lf at hlf hpos hpos'
  simp -implicitDefEqProofs(disch:=omega)only[Nat.reduceEqDiff,↓reduceIte,vcu,↓vcd,opK_some,hlf,lx,Int.toNat_zero,Nat.mul_one]
  rw[r_build]
  refine⟨(_,#[.int .i64 I,.int .i64 O,.int .i64 v0]),⟨ze70,by simp -implicitDefEqProofs(disch:=omega)only[Nat.reduceEqDiff,↓reduceIte,vcu,↓vcd];kernel_rfl⟩,?_⟩
  simp -implicitDefEqProofs(disch:=omega)only[Nat.reduceEqDiff,↓reduceIte,vcu,↓vcd]
  refine r_lit el31 (out:=#[.int .i64 I,.int .i64 O,.int .i64 v0]) (by first|kernel_rfl | (simp -implicitDefEqProofs(disch:=omega)only[Nat.reduceEqDiff,↓reduceIte,vcu,↓vcd];kernel_rfl)) (by rfl) fun eb τ6 n6 s6 v6=>?_
  replace v6:τ6 eb=some ⟨tris [⟨I,O,v0⟩],false⟩:=v6
  refine r_pushC (g:=gb) (e:=eb) (o:=0) (cs:=cs) (ds:=[⟨I,O,v0⟩]) (m:=1) (len:=cs.length) el31 om9 sl31 z9q (s6 _ _ v5) rfl z9q (trisAt_own v6) rfl om9 fun gc9 τ9 n9 k9 v9=>?_
  have s9:Sub τ τ9:=k9.sub (hs5.trans s6) nτb
  simp -implicitDefEqProofs(disch:=omega)only[Nat.reduceEqDiff,↓reduceIte,vcu,↓vcd]
  refine fin_two Tryz.results95 ⟨.slice (some ⟨gc9,0,none⟩) (cs.length+1) 3,?_,s1.trans s9,.inr ⟨gc9,by simp,v9,free_sub (s1.trans (hs5.trans s6)) n9⟩⟩
  simp -implicitDefEqProofs(disch:=omega)only[Nat.reduceEqDiff,↓reduceIte,vcu,↓vcd]
 | nil =>
  have hwa:=wayA_ok hE hC hLi hB
  have hwb:=wayB_ok hE hC hLi hB
  have hne:=way_ne hE hC hLi hB hf
  have hfr:=way_free hE hC hLi hB
  have hml:moveL s cs I O=flip (wayA s cs I) (wayB s cs O) (chain s cs (wayA s cs I) (wayB s cs O) (O / s.E)) cs++[⟨I,O,wayA s cs I⟩]:=by unfold moveL;rw[hf]
  have hch:=chain_ok hE hC hLi hB hf
  have hA0:firstN (usedI s cs (I / s.E)) s.M.toNat 0=wayA s cs I:=rfl
  have hB0:firstN (usedO s cs (O / s.E)) s.M.toNat 0=wayB s cs O:=rfl
  have hst:=inv_start hC hne hfr
  rw[hml]
  rw[hf] at hlf
  have hR:=hC.2.1
  have hlI:=(used_length s cs (I / s.E)).1
  have hlO:=(used_length s cs (O / s.E)).2
  clear hml wf hf hok hLi hB
  have hCC:go s cs (wayA s cs I) (wayB s cs O) cs.length [] true (O / s.E)=chain s cs (wayA s cs I) (wayB s cs O) (O / s.E):=rfl
  generalize chain s cs (wayA s cs I) (wayB s cs O) (O / s.E)=C at *
  generalize wayA s cs I=A at *
  generalize wayB s cs O=B at *
  have l5:=m3 τ5 hs5
  have lE5:=mE τ5 hs5
  simp -implicitDefEqProofs(disch:=omega)only[Nat.reduceEqDiff,↓reduceIte,vcu,↓vcd,opK_some,hlf,List.length_nil,Int.natCast_zero]
  refine region_tree mixed (quiets [0,1,2,3,4,5,6] (.one 7 (.one 8 (quiets [9] .stop)))) [([0,1,2,3,4,5,6],Sub τ5)] kr9 kr9 (fun p hp=>by simp only[List.mem_singleton] at hp;subst hp;exact Sub.refl _) ?_
  refine tree_quiets τ5 _ _ _ sf1 kr9 kr9 ?_
  simp -implicitDefEqProofs(disch:=omega)only[Nat.reduceEqDiff,↓reduceIte,vcu,↓vcd,vcp,l5,lE5,co29]
  refine tree_one rfl ?_
  simp -implicitDefEqProofs(disch:=omega)only[Nat.reduceEqDiff,↓reduceIte,vcu,↓vcd]
  refine (specUsedI_at τ5 s h o cs (I / s.E) (hv.sub (s1.trans hs5)) hl hR hS).mono ?_
  rintro vu τ6 ⟨s6,wu⟩
  simp -implicitDefEqProofs(disch:=omega)only[Nat.reduceEqDiff,↓reduceIte,vcu,↓vcd,opK_some]
  refine⟨keep_of rfl (fun p hp=>by simp only[List.mem_singleton] at hp;subst hp;exact .inr s6),tree_one rfl ?_⟩
  simp -implicitDefEqProofs(disch:=omega)only[Nat.reduceEqDiff,↓reduceIte,vcu,↓vcd]
  refine (ACall.ints_quiet (pre:=[_]) (post:=[]) kr9 wu.ints fun σ1 g p _ hg=>specFirst_at σ1 s.O s.E s.M g p _ hg om9 om9).mono ?_
  rintro r τ7 ⟨rfl,e7⟩
  subst e7
  rw[hA0]
  simp -implicitDefEqProofs(disch:=omega)only[Nat.reduceEqDiff,↓reduceIte,vcu,↓vcd,opK_some]
  refine⟨keep_of rfl (fun p hp=>by simp only[List.mem_singleton] at hp;subst hp;exact .inr s6),?_⟩
  refine tree_quiets (fun _=>none) _ _ _ (fun _ _ _ _=>fun x ob e=>by cases e) kr9 kr9 ?_
  simp -implicitDefEqProofs(disch:=omega)only[Nat.reduceEqDiff,↓reduceIte,vcu,↓vcd,vcp]
  refine tree_stop ?_
  have hs6:=hs5.trans s6
  have l6:=m3 _ hs6
  have lE6:=mE _ hs6
  have v6:=s6 _ _ v5
  clear wu
  simp -implicitDefEqProofs(disch:=omega)only[Nat.reduceEqDiff,↓reduceIte,vcu,↓vcd]
  refine region_tree mixed (quiets [0,1,2,3,4,5,6] (.one 7 (.one 8 (quiets [9] .stop)))) [([0,1,2,3,4,5,6],Sub τ7)] kr9 kr9 (fun p hp=>by simp only[List.mem_singleton] at hp;subst hp;exact Sub.refl _) ?_
  refine tree_quiets τ7 _ _ _ sf1 kr9 kr9 ?_
  simp -implicitDefEqProofs(disch:=omega)only[Nat.reduceEqDiff,↓reduceIte,vcu,↓vcd,vcp,l6,lE6,co29]
  refine tree_one rfl ?_
  simp -implicitDefEqProofs(disch:=omega)only[Nat.reduceEqDiff,↓reduceIte,vcu,↓vcd]
  refine (specUsedO_at τ7 s h o cs (O / s.E) (hv.sub (s1.trans hs6)) hl hR hS).mono ?_
  rintro vu τ8 ⟨s7,wu⟩
  simp -implicitDefEqProofs(disch:=omega)only[Nat.reduceEqDiff,↓reduceIte,vcu,↓vcd,opK_some]
  refine⟨keep_of rfl (fun p hp=>by simp only[List.mem_singleton] at hp;subst hp;exact .inr s7),tree_one rfl ?_⟩
  simp -implicitDefEqProofs(disch:=omega)only[Nat.reduceEqDiff,↓reduceIte,vcu,↓vcd]
  refine (ACall.ints_quiet (pre:=[_]) (post:=[]) kr9 wu.ints fun σ1 g p _ hg=>specFirst_at σ1 s.O s.E s.M g p _ hg om9 om9).mono ?_
  rintro r τ9 ⟨rfl,e8⟩
  subst e8
  rw[hB0]
  simp -implicitDefEqProofs(disch:=omega)only[Nat.reduceEqDiff,↓reduceIte,vcu,↓vcd,opK_some]
  refine⟨keep_of rfl (fun p hp=>by simp only[List.mem_singleton] at hp;subst hp;exact .inr s7),?_⟩
  refine tree_quiets (fun _=>none) _ _ _ (fun _ _ _ _=>fun x ob e=>by cases e) kr9 kr9 ?_
  simp -implicitDefEqProofs(disch:=omega)only[Nat.reduceEqDiff,↓reduceIte,vcu,↓vcd,vcp]
  refine tree_stop ?_
  have hs9:=hs6.trans s7
  have v9:=s7 _ _ v6
  clear wu l5 lE5 l6 lE6 v6 v5 v4 l4 s5 s6 s7 hs6 hs5 hs4 hlI hlO hlf
  simp -implicitDefEqProofs(disch:=omega)only[Nat.reduceEqDiff,↓reduceIte,vcu,↓vcd]
  refine r_lit el88 (out:=#[]) kr9 kr9 fun gc0 τ10 n10 s10 v10=>?_
  have hs10:=hs9.trans s10
  have w10:=s10 _ _ v9
  have lE10:=mE _ hs10
  simp -implicitDefEqProofs(disch:=omega)only[Nat.reduceEqDiff,↓reduceIte,vcu,↓vcd,lE10]
  refine vc_loop_c mixed kr9 [2,3,4,10,12,13] (fun m a τ'=>∃(ch:List Nat) (sd:Bool) (x:Int) (gl:Nat),a 14=.slice (some ⟨gl,0,none⟩) ch.length 1∧τ' gl=some ⟨ints .i64 (chI ch),false⟩∧τ9 gl=none∧a 15=.int .i64 (if sd=true then 1 else 0)∧a 16=.int .i64 x∧a 17=.int .i64 (wantOf A B sd)∧Sub τ9 τ'∧Inv s cs A B (O / s.E) ch sd x∧cs.length≤ch.length+m∧go s cs A B m ch sd x=C) cs.length ⟨[],true,O / s.E,gc0,rfl,v10,n10,rfl,rfl,rfl,s10,hst,by simp,hCC⟩ ?_
  clear hCC hst v10 n10 w10 lE10 s10 hs10
  rintro m a τ11 hc ⟨ch,sd,x,gl,h14,vl,nl,h15,h16,h17,hs11,hinv,hlen,hgo⟩
  simp -implicitDefEqProofs(disch:=omega)only[Nat.reduceEqDiff,↓reduceIte,vcu,↓vcd] at hc
  obtain⟨h2,h3,h4,h10,h12,h13,-⟩:=hc
  have wb:=hs11 _ _ v9
  have lE:=mE _ (hs9.trans hs11)
  simp -implicitDefEqProofs(disch:=omega)only[Nat.reduceEqDiff,↓reduceIte,vcu,↓vcd,h2,h3,h4,h10,h12,h13,h14,h15,h16,h17]
  refine vc_loop_c mixed kr9 [2,3,4,10,12,13,14,15,16,17] (fun m a τ'=>∃k:Nat,m+k=cs.length∧a 19=.int .i64 k∧a 18=.int .i64 (nI (nxt s cs ch sd x (wantOf A B sd) k))∧τ'=τ11) cs.length ⟨0,by simp,rfl,rfl,rfl⟩ ?_
  rintro m2 a2 τ12 hc2 ⟨k,hk,h19,h18,e12⟩
  subst e12
  simp -implicitDefEqProofs(disch:=omega)only[Nat.reduceEqDiff,↓reduceIte,vcu,↓vcd,h2,h3,h4,h10,h12,h13,h14,h15,h16,h17] at hc2
  obtain⟨g2,g3,g4,g10,g12,g13,g14,g15,g16,g17,-⟩:=hc2
  by_cases hlt:k < cs.length
  ·have hgk:cs.getD k cl0=gc cs k:=rfl
   obtain⟨x1,x2,x3⟩:=trisAt_own wb k hlt
   rw[hgk] at x1 x2 x3
   have hm:=hR _ (gc_mem hlt)
   have hnx:=nxt_succ s cs ch sd x (wantOf A B sd) k
   have hh:=has_at (w0:=w0) τ12 gl 0 (chI ch) k (intsAt_own vl) (by rw[chI_length];have:=all_le hinv;omega)
   rw[chI_length] at hh
   generalize gc cs k=c at x1 x2 x3 hm hnx
   obtain⟨⟨a1,a2⟩,⟨a3,a4⟩,-⟩:=hm
   cases sd with
   | true =>
    have w1:wantOf A B true=A:=rfl
    rw[w1] at g17 h18 hnx
    have e15:(if (true:Bool)=true then (1:Int) else 0)=1:=rfl
    rw[e15] at g15
    by_cases c1:c.o / s.E=x
    ·by_cases c2:c.v=A
     ·simp -implicitDefEqProofs(disch:=omega)only[Nat.reduceEqDiff,↓reduceIte,vcu,↓vcd,g2,g3,g4,g10,g12,g13,g14,g15,g16,g17,h18,h19,x1,x2,x3,lE,Int.toNat_natCast,Nat.add_zero]
      refine hh.mono ?_
      rintro r τ13 ⟨rfl,e13⟩
      subst e13
      by_cases c3:k∈ch
      ·rw[decide_eq_true (mem_chI.2 c3)]
       rw[if_neg fun hh=>hh.2 c3] at hnx
       simp -implicitDefEqProofs(disch:=omega)only[Nat.reduceEqDiff,↓reduceIte,vcu,↓vcd,opK_some,Bool.not_true,g2,g3,g4,g10,g12,g13,g14,g15,g16,g17,h18,h19]
       exact⟨⟨tr9,tr9,tr9,tr9,tr9,tr9,tr9,tr9,tr9,tr9,tr9⟩,m2 - 1,by omega,k+1,by omega,by simp,by rw[w1,hnx],tr9⟩
      ·rw[decide_eq_false (fun hm=>c3 (mem_chI.1 hm))]
       rw[if_pos ⟨⟨c1,c2⟩,c3⟩] at hnx
       simp -implicitDefEqProofs(disch:=omega)only[Nat.reduceEqDiff,↓reduceIte,vcu,↓vcd,opK_some,Bool.not_false,g2,g3,g4,g10,g12,g13,g14,g15,g16,g17,h18,h19]
       exact⟨⟨tr9,tr9,tr9,tr9,tr9,tr9,tr9,tr9,tr9,tr9,tr9⟩,m2 - 1,by omega,k+1,by omega,by simp,by rw[w1,hnx],tr9⟩
     ·rw[if_neg fun hh=>c2 hh.1.2] at hnx
      simp -implicitDefEqProofs(disch:=omega)only[Nat.reduceEqDiff,↓reduceIte,vcu,↓vcd,g2,g3,g4,g10,g12,g13,g14,g15,g16,g17,h18,h19,x1,x2,x3,lE,Int.toNat_natCast,Nat.add_zero]
      exact⟨⟨tr9,tr9,tr9,tr9,tr9,tr9,tr9,tr9,tr9,tr9,tr9⟩,m2 - 1,by omega,k+1,by omega,by simp,by rw[w1,hnx],tr9⟩
    ·rw[if_neg fun hh=>c1 hh.1.1] at hnx
     simp -implicitDefEqProofs(disch:=omega)only[Nat.reduceEqDiff,↓reduceIte,vcu,↓vcd,g2,g3,g4,g10,g12,g13,g14,g15,g16,g17,h18,h19,x1,x2,x3,lE,Int.toNat_natCast,Nat.add_zero]
     exact⟨⟨tr9,tr9,tr9,tr9,tr9,tr9,tr9,tr9,tr9,tr9,tr9⟩,m2 - 1,by omega,k+1,by omega,by simp,by rw[w1,hnx],tr9⟩
   | false =>
    have w1:wantOf A B false=B:=rfl
    rw[w1] at g17 h18 hnx
    have e15:(if (false:Bool)=true then (1:Int) else 0)=0:=rfl
    rw[e15] at g15
    by_cases c1:c.i / s.E=x
    ·by_cases c2:c.v=B
     ·simp -implicitDefEqProofs(disch:=omega)only[Nat.reduceEqDiff,↓reduceIte,vcu,↓vcd,g2,g3,g4,g10,g12,g13,g14,g15,g16,g17,h18,h19,x1,x2,x3,lE,Int.toNat_natCast,Nat.add_zero]
      refine hh.mono ?_
      rintro r τ13 ⟨rfl,e13⟩
      subst e13
      by_cases c3:k∈ch
      ·rw[decide_eq_true (mem_chI.2 c3)]
       rw[if_neg fun hh=>hh.2 c3] at hnx
       simp -implicitDefEqProofs(disch:=omega)only[Nat.reduceEqDiff,↓reduceIte,vcu,↓vcd,opK_some,Bool.not_true,g2,g3,g4,g10,g12,g13,g14,g15,g16,g17,h18,h19]
       exact⟨⟨tr9,tr9,tr9,tr9,tr9,tr9,tr9,tr9,tr9,tr9,tr9⟩,m2 - 1,by omega,k+1,by omega,by simp,by rw[w1,hnx],tr9⟩
      ·rw[decide_eq_false (fun hm=>c3 (mem_chI.1 hm))]
       rw[if_pos ⟨⟨c1,c2⟩,c3⟩] at hnx
       simp -implicitDefEqProofs(disch:=omega)only[Nat.reduceEqDiff,↓reduceIte,vcu,↓vcd,opK_some,Bool.not_false,g2,g3,g4,g10,g12,g13,g14,g15,g16,g17,h18,h19]
       exact⟨⟨tr9,tr9,tr9,tr9,tr9,tr9,tr9,tr9,tr9,tr9,tr9⟩,m2 - 1,by omega,k+1,by omega,by simp,by rw[w1,hnx],tr9⟩
     ·rw[if_neg fun hh=>c2 hh.1.2] at hnx
      simp -implicitDefEqProofs(disch:=omega)only[Nat.reduceEqDiff,↓reduceIte,vcu,↓vcd,g2,g3,g4,g10,g12,g13,g14,g15,g16,g17,h18,h19,x1,x2,x3,lE,Int.toNat_natCast,Nat.add_zero]
      exact⟨⟨tr9,tr9,tr9,tr9,tr9,tr9,tr9,tr9,tr9,tr9,tr9⟩,m2 - 1,by omega,k+1,by omega,by simp,by rw[w1,hnx],tr9⟩
    ·rw[if_neg fun hh=>c1 hh.1.1] at hnx
     simp -implicitDefEqProofs(disch:=omega)only[Nat.reduceEqDiff,↓reduceIte,vcu,↓vcd,g2,g3,g4,g10,g12,g13,g14,g15,g16,g17,h18,h19,x1,x2,x3,lE,Int.toNat_natCast,Nat.add_zero]
     exact⟨⟨tr9,tr9,tr9,tr9,tr9,tr9,tr9,tr9,tr9,tr9,tr9⟩,m2 - 1,by omega,k+1,by omega,by simp,by rw[w1,hnx],tr9⟩
  obtain rfl:k=cs.length:=by omega
  cases hn:nxt s cs ch sd x (wantOf A B sd) cs.length with
  | none =>
   rw[hn] at h18
   have e18:nI none=-1:=rfl
   rw[e18] at h18
   rw[go_none hn] at hgo
   subst hgo
   simp -implicitDefEqProofs(disch:=omega)only[Nat.reduceEqDiff,↓reduceIte,vcu,↓vcd,g2,g3,g4,g10,g12,g13,g14,g15,g16,g17,h18,h19]
   have hne2:gl≠gb:=ne_of nl v9
   have hAB:∀k,k∈ch→0≤A+B - (gc cs k).v∧A+B - (gc cs k).v≤10∧0≤(gc cs k).v:=fun k hk=>by
    have:=hch.ab k hk
    have:=hwa.1
    have:=hwb.1
    omega
   have hchl:=all_le hinv
   refine vc_loop_c mixed kr9 [2,3,10,12,13,14] (fun m a τ'=>∃j:Nat,m+j=ch.length∧a 21=.int .i64 j∧Kept gb τ12 τ'∧τ' gb=some ⟨tris (flip A B (ch.take j) cs),false⟩) ch.length ⟨0,by simp,rfl,Kept.refl _ _,by simpa [flip_nil] using wb⟩ ?_
   rintro m3 a3 τ13 hc3 ⟨j,hj,h21,hK,hgb⟩
   simp -implicitDefEqProofs(disch:=omega)only[Nat.reduceEqDiff,↓reduceIte,vcu,↓vcd,g2,g3,g4,g10,g12,g13,g14] at hc3
   obtain⟨q2,q3,q10,q12,q13,q14,-⟩:=hc3
   by_cases hjl:j < ch.length
   ·have hkm:ch.getD j 0∈ch:=by simp [List.getD,hjl]
    have hkl:=hch.lt _ hkm
    have hab:=hAB _ hkm
    have hnt:ch.getD j 0 ∉ ch.take j:=fun hm=>by
     obtain⟨i,hi,e⟩:=List.getElem_of_mem hm
     simp at hi
     have e1:ch.getD j 0=ch[j]:=by simp [List.getD,hjl]
     rw[e1,List.getElem_take] at e
     have:=(List.getElem_inj hch.nd).1 e
     omega
    have hts:ch.take (j+1)=ch.take j++[ch.getD j 0]:=by
     rw[List.take_succ_eq_append_getElem hjl];simp [List.getD,hjl]
    have lk:=intsAt_own (hK.at vl hne2) j (by rw[chI_length];exact hjl)
    rw[chI_getD hjl] at lk
    obtain⟨fs1,fs2⟩:=flip_step (a:=A) (b:=B) hkl hnt
    have hgf:(flip A B (ch.take j) cs).getD (ch.getD j 0) cl0=gc (flip A B (ch.take j) cs) (ch.getD j 0):=rfl
    have hfl:=flip_length A B (ch.take j) cs
    obtain⟨-,-,x3⟩:=trisAt_own hgb (ch.getD j 0) om9
    rw[hgf,fs2] at x3
    rw[←hts] at fs1
    generalize hkk:ch.getD j 0=kk at *
    simp -implicitDefEqProofs(disch:=omega)only[Nat.reduceEqDiff,↓reduceIte,vcu,↓vcd,q2,q3,q10,q12,q13,q14,h21]
    refine region_tree mixed (quiets [0,1,2,3,4,5,6,7,8,9,10,11,12,13,14,15,16] (quiets [17,18] (.one 19 .stop))) [([0,1,2,3,4,5,6,7,8,9,10,11,12,13,14,15,16],Sub τ13)] kr9 kr9 (fun p hp=>by simp only[List.mem_singleton] at hp;subst hp;exact Sub.refl _) ?_
    refine tree_quiets τ13 _ _ _ sf1 kr9 kr9 ?_
    simp -implicitDefEqProofs(disch:=omega)only[Nat.reduceEqDiff,↓reduceIte,vcu,↓vcd,vcp,q2,q3,q10,q12,q13,q14,h21,lk,x3,Int.toNat_natCast]
    refine tree_quiets (fun _=>none) _ _ _ (fun _ _ _ _=>fun x ob e=>by cases e) kr9 kr9 ?_
    simp -implicitDefEqProofs(disch:=omega)only[Nat.reduceEqDiff,↓reduceIte,vcu,↓vcd,vcp,q10,Int.toNat_natCast]
    refine tree_one rfl ?_
    refine r_set (g:=gb) (i:=kk * 3+2) (by simp -implicitDefEqProofs(disch:=omega)only[Nat.reduceEqDiff,↓reduceIte,vcu,↓vcd,Nat.zero_add]) z9r co3 z9r hgb (by rw[tris_length];omega) fun τ14 k14 e14=>?_
    simp -implicitDefEqProofs(disch:=omega)only[Nat.reduceEqDiff,↓reduceIte,vcu,↓vcd] at e14
    rw[(tris_set _ kk om9 _).2.2,hgf,fs2,fs1] at e14
    simp -implicitDefEqProofs(disch:=omega)only[Nat.reduceEqDiff,↓reduceIte,vcu,↓vcd]
    refine⟨keep_of rfl (fun p hp=>by simp only[List.mem_singleton] at hp;subst hp;exact .inl kr9),tree_stop ?_⟩
    simp -implicitDefEqProofs(disch:=omega)only[Nat.reduceEqDiff,↓reduceIte,vcu,↓vcd,q2,q3,q10,q12,q13,q14,h21]
    exact⟨⟨tr9,tr9,tr9,tr9,tr9,tr9,tr9⟩,m3 - 1,by omega,j+1,by omega,by simp,hK.trans k14,e14⟩
   obtain rfl:j=ch.length:=by omega
   rw[List.take_length] at hgb
   have hfl:=flip_length A B ch cs
   have hs13:Sub τ τ13:=hK.sub (hs9.trans hs11) nτb
   simp -implicitDefEqProofs(disch:=omega)only[Nat.reduceEqDiff,↓reduceIte,vcu,↓vcd,q2,q3,q10,q12,q13,q14,h21]
   rw[r_build]
   refine⟨(_,#[.int .i64 I,.int .i64 O,.int .i64 A]),⟨ze70,by simp -implicitDefEqProofs(disch:=omega)only[Nat.reduceEqDiff,↓reduceIte,vcu,↓vcd,q2,q3,q12];kernel_rfl⟩,?_⟩
   simp -implicitDefEqProofs(disch:=omega)only[Nat.reduceEqDiff,↓reduceIte,vcu,↓vcd]
   refine r_lit el31 (out:=#[.int .i64 I,.int .i64 O,.int .i64 A]) (by first|kernel_rfl | (simp -implicitDefEqProofs(disch:=omega)only[Nat.reduceEqDiff,↓reduceIte,vcu,↓vcd];kernel_rfl)) (by rfl) fun eb τ6 n6 s6 v6=>?_
   replace v6:τ6 eb=some ⟨tris [⟨I,O,A⟩],false⟩:=v6
   refine r_pushC (g:=gb) (e:=eb) (o:=0) (cs:=flip A B ch cs) (ds:=[⟨I,O,A⟩]) (m:=1) (len:=cs.length) el31 om9 sl31 (by simp -implicitDefEqProofs(disch:=omega)only[Nat.reduceEqDiff,↓reduceIte,vcu,↓vcd,q10]) (s6 _ _ hgb) hfl z9q (trisAt_own v6) rfl om9 fun gc9 τ15 n9 k9 v15=>?_
   have s15:Sub τ τ15:=k9.sub (hs13.trans s6) nτb
   simp -implicitDefEqProofs(disch:=omega)only[Nat.reduceEqDiff,↓reduceIte,vcu,↓vcd]
   refine fin_two Tryz.results95 ⟨.slice (some ⟨gc9,0,none⟩) (cs.length+1) 3,?_,s1.trans s15,.inr ⟨gc9,by simp [hfl],v15,free_sub (s1.trans (hs13.trans s6)) n9⟩⟩
   simp -implicitDefEqProofs(disch:=omega)only[Nat.reduceEqDiff,↓reduceIte,vcu,↓vcd]
  | some k =>
   rw[hn] at h18
   have e18:nI (some k)=(k:Int):=rfl
   rw[e18] at h18
   simp -implicitDefEqProofs(disch:=omega)only[Nat.reduceEqDiff,↓reduceIte,vcu,↓vcd,g2,g3,g4,g10,g12,g13,g14,g15,g16,g17,h18,h19]
   have hroom:=hinv.room hn
   obtain⟨m',rfl⟩:∃m',m=m'+1:=⟨m - 1,by omega⟩
   rw[go_some hn] at hgo
   have hinv':=Inv.step hC hne hfr hinv hn
   obtain⟨hkl,-,-⟩:=nxt_some hn
   have hwn:=wantOf_not A B sd
   refine r_lit el88 (out:=#[.int .i64 (k:Int)]) (by first|kernel_rfl | (simp -implicitDefEqProofs(disch:=omega)only[Nat.reduceEqDiff,↓reduceIte,vcu,↓vcd,h18];kernel_rfl)) (by rfl) fun e3 τ13 n13 s13 v13=>?_
   refine r_pushI (g:=gl) (e:=e3) (o:=0) (k:=.i64) (xs:=chI ch) (ys:=[(k:Int)]) (m:=1) (len:=ch.length) el88 om9 sl88 (by simp -implicitDefEqProofs(disch:=omega)only[Nat.reduceEqDiff,↓reduceIte,vcu,↓vcd,g14]) (s13 _ _ vl) (chI_length _) z9q (intsAt_own v13) rfl om9 fun g6 τ14 n14 k14 v14=>?_
   rw[←chI_snoc] at v14
   have hs14:Sub τ9 τ14:=k14.sub (hs11.trans s13) nl
   have n6:=free_sub (hs11.trans s13) n14
   have hl1:ch.length+1=(ch++[k]).length:=by simp
   obtain⟨x1,x2,-⟩:=trisAt_own (hs14 _ _ v9) k hkl
   have hgk:cs.getD k cl0=gc cs k:=rfl
   rw[hgk] at x1 x2
   have hm:=hR _ (gc_mem hkl)
   have lE14:=mE _ (hs9.trans hs14)
   generalize gc cs k=c at x1 x2 hm hinv' hgo
   obtain⟨⟨a1,a2⟩,⟨a3,a4⟩,-⟩:=hm
   have hA1:=hwa.1
   have hB1:=hwb.1
   cases sd with
   | true =>
    have e15:(if (true:Bool)=true then (1:Int) else 0)=1:=rfl
    rw[e15] at g15
    have w1:wantOf A B true=A:=rfl
    rw[w1] at g17
    simp -implicitDefEqProofs(disch:=omega)only[Nat.reduceEqDiff,↓reduceIte,vcu,↓vcd,g2,g3,g4,g10,g12,g13,g14,g15,g16,g17,h18,h19,x1,x2,lE14,Int.toNat_natCast,Nat.add_zero]
    exact⟨⟨tr9,tr9,tr9,tr9,tr9,tr9,tr9⟩,m',by omega,ch++[k],false,_,g6,by rw[hl1],v14,n6,rfl,rfl,by show Value.int .i64 (A+B - A)=.int .i64 B;congr 1;omega,hs14,hinv',by simp;omega,hgo⟩
   | false =>
    have e15:(if (false:Bool)=true then (1:Int) else 0)=0:=rfl
    rw[e15] at g15
    have w1:wantOf A B false=B:=rfl
    rw[w1] at g17
    simp -implicitDefEqProofs(disch:=omega)only[Nat.reduceEqDiff,↓reduceIte,vcu,↓vcd,g2,g3,g4,g10,g12,g13,g14,g15,g16,g17,h18,h19,x1,x2,lE14,Int.toNat_natCast,Nat.add_zero]
    exact⟨⟨tr9,tr9,tr9,tr9,tr9,tr9,tr9⟩,m',by omega,ch++[k],true,_,g6,by rw[hl1],v14,n6,rfl,rfl,by show Value.int .i64 (A+B - B)=.int .i64 A;congr 1;omega,hs14,hinv',by simp;omega,hgo⟩
theorem ownI_lenD {β σ:AHeap} {v:Value} {xs:List Int} (h:OwnI β σ v xs):alenV Tryz.prog 88 v=some (.int .i64 (xs.length:Int)):=by
 rcases h with ⟨rfl,rfl⟩ |⟨g,rfl,-,-⟩
 ·exact alenV_slice Tryz.underlying88
 ·exact alenV_slice Tryz.underlying88
theorem rowI_D {β σ:AHeap} {v:Value} {xs:List Int} (h:OwnI β σ v xs) (h0:0 < xs.length):∃g,v=.slice (some ⟨g,0,none⟩) xs.length 1∧σ g=some ⟨ints .i64 xs,false⟩∧β g=none:=by
 rcases h with ⟨_,rfl⟩ |⟨g,e1,e2,e3⟩
 ·simp at h0
 ·exact⟨g,e1,e2,e3⟩
theorem ownC_lenD {β σ:AHeap} {v:Value} {cs:List Cl} (h:OwnC β σ v cs):alenV Tryz.prog 31 v=some (.int .i64 (cs.length:Int)):=by
 rcases h with ⟨rfl,rfl⟩ |⟨g,rfl,-,-⟩
 ·exact alenV_slice Tryz.underlying31
 ·exact alenV_slice Tryz.underlying31
def putL (s:Sp) (cs:List Cl) (i o:Int):List Cl:=if CV s cs then (match freeV s cs i o with | []=>cs|v :: _=>cs++[⟨i,o,v⟩]) else []
def putOk (s:Sp) (cs:List Cl) (i o:Int):Bool:=match freeV s cs i o with | []=>false|_ :: _=>true
theorem putL_no {s:Sp} {cs:List Cl} {i o:Int} (h:¬ CV s cs):putL s cs i o=[]∧putOk s cs i o=false:=by
 unfold putL putOk;rw[if_neg h,freeV_no fun hh=>h hh.1];exact⟨rfl,rfl⟩
theorem putL_nil {s:Sp} {cs:List Cl} {i o:Int} (h:CV s cs) (hf:freeV s cs i o=[]):putL s cs i o=cs∧putOk s cs i o=false:=by
 unfold putL putOk;rw[if_pos h,hf];exact⟨rfl,rfl⟩
theorem putL_cons {s:Sp} {cs:List Cl} {i o v:Int} {vs:List Int} (h:CV s cs) (hf:freeV s cs i o=v :: vs):putL s cs i o=cs++[⟨i,o,v⟩]∧putOk s cs i o=true:=by
 unfold putL putOk;rw[if_pos h,hf];exact⟨rfl,rfl⟩
def dropOk (s:Sp) (cs:List Cl) (i:Int):Bool:=decide (CV s cs∧(dropL cs i).length < cs.length)
def drL (s:Sp) (cs:List Cl) (i:Int):List Cl:=if CV s cs then dropL cs i else []
theorem drL_no {s:Sp} {cs:List Cl} {i:Int} (h:¬ CV s cs):drL s cs i=[]∧dropOk s cs i=false:=by
 unfold drL dropOk;rw[if_neg h,decide_eq_false fun hh=>h hh.1];exact⟨rfl,rfl⟩
theorem drL_ok {s:Sp} {cs:List Cl} {i:Int} (h:CV s cs):drL s cs i=dropL cs i∧dropOk s cs i=decide ((dropL cs i).length < cs.length):=by
 unfold drL dropOk;rw[if_pos h];exact⟨rfl,decide_eq_decide.2 ⟨fun hh=>hh.2,fun hh=>⟨h,hh⟩⟩⟩
theorem dropL_le (cs:List Cl) (i:Int):(dropL cs i).length≤cs.length:=List.length_filter_le _ _
set_option maxRecDepth 8000 in
theorem specDrop_at (σ:AHeap) (s:Sp) (h o:Nat) (cs:List Cl) (I:Int) (hv:TrisAt σ h o cs) (hl:cs.length≤1048576) :
  ACall Tryz.prog w0 96 [.agg #[.int .i64 s.O,.int .i64 s.E,.int .i64 s.M],.slice (some ⟨h,o,none⟩) cs.length 3,.int .i64 I] σ fun r σ'=>∃v,r=.tuple #[v,.bool (dropOk s cs I)]∧Sub σ σ'∧OwnC σ σ' v (drL s cs I):=by
 refine acall_go mixed Tryz.func96 rfl good96 fun pr=>?_
 simp -implicitDefEqProofs(disch:=omega)only[Nat.reduceEqDiff,↓reduceIte,vcu,↓vcd]
 refine r_boxed fun b τ nb s1 e1=>?_
 replace e1:τ b=some ⟨[.int .i64 s.O,.int .i64 s.E,.int .i64 s.M],false⟩:=e1
 have l3:lds τ b 0 3=some [.int .i64 s.O,.int .i64 s.E,.int .i64 s.M]:=lds_three (ld_of e1 rfl) (ld_of e1 rfl) (ld_of e1 rfl)
 simp -implicitDefEqProofs(disch:=omega)only[Nat.reduceEqDiff,↓reduceIte,vcu,↓vcd,l3,co29]
 refine (specCV_at τ s.O s.E s.M h o cs (hv.sub s1) hl).mono ?_
 rintro r _ ⟨rfl,rfl⟩
 rename_i τ
 by_cases hC:CV s cs
 case neg =>
  obtain⟨q1,q2⟩:=drL_no (i:=I) hC
  rw[decide_eq_false hC,q1,q2]
  simp -implicitDefEqProofs(disch:=omega)only[Nat.reduceEqDiff,↓reduceIte,vcu,↓vcd,opK_some,Bool.not_false]
  refine r_lit el31 (out:=#[]) kr9 kr9 fun ea τ3 n3 s3 v3=>?_
  simp -implicitDefEqProofs(disch:=omega)only[Nat.reduceEqDiff,↓reduceIte,vcu,↓vcd]
  refine fin_two Tryz.results96 ⟨.slice (some ⟨ea,0,none⟩) 0 3,?_,s1.trans s3,.inr ⟨ea,rfl,v3,free_sub s1 n3⟩⟩
  simp -implicitDefEqProofs(disch:=omega)only[Nat.reduceEqDiff,↓reduceIte,vcu,↓vcd]
 rw[decide_eq_true hC]
 obtain⟨q1,q2⟩:=drL_ok (i:=I) hC
 rw[q1,q2]
 have hl12:=hC.len
 simp -implicitDefEqProofs(disch:=omega)only[Nat.reduceEqDiff,↓reduceIte,vcu,↓vcd,opK_some,Bool.not_true]
 refine r_lit el31 (out:=#[]) kr9 kr9 fun ea τ3 n3 s3 v3=>?_
 simp -implicitDefEqProofs(disch:=omega)only[Nat.reduceEqDiff,↓reduceIte,vcu,↓vcd]
 refine vc_loop_c mixed kr9 [1,2] (fun m a τ'=>∃(k g:Nat),m+k=cs.length∧a 9=.int .i64 k∧a 8=.slice (some ⟨g,0,none⟩) (dropL (cs.take k) I).length 3∧Sub τ τ'∧τ' g=some ⟨tris (dropL (cs.take k) I),false⟩∧τ g=none) cs.length ⟨0,ea,by simp,rfl,rfl,s3,v3,n3⟩ ?_
 rintro m a τ2 hc ⟨k,g,hk,h9,h8,hs,hg,hn⟩
 simp -implicitDefEqProofs(disch:=omega)only[Nat.reduceEqDiff,↓reduceIte,vcu,↓vcd] at hc
 obtain⟨h1,h2,-⟩:=hc
 by_cases hlt:k < cs.length
 case neg =>
  obtain rfl:k=cs.length:=by omega
  rw[List.take_length] at h8 hg
  simp -implicitDefEqProofs(disch:=omega)only[Nat.reduceEqDiff,↓reduceIte,vcu,↓vcd,h1,h2,h8,h9]
  refine fin_two Tryz.results96 ⟨.slice (some ⟨g,0,none⟩) (dropL cs I).length 3,?_,s1.trans hs,.inr ⟨g,rfl,hg,free_sub s1 hn⟩⟩
  simp -implicitDefEqProofs(disch:=omega)only[Nat.reduceEqDiff,↓reduceIte,vcu,↓vcd]
  simp
 have hall:=((hv.sub s1).sub hs).all hlt
 obtain⟨x1,-,-⟩:=((hv.sub s1).sub hs) k hlt
 have hgk:cs.getD k cl0=gc cs k:=rfl
 rw[hgk] at hall x1
 have ht:=dropL_take cs I hlt
 have hle:(dropL (cs.take k) I).length≤k:=by have:=dropL_le (cs.take k) I;simp at this;omega
 generalize gc cs k=c at hall x1 ht
 obtain⟨ci,co,cv⟩:=c
 dsimp only at hall x1 ht
 by_cases he:ci=I
 ·rw[if_pos he,List.append_nil] at ht
  simp -implicitDefEqProofs(disch:=omega)only[Nat.reduceEqDiff,↓reduceIte,vcu,↓vcd,h1,h2,h8,h9,x1,Nat.add_zero]
  exact⟨⟨trivial,trivial,trivial⟩,m - 1,by omega,k+1,g,by omega,by simp,by rw[ht],hs,by rw[ht];exact hg,hn⟩
 ·rw[if_neg he] at ht
  simp -implicitDefEqProofs(disch:=omega)only[Nat.reduceEqDiff,↓reduceIte,vcu,↓vcd,h1,h2,h8,h9,x1,hall,co70,Nat.add_zero]
  refine r_lit el31 (out:=#[.int .i64 ci,.int .i64 co,.int .i64 cv]) (by first|kernel_rfl | (simp -implicitDefEqProofs(disch:=omega)only[Nat.reduceEqDiff,↓reduceIte,vcu,↓vcd];kernel_rfl)) (by rfl) fun eb τ6 n6 s6 v6=>?_
  replace v6:τ6 eb=some ⟨tris [⟨ci,co,cv⟩],false⟩:=v6
  refine r_pushC (g:=g) (e:=eb) (o:=0) (cs:=dropL (cs.take k) I) (ds:=[⟨ci,co,cv⟩]) (m:=1) (len:=(dropL (cs.take k) I).length) el31 om9 sl31 z9q (s6 _ _ hg) rfl z9q (trisAt_own v6) rfl om9 fun gc9 τ9 n9 k9 v9=>?_
  rw[←ht] at v9
  have hle2:(dropL (cs.take k) I).length+1=(dropL (cs.take (k+1)) I).length:=by rw[ht];simp
  simp -implicitDefEqProofs(disch:=omega)only[Nat.reduceEqDiff,↓reduceIte,vcu,↓vcd,h1,h2,h9,hle2]
  exact⟨⟨trivial,trivial,trivial⟩,m - 1,by omega,k+1,gc9,by omega,by simp,rfl,k9.sub (hs.trans s6) hn,v9,free_sub (hs.trans s6) n9⟩
set_option maxRecDepth 8000 in
theorem flat_call (a b c d e f:Int):flatEq Tryz.prog 70 #[.int .i64 a,.int .i64 b,.int .i64 c] #[.int .i64 d,.int .i64 e,.int .i64 f]=some ((a == d) && ((b == e) && ((c == f) && true))):=by kernel_rfl
set_option maxRecDepth 8000 in
theorem neq_call (a b c d e f:Int):abin Tryz.prog 70 .neq (.agg #[.int .i64 a,.int .i64 b,.int .i64 c]) (.agg #[.int .i64 d,.int .i64 e,.int .i64 f])=some (.bool (!decide ((⟨a,b,c⟩:Cl)=⟨d,e,f⟩))):=by
 show (flatEq Tryz.prog 70 #[.int .i64 a,.int .i64 b,.int .i64 c] #[.int .i64 d,.int .i64 e,.int .i64 f]).map _=_
 rw[flat_call]
 simp only[Option.map_some,Cl.mk.injEq]
 congr 3
 by_cases h1:a=d
 ·by_cases h2:b=e
  ·by_cases h3:c=f<;>simp [h1,h2,h3]
  ·simp [h1,h2]
 ·simp [h1]
set_option maxRecDepth 8000 in
theorem sameCl_at (σ:AHeap) (h o g p:Nat) (xs ys:List Cl) (hv:TrisAt σ h o xs) (hu:TrisAt σ g p ys) (hl:xs.length≤1048576) (hl2:ys.length≤1048576) :
  ACall Tryz.prog w0 48 [.slice (some ⟨h,o,none⟩) xs.length 3,.slice (some ⟨g,p,none⟩) ys.length 3] σ fun r σ'=>r=.bool (decide (xs=ys))∧σ'=σ:=by
 refine acall_go mixed Tryz.func48 rfl good48 fun pr=>?_
 by_cases hlen:xs.length=ys.length
 ·simp -implicitDefEqProofs(disch:=omega)only[Nat.reduceEqDiff,↓reduceIte,vcu,↓vcd]
  refine vc_loop_c mixed kr9 [0,1] (fun m a σ'=>∃k:Nat,m+k=xs.length∧a 5=.int .i64 k∧σ'=σ∧∀j,j < k→xs.getD j cl0=ys.getD j cl0) xs.length ⟨0,by simp,rfl,rfl,by simp⟩ ?_
  rintro m a σ' hc ⟨k,hk,h5,rfl,he⟩
  simp -implicitDefEqProofs(disch:=omega)only[Nat.reduceEqDiff,↓reduceIte,vcu,↓vcd] at hc
  obtain⟨h0,h1,-⟩:=hc
  by_cases hlt:k < xs.length
  ·have hx:=hv.all hlt
   have hy:=hu.all (show k < ys.length by omega)
   generalize hcx:xs.getD k cl0=c at hx
   generalize hcy:ys.getD k cl0=d at hy
   obtain⟨A,B,C⟩:=c
   obtain⟨D,E,F⟩:=d
   dsimp only at hx hy
   by_cases hxy:(⟨A,B,C⟩:Cl)=⟨D,E,F⟩
   ·have hd:decide ((⟨A,B,C⟩:Cl)=⟨D,E,F⟩)=true:=decide_eq_true hxy
    simp -implicitDefEqProofs(disch:=omega)only[Nat.reduceEqDiff,↓reduceIte,vcu,↓vcd,h0,h1,h5,hx,hy,co70,neq_call,hd,Bool.not_true]
    refine⟨⟨trivial,trivial,trivial⟩,m - 1,by omega,k+1,by omega,by simp,trivial,fun j hj=>?_⟩
    by_cases e:j=k
    ·subst e;rw[hcx,hcy];exact hxy
    ·exact he j om9
   ·have hd:decide ((⟨A,B,C⟩:Cl)=⟨D,E,F⟩)=false:=decide_eq_false hxy
    simp -implicitDefEqProofs(disch:=omega)only[Nat.reduceEqDiff,↓reduceIte,vcu,↓vcd,h0,h1,h5,hx,hy,co70,neq_call,hd,Bool.not_false]
    refine fin_one Tryz.results48 ⟨?_,rfl⟩
    simp -implicitDefEqProofs(disch:=omega)only[Nat.reduceEqDiff,↓reduceIte,vcu,↓vcd]
    have:xs≠ys:=fun e=>hxy (by rw[←hcx,←hcy,e])
    simp [this]
  ·simp -implicitDefEqProofs(disch:=omega)only[Nat.reduceEqDiff,↓reduceIte,vcu,↓vcd,h0,h1,h5]
   refine fin_one Tryz.results48 ⟨?_,rfl⟩
   simp -implicitDefEqProofs(disch:=omega)only[Nat.reduceEqDiff,↓reduceIte,vcu,↓vcd]
   have:xs=ys:=list_eq hlen fun j hj=>he j om9
   simp [this]
 ·simp -implicitDefEqProofs(disch:=omega)only[Nat.reduceEqDiff,↓reduceIte,vcu,↓vcd]
  refine fin_one Tryz.results48 ⟨?_,rfl⟩
  simp -implicitDefEqProofs(disch:=omega)only[Nat.reduceEqDiff,↓reduceIte,vcu,↓vcd]
  have:xs≠ys:=fun e=>hlen (by rw[e])
  simp [this]
theorem sameCl_calls (σ:AHeap) (v u:Value) (xs ys:List Cl) (hv:Tris σ v xs) (hu:Tris σ u ys) (hl:xs.length≤1048576) (hl2:ys.length≤1048576) :
  ACall Tryz.prog w0 48 [v,u] σ fun r σ'=>r=.bool (decide (xs=ys))∧σ'=σ :=
 ACall.tris_quiet (pre:=[]) (post:=[u]) kr9 hv fun σ1 h o hs hg =>
  ACall.tris_quiet (pre:=[_]) (post:=[]) kr9 (hu.sub hs) fun σ2 g p hs2 hg2=>sameCl_at σ2 h o g p xs ys (hg.sub hs2) hg2 hl hl2
end Go.Proofs.YtofdnmlpfagibaaGreatDoor
