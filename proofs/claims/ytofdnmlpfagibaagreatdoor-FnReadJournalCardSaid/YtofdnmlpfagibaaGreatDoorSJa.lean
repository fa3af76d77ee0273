/- Parts. -/
import Derived.WalkKit
import Derived.RangeFuncIn
import Derived.RangeFuncOwn
import Derived.OrdersIn
import Derived.Orders
import Derived.Still
set_option linter.unusedSimpArgs false
set_option linter.unusedVariables false
set_option linter.unusedSectionVars false
namespace Go.Abs
open Go.RowKit
structure AObj where
 cells:List Value
 ro:Bool
abbrev AHeap:=Nat→Option AObj
abbrev AFrame:=Nat→Value
def AHeap.upd (σ:AHeap) (h:Nat) (o:Option AObj):AHeap:=fun k=>if k=h then o else σ k
theorem AHeap.upd_same (σ:AHeap) (h:Nat) (o:Option AObj):σ.upd h o h=o:=by simp [AHeap.upd]
theorem AHeap.upd_ne (σ:AHeap) {h k:Nat} (o:Option AObj) (hk:k≠h):σ.upd h o k=σ k:=by simp [AHeap.upd,hk]
theorem AHeap.upd_upd (σ:AHeap) (h:Nat) (o o':Option AObj):(σ.upd h o).upd h o'=σ.upd h o':=by
 funext k;by_cases hk:k=h<;>simp [AHeap.upd,hk]
def fset (a:AFrame) (d:Nat) (v:Value):AFrame:=fun k=>if k=d then v else a k
theorem fset_app (a:AFrame) (d:Nat) (v:Value) (k:Nat):fset a d v k=if k=d then v else a k:=rfl
def aput (a:AFrame) (d:Option Tmp) (v:Value):AFrame:=match d with|some d=>fset a d v|none=>a
structure Place where
 block:Nat
 shift:Nat
 lim:Nat
def Apt (p q:Place):Prop:=p.block≠q.block∨p.lim≤q.shift∨q.lim≤p.shift
theorem Apt.symm {p q:Place} (h:Apt p q):Apt q p:=by
 rcases h with h|h|h
 ·exact .inl fun e=>h e.symm
 ·exact .inr (.inr h)
 ·exact .inr (.inl h)
theorem Apt.part {p q r:Place} (h:Apt p q) (hb:r.block=q.block) (h1:q.shift≤r.shift) (h2:r.lim≤q.lim):Apt p r:=by
 rcases h with h|h|h
 ·exact .inl (by rw[hb];exact h)
 ·exact .inr (.inl (Nat.le_trans h h1))
 ·exact .inr (.inr (Nat.le_trans h2 h))
abbrev Beta:=Nat→Option Place
def Le (β β':Beta):Prop:=∀h p,β h=some p→β' h=some p
theorem Le.refl (β:Beta):Le β β:=fun _ _ h=>h
theorem Le.trans {a b c:Beta} (h:Le a b) (k:Le b c):Le a c:=fun x p e=>k x p (h x p e)
def scal0:Value→Bool
 | .bool _ | .int .. | .string _=>true
 | _=>false
def scal:Value→Bool
 | .bool _ | .int .. | .string _=>true
 | .agg vs=>vs.toList.all scal0
 | _=>false
inductive RelV (β:Beta):Value→Value→Prop
 | bool (b:Bool):RelV β (.bool b) (.bool b)
 | int (k:IntKind) (n:Int):RelV β (.int k n) (.int k n)
 | string (s:ByteArray):RelV β (.string s) (.string s)
 | ptrNil:RelV β (.pointer none) (.pointer none)
 | ptr {h o:Nat} {p:Place} (hp:β h=some p):RelV β (.pointer (some ⟨h,o,none⟩)) (.pointer (some ⟨p.block,p.shift+o,none⟩))
 | slcNil:RelV β (.slice none 0 0) (.slice none 0 0)
 | slc {h o len z cap:Nat} {p:Place} (hp:β h=some p) (hc:p.shift+o+cap * z=p.lim) (hl:len≤cap) :
   RelV β (.slice (some ⟨h,o,none⟩) len z) (.slice (some ⟨p.block,p.shift+o,none⟩) len cap)
 | slcE {h o z:Nat} {p:Place} (hp:β h=some p) (hz:p.lim≤p.shift+o) (x:Option Addr):RelV β (.slice (some ⟨h,o,none⟩) 0 z) (.slice x 0 0)
 | slcC {h o len z cap:Nat} {p:Place} (hp:β h=some p) (hc:p.shift+o+cap * z≤p.lim) (hl:len≤cap) :
   RelV β (.slice (some ⟨h,o,some cap⟩) len z) (.slice (some ⟨p.block,p.shift+o,none⟩) len cap)
 | nilFunc:RelV β .nilFunc .nilFunc
 | nilIface:RelV β .nilIface .nilIface
 | iface (t:TypeId) (v:Value) (t':TypeId) (v':Value):RelV β (.iface t v) (.iface t' v')
 | func (fn:Fn) (xs ys:Array Value) (hs:xs.size=ys.size) (he:∀i,i < xs.size→RelV β (xs.getD i undef) (ys.getD i undef)) :
   RelV β (.func fn #[] xs) (.func fn #[] ys)
 | agg (xs ys:Array Value) (hs:xs.size=ys.size) (he:∀i,i < xs.size→RelV β (xs.getD i undef) (ys.getD i undef)):RelV β (.agg xs) (.agg ys)
 | tuple (xs ys:Array Value) (hs:xs.size=ys.size) (he:∀i,i < xs.size→RelV β (xs.getD i undef) (ys.getD i undef)):RelV β (.tuple xs) (.tuple ys)
theorem RelV.mono {β β':Beta} (hl:Le β β') {v v':Value} (h:RelV β v v'):RelV β' v v':=by
 induction h with
 | bool b=>exact .bool b
 | int k n=>exact .int k n
 | string s=>exact .string s
 | ptrNil=>exact .ptrNil
 | ptr hp=>exact .ptr (hl _ _ hp)
 | slcNil=>exact .slcNil
 | slc hp hc h2=>exact .slc (hl _ _ hp) hc h2
 | slcE hp hz x=>exact .slcE (hl _ _ hp) hz x
 | slcC hp hc h2=>exact .slcC (hl _ _ hp) hc h2
 | nilFunc=>exact .nilFunc
 | nilIface=>exact .nilIface
 | iface t v t' v'=>exact .iface t v t' v'
 | func fn xs ys hs he ih=>exact .func fn xs ys hs ih
 | agg xs ys hs he ih=>exact .agg xs ys hs ih
 | tuple xs ys hs he ih=>exact .tuple xs ys hs ih
theorem RelV.undef (β:Beta):RelV β undef undef:=.tuple #[] #[] rfl (fun i hi=>by simp at hi)
theorem RelV.scal0_eq {β:Beta} {v v':Value} (h:RelV β v v') (hs:scal0 v=true):v'=v:=by
 cases h<;>first|rfl|simp [scal0] at hs
theorem RelV.scal0_refl {β:Beta} {v:Value} (hs:scal0 v=true):RelV β v v:=by
 cases v<;>first|exact .bool _|exact .int _ _|exact .string _|simp [scal0] at hs
theorem RelV.scal_eq {β:Beta} {v v':Value} (h:RelV β v v') (hs:scal v=true):v'=v:=by
 cases h with
 | agg xs ys h1 h2 =>
  simp only[scal] at hs
  congr 1
  refine Array.ext h1.symm fun i h3 h4=>?_
  have h5:=h2 i h4
  simp only[Array.getD_eq_getD_getElem?,Array.getElem?_eq_getElem h3,Array.getElem?_eq_getElem h4,Option.getD_some] at h5
  exact h5.scal0_eq (List.all_eq_true.1 hs _ (by simp))
 | _=>first|rfl|simp [scal] at hs
theorem RelV.scal_refl {β:Beta} {v:Value} (hs:scal v=true):RelV β v v:=by
 cases v with
 | agg xs =>
  simp only[scal] at hs
  refine .agg xs xs rfl fun i hi=>?_
  simp only[Array.getD_eq_getD_getElem?,Array.getElem?_eq_getElem hi,Option.getD_some]
  exact RelV.scal0_refl (List.all_eq_true.1 hs _ (by simp))
 | _=>first|exact .bool _|exact .int _ _|exact .string _|simp [scal] at hs
def RelL (β:Beta) (xs ys:List Value):Prop:=xs.length=ys.length∧∀(i:Nat) (x:Value),xs[i]?=some x→∃y:Value,ys[i]?=some y∧RelV β x y
theorem RelL.nil (β:Beta):RelL β [] []:=⟨rfl,by simp⟩
theorem RelL.cons {β:Beta} {x y:Value} {xs ys:List Value} (h:RelV β x y) (k:RelL β xs ys):RelL β (x :: xs) (y :: ys):=by
 refine⟨by simp [k.1],fun i v hv=>?_⟩
 cases i with
 | zero=>simp at hv;subst hv;exact⟨y,by simp,h⟩
 | succ i=>simp at hv;obtain⟨y',h1,h2⟩:=k.2 i v hv;exact⟨y',by simpa using h1,h2⟩
theorem RelL.mono {β β':Beta} (hl:Le β β') {xs ys:List Value} (h:RelL β xs ys):RelL β' xs ys :=
 ⟨h.1,fun i x hx=>let ⟨y,h1,h2⟩:=h.2 i x hx;⟨y,h1,h2.mono hl⟩⟩
theorem RelL.app {β:Beta} {xs ys us vs:List Value} (h:RelL β xs ys) (k:RelL β us vs):RelL β (xs++us) (ys++vs):=by
 refine⟨by simp [h.1,k.1],fun i x hx=>?_⟩
 rcases Nat.lt_or_ge i xs.length with hi|hi
 ·rw[List.getElem?_append_left hi] at hx
  obtain⟨y,h1,h2⟩:=h.2 i x hx
  exact⟨y,by rw[List.getElem?_append_left (h.1 ▸ hi)];exact h1,h2⟩
 ·rw[List.getElem?_append_right hi] at hx
  obtain⟨y,h1,h2⟩:=k.2 _ x hx
  exact⟨y,by rw[List.getElem?_append_right (h.1 ▸ hi),←h.1];exact h1,h2⟩
theorem RelL.tail {β:Beta} {x y:Value} {xs ys:List Value} (h:RelL β (x :: xs) (y :: ys)):RelV β x y∧RelL β xs ys:=by
 refine⟨?_,by simpa using h.1,fun i v hv=>?_⟩
 ·obtain⟨y',h1,h2⟩:=h.2 0 x (by simp);simp at h1;exact h1 ▸ h2
 ·obtain⟨y',h1,h2⟩:=h.2 (i+1) v (by simpa using hv);exact⟨y',by simpa using h1,h2⟩
theorem RelL.cons_inv {β:Beta} {x:Value} {xs ys:List Value} (h:RelL β (x :: xs) ys):∃y ys',ys=y :: ys'∧RelV β x y∧RelL β xs ys':=by
 cases ys with
 | nil=>exact absurd h.1 (by simp)
 | cons y ys'=>exact⟨y,ys',rfl,h.tail⟩
theorem RelL.nil_inv {β:Beta} {ys:List Value} (h:RelL β [] ys):ys=[]:=by
 have:=h.1;simp at this;exact List.eq_nil_of_length_eq_zero this.symm
theorem RelL.of_arr {β:Beta} {xs ys:Array Value} (hs:xs.size=ys.size) (he:∀i,i < xs.size→RelV β (xs.getD i Go.undef) (ys.getD i Go.undef)) :
  RelL β xs.toList ys.toList:=by
 refine⟨by simpa using hs,fun i x hx=>?_⟩
 have hi:i < xs.size:=by
  rcases Nat.lt_or_ge i xs.size with h|h
  ·exact h
  ·simp [Array.getElem?_eq_none h] at hx
 have h1:=he i hi
 have hi':i < ys.size:=hs ▸ hi
 have e1:xs.getD i Go.undef=x:=by
  have:xs[i]?=some x:=by simpa using hx
  simp [this]
 rw[e1] at h1
 refine⟨ys[i],by simp [hi'],?_⟩
 simpa [hi'] using h1
theorem RelL.to_arr {β:Beta} {xs ys:Array Value} (h:RelL β xs.toList ys.toList):xs.size=ys.size∧∀i,i < xs.size→RelV β (xs.getD i Go.undef) (ys.getD i Go.undef):=by
 refine⟨by simpa using h.1,fun i hi=>?_⟩
 obtain⟨y,h1,h2⟩:=h.2 i xs[i] (by simp [hi])
 have:ys[i]?=some y:=by simpa using h1
 simpa [hi,this] using h2
structure RelO (w0:World) (β:Beta) (w:World) (p:Place) (o:AObj):Prop where
 ex:∃cs elem lo hi,w.heap[p.block]?=some (.cells cs elem (lo,hi))∧p.lim≤cs.size∧p.shift+o.cells.length≤p.lim ∧
  (∀(i:Nat) (v:Value),o.cells[i]?=some v→∃v':Value,cs[p.shift+i]?=some v'∧RelV β v v') ∧
  (o.ro=false→w0.heap.size≤p.block∧∀i,p.shift≤i→i < p.lim→¬ (lo≤i∧i < hi))
abbrev Prot:=Nat→Option (Nat × Place)→Obj→Prop
def noProt:Prot:=fun _ _ _=>False
structure Base where
 w:World
 pr:Prot
structure RelH (w0:World) (pr:Prot) (β:Beta) (σ:AHeap) (w:World):Prop where
 below:Below w0.heap.size w0 w
 fin:∃N,∀h,N≤h→β h=none∧σ h=none
 dom:∀h p,β h=some p→p.shift < p.lim→p.block < w.heap.size
 obj:∀h o,σ h=some o→∃p,β h=some p∧(p.lim≤p.shift→o.cells=[])∧(p.shift < p.lim→RelO w0 β w p o)
 disj:∀h h' o o' p p',h≠h'→σ h=some o→σ h'=some o'→β h=some p→β h'=some p'→o.ro=false→p.shift < p.lim→p'.shift < p'.lim→Apt p p'
 prot:∀k g o,pr k g o→(∀G x,g=some (G,x)→σ G=some ⟨[],true⟩)→w.heap[k]?=some o∧o.isCells=false
 gb:∀k g o,pr k g o→k < w.heap.size∧∀G x,g=some (G,x)→β G=some x
theorem guard_upd {σ:AHeap} {h G:Nat} {o:AObj} (hg:σ.upd h (some o) G=some ⟨[],true⟩) (ho:o.ro=false):σ G=some ⟨[],true⟩:=by
 unfold AHeap.upd at hg
 split at hg
 ·cases hg;cases ho
 ·exact hg
theorem guard_put {σ:AHeap} {h G:Nat} {o:AObj} (hg:σ.upd h (some o) G=some ⟨[],true⟩) (ho:o.ro=false):σ.upd h none G=some ⟨[],true⟩:=by
 unfold AHeap.upd at hg ⊢
 split at hg
 ·cases hg;cases ho
 ·rename_i hne;rw[if_neg hne];exact hg
theorem guard_none {σ:AHeap} {h G:Nat} {o:AObj} (hg:σ.upd h none G=some o):σ G=some o:=by
 unfold AHeap.upd at hg
 split at hg
 ·cases hg
 ·exact hg
structure NR where
 n:Nat
 r:Option Nat
 ds:List Deferred
 pr:Prot
structure RelF (n:NR) (β:Beta) (a:AFrame) (act:Act):Prop where
 size:act.tmps.size=n.n
 defers:act.defers=n.ds
 tmp:∀t,RelV β (a t) (act.tmps.getD t undef)
theorem RelF.mono {n:NR} {β β':Beta} (hl:Le β β') {a:AFrame} {act:Act} (h:RelF n β a act):RelF n β' a act :=
 ⟨h.size,h.defers,fun t=>(h.tmp t).mono hl⟩
theorem RelF.put {n:NR} {β:Beta} {a:AFrame} {act:Act} (h:RelF n β a act) {d:Option Tmp} (hd:∀t,d=some t→t < n.n) {v v':Value} (hv:RelV β v v') :
  RelF n β (aput a d v) (act.put d v'):=by
 cases d with
 | none=>exact h
 | some d =>
  have hdn:=hd d rfl
  refine⟨by simp [Act.put,h.size],h.defers,fun t=>?_⟩
  by_cases ht:t=d
  ·subst ht
   have:t < act.tmps.size:=by rw[h.size];exact hdn
   simp [aput,fset,Act.put,this]
   exact hv
  ·have:=h.tmp t
   have hne:d≠t:=fun e=>ht e.symm
   simp [aput,fset,Act.put,ht,Array.getElem?_setIfInBounds_ne hne] at this ⊢
   exact this
def ev (a:AFrame):Operand→Value
 | .tmp t=>a t
 | .const v=>v
 | .global g=>.pointer (some ⟨g,0,none⟩)
 | .func f=>.func (.func f) #[] #[]
def litOk:Value→Bool
 | .bool _ | .int .. | .string _ | .pointer none | .slice none 0 0 | .nilFunc | .nilIface=>true
 | .agg vs | .tuple vs=>vs.toList.all scal
 | _=>false
theorem relv_lits (β:Beta) (vs:Array Value) (h:vs.toList.all scal=true):∀i,i < vs.size→RelV β (vs.getD i undef) (vs.getD i undef):=by
 intro i hi
 have:scal vs[i]=true:=by
  rw[List.all_eq_true] at h
  exact h _ (by simp)
 simpa [hi] using RelV.scal_refl this
theorem RelV.lit {β:Beta} {v:Value} (h:litOk v=true):RelV β v v:=by
 unfold litOk at h
 split at h
 ·exact .bool _
 ·exact .int _ _
 ·exact .string _
 ·exact .ptrNil
 ·exact .slcNil
 ·exact .nilFunc
 ·exact .nilIface
 ·exact .agg _ _ rfl (relv_lits β _ h)
 ·exact .tuple _ _ rfl (relv_lits β _ h)
 ·simp at h
def okx:Operand→Bool
 | .tmp _ | .func _=>true
 | .const v=>litOk v
 | .global _=>false
theorem RelF.ev {n:NR} {β:Beta} {a:AFrame} {act:Act} (h:RelF n β a act) {x:Operand} (hx:okx x=true):RelV β (ev a x) (act.eval x):=by
 cases x with
 | tmp t=>exact h.tmp t
 | const v=>exact RelV.lit hx
 | global g=>simp [okx] at hx
 | func f=>exact .func _ #[] #[] rfl (fun i hi=>by simp at hi)
def evalP {α:Type} (P:Program):Sem α→Option α
 | .pure a=>some a
 | .program k=>evalP P (k P)
 | _=>none
theorem evalP_run {α:Type} {P:Program}:∀{s:Sem α} {v:α},evalP P s=some v→∀w,s.run P w=.ok v w
 | .pure a,v,h,w=>by simp [evalP] at h;subst h;rfl
 | .program k,v,h,w=>by simp only[evalP] at h;simp only[Sem.run];exact evalP_run h w
 | .load ..,_,h,_ | .store ..,_,h,_ | .new ..,_,h,_ | .shape ..,_,h,_ | .freeze ..,_,h,_ | .frozen ..,_,h,_ | .getObj ..,_,h,_
 | .setObj ..,_,h,_ | .choose ..,_,h,_ | .sys ..,_,h,_ | .mark ..,_,h,_ | .halt ..,_,h,_=>by simp [evalP] at h
def lwrite (xs:List Value) (k:Nat) (vs:List Value):List Value:=xs.take k++vs++xs.drop (k+vs.length)
theorem lwrite_length (xs:List Value) (k:Nat) (vs:List Value) (h:k+vs.length≤xs.length):(lwrite xs k vs).length=xs.length:=by
 simp [lwrite];omega
theorem lwrite_get (xs:List Value) (k:Nat) (vs:List Value) (h:k+vs.length≤xs.length) (i:Nat) :
  (lwrite xs k vs)[i]?=if k≤i∧i < k+vs.length then vs[i - k]? else xs[i]?:=by
 unfold lwrite
 rcases Nat.lt_or_ge i k with h1|h1
 ·rw[List.append_assoc,List.getElem?_append_left (by simp;omega),List.getElem?_take,if_pos h1,if_neg (by omega)]
 ·rcases Nat.lt_or_ge i (k+vs.length) with h2|h2
  ·rw[List.getElem?_append_left (by simp;omega),List.getElem?_append_right (by simp;omega),if_pos ⟨h1,h2⟩]
   congr 1;simp;omega
  ·rw[List.getElem?_append_right (by simp;omega),List.getElem?_drop,if_neg (by omega)]
   congr 1;simp;omega
theorem lwrite_one (xs:List Value) (k:Nat) (v:Value) (h:k < xs.length):lwrite xs k [v]=xs.set k v:=by
 apply List.ext_getElem?
 intro i
 rw[lwrite_get _ _ _ (by simp;omega),List.getElem?_set]
 by_cases h1:k=i
 ·subst h1;simp [h]
 ·rw[if_neg (by simp;omega),if_neg h1]
def awrite (cs:Array Value) (k:Nat):List Value→Array Value
 | []=>cs
 | v :: vs=>awrite (cs.setIfInBounds k v) (k+1) vs
theorem awrite_size:∀(vs:List Value) (cs:Array Value) (k:Nat),(awrite cs k vs).size=cs.size
 | [],_,_=>rfl
 | v :: vs,cs,k=>by simp [awrite,awrite_size vs]
theorem awrite_get:∀(vs:List Value) (cs:Array Value) (k:Nat) (_:k+vs.length≤cs.size) (i:Nat),
  (awrite cs k vs)[i]?=if k≤i∧i < k+vs.length then vs[i - k]? else cs[i]?
 | [],cs,k,_,i=>by simp [awrite];intro h1 h2;omega
 | v :: vs,cs,k,h,i=>by
  simp only[List.length_cons] at h ⊢
  rw[awrite,awrite_get vs _ _ (by simp;omega)]
  rcases Nat.lt_trichotomy i k with h1|h1|h1
  ·rw[if_neg (by omega),if_neg (by omega),Array.getElem?_setIfInBounds_ne (by omega)]
  ·subst h1
   have hi:i < cs.size:=by omega
   rw[if_neg (by omega),if_pos (by omega)]
   simp [hi]
  ·by_cases h2:i < k+1+vs.length
   ·rw[if_pos (by omega),if_pos (by omega)]
    obtain⟨d,rfl⟩:∃d,i=k+1+d:=⟨i - (k+1),by omega⟩
    have e1:k+1+d - (k+1)=d:=by omega
    have e2:k+1+d - k=d+1:=by omega
    rw[e1,e2];rfl
   ·rw[if_neg (by omega),if_neg (by omega),Array.getElem?_setIfInBounds_ne (by omega)]
theorem oneCell_rel {β:Beta} {v v':Value} (h:RelV β v v') (h1:v.oneCell'=true):v'.oneCell'=true:=by
 cases h<;>first|rfl|simp [Value.oneCell'] at h1
def World.putObj (w:World) (b:Nat) (o:Obj):World:={ w with heap:=w.heap.setIfInBounds b o }
theorem run_storeCells (P:Program) (b:Nat) (elem:TypeId) (lo hi:Nat):∀(vs:List Value) (o i:Nat) (cs:Array Value) (w:World),
  w.heap[b]?=some (.cells cs elem (lo,hi))→o+i+vs.length≤cs.size→(∀v∈vs,v.oneCell'=true)→(∀j,o+i≤j→j < o+i+vs.length→¬ (lo≤j∧j < hi)) →
  (storeCells ⟨b,o,none⟩ vs i).run P w=.ok () (World.putObj w b (.cells (awrite cs (o+i) vs) elem (lo,hi)))
 | [],o,i,cs,w,hb,_,_,_=>by
  have:World.putObj w b (.cells cs elem (lo,hi))=w:=by
   have hlt:b < w.heap.size:=by
    rcases Nat.lt_or_ge b w.heap.size with h|h
    ·exact h
    ·simp [Array.getElem?_eq_none h] at hb
   have hg:w.heap[b]=.cells cs elem (lo,hi):=by
    have:=hb;rw[Array.getElem?_eq_getElem hlt] at this;exact Option.some.inj this
   have hh:w.heap.setIfInBounds b (.cells cs elem (lo,hi))=w.heap:=by
    apply Array.ext
    ·simp
    ·intro j h1 h2
     rw[Array.getElem_setIfInBounds h2]
     by_cases hj:b=j
     ·subst hj;simp [hg]
     ·simp [hj]
   unfold World.putObj;rw[hh]
  simp [storeCells,awrite,this]
 | v :: vs,o,i,cs,w,hb,hl,h1,hf=>by
  have hv:=h1 v (by simp)
  simp only[List.length_cons] at hl hf
  have hadd:(⟨b,o,none⟩:Addr).add i=⟨b,o+i,none⟩:=by
   unfold Addr.add;split
   ·rename_i h0;subst h0;rfl
   ·rfl
  have hc:w.cell? ⟨b,o+i,none⟩=some cs[o+i]:=by
   simp [World.cell?,hb]
  have hfr:w.frozen? ⟨b,o+i,none⟩=false:=by
   simp only[World.frozen?,hb]
   have:=hf (o+i) (Nat.le_refl _) (by omega)
   simp;omega
  have hset:(w.setCell ⟨b,o+i,none⟩ v)=World.putObj w b (.cells (cs.setIfInBounds (o+i) v) elem (lo,hi)):=by
   unfold World.setCell World.putObj
   congr 1
   apply Array.ext
   ·simp
   ·intro j h1 h2
    by_cases hj:b=j
    ·subst hj
     have hlt:b < w.heap.size:=by simpa using h2
     have hg:w.heap[b]=.cells cs elem (lo,hi):=by
      have:=hb;rw[Array.getElem?_eq_getElem hlt] at this;exact Option.some.inj this
     simp [Array.getElem_modify,hg]
    ·rw[Array.getElem_modify,Array.getElem_setIfInBounds]
     ·simp [hj]
     ·simpa using h2
  have hlt:b < w.heap.size:=by
   rcases Nat.lt_or_ge b w.heap.size with h|h
   ·exact h
   ·simp [Array.getElem?_eq_none h] at hb
  have hb':(World.putObj w b (.cells (cs.setIfInBounds (o+i) v) elem (lo,hi))).heap[b]?=some (.cells (cs.setIfInBounds (o+i) v) elem (lo,hi)):=by
   simp [World.putObj,hlt]
  have ih:=run_storeCells P b elem lo hi vs o (i+1) (cs.setIfInBounds (o+i) v) _ hb' (by simp;omega) (fun u hu=>h1 u (by simp [hu])) (fun j a1 a2=>hf j (by omega) (by omega))
  have hpp:World.putObj (World.putObj w b (.cells (cs.setIfInBounds (o+i) v) elem (lo,hi))) b (.cells (awrite (cs.setIfInBounds (o+i) v) (o+(i+1)) vs) elem (lo,hi)) =
    World.putObj w b (.cells (awrite (cs.setIfInBounds (o+i) v) (o+(i+1)) vs) elem (lo,hi)):=by
   simp [World.putObj]
  rw[hpp] at ih
  rw[storeCells,Sem.run_bind,hadd,run_store _ _ _ _ _ hv]
  simp only[hc,hfr,hset,Bool.false_eq_true,if_false,Result.andThen_ok]
  rw[ih]
  rfl
theorem Below.putObj {B:Nat} {a w:World} (h:Below B a w) {b:Nat} (hb:B≤b) (o:Obj):Below B a (World.putObj w b o) :=
 h.trans ⟨rfl,rfl,rfl,by simp [World.putObj],fun k hk=>by
  simp only[World.putObj];rw[Array.getElem?_setIfInBounds_ne (by omega)]⟩
section
variable {w0:World} {pr:Prot} {β:Beta} {σ:AHeap} {w:World}
theorem RelH.placed (hH:RelH w0 pr β σ w) {h:Nat} {o:AObj} (hσ:σ h=some o):∃p,β h=some p:=by
 obtain⟨p,hp,_⟩:=hH.obj h o hσ;exact⟨p,hp⟩
theorem RelH.at (hH:RelH w0 pr β σ w) {h:Nat} {o:AObj} {p:Place} (hσ:σ h=some o) (hp:β h=some p) (hne:0 < o.cells.length):p.shift < p.lim∧RelO w0 β w p o:=by
 obtain⟨p',hp',h1,h2⟩:=hH.obj h o hσ
 rw[hp] at hp';cases hp'
 rcases Nat.lt_or_ge p.shift p.lim with h3|h3
 ·exact⟨h3,h2 h3⟩
 ·rw[h1 h3] at hne;cases hne
theorem RelH.len (hH:RelH w0 pr β σ w) {h:Nat} {o:AObj} {p:Place} (hσ:σ h=some o) (hp:β h=some p):p.shift+o.cells.length≤p.lim∨(p.lim≤p.shift∧o.cells=[]):=by
 obtain⟨p',hp',h1,h2⟩:=hH.obj h o hσ
 rw[hp] at hp';cases hp'
 rcases Nat.lt_or_ge p.shift p.lim with h3|h3
 ·obtain⟨_,_,_,_,_,_,h4,_⟩:=(h2 h3).ex;exact .inl h4
 ·exact .inr ⟨h3,h1 h3⟩
theorem RelH.cell (hH:RelH w0 pr β σ w) {h i:Nat} {o:AObj} {v:Value} (hσ:σ h=some o) (hv:o.cells[i]?=some v) {p:Place} (hp:β h=some p) :
  ∃v',w.cell? ⟨p.block,p.shift+i,none⟩=some v'∧RelV β v v':=by
 have hne:0 < o.cells.length:=by
  cases hc:o.cells with
  | nil=>rw[hc] at hv;simp at hv
  | cons=>simp
 obtain⟨_,hr⟩:=hH.at hσ hp hne
 obtain⟨cs,elem,lo,hi,hb,_,_,hc,_⟩:=hr.ex
 obtain⟨v',h1,h2⟩:=hc i v hv
 exact⟨v',by simp [World.cell?,hb,h1],h2⟩
theorem RelO.of_block {w':World} {p:Place} {o:AObj} (hb:w'.heap[p.block]?=w.heap[p.block]?) (h:RelO w0 β w p o):RelO w0 β w' p o:=by
 obtain⟨cs,elem,lo,hi,h1,r⟩:=h.ex
 exact⟨cs,elem,lo,hi,by rw[hb];exact h1,r⟩
theorem RelO.of_write {w':World} {p q:Place} {o:AObj} {k:Nat} {vs:List Value} {cs:Array Value} {elem:TypeId} {lo hi:Nat} (h:RelO w0 β w q o) (hb:w.heap[p.block]?=some (.cells cs elem (lo,hi)))
  (hself:w'.heap[p.block]?=some (.cells (awrite cs k vs) elem (lo,hi))) (hblk:∀b,b≠p.block→w'.heap[b]?=w.heap[b]?) (hk:p.shift≤k) (hk2:k+vs.length≤p.lim) (hk3:k+vs.length≤cs.size) (ha:Apt p q):RelO w0 β w' q o:=by
 by_cases e:q.block=p.block
 ·obtain⟨cs2,elem2,lo2,hi2,b1,b2,b3,b4,b5⟩:=h.ex
  rw[e,hb] at b1;cases b1
  refine⟨_,elem,lo,hi,by rw[e];exact hself,by rw[awrite_size];exact b2,b3,fun i v hv=>?_,b5⟩
  obtain⟨v',c1,c2⟩:=b4 i v hv
  refine⟨v',?_,c2⟩
  rw[awrite_get _ _ _ hk3,if_neg]
  ·exact c1
  ·have hi:i < o.cells.length:=by
    rcases Nat.lt_or_ge i o.cells.length with h|h
    ·exact h
    ·rw[List.getElem?_eq_none h] at hv;cases hv
   rcases ha with ha|ha|ha
   ·exact absurd e.symm ha
   ·omega
   ·omega
 ·exact h.of_block (hblk _ e)
theorem RelH.write (hH:RelH w0 pr β σ w) {h k:Nat} {o:AObj} {p:Place} (hσ:σ h=some o) (hp:β h=some p) (hro:o.ro=false) {vs vs':List Value}
  (hk:k+vs.length≤o.cells.length) (hv:RelL β vs vs') (h1:∀v∈vs,v.oneCell'=true) :
  ∃w',(∀P:Program,(storeCells ⟨p.block,p.shift+k,none⟩ vs').run P w=.ok () w')∧RelH w0 pr β (σ.upd h (some ⟨lwrite o.cells k vs,false⟩)) w':=by
 by_cases hvs:vs=[]
 ·subst hvs
  have e':=hv.nil_inv;subst e'
  have e1:lwrite o.cells k []=o.cells:=by simp [lwrite]
  have e2:(⟨lwrite o.cells k [],false⟩:AObj)=o:=by rw[e1,←hro]
  refine⟨w,fun P=>by simp [storeCells],?_⟩
  rw[e2]
  have e3:σ.upd h (some o)=σ:=by
   funext x;by_cases hx:x=h
   ·subst hx;rw[AHeap.upd_same];exact hσ.symm
   ·rw[AHeap.upd_ne _ _ hx]
  rw[e3];exact hH
 have hpos:0 < o.cells.length:=by
  have:0 < vs.length:=List.length_pos_iff.2 hvs
  omega
 obtain⟨hsl,hr⟩:=hH.at hσ hp hpos
 obtain⟨cs,elem,lo,hi,hb,hl1,hl2,hc,hw⟩:=hr.ex
 obtain⟨hbase,hfr⟩:=hw hro
 have hlt:p.block < w.heap.size:=hH.dom h p hp hsl
 have h1':∀v∈vs',v.oneCell'=true:=by
  intro v hvm
  obtain⟨i,hi',rfl⟩:=List.getElem_of_mem hvm
  have hi2:i < vs.length:=by rw[hv.1];exact hi'
  obtain⟨y,e1,e2⟩:=hv.2 i vs[i] (by simp [hi2])
  have:y=vs'[i]:=by simpa [hi'] using e1.symm
  subst this
  exact oneCell_rel e2 (h1 _ (by simp))
 refine⟨World.putObj w p.block (.cells (awrite cs (p.shift+k) vs') elem (lo,hi)),fun P=>?_,?_⟩
 ·have:=run_storeCells P p.block elem lo hi vs' (p.shift+k) 0 cs w hb (by rw[←hv.1];omega) h1' (fun j a b=>hfr j (by omega) (by rw[←hv.1] at b;omega))
  simpa using this
 ·have hblk:∀b,b≠p.block→(World.putObj w p.block (.cells (awrite cs (p.shift+k) vs') elem (lo,hi))).heap[b]?=w.heap[b]?:=by
   intro b hne;simp only[World.putObj];rw[Array.getElem?_setIfInBounds_ne (by omega)]
  have hself:(World.putObj w p.block (.cells (awrite cs (p.shift+k) vs') elem (lo,hi))).heap[p.block]?=some (.cells (awrite cs (p.shift+k) vs') elem (lo,hi)):=by
   simp [World.putObj,hlt]
  refine⟨Below.putObj hH.below hbase _,?_,?_,?_,?_,fun q g ob hq hg=>have hP:=hH.prot q g ob hq (fun G x e=>guard_upd (hg G x e) rfl);⟨(hblk q (fun e=>by have h2:=hP;rw[e,hb] at h2;obtain⟨h2,h3⟩:=h2;cases h2;simp [Obj.isCells] at h3)).trans hP.1,hP.2⟩,fun k g o h=>let ⟨a,b⟩:=hH.gb k g o h;⟨by simpa [World.putObj] using a,b⟩⟩
  ·obtain⟨N,hN⟩:=hH.fin
   refine⟨N,fun x hx=>⟨(hN x hx).1,?_⟩⟩
   have hxh:x≠h:=by intro e;subst e;rw[(hN x hx).2] at hσ;cases hσ
   rw[AHeap.upd_ne _ _ hxh];exact (hN x hx).2
  ·intro x q hq hqs;simpa [World.putObj] using hH.dom x q hq hqs
  ·intro x ox hx
   by_cases hxh:x=h
   ·subst hxh
    rw[AHeap.upd_same] at hx;cases hx
    refine⟨p,hp,fun hc'=>absurd hc' (by omega),fun _=>⟨_,elem,lo,hi,hself,by rw[awrite_size];exact hl1,by rw[lwrite_length _ _ _ hk];exact hl2,?_,fun _=>⟨hbase,hfr⟩⟩⟩
    intro i v hiv
    dsimp only at hiv
    rw[lwrite_get _ _ _ hk] at hiv
    rw[awrite_get _ _ _ (by rw[←hv.1];omega)]
    by_cases hin:k≤i∧i < k+vs.length
    ·rw[if_pos hin] at hiv
     obtain⟨y,e1,e2⟩:=hv.2 _ _ hiv
     refine⟨y,?_,e2⟩
     rw[if_pos (by rw[←hv.1];omega)]
     rw[←e1];congr 1;omega
    ·rw[if_neg hin] at hiv
     obtain⟨y,e1,e2⟩:=hc i v hiv
     exact⟨y,by rw[if_neg (by rw[←hv.1];omega)];exact e1,e2⟩
   ·rw[AHeap.upd_ne _ _ hxh] at hx
    obtain⟨q,hq,a1,a2⟩:=hH.obj x ox hx
    refine⟨q,hq,a1,fun hqs=>(a2 hqs).of_write hb hself hblk (by omega) (by rw[←hv.1];omega) (by rw[←hv.1];omega) ?_⟩
    exact hH.disj h x o ox p q (fun e=>hxh e.symm) hσ hx hp hq hro hsl hqs
  ·intro x y ox oy px py hne hx hy hpx hpy hro'
   by_cases hxh:x=h
   ·subst hxh
    rw[AHeap.upd_ne _ _ (fun e=>hne e.symm)] at hy
    exact hH.disj x y o oy px py hne hσ hy hpx hpy hro
   ·rw[AHeap.upd_ne _ _ hxh] at hx
    by_cases hyh:y=h
    ·subst hyh;exact hH.disj x y ox o px py hne hx hσ hpx hpy hro'
    ·rw[AHeap.upd_ne _ _ hyh] at hy
     exact hH.disj x y ox oy px py hne hx hy hpx hpy hro'
def bset (β:Beta) (h:Nat) (p:Place):Beta:=fun k=>if k=h then some p else β k
theorem bset_same (β:Beta) (h:Nat) (p:Place):bset β h p h=some p:=by simp [bset]
theorem bset_ne (β:Beta) {h k:Nat} (p:Place) (hk:k≠h):bset β h p k=β k:=by simp [bset,hk]
theorem le_bset {β:Beta} {h:Nat} (hn:β h=none) (p:Place):Le β (bset β h p):=by
 intro x q hx
 by_cases e:x=h
 ·subst e;rw[hn] at hx;cases hx
 ·rw[bset_ne _ _ e];exact hx
theorem RelO.mono {β':Beta} {p:Place} {o:AObj} (hl:Le β β') (h:RelO w0 β w p o):RelO w0 β' w p o:=by
 obtain⟨cs,elem,lo,hi,hb,h1,h2,hc,hw⟩:=h.ex
 exact⟨cs,elem,lo,hi,hb,h1,h2,fun i v hv=>let ⟨v',e1,e2⟩:=hc i v hv;⟨v',e1,e2.mono hl⟩,hw⟩
theorem heap_alloc_old' (w:World) (o:Obj) {k:Nat} (h:k < w.heap.size):(w.alloc o).heap[k]?=w.heap[k]?:=by
 show (w.heap.push o)[k]?=_
 rw[Array.getElem?_push,if_neg (by omega)]
theorem heap_alloc_new' (w:World) (o:Obj):(w.alloc o).heap[w.heap.size]?=some o:=by
 show (w.heap.push o)[w.heap.size]?=_
 simp
theorem RelH.grow (hH:RelH w0 pr β σ w) {w':World} (hb:Below w0.heap.size w0 w') (hs:w.heap.size≤w'.heap.size) (ho:∀k,k < w.heap.size→w'.heap[k]?=w.heap[k]?):RelH w0 pr β σ w' :=
 ⟨hb,hH.fin,fun h p a b=>Nat.lt_of_lt_of_le (hH.dom h p a b) hs,
  fun h o e=>let ⟨p,a1,a2,a3⟩:=hH.obj h o e;⟨p,a1,a2,fun hq=>(a3 hq).of_block (ho _ (hH.dom h p a1 hq))⟩,hH.disj,fun q g ob hq hg=>have hP:=hH.prot q g ob hq hg;⟨(ho q (Array.getElem?_eq_some_iff.1 hP.1).1).trans hP.1,hP.2⟩,fun k g o h=>let ⟨a,b⟩:=hH.gb k g o h;⟨Nat.lt_of_lt_of_le a hs,b⟩⟩
theorem RelH.name (hH:RelH w0 pr β σ w) (p:Place) (xs:List Value) (hd:p.shift < p.lim→p.block < w.heap.size) (he:p.lim≤p.shift→xs=[])
  (ho:∀β',Le β β'→p.shift < p.lim→RelO w0 β' w p ⟨xs,false⟩)
  (hdis:p.shift < p.lim→∀h o q,σ h=some o→β h=some q→q.shift < q.lim→Apt q p) :
  ∃h,σ h=none∧β h=none∧RelH w0 pr (bset β h p) (σ.upd h (some ⟨xs,false⟩)) w:=by
 obtain⟨N,hN⟩:=hH.fin
 obtain⟨hβ,hσ⟩:=hN N (Nat.le_refl _)
 have hle:=le_bset hβ p
 refine⟨N,hσ,hβ,hH.below,⟨N+1,fun x hx'=>?_⟩,?_,?_,?_,fun q g ob hq hg=>hH.prot q g ob hq (fun G x e=>guard_upd (hg G x e) rfl),fun k g o h=>let ⟨a,b⟩:=hH.gb k g o h;⟨a,fun G x e=>hle _ _ (b G x e)⟩⟩
 ·rw[bset_ne _ _ (by omega),AHeap.upd_ne _ _ (by omega)];exact hN x (by omega)
 ·intro x q hq hqs
  by_cases e:x=N
  ·subst e;rw[bset_same] at hq;cases hq;exact hd hqs
  ·rw[bset_ne _ _ e] at hq;exact hH.dom x q hq hqs
 ·intro x ox hx'
  by_cases e:x=N
  ·subst e;rw[AHeap.upd_same] at hx';cases hx'
   exact⟨p,bset_same _ _ _,he,ho _ hle⟩
  ·rw[AHeap.upd_ne _ _ e] at hx'
   obtain⟨q,hq,a1,a2⟩:=hH.obj x ox hx'
   exact⟨q,by rw[bset_ne _ _ e];exact hq,a1,fun h=>(a2 h).mono hle⟩
 ·intro x y ox oy px py hne hx' hy hpx hpy hro sx sy
  by_cases ex:x=N
  ·subst ex
   rw[bset_same] at hpx;cases hpx
   rw[bset_ne _ _ (fun e=>hne e.symm)] at hpy
   rw[AHeap.upd_ne _ _ (fun e=>hne e.symm)] at hy
   exact (hdis sx y oy py hy hpy sy).symm
  ·rw[bset_ne _ _ ex] at hpx
   rw[AHeap.upd_ne _ _ ex] at hx'
   by_cases ey:y=N
   ·subst ey
    rw[bset_same] at hpy;cases hpy
    exact hdis sy x ox px hx' hpx sx
   ·rw[bset_ne _ _ ey] at hpy
    rw[AHeap.upd_ne _ _ ey] at hy
    exact hH.disj x y ox oy px py hne hx' hy hpx hpy hro sx sy
theorem RelH.alloc (hH:RelH w0 pr β σ w) (xs:List Value) (cs:Array Value) (elem:TypeId) (lim:Nat) (hl:lim≤cs.size) (hx:xs.length≤lim)
  (hc:∀(i:Nat) (v:Value),xs[i]?=some v→∃v':Value,cs[i]?=some v'∧RelV β v v') :
  ∃h,σ h=none∧β h=none∧RelH w0 pr (bset β h ⟨w.heap.size,0,lim⟩) (σ.upd h (some ⟨xs,false⟩)) (w.alloc (.cells cs elem)):=by
 have hG:=hH.grow (w':=w.alloc (.cells cs elem)) (Below.alloc hH.below hH.below.size _) (by simp) (fun k hk=>heap_alloc_old' _ _ hk)
 refine hG.name ⟨w.heap.size,0,lim⟩ xs (fun _=>by simp) (fun h0=>List.eq_nil_of_length_eq_zero (by simp at h0;omega)) (fun β' hle _=>?_) (fun _ h o q hσ hq hqs=>?_)
 ·exact⟨cs,elem,0,0,heap_alloc_new' _ _,by simpa using hl,by simpa using hx,fun i v hv=>let ⟨v',e1,e2⟩:=hc i v hv;⟨v',by simpa using e1,e2.mono hle⟩,fun _=>⟨hH.below.size,fun i _ _=>by omega⟩⟩
 ·have:=hH.dom h q hq hqs
  exact .inl (by simp;omega)
def Sub (σ' σ:AHeap):Prop:=∀h o,σ' h=some o→σ h=some o
theorem Sub.refl (σ:AHeap):Sub σ σ:=fun _ _ h=>h
theorem Sub.trans {a b c:AHeap} (h:Sub a b) (k:Sub b c):Sub a c:=fun x o e=>k x o (h x o e)
theorem RelH.sub {σ':AHeap} (hs:Sub σ' σ) (hH:RelH w0 pr β σ w):RelH w0 pr β σ' w:=by
 refine⟨hH.below,?_,hH.dom,fun h o e=>hH.obj h o (hs h o e),fun h h' o o' p p' a b c=>hH.disj h h' o o' p p' a (hs _ _ b) (hs _ _ c),fun q g ob hq hg=>hH.prot q g ob hq (fun G x e=>hs _ _ (hg G x e)),hH.gb⟩
 obtain⟨N,hN⟩:=hH.fin
 refine⟨N,fun h hh=>⟨(hN h hh).1,?_⟩⟩
 cases e:σ' h with
 | none=>rfl
 | some o=>have:=hs h o e;rw[(hN h hh).2] at this;cases this
theorem sub_erase (σ:AHeap) (h:Nat):Sub (σ.upd h none) σ:=fun x o e=>by
 by_cases hx:x=h
 ·subst hx;rw[AHeap.upd_same] at e;cases e
 ·rwa [AHeap.upd_ne _ _ hx] at e
theorem RelH.erase (hH:RelH w0 pr β σ w) (h:Nat):RelH w0 pr β (σ.upd h none) w:=hH.sub (sub_erase σ h)
end
end Go.Abs
namespace Go.Abs
open Go.RowKit
variable (P:Program) (w0:World) (n:NR)
def fz (r:Option Nat):Fence:={ Fence.wide with round:=r }
def AStep (o:Oper) (a:AFrame) (σ:AHeap) (K:AFrame→AHeap→Prop):Prop :=
 ∀β w act,RelH w0 n.pr β σ w→RelF n β a act→∀(Kc:Act→World→Prop) (Qc:Exit→Act→World→Prop),
  (∀β' a' σ' act' w',Le β β'→RelH w0 n.pr β' σ' w'→RelF n β' a' act'→K a' σ'→Kc act' w')→o.wpIn (fz n.r) 0 P act w Kc Qc
variable {P w0 n}
theorem AStep.val {o:Oper} {a:AFrame} {σ:AHeap} {K:AFrame→AHeap→Prop} (hd:∀t,o.dst=some t→t < n.n)
  (h:∀β w act,RelH w0 n.pr β σ w→RelF n β a act→∃β' v v' σ' w',Le β β'∧(execOp act.eval o).run P w=.ok (.value v') w'∧RelV β' v v'∧RelH w0 n.pr β' σ' w'∧K (aput a o.dst v) σ') (hnd:∀c,o.op≠.defer c:=by intro c hc;cases hc) :
  AStep P w0 n o a σ K:=by
 intro β w act hH hF Kc Qc hK
 obtain⟨β',v,v',σ',w',hl,hrun,hv,hH',hk⟩:=h β w act hH hF
 refine⟨fun _ _=>trivial,?_⟩
 rw[Oper.semAt_eq _ _ _ hnd,hrun]
 exact hK β' _ σ' _ _ hl hH' ((hF.mono hl).put hd hv) hk
theorem AStep.unit {o:Oper} {a:AFrame} {σ:AHeap} {K:AFrame→AHeap→Prop} (hd:∀t,o.dst=some t→t < n.n)
  (h:∀β w act,RelH w0 n.pr β σ w→RelF n β a act→∃β' σ' w',Le β β'∧(execOp act.eval o).run P w=.ok .skip w'∧RelH w0 n.pr β' σ' w'∧K (aput a o.dst undef) σ') (hnd:∀c,o.op≠.defer c:=by intro c hc;cases hc) :
  AStep P w0 n o a σ K:=by
 intro β w act hH hF Kc Qc hK
 obtain⟨β',σ',w',hl,hrun,hH',hk⟩:=h β w act hH hF
 refine⟨fun _ _=>trivial,?_⟩
 rw[Oper.semAt_eq _ _ _ hnd,hrun]
 exact hK β' _ σ' _ _ hl hH' ((hF.mono hl).put hd (RelV.undef _)) hk
variable (P)
def alen (t:TypeId) (v:Value):Option Int :=
 match P.underlying t,v with
 | some (.slice _),.slice _ n _=>some n
 | some .string,.string s=>some s.size
 | some (.array n _),_=>some n
 | _,_=>none
def aidx (t:TypeId) (x i:Value):Option (Nat × Nat × Int × Nat) :=
 match P.underlying t,x,i with
 | some (.slice e),.slice (some ⟨h,o,none⟩) len z,.int _ i=>if z=P.cellsOf e then some (h,o,i,len) else none
 | some (.array len e),.pointer (some ⟨h,o,none⟩),.int _ i=>if P.cellsOf e=1 then some (h,o,i,len) else none
 | _,_,_=>none
def aesz (t:TypeId):Nat :=
 match P.underlying t with
 | some (.slice e)=>P.cellsOf e
 | some (.array _ e)=>P.cellsOf e
 | _=>0
def aisAgg (t:TypeId):Bool :=
 match P.underlying t with
 | some (.struct _)|some (.array _ _)=>true
 | _=>false
def ld (σ:AHeap) (h i:Nat):Option Value:=(σ h).bind (·.cells[i]?)
def lds (σ:AHeap) (h i n:Nat):Option (List Value):=(σ h).bind fun o=>if i+n≤o.cells.length then some ((o.cells.drop i).take n) else none
def sts (σ:AHeap) (h i:Nat) (vs:List Value):Option AHeap :=
 (σ h).bind fun o=>if o.ro=false∧i+vs.length≤o.cells.length∧0 < vs.length then some (σ.upd h (some ⟨lwrite o.cells i vs,false⟩)) else none
def aslice (t:TypeId) (x:Value) (lo hi:Option Value):Option (Prop × Value) :=
 match P.underlying t,x with
 | some (.slice e),.slice (some ⟨h,o,none⟩) len z =>
  if z=P.cellsOf e then
  match lo,hi with
  | none,none=>some (True,x)
  | some (.int _ l),none=>some (0≤l∧l≤len,.slice (some ⟨h,o+l.toNat * z,none⟩) (len - l.toNat) z)
  | none,some (.int _ u)=>some (0≤u∧u≤len,.slice (some ⟨h,o,none⟩) u.toNat z)
  | some (.int _ l),some (.int _ u)=>some (0≤l∧l≤u∧u≤len,.slice (some ⟨h,o+l.toNat * z,none⟩) (u.toNat - l.toNat) z)
  | _,_=>none
  else none
 | some .string,.string s =>
  match lo,hi with
  | none,none=>some (True,.string (s.extract 0 s.size))
  | some (.int _ l),none=>some (0≤l∧l≤s.size,.string (s.extract l.toNat s.size))
  | none,some (.int _ u)=>some (0≤u∧u≤s.size,.string (s.extract 0 u.toNat))
  | some (.int _ l),some (.int _ u)=>some (0≤l∧l≤u∧u≤s.size,.string (s.extract l.toNat u.toNat))
  | _,_=>none
 | some (.slice _),.slice none 0 0 =>
  match lo,hi with
  | none,none=>some (True,x)
  | some (.int _ l),none=>some (l=0,.slice none 0 0)
  | none,some (.int _ u)=>some (u=0,.slice none 0 0)
  | some (.int _ l),some (.int _ u)=>some (l=0∧u=0,.slice none 0 0)
  | _,_=>none
 | _,_=>none
def acells (z:Nat) (σ:AHeap):Value→Option (List Value)
 | .slice none 0 0=>some []
 | .slice (some ⟨h,o,none⟩) len z'=>if z=z' then (if len=0 then some [] else lds σ h o (len * z)) else none
 | _=>none
end Go.Abs
namespace Go.Abs
open Go.RowKit
variable {P:Program} {w0:World} {n:NR} {a:AFrame} {σ:AHeap} {K:AFrame→AHeap→Prop}
variable {d:Option Tmp} {ty:TypeId} {pos:String} {af:Array Edge} {gd:Option (Nat × Bool)}
theorem run_of_info {t:TypeId} {i:TypeInfo} (h:P.info? t=some i) (w:World):(typeInfo t).run P w=.ok i w:=by simp [typeInfo,h]
theorem info_of_cells {t:TypeId} (h:0 < P.cellsOf t):∃i,P.info? t=some i∧i.size=P.cellsOf t:=by
 unfold Program.cellsOf at *
 cases hi:P.info? t with
 | none=>rw[hi] at h;simp at h
 | some i=>exact⟨i,rfl,by simp⟩
theorem relv_int {β:Beta} {v:Value} {k:IntKind} {i:Int} (h:RelV β (.int k i) v):v=.int k i:=by cases h;rfl
theorem relv_bool {β:Beta} {v:Value} {b:Bool} (h:RelV β (.bool b) v):v=.bool b:=by cases h;rfl
theorem relv_string {β:Beta} {v:Value} {s:ByteArray} (h:RelV β (.string s) v):v=.string s:=by cases h;rfl
theorem relv_ptr {β:Beta} {v:Value} {h o:Nat} (hr:RelV β (.pointer (some ⟨h,o,none⟩)) v):∃p,β h=some p∧v=.pointer (some ⟨p.block,p.shift+o,none⟩):=by
 cases hr with
 | ptr hp=>exact⟨_,hp,rfl⟩
theorem relv_slc {β:Beta} {v:Value} {h o len z:Nat} (hr:RelV β (.slice (some ⟨h,o,none⟩) len z) v) :
  (∃p cap,β h=some p∧p.shift+o+cap * z=p.lim∧len≤cap∧v=.slice (some ⟨p.block,p.shift+o,none⟩) len cap)∨(len=0∧∃p x,β h=some p∧p.lim≤p.shift+o∧v=.slice x 0 0):=by
 cases hr with
 | slc hp hc hl=>exact .inl ⟨_,_,hp,hc,hl,rfl⟩
 | slcE hp hz x=>exact .inr ⟨rfl,_,x,hp,hz,rfl⟩
theorem relv_slice {β:Beta} {v:Value} {ad:Option Addr} {len z:Nat} (hr:RelV β (.slice ad len z) v):∃ad' cap,v=.slice ad' len cap:=by
 cases hr<;>exact⟨_,_,rfl⟩
theorem step_move {x:Operand} (hd:∀t,d=some t→t < n.n) (hx:okx x=true) (h:K (aput a d (ev a x)) σ) :
  AStep P w0 n ⟨d,.move x,ty,pos,af,gd⟩ a σ K :=
 .val hd fun β w act hH hF=>⟨β,_,_,σ,w,.refl _,by simp [execOp],hF.ev hx,hH,h⟩
theorem step_assign {x:Operand} (hd:∀t,d=some t→t < n.n) (hx:okx x=true) (h:K (aput a d (ev a x)) σ) :
  AStep P w0 n ⟨d,.assign x,ty,pos,af,gd⟩ a σ K :=
 .val hd fun β w act hH hF=>⟨β,_,_,σ,w,.refl _,by simp [execOp],hF.ev hx,hH,h⟩
theorem step_pick {c x y:Operand} {b:Bool} (hd:∀t,d=some t→t < n.n) (hc:okx c=true) (hx:okx x=true) (hy:okx y=true)
  (hb:ev a c=.bool b) (h:K (aput a d (bif b then ev a x else ev a y)) σ) :
  AStep P w0 n ⟨d,.pick c x y,ty,pos,af,gd⟩ a σ K :=
 .val hd fun β w act hH hF=>by
  have h1:=hF.ev hc
  rw[hb] at h1
  have h2:=relv_bool h1
  refine⟨β,bif b then ev a x else ev a y,bif b then act.eval x else act.eval y,σ,w,.refl _,by cases b<;>simp [execOp,h2,asBool],?_,hH,h⟩
  cases b
  ·exact hF.ev hy
  ·exact hF.ev hx
theorem step_binOp {op:BinOp} {t u:TypeId} {x y:Operand} {v:Value} (hd:∀t,d=some t→t < n.n) (hx:okx x=true) (hy:okx y=true)
  (sx:scal (ev a x)=true) (sy:scal (ev a y)=true) (hv:evalP P (do eqGuard op t x y (ev a x) (ev a y);binOp op t (ev a x) (ev a y))=some v) (sv:scal v=true)
  (h:K (aput a d v) σ):AStep P w0 n ⟨d,.binOp op t x y u,ty,pos,af,gd⟩ a σ K :=
 .val hd fun β w act hH hF=>by
  have h1:=(hF.ev hx).scal_eq sx
  have h2:=(hF.ev hy).scal_eq sy
  have h3:=evalP_run hv w
  refine⟨β,v,v,σ,w,.refl _,?_,RelV.scal_refl sv,hH,h⟩
  simp only[execOp,h1,h2]
  rw[Sem.run_bind,h3]
  rfl
theorem step_unOp {op:UnOp} {t:TypeId} {x:Operand} {v:Value} (hd:∀t,d=some t→t < n.n) (hx:okx x=true)
  (sx:scal (ev a x)=true) (hv:evalP P (Op.unary op (ev a x))=some v) (sv:scal v=true)
  (h:K (aput a d v) σ):AStep P w0 n ⟨d,.unOp op t x,ty,pos,af,gd⟩ a σ K :=
 .val hd fun β w act hH hF=>by
  have h1:=(hF.ev hx).scal_eq sx
  have h3:=evalP_run hv w
  refine⟨β,v,v,σ,w,.refl _,?_,RelV.scal_refl sv,hH,h⟩
  simp only[execOp,h1]
  rw[Sem.run_bind,h3]
  rfl
theorem step_convert {s t:TypeId} {x:Operand} {v:Value} (hd:∀t,d=some t→t < n.n) (hx:okx x=true)
  (sx:scal (ev a x)=true) (hv:evalP P (convert s t (ev a x))=some v) (sv:scal v=true)
  (h:K (aput a d v) σ):AStep P w0 n ⟨d,.convert s t x,ty,pos,af,gd⟩ a σ K :=
 .val hd fun β w act hH hF=>by
  have h1:=(hF.ev hx).scal_eq sx
  have h3:=evalP_run hv w
  refine⟨β,v,v,σ,w,.refl _,?_,RelV.scal_refl sv,hH,h⟩
  simp only[execOp,h1]
  rw[Sem.run_bind,h3]
  rfl
theorem step_nilCheck {x:Operand} (hd:∀t,d=some t→t < n.n) (hx:okx x=true) {p:Addr} (hp:ev a x=.pointer (some p))
  (h:K (aput a d (ev a x)) σ):AStep P w0 n ⟨d,.nilCheck x,ty,pos,af,gd⟩ a σ K :=
 .val hd fun β w act hH hF=>by
  have h1:=hF.ev hx
  refine⟨β,_,_,σ,w,.refl _,?_,h1,hH,h⟩
  rw[hp] at h1
  have h2:∃q,act.eval x=.pointer (some q):=by
   generalize act.eval x=vx at h1
   cases h1 with
   | ptr hq=>exact⟨_,rfl⟩
  obtain⟨q,hq⟩:=h2
  simp [execOp,hq]
theorem step_len {x:Operand} {t:TypeId} {m:Int} (hd:∀t,d=some t→t < n.n) (hx:okx x=true) (hm:alen P t (ev a x)=some m)
  (h:K (aput a d (.int .i64 m)) σ):AStep P w0 n ⟨d,.call ⟨.builtin .len,#[x],#[t]⟩,ty,pos,af,gd⟩ a σ K :=
 .val hd fun β w act hH hF=>by
  have h1:=hF.ev hx
  refine⟨β,.int .i64 m,.int .i64 m,σ,w,.refl _,?_,.int _ _,hH,h⟩
  unfold alen at hm
  split at hm
  ·rename_i e ad ln z ht hv
   cases hm
   rw[hv] at h1
   obtain⟨ad',cap,e1⟩:=relv_slice h1
   simp [execOp,resolve,invoke,builtin,Builtin.len_,run_underlying ht,e1,goInt]
  ·rename_i s ht hv
   cases hm
   rw[hv] at h1
   have:=relv_string h1
   simp [execOp,resolve,invoke,builtin,Builtin.len_,run_underlying ht,this,goInt]
  ·rename_i k e ht
   cases hm
   simp [execOp,resolve,invoke,builtin,Builtin.len_,run_underlying ht,goInt]
  ·cases hm
theorem scal_list {β:Beta} {xs:List Operand} {act:Act} (hF:RelF n β a act) (hx:xs.all okx=true) (hs:(xs.map (ev a)).all scal=true) :
  xs.map act.eval=xs.map (ev a):=by
 induction xs with
 | nil=>rfl
 | cons x xs ih =>
  simp only[List.map_cons,List.all_cons,Bool.and_eq_true] at hx hs ⊢
  rw[(hF.ev hx.1).scal_eq hs.1,ih hx.2 hs.2]
theorem step_min {xs ts:List _} {v:Value} (hd:∀t,d=some t→t < n.n) (hx:xs.all okx=true) (hs:(xs.map (ev a)).all scal=true)
  (hv:evalP P (Builtin.min_ ts.toArray ty (xs.map (ev a)).toArray)=some v) (sv:scal v=true) (h:K (aput a d v) σ) :
  AStep P w0 n ⟨d,.call ⟨.builtin .min,xs.toArray,ts.toArray⟩,ty,pos,af,gd⟩ a σ K :=
 .val hd fun β w act hH hF=>by
  have h1:=scal_list hF hx hs
  have h3:=evalP_run hv w
  refine⟨β,v,v,σ,w,.refl _,?_,RelV.scal_refl sv,hH,h⟩
  simp only[execOp,resolve,Sem.run_bind,Sem.run_pure,Result.andThen_ok,invoke,builtin,List.map_toArray,h1,h3]
theorem step_max {xs ts:List _} {v:Value} (hd:∀t,d=some t→t < n.n) (hx:xs.all okx=true) (hs:(xs.map (ev a)).all scal=true)
  (hv:evalP P (Builtin.max_ ts.toArray ty (xs.map (ev a)).toArray)=some v) (sv:scal v=true) (h:K (aput a d v) σ) :
  AStep P w0 n ⟨d,.call ⟨.builtin .max,xs.toArray,ts.toArray⟩,ty,pos,af,gd⟩ a σ K :=
 .val hd fun β w act hH hF=>by
  have h1:=scal_list hF hx hs
  have h3:=evalP_run hv w
  refine⟨β,v,v,σ,w,.refl _,?_,RelV.scal_refl sv,hH,h⟩
  simp only[execOp,resolve,Sem.run_bind,Sem.run_pure,Result.andThen_ok,invoke,builtin,List.map_toArray,h1,h3]
theorem add_addr (b o k:Nat):(⟨b,o,none⟩:Addr).add k=⟨b,o+k,none⟩:=by
 unfold Addr.add;split
 ·rename_i h0;subst h0;rfl
 ·rfl
theorem step_indexAddr {x y:Operand} {t:TypeId} {h o len:Nat} {i:Int} (hd:∀t,d=some t→t < n.n) (hx:okx x=true) (hy:okx y=true)
  (hi:aidx P t (ev a x) (ev a y)=some (h,o,i,len)) (hz:0 < aesz P t) (h0:0≤i) (h1:i < len) (hk:K (aput a d (.pointer (some ⟨h,o+i.toNat * aesz P t,none⟩))) σ) :
  AStep P w0 n ⟨d,.indexAddr t x y,ty,pos,af,gd⟩ a σ K :=
 .val hd fun β w act hH hF=>by
  have rx:=hF.ev hx
  have ry:=hF.ev hy
  unfold aidx at hi
  unfold aesz at hz hk
  split at hi
  ·rename_i e h' o' len' z k i' ht hvx hvy
   split at hi
   ·rename_i hze
    cases hi
    rw[hvx] at rx;rw[hvy] at ry
    have ry':=relv_int ry
    simp only[ht] at hz hk
    obtain⟨inf,hin,hsz⟩:=info_of_cells hz
    rcases relv_slc rx with ⟨p,cap,hp,hc,hl,hvx'⟩ |⟨hl0,_⟩
    ·refine⟨β,_,_,σ,w,.refl _,?_,.ptr (o:=o+i.toNat * P.cellsOf e) hp,hH,hk⟩
     simp [execOp,hvx',ry',Instr.indexAt,asIntOf,run_underlying ht,Go.sizeOf,run_of_info hin,h0,h1,add_addr,hsz,Nat.add_assoc]
    ·exact absurd h1 (by subst hl0;simp;omega)
   ·cases hi
  ·rename_i len' e h' o' k i' ht hvx hvy
   split at hi
   ·rename_i hze
    cases hi
    rw[hvx] at rx;rw[hvy] at ry
    have ry':=relv_int ry
    simp only[ht] at hz hk
    obtain⟨inf,hin,hsz⟩:=info_of_cells hz
    ·obtain⟨p,hp,hvx'⟩:=relv_ptr rx
     refine⟨β,_,_,σ,w,.refl _,?_,.ptr (o:=o+i.toNat * P.cellsOf e) hp,hH,hk⟩
     simp [execOp,hvx',ry',Instr.indexAt,Instr.sureAddr,asIntOf,run_underlying ht,Go.sizeOf,run_of_info hin,h0,h1,add_addr,hsz,Nat.add_assoc]
   ·cases hi
  ·cases hi
theorem aisAgg_run {t:TypeId} {ds:TypeDesc} (hd:P.underlying t=some ds) (w:World):(isAgg t).run P w=.ok (aisAgg P t) w:=by
 unfold isAgg aisAgg
 rw[Sem.run_bind,run_underlying hd]
 simp only[Result.andThen_ok,hd]
 cases ds<;>rfl
theorem ld_some {h i:Nat} {v:Value} (hl:ld σ h i=some v):∃o,σ h=some o∧o.cells[i]?=some v:=by
 unfold ld at hl
 cases ho:σ h with
 | none=>rw[ho] at hl;cases hl
 | some o=>rw[ho] at hl;exact⟨o,rfl,hl⟩
theorem step_load {x:Operand} {t:TypeId} {ds:TypeDesc} {h i:Nat} {v:Value} (hd:∀t,d=some t→t < n.n) (hx:okx x=true) (ht:P.underlying t=some ds) (ha:aisAgg P t=false)
  (hp:ev a x=.pointer (some ⟨h,i,none⟩)) (hl:ld σ h i=some v) (hk:K (aput a d v) σ) :
  AStep P w0 n ⟨d,.load t x,ty,pos,af,gd⟩ a σ K :=
 .val hd fun β w act hH hF=>by
  have rx:=hF.ev hx
  rw[hp] at rx
  obtain⟨o,hσ,hc⟩:=ld_some hl
  obtain⟨p,hq,hvx⟩:=relv_ptr rx
  ·obtain⟨v',h1,h2⟩:=hH.cell hσ hc hq
   refine⟨β,v,v',σ,w,.refl _,?_,h2,hH,hk⟩
   simp [execOp,hvx,Instr.loadAt,Instr.sureAddr,loadVar,aisAgg_run ht,ha,h1]
theorem RelH.cells {β:Beta} {w:World} (hH:RelH w0 n.pr β σ w) {h i m:Nat} {vs:List Value} {p:Place} (hp:β h=some p) (hl:lds σ h i m=some vs) :
  vs.length=m∧∃vs',RelL β vs vs'∧∀(j:Nat) (v:Value),vs'[j]?=some v→w.cell? ((⟨p.block,p.shift+i,none⟩:Addr).add j)=some v:=by
 unfold lds at hl
 cases ho:σ h with
 | none=>rw[ho] at hl;cases hl
 | some o =>
  rw[ho] at hl
  simp only[Option.bind_some] at hl
  split at hl
  ·rename_i hle
   cases hl
   refine⟨by simp;omega,?_⟩
   have key:∀(m' k:Nat),k+m'=m→∃vs',RelL β ((o.cells.drop (i+k)).take m') vs'∧∀(j:Nat) (v:Value),vs'[j]?=some v→w.cell? ⟨p.block,p.shift+i+(k+j),none⟩=some v:=by
    intro m'
    induction m' with
    | zero=>intro k _;exact⟨[],by simpa using RelL.nil β,by simp⟩
    | succ m' ih =>
     intro k hk
     obtain⟨vs',h1,h2⟩:=ih (k+1) (by omega)
     have hlt:i+k < o.cells.length:=by omega
     obtain⟨v',c1,c2⟩:=hH.cell ho (List.getElem?_eq_getElem hlt) hp
     refine⟨v' :: vs',?_,?_⟩
     ·rw[List.drop_eq_getElem_cons hlt,List.take_succ_cons]
      exact RelL.cons c2 (by simpa [Nat.add_assoc] using h1)
     ·intro j v hv
      cases j with
      | zero=>simp at hv;subst hv;simpa [Nat.add_assoc] using c1
      | succ j=>simp at hv;have:=h2 j v hv;rw[←this];congr 2;omega
   obtain⟨vs',h1,h2⟩:=key m 0 (by omega)
   exact⟨vs',by simpa using h1,fun j v hv=>by rw[add_addr];simpa using h2 j v hv⟩
  ·cases hl
theorem step_loadAgg {x:Operand} {t:TypeId} {ds:TypeDesc} {h i:Nat} {vs:List Value} (hd:∀t,d=some t→t < n.n) (hx:okx x=true) (ht:P.underlying t=some ds) (ha:aisAgg P t=true)
  (hz:0 < P.cellsOf t) (hp:ev a x=.pointer (some ⟨h,i,none⟩)) (hl:lds σ h i (P.cellsOf t)=some vs) (hk:K (aput a d (.agg vs.toArray)) σ) :
  AStep P w0 n ⟨d,.load t x,ty,pos,af,gd⟩ a σ K :=
 .val hd fun β w act hH hF=>by
  have rx:=hF.ev hx
  rw[hp] at rx
  obtain⟨p,hq,hvx⟩:=relv_ptr rx
  obtain⟨inf,hin,hsz⟩:=info_of_cells hz
  obtain⟨hlen,vs',h1,h2⟩:=hH.cells hq hl
  obtain⟨r1,r2⟩:=RelL.to_arr (xs:=vs.toArray) (ys:=vs'.toArray) (by simpa using h1)
  refine⟨β,.agg vs.toArray,.agg vs'.toArray,σ,w,.refl _,?_,.agg _ _ r1 r2,hH,hk⟩
  have h3:=run_loadCells_list (P:=P) w ⟨p.block,p.shift+i,none⟩ vs' h2
  rw[←h1.1,hlen] at h3
  simp [execOp,hvx,Instr.loadAt,Instr.sureAddr,loadVar,aisAgg_run ht,ha,Go.sizeOf,run_of_info hin,hsz,h3]
theorem sts_some {σ':AHeap} {h i:Nat} {vs:List Value} (hl:sts σ h i vs=some σ') :
  ∃o,σ h=some o∧o.ro=false∧i+vs.length≤o.cells.length∧0 < vs.length∧σ'=σ.upd h (some ⟨lwrite o.cells i vs,false⟩):=by
 unfold sts at hl
 cases ho:σ h with
 | none=>rw[ho] at hl;cases hl
 | some o =>
  rw[ho] at hl
  simp only[Option.bind_some] at hl
  split at hl
  ·rename_i hc;cases hl;exact⟨o,rfl,hc.1,hc.2.1,hc.2.2,rfl⟩
  ·cases hl
theorem cells_rel {β:Beta} {v v':Value} (hr:RelV β v v'):RelL β v.cells.toList v'.cells.toList:=by
 have one:∀{u u':Value},RelV β u u'→u.cells=#[u]→u'.cells=#[u']→RelL β u.cells.toList u'.cells.toList:=by
  intro u u' h e1 e2;rw[e1,e2];exact RelL.cons h (RelL.nil β)
 cases hr with
 | agg xs ys hs he=>exact RelL.of_arr hs he
 | bool b=>exact one (.bool b) rfl rfl
 | int k i=>exact one (.int k i) rfl rfl
 | string s=>exact one (.string s) rfl rfl
 | ptrNil=>exact one .ptrNil rfl rfl
 | ptr hp=>exact one (.ptr hp) rfl rfl
 | slcNil=>exact one .slcNil rfl rfl
 | slc hp hc hl=>exact one (.slc hp hc hl) rfl rfl
 | slcE hp hz x=>exact one (.slcE hp hz x) rfl rfl
 | slcC hp hc hl=>exact one (.slcC hp hc hl) rfl rfl
 | nilFunc=>exact one .nilFunc rfl rfl
 | nilIface=>exact one .nilIface rfl rfl
 | iface t v t' v'=>exact one (.iface t v t' v') rfl rfl
 | func fn xs ys hs he=>exact one (.func fn xs ys hs he) rfl rfl
 | tuple xs ys hs he=>exact one (.tuple xs ys hs he) rfl rfl
theorem step_store {x y:Operand} {t:TypeId} {h i:Nat} {σ':AHeap} (hd:∀t,d=some t→t < n.n) (hx:okx x=true) (hy:okx y=true)
  (hp:ev a x=.pointer (some ⟨h,i,none⟩)) (hz:(ev a y).cells.size=P.cellsOf t) (h1:(ev a y).cells.toList.all Value.oneCell'=true)
  (hl:sts σ h i (ev a y).cells.toList=some σ') (hk:K (aput a d undef) σ') :
  AStep P w0 n ⟨d,.store t x y,ty,pos,af,gd⟩ a σ K :=
 .unit hd fun β w act hH hF=>by
  have rx:=hF.ev hx
  have ry:=cells_rel (hF.ev hy)
  rw[hp] at rx
  obtain⟨p,hq,hvx⟩:=relv_ptr rx
  obtain⟨o,hσ,hro,hle,hpos,rfl⟩:=sts_some hl
  obtain⟨w',hr,hH'⟩:=hH.write hσ hq hro hle ry (fun v hv=>by rw[List.all_eq_true] at h1;exact h1 v hv)
  have hpos2:0 < P.cellsOf t:=by rw[←hz];simpa using hpos
  obtain⟨inf,hin,hsz⟩:=info_of_cells hpos2
  have hsz2:(act.eval y).cells.size=inf.size:=by
   have:=ry.1;simp only[Array.length_toList] at this;rw[←this,hz,hsz]
  refine⟨β,_,w',.refl _,?_,hH',hk⟩
  have:=hr P
  simp [execOp,hvx,Instr.storeAt,Instr.sureAddr,storeVar,Go.sizeOf,run_of_info hin,hsz2,this]
def azero (P:Program) (t:TypeId):Option Value:=(P.info? t).bind (·.zero)
theorem azero_some {t:TypeId} {z:Value} (h:azero P t=some z):∃i,P.info? t=some i∧i.zero=some z:=by
 unfold azero at h
 cases hi:P.info? t with
 | none=>rw[hi] at h;cases h
 | some i=>rw[hi] at h;exact⟨i,rfl,h⟩
theorem rell_lits {β:Beta} {vs:List Value} (h:vs.all litOk=true):RelL β vs vs:=by
 refine⟨rfl,fun i x hx=>⟨x,hx,RelV.lit ?_⟩⟩
 rw[List.all_eq_true] at h
 exact h x (List.mem_of_getElem? hx)
theorem step_alloc {t:TypeId} {z:Value} (hd:∀t,d=some t→t < n.n) (hz:azero P t=some z) (hl:z.cells.toList.all litOk=true)
  (hk:∀h,σ h=none→K (aput a d (.pointer (some ⟨h,0,none⟩))) (σ.upd h (some ⟨z.cells.toList,false⟩))) :
  AStep P w0 n ⟨d,.alloc t,ty,pos,af,gd⟩ a σ K :=
 .val hd fun β w act hH hF=>by
  obtain⟨inf,hin,hiz⟩:=azero_some hz
  obtain⟨h,h1,h2,h3⟩:=hH.alloc z.cells.toList z.cells t z.cells.size (Nat.le_refl _) (by simp) (fun i v hv=>⟨v,by simpa using hv,RelV.lit (by
   rw[List.all_eq_true] at hl;exact hl v (List.mem_of_getElem? hv))⟩)
  refine⟨_,.pointer (some ⟨h,0,none⟩),.pointer (some ⟨w.heap.size,0,none⟩),_,_,le_bset h2 _,?_,.ptr (o:=0) (bset_same β h ⟨w.heap.size,0,z.cells.size⟩),h3,hk h h1⟩
  simp [execOp,Instr.alloc,zeroValue,run_of_info hin,hiz,newVar,newRow]
theorem step_box {t:TypeId} {x:Operand} (hd:∀t,d=some t→t < n.n) (hx:okx x=true)
  (hk:∀h,σ h=none→K (aput a d (.pointer (some ⟨h,0,none⟩))) (σ.upd h (some ⟨(ev a x).cells.toList,false⟩))) :
  AStep P w0 n ⟨d,.box t x,ty,pos,af,gd⟩ a σ K :=
 .val hd fun β w act hH hF=>by
  have rx:=cells_rel (hF.ev hx)
  obtain⟨h,h1,h2,h3⟩:=hH.alloc (ev a x).cells.toList (act.eval x).cells t (act.eval x).cells.size (Nat.le_refl _) (by rw[rx.1];simp) (fun i v hv=>by
   obtain⟨v',e1,e2⟩:=rx.2 i v hv;exact⟨v',by simpa using e1,e2⟩)
  refine⟨_,.pointer (some ⟨h,0,none⟩),.pointer (some ⟨w.heap.size,0,none⟩),_,_,le_bset h2 _,?_,.ptr (o:=0) (bset_same β h ⟨w.heap.size,0,(act.eval x).cells.size⟩),h3,hk h h1⟩
  simp [execOp,Instr.box,newVar,newRow]
theorem parts_rel {β:Beta} {act:Act} (hF:RelF n β a act) (f:Nat→Option (Nat × Nat)):∀(ps:List (Nat × Operand)) (cs cs':Array Value) (out:Array Value),ps.all (fun p=>okx p.2)=true →
  RelL β cs.toList cs'.toList→Instr.fill f cs (ps.map fun p=>(p.1,ev a p.2))=some out →
  ∃out',Instr.fill f cs' (ps.map fun p=>(p.1,act.eval p.2))=some out'∧RelL β out.toList out'.toList
 | [],cs,cs',out,_,hr,hf=>by simp [Instr.fill] at hf ⊢;subst hf;exact hr
 | (i,x) :: ps,cs,cs',out,ho,hr,hf=>by
  simp only[List.all_cons,Bool.and_eq_true] at ho
  simp only[List.map_cons,Instr.fill] at hf ⊢
  have rx:=cells_rel (hF.ev ho.1)
  have e1:(act.eval x).cells.size=(ev a x).cells.size:=by have:=rx.1;simp at this;exact this.symm
  have e2:cs'.size=cs.size:=by have:=hr.1;simp at this;exact this.symm
  cases hfi:f i with
  | none=>rw[hfi] at hf;cases hf
  | some os =>
   obtain⟨off,size⟩:=os
   rw[hfi] at hf
   simp only[e1,e2] at hf ⊢
   split at hf
   ·cases hf
   ·rename_i hc
    rw[if_neg hc]
    refine parts_rel hF f ps _ _ out ho.2 ?_ hf
    have gen:∀(l:List (Value × Nat)) (l':List (Value × Nat)) (c c':Array Value),l.length=l'.length→(∀j:Nat,(l[j]?).map Prod.snd=(l'[j]?).map Prod.snd)→(∀(j:Nat) (u u':Value × Nat),l[j]?=some u→l'[j]?=some u'→RelV β u.1 u'.1) →
      RelL β c.toList c'.toList→RelL β (l.foldl (fun cs (x:Value × Nat)=>cs.setIfInBounds (off+x.2) x.1) c).toList (l'.foldl (fun cs (x:Value × Nat)=>cs.setIfInBounds (off+x.2) x.1) c').toList:=by
     intro l
     induction l with
     | nil=>intro l' c c' hl _ _ hc;cases l' with
      | nil=>exact hc
      | cons=>simp at hl
     | cons u l ih =>
      intro l' c c' hl h2 h1 hc
      cases l' with
      | nil=>simp at hl
      | cons u' l' =>
       simp only[List.foldl_cons]
       refine ih l' _ _ (by simpa using hl) (fun j=>by simpa using h2 (j+1)) (fun j v v' hv hv'=>h1 (j+1) v v' (by simpa using hv) (by simpa using hv')) ?_
       have hu:=h1 0 u u' (by simp) (by simp)
       have hj:u.2=u'.2:=by simpa using h2 0
       rw[hj]
       refine⟨by simpa using hc.1,fun j v hv=>?_⟩
       have hsz:c.size=c'.size:=by simpa using hc.1
       simp only[Array.getElem?_toList,Array.getElem?_setIfInBounds] at hv ⊢
       by_cases hjj:off+u'.2=j
       ·rw[if_pos hjj] at hv ⊢
        by_cases hjs:off+u'.2 < c.size
        ·rw[if_pos hjs] at hv;rw[if_pos (hsz ▸ hjs)];cases hv;exact⟨_,rfl,hu⟩
        ·rw[if_neg hjs] at hv;cases hv
       ·rw[if_neg hjj] at hv ⊢
        obtain⟨y,y1,y2⟩:=hc.2 j v (by simpa using hv)
        exact⟨y,by simpa using y1,y2⟩
    have z1:=gen ((ev a x).cells.zipIdx).toList ((act.eval x).cells.zipIdx).toList cs cs' (by simp [e1]) (fun j=>by
      simp only[Array.getElem?_toList,Array.getElem?_zipIdx]
      by_cases hj:j < (ev a x).cells.size
      ·simp [hj,e1]
      ·simp [hj,e1]) (fun j u u' hu hu'=>by
      simp only[Array.getElem?_toList,Array.getElem?_zipIdx,Option.map_eq_some_iff] at hu hu'
      obtain⟨v,hv,rfl⟩:=hu
      obtain⟨v',hv',rfl⟩:=hu'
      obtain⟨y,y1,y2⟩:=rx.2 j v (by simpa using hv)
      have:y=v':=by rw[Array.getElem?_toList,hv'] at y1;exact (Option.some.inj y1).symm
      exact this ▸ y2) hr
    rw[Array.foldl_toList,Array.foldl_toList] at z1
    exact z1
def aplaces (P:Program) (t:TypeId):Nat→Option (Nat × Nat) :=
 match P.underlying t with
 | some (.struct fs)=>fun i=>(fs[i]?).map fun f=>(f.offset,P.cellsOf f.type)
 | some (.array _ e)=>fun i=>some (i * P.cellsOf e,P.cellsOf e)
 | _=>fun _=>none
theorem fields_run:∀(fs:List Field) (w:World),fs.all (fun f=>(P.info? f.type).isSome)=true →
  (fs.mapM (m:=Sem) fun f=>do pure (f.offset,←Go.sizeOf f.type)).run P w=.ok (fs.map fun f=>(f.offset,P.cellsOf f.type)) w
 | [],_,_=>by simp
 | f :: fs,w,h=>by
  simp only[List.all_cons,Bool.and_eq_true] at h
  obtain⟨i,hi⟩:=Option.isSome_iff_exists.1 h.1
  have ih:=fields_run fs w h.2
  have e1:(do pure (f.offset,←Go.sizeOf f.type):Sem (Nat × Nat)).run P w=.ok (f.offset,P.cellsOf f.type) w:=by
   simp [Go.sizeOf,run_of_info hi,Program.cellsOf,hi]
  rw[List.mapM_cons,Sem.run_bind,e1,Result.andThen_ok,Sem.run_bind,ih]
  rfl
def fieldsOk (P:Program) (t:TypeId):Bool :=
 match P.underlying t with
 | some (.struct fs)=>fs.toList.all fun f=>(P.info? f.type).isSome
 | some (.array _ e)=>(P.info? e).isSome
 | _=>false
theorem step_build {t:TypeId} {ps:List (Nat × Operand)} {z:Value} {out:Array Value} (hd:∀t,d=some t→t < n.n) (hx:ps.all (fun p=>okx p.2)=true)
  (hz:azero P t=some z) (hl:z.cells.toList.all litOk=true) (hfo:fieldsOk P t=true)
  (hf:Instr.fill (aplaces P t) z.cells (ps.map fun p=>(p.1,ev a p.2))=some out) (hk:K (aput a d (.agg out)) σ) :
  AStep P w0 n ⟨d,.build t ps.toArray,ty,pos,af,gd⟩ a σ K :=
 .val hd fun β w act hH hF=>by
  obtain⟨inf,hin,hiz⟩:=azero_some hz
  obtain⟨out',h1,h2⟩:=parts_rel hF (aplaces P t) ps z.cells z.cells out hx (rell_lits hl) hf
  obtain⟨r1,r2⟩:=RelL.to_arr h2
  refine⟨β,.agg out,.agg out',σ,w,.refl _,?_,.agg _ _ r1 r2,hH,hk⟩
  unfold fieldsOk at hfo
  unfold aplaces at h1
  split at hfo
  ·rename_i fs ht
   have h3:=fields_run (P:=P) fs.toList w hfo
   simp only[ht] at h1
   simp only[execOp,Instr.build,Sem.run_bind,zeroValue,run_of_info hin,hiz,Result.andThen_ok,run_underlying ht,Sem.run_pure]
   rw[Array.mapM_eq_mapM_toList,Sem.run_map,h3]
   simp only[Result.andThen_ok,List.map_toArray]
   have h4:(fun (x:Nat)=>((List.map (fun (f:Field)=>(f.offset,P.cellsOf f.type)) fs.toList).toArray)[x]?)=fun i=>(fs[i]?).map fun (f:Field)=>(f.offset,P.cellsOf f.type):=by
    funext i;simp
   rw[h4,h1]
   rfl
  ·rename_i k e ht
   obtain⟨ie,hie⟩:=Option.isSome_iff_exists.1 hfo
   have hce:P.cellsOf e=ie.size:=by simp [Program.cellsOf,hie]
   simp only[ht,hce] at h1
   simp only[execOp,Instr.build,Sem.run_bind,zeroValue,run_of_info hin,hiz,Result.andThen_ok,run_underlying ht,Sem.run_pure,Go.sizeOf,run_of_info hie,List.map_toArray]
   rw[h1]
   rfl
  ·cases hfo
theorem step_buildSlice {t e:TypeId} {len:Nat} {ps:List (Nat × Operand)} {z:Value} {out:Array Value} (hd:∀t,d=some t→t < n.n) (hx:ps.all (fun p=>okx p.2)=true)
  (ht:P.underlying t=some (.slice e)) (hz:azero P e=some z) (hl:z.cells.toList.all litOk=true) (hzs:0 < P.cellsOf e) (hsm:len * P.cellsOf e≤1024)
  (hf:Instr.fill (fun i=>some (i * P.cellsOf e,P.cellsOf e)) ((Array.range (len * P.cellsOf e)).map (z.cells[· % z.cells.size]!)) (ps.map fun p=>(p.1,ev a p.2))=some out)
  (ho:out.size=len * P.cellsOf e)
  (hk:∀h,σ h=none→K (aput a d (.slice (some ⟨h,0,none⟩) len (P.cellsOf e))) (σ.upd h (some ⟨out.toList,false⟩))) :
  AStep P w0 n ⟨d,.buildSlice t len ps.toArray,ty,pos,af,gd⟩ a σ K :=
 .val hd fun β w act hH hF=>by
  obtain⟨inf,hin,hiz⟩:=azero_some hz
  have hce:P.cellsOf e=inf.size:=by simp [Program.cellsOf,hin]
  have hll:(((Array.range (len * P.cellsOf e)).map (z.cells[· % z.cells.size]!))).toList.all litOk=true:=by
   rw[List.all_eq_true]
   intro v hv
   simp only[Array.toList_map,List.mem_map] at hv
   obtain⟨i,_,rfl⟩:=hv
   rw[List.all_eq_true] at hl
   by_cases hs:i % z.cells.size < z.cells.size
   ·have:z.cells[i % z.cells.size]! = z.cells[i % z.cells.size]:=getElem!_pos z.cells _ hs
    rw[this];exact hl _ (by simp)
   ·have:z.cells[i % z.cells.size]! = default:=getElem!_neg z.cells _ hs
    rw[this];rfl
  obtain⟨out',h1,h2⟩:=parts_rel hF _ ps _ _ out hx (rell_lits hll) hf
  have hs2:out'.size=out.size:=by have:=h2.1;simp at this;exact this.symm
  obtain⟨h,a1,a2,a3⟩:=hH.alloc out.toList out' e (len * P.cellsOf e) (by rw[hs2,ho];exact Nat.le_refl _) (by simp [ho]) (fun i v hv=>by
   obtain⟨v',e1,e2⟩:=h2.2 i v hv;exact⟨v',by simpa using e1,e2⟩)
  refine⟨_,.slice (some ⟨h,0,none⟩) len (P.cellsOf e),.slice (some ⟨w.heap.size,0,none⟩) len len,_,_,le_bset a2 _,?_,
   .slc (o:=0) (bset_same β h ⟨w.heap.size,0,len * P.cellsOf e⟩) (by simp) (Nat.le_refl _),a3,hk h a1⟩
  have hbig:¬ (len * inf.size > 2 ^ 24):=by rw[←hce];omega
  by_cases h0:len * P.cellsOf e=0
  ·have hl0:len=0:=by
    rcases Nat.mul_eq_zero.1 h0 with h|h
    ·exact h
    ·omega
   subst hl0
   have hr:∀f:Nat→Value,(Array.range 0).map f=#[]:=fun f=>Array.eq_empty_of_size_eq_zero (by simp)
   simp only[hce,Nat.zero_mul,hr] at h1
   simp only[execOp,Instr.buildSlice,Sem.run_bind,run_underlying ht,Result.andThen_ok,Go.sizeOf,run_of_info hin,Sem.run_pure,Nat.zero_mul,List.map_toArray,if_true,hr,h1]
   simp [newRow]
  ·have hne:¬ (len * inf.size=0):=by rw[←hce];exact h0
   simp only[hce] at h1
   simp only[execOp,Instr.buildSlice,Sem.run_bind,run_underlying ht,Result.andThen_ok,Go.sizeOf,run_of_info hin,Sem.run_pure,List.map_toArray]
   simp [hne,h1,newRow,zeroValue,run_of_info hin,hiz]
   omega
theorem step_sliceAll {t:TypeId} {x:Operand} {lo hi:Option Operand} {p:Prop} {v:Value} (hd:∀t,d=some t→t < n.n) (hx:okx x=true) (hlo:lo.all okx=true) (hhi:hi.all okx=true) (hz:0 < aesz P t∨P.underlying t=some .string)
  (hs:aslice P t (ev a x) (lo.map (ev a)) (hi.map (ev a))=some (p,v)) (hp:p) (hk:K (aput a d v) σ) :
  AStep P w0 n ⟨d,.slice t x lo hi none,ty,pos,af,gd⟩ a σ K :=
 .val hd fun β w act hH hF=>by
  have rx:=hF.ev hx
  have scl:∀{y:Option Operand} {k:IntKind} {i:Int},y.all okx=true→y.map (ev a)=some (.int k i)→y.map act.eval=some (.int k i):=by
   intro y k i hy he
   cases y with
   | none=>cases he
   | some y=>simp only[Option.map_some,Option.some.injEq] at he ⊢;have:=hF.ev (x:=y) (by simpa using hy);rw[he] at this;exact relv_int this
  have nn:∀{y:Option Operand},y.map (ev a)=none→y.map act.eval=none:=by intro y he;cases y<;>simp at he ⊢
  unfold aslice at hs
  split at hs
  ·rename_i e h o len z ht hv
   split at hs
   ·rename_i hze
    have hzp:0 < P.cellsOf e:=by
     rcases hz with h|h
     ·simpa [aesz,ht] using h
     ·rw[ht] at h;cases h
    obtain⟨inf,hin,hsz⟩:=info_of_cells hzp
    rw[hv] at rx
    -- the bounds,as they come out
    have fin:∀(l u:Nat),l≤u→u≤len→v=.slice (some ⟨h,o+l * z,none⟩) (u - l) z →
      (∀ad cap,act.eval x=.slice ad len cap→len≤cap→(Instr.sliceAt t (act.eval x) (lo.map act.eval) (hi.map act.eval) none).run P w=.ok (.slice (if cap=l then ad else ad.map (·.add (l * inf.size))) (u - l) (cap - l)) w) →
      ∃β' v' v'' σ' w',Le β β'∧(execOp act.eval ⟨d,.slice t x lo hi none,ty,pos,af,gd⟩).run P w=.ok (.value v'') w'∧RelV β' v' v''∧RelH w0 n.pr β' σ' w'∧K (aput a d v') σ':=by
     intro l u hlu hul hve hrun
     subst hve
     rcases relv_slc rx with ⟨pl,cap,hpl,hc,hl,hvx⟩ |⟨hl0,pl,xx,hpl,hc,hvx⟩
     ·have hr:=hrun _ _ hvx hl
      by_cases hcl:cap=l
      ·refine⟨β,_,_,σ,w,.refl _,by simp only[execOp,Sem.run_bind,Option.map_none,hr];rfl,?_,hH,hk⟩
       have hu:u=l:=by omega
       subst hu
       rw[if_pos hcl,hcl]
       simp only[Nat.sub_self]
       refine .slcE hpl ?_ _
       rw[←hc,hcl];omega
      ·refine⟨β,_,_,σ,w,.refl _,by simp only[execOp,Sem.run_bind,Option.map_none,hr];rfl,?_,hH,hk⟩
       rw[if_neg hcl]
       simp only[Option.map_some,add_addr,hsz,Nat.add_assoc]
       rw[←hze]
       refine .slc (o:=o+l * z) hpl ?_ (by omega)
       have:cap * z=l * z+(cap - l) * z:=by rw[←Nat.add_mul];congr 1;omega
       omega
     ·have hl1:l=0:=by omega
      have hu1:u=0:=by omega
      subst hl1;subst hu1;subst hl0
      have hr:=hrun _ _ hvx (Nat.le_refl _)
      refine⟨β,_,_,σ,w,.refl _,by simp only[execOp,Sem.run_bind,Option.map_none,hr];rfl,?_,hH,hk⟩
      simp only[Nat.zero_mul,Nat.add_zero,Nat.sub_self,if_true]
      exact .slcE hpl hc _
    split at hs
    ·rename_i e1 e2
     cases hs
     refine fin 0 len (Nat.zero_le _) (Nat.le_refl _) (by rw[hv];simp) ?_
     intro ad cap hvx hlc
     simp [hvx,nn e1,nn e2,Instr.sliceAt,Instr.slice,run_underlying ht,Instr.sliceBounds,Go.sizeOf,run_of_info hin]
    ·rename_i kk l e1 e2
     cases hs
     refine fin l.toNat len (by omega) (Nat.le_refl _) rfl ?_
     intro ad cap hvx hlc
     simp [hvx,scl hlo e1,nn e2,Instr.sliceAt,Instr.slice,run_underlying ht,Instr.sliceBounds,Instr.sliceBound,asIntOf,Go.sizeOf,run_of_info hin,hp.1,hp.2]
    ·rename_i kk u e1 e2
     cases hs
     refine fin 0 u.toNat (by omega) (by omega) (by simp) ?_
     intro ad cap hvx hlc
     have:u≤(cap:Int):=by omega
     simp [hvx,nn e1,scl hhi e2,Instr.sliceAt,Instr.slice,run_underlying ht,Instr.sliceBounds,Instr.sliceBound,asIntOf,Go.sizeOf,run_of_info hin,hp.1,this]
    ·rename_i kk l kk2 u e1 e2
     cases hs
     obtain⟨p1,p2,p3⟩:=hp
     refine fin l.toNat u.toNat (by omega) (by omega) rfl ?_
     intro ad cap hvx hlc
     have c1:u≤(cap:Int):=by omega
     have c2:0≤u:=by omega
     simp [hvx,scl hlo e1,scl hhi e2,Instr.sliceAt,Instr.slice,run_underlying ht,Instr.sliceBounds,Instr.sliceBound,asIntOf,Go.sizeOf,run_of_info hin,c1,c2,p1]
     intro hh
     omega
    ·cases hs
   ·cases hs
  ·rename_i s ht hv
   rw[hv] at rx
   have hvx:=relv_string rx
   split at hs
   ·rename_i e1 e2
    cases hs
    refine⟨β,_,_,σ,w,.refl _,?_,.string _,hH,hk⟩
    simp [execOp,hvx,nn e1,nn e2,Instr.sliceAt,Instr.slice,run_underlying ht,Instr.sliceBounds]
   ·rename_i kk l e1 e2
    cases hs
    refine⟨β,_,_,σ,w,.refl _,?_,.string _,hH,hk⟩
    simp [execOp,hvx,scl hlo e1,nn e2,Instr.sliceAt,Instr.slice,run_underlying ht,Instr.sliceBounds,Instr.sliceBound,asIntOf,hp.1,hp.2]
   ·rename_i kk u e1 e2
    cases hs
    refine⟨β,_,_,σ,w,.refl _,?_,.string _,hH,hk⟩
    simp [execOp,hvx,nn e1,scl hhi e2,Instr.sliceAt,Instr.slice,run_underlying ht,Instr.sliceBounds,Instr.sliceBound,asIntOf,hp.1,hp.2]
   ·rename_i kk l kk2 u e1 e2
    cases hs
    obtain⟨p1,p2,p3⟩:=hp
    refine⟨β,_,_,σ,w,.refl _,?_,.string _,hH,hk⟩
    have c2:0≤u:=by omega
    simp [execOp,hvx,scl hlo e1,scl hhi e2,Instr.sliceAt,Instr.slice,run_underlying ht,Instr.sliceBounds,Instr.sliceBound,asIntOf,c2,p1,p3]
    intro hh
    omega
   ·cases hs
  ·rename_i e ht hv
   rw[hv] at rx
   have hvx:act.eval x=.slice none 0 0:=by generalize act.eval x=vx at rx;cases rx;rfl
   have hzp:0 < P.cellsOf e:=by
    rcases hz with h|h
    ·simpa [aesz,ht] using h
    ·rw[ht] at h;cases h
   obtain⟨inf,hin,hsz⟩:=info_of_cells hzp
   split at hs
   ·rename_i e1 e2
    cases hs
    rw[hv] at hk
    refine⟨β,.slice none 0 0,.slice none 0 0,σ,w,.refl _,?_,.slcNil,hH,hk⟩
    simp [execOp,hvx,nn e1,nn e2,Instr.sliceAt,Instr.slice,run_underlying ht,Instr.sliceBounds,Go.sizeOf,run_of_info hin]
   ·rename_i kk l e1 e2
    cases hs
    subst hp
    refine⟨β,.slice none 0 0,.slice none 0 0,σ,w,.refl _,?_,.slcNil,hH,hk⟩
    simp [execOp,hvx,scl hlo e1,nn e2,Instr.sliceAt,Instr.slice,run_underlying ht,Instr.sliceBounds,Instr.sliceBound,asIntOf,Go.sizeOf,run_of_info hin]
   ·rename_i kk u e1 e2
    cases hs
    subst hp
    refine⟨β,.slice none 0 0,.slice none 0 0,σ,w,.refl _,?_,.slcNil,hH,hk⟩
    simp [execOp,hvx,nn e1,scl hhi e2,Instr.sliceAt,Instr.slice,run_underlying ht,Instr.sliceBounds,Instr.sliceBound,asIntOf,Go.sizeOf,run_of_info hin]
   ·rename_i kk l kk2 u e1 e2
    cases hs
    obtain⟨rfl,rfl⟩:=hp
    refine⟨β,.slice none 0 0,.slice none 0 0,σ,w,.refl _,?_,.slcNil,hH,hk⟩
    simp [execOp,hvx,scl hlo e1,scl hhi e2,Instr.sliceAt,Instr.slice,run_underlying ht,Instr.sliceBounds,Instr.sliceBound,asIntOf,Go.sizeOf,run_of_info hin]
   ·cases hs
  ·cases hs
def bey (P:Program) (σ:AHeap) (t:TypeId) (x:Value) (lo hi:Option Value):Prop :=
 ∃e h o len z ob k u,P.underlying t=some (.slice e)∧x=.slice (some ⟨h,o,none⟩) len z∧z=P.cellsOf e∧σ h=some ob∧o+u * z≤ob.cells.length∧hi=some (.int k (u:Nat)) ∧
  (lo=none∨∃k' l,lo=some (.int k' (l:Nat))∧l≤u)
theorem step_sliceBey {t:TypeId} {x:Operand} {lo hi:Option Operand} {p:Prop} {v:Value} (hd:∀t,d=some t→t < n.n) (hx:okx x=true) (hlo:lo.all okx=true) (hhi:hi.all okx=true) (hz:0 < aesz P t∨P.underlying t=some .string)
  (hs:aslice P t (ev a x) (lo.map (ev a)) (hi.map (ev a))=some (p,v)) (hb:bey P σ t (ev a x) (lo.map (ev a)) (hi.map (ev a))) (hk:K (aput a d v) σ) :
  AStep P w0 n ⟨d,.slice t x lo hi none,ty,pos,af,gd⟩ a σ K :=
 .val hd fun β w act hH hF=>by
  have rx:=hF.ev hx
  have scl:∀{y:Option Operand} {k:IntKind} {i:Int},y.all okx=true→y.map (ev a)=some (.int k i)→y.map act.eval=some (.int k i):=by
   intro y k i hy he
   cases y with
   | none=>cases he
   | some y=>simp only[Option.map_some,Option.some.injEq] at he ⊢;have:=hF.ev (x:=y) (by simpa using hy);rw[he] at this;exact relv_int this
  have nn:∀{y:Option Operand},y.map (ev a)=none→y.map act.eval=none:=by intro y he;cases y<;>simp at he ⊢
  obtain⟨e,h,o,len,z,ob,k,u,ht,hv,hze,hσ,hfit,e2,e1⟩:=hb
  have hzp:0 < P.cellsOf e:=by
   rcases hz with h|h
   ·simpa [aesz,ht] using h
   ·rw[ht] at h;cases h
  obtain⟨inf,hin,hsz⟩:=info_of_cells hzp
  rw[hv] at rx
  obtain⟨l,hlu,hve,hr1⟩:∃l:Nat,l≤u∧v=.slice (some ⟨h,o+l * z,none⟩) (u - l) z ∧
    ∀ad cap,act.eval x=.slice ad len cap→u≤cap→(Instr.sliceAt t (act.eval x) (lo.map act.eval) (hi.map act.eval) none).run P w=.ok (.slice (if cap=l then ad else ad.map (·.add (l * inf.size))) (u - l) (cap - l)) w:=by
   rcases e1 with e1 |⟨k',l,e1,hlu⟩
   ·refine⟨0,Nat.zero_le _,?_,fun ad cap hvx hlc=>?_⟩
    ·rw[hv,e1,e2] at hs
     unfold aslice at hs
     simp [ht,hze] at hs
     rw[←hs.2,hze];simp
    ·have:(u:Int)≤(cap:Int):=by omega
     simp [hvx,nn e1,scl hhi e2,Instr.sliceAt,Instr.slice,run_underlying ht,Instr.sliceBounds,Instr.sliceBound,asIntOf,Go.sizeOf,run_of_info hin,hlc]
   ·refine⟨l,hlu,?_,fun ad cap hvx hlc=>?_⟩
    ·rw[hv,e1,e2] at hs
     unfold aslice at hs
     simp [ht,hze] at hs
     rw[←hs.2,hze]
    ·have c1:(u:Int)≤(cap:Int):=by omega
     simp [hvx,scl hlo e1,scl hhi e2,Instr.sliceAt,Instr.slice,run_underlying ht,Instr.sliceBounds,Instr.sliceBound,asIntOf,Go.sizeOf,run_of_info hin,hlc]
     omega
  subst hve
  rcases relv_slc rx with ⟨pl,cap,hpl,hc,hl,hvx⟩ |⟨hl0,pl,xx,hpl,hc,hvx⟩
  ·have huc:u≤cap:=by
    rcases hH.len hσ hpl with h1 |⟨h1,h2⟩
    ·have:u * z≤cap * z:=by omega
     exact Nat.le_of_mul_le_mul_right this (by omega)
    ·rw[h2] at hfit
     have h0:u * z=0:=by simp only[List.length_nil] at hfit;omega
     rcases Nat.mul_eq_zero.1 h0 with h|h
     ·omega
     ·omega
   have hr:=hr1 _ _ hvx huc
   by_cases hcl:cap=l
   ·refine⟨β,_,_,σ,w,.refl _,by simp only[execOp,Sem.run_bind,Option.map_none,hr];rfl,?_,hH,hk⟩
    have hu:u=l:=by omega
    subst hu
    rw[if_pos hcl,hcl]
    simp only[Nat.sub_self]
    refine .slcE hpl ?_ _
    rw[←hc,hcl];omega
   ·refine⟨β,_,_,σ,w,.refl _,by simp only[execOp,Sem.run_bind,Option.map_none,hr];rfl,?_,hH,hk⟩
    rw[if_neg hcl]
    simp only[Option.map_some,add_addr,hsz,Nat.add_assoc]
    rw[←hze]
    refine .slc (o:=o+l * z) hpl ?_ (by omega)
    have:cap * z=l * z+(cap - l) * z:=by rw[←Nat.add_mul];congr 1;omega
    omega
  ·have hu0:u=0:=by
    rcases hH.len hσ hpl with h1 |⟨h1,h2⟩
    ·have:u * z=0:=by omega
     rcases Nat.mul_eq_zero.1 this with h|h<;>omega
    ·rw[h2] at hfit
     have h0:u * z=0:=by simp only[List.length_nil] at hfit;omega
     rcases Nat.mul_eq_zero.1 h0 with h|h
     ·exact h
     ·omega
   have hl1:l=0:=by omega
   subst hl1;subst hu0;subst hl0
   have hr:=hr1 _ _ hvx (Nat.le_refl _)
   refine⟨β,_,_,σ,w,.refl _,by simp only[execOp,Sem.run_bind,Option.map_none,hr];rfl,?_,hH,hk⟩
   simp only[Nat.zero_mul,Nat.add_zero,Nat.sub_self,if_true]
   exact .slcE hpl hc _
theorem RelH.nameOnly {β:Beta} {w:World} (hH:RelH w0 n.pr β σ w) (p:Place) (hd:p.shift < p.lim→p.block < w.heap.size) :
  ∃h,σ h=none∧β h=none∧RelH w0 n.pr (bset β h p) σ w:=by
 obtain⟨N,hN⟩:=hH.fin
 obtain⟨hβ,hσ⟩:=hN N (Nat.le_refl _)
 have hle:=le_bset hβ p
 refine⟨N,hσ,hβ,hH.below,⟨N+1,fun x hx'=>?_⟩,?_,?_,?_,hH.prot,fun k g o h=>let ⟨a,b⟩:=hH.gb k g o h;⟨a,fun G x e=>hle _ _ (b G x e)⟩⟩
 ·rw[bset_ne _ _ (by omega)];exact hN x (by omega)
 ·intro x q hq hqs
  by_cases e:x=N
  ·subst e;rw[bset_same] at hq;cases hq;exact hd hqs
  ·rw[bset_ne _ _ e] at hq;exact hH.dom x q hq hqs
 ·intro x ox hx'
  obtain⟨q,hq,a1,a2⟩:=hH.obj x ox hx'
  exact⟨q,hle _ _ hq,a1,fun h=>(a2 h).mono hle⟩
 ·intro x y ox oy px py hne hx' hy hpx hpy hro sx sy
  have hx2:x≠N:=by rintro rfl;rw[hσ] at hx';cases hx'
  have hy2:y≠N:=by rintro rfl;rw[hσ] at hy;cases hy
  rw[bset_ne _ _ hx2] at hpx
  rw[bset_ne _ _ hy2] at hpy
  exact hH.disj x y ox oy px py hne hx' hy hpx hpy hro sx sy
theorem RelH.nameRo {β:Beta} {w:World} (hH:RelH w0 n.pr β σ w) {h:Nat} {cs:List Value} {p:Place} (hσ:σ h=some ⟨cs,true⟩) (hp:β h=some p) (i k:Nat) (h0:0 < k) (hik:i+k≤cs.length) :
  ∃g,σ g=none∧β g=none∧RelH w0 n.pr (bset β g ⟨p.block,p.shift+i,p.shift+i+k⟩) (σ.upd g (some ⟨(cs.drop i).take k,true⟩)) w:=by
 obtain⟨hs,hr⟩:=hH.at hσ hp (show 0 < cs.length by omega)
 obtain⟨N,hN⟩:=hH.fin
 obtain⟨hβ,hσN⟩:=hN N (Nat.le_refl _)
 have hle:=le_bset hβ ⟨p.block,p.shift+i,p.shift+i+k⟩
 have hdom:=hH.dom h p hp hs
 have hNh:h≠N:=by rintro rfl;rw[hσN] at hσ;cases hσ
 refine⟨N,hσN,hβ,hH.below,⟨N+1,fun x hx'=>?_⟩,?_,?_,?_,fun q g ob hq hg=>hH.prot q g ob hq (fun G x e=>?_),fun k g o h=>let ⟨a,b⟩:=hH.gb k g o h;⟨a,fun G x e=>hle _ _ (b G x e)⟩⟩
 ·rw[bset_ne _ _ (by omega),AHeap.upd_ne _ _ (by omega)];exact hN x (by omega)
 ·intro x q hq hqs
  by_cases e:x=N
  ·subst e;rw[bset_same] at hq;cases hq;exact hdom
  ·rw[bset_ne _ _ e] at hq;exact hH.dom x q hq hqs
 ·intro x ox hx'
  by_cases e:x=N
  ·subst e;rw[AHeap.upd_same] at hx';cases hx'
   refine⟨_,bset_same _ _ _,fun hh=>by dsimp only at hh;omega,fun _=>?_⟩
   obtain⟨cells,elem,lo,hi,b1,b2,b3,b4,b5⟩:=hr.ex
   dsimp only at b3
   refine⟨cells,elem,lo,hi,b1,by dsimp only;omega,by simp;exact Nat.min_le_left _ _,fun j v hj=>?_,fun hh=>by cases hh⟩
   dsimp only at hj
   rw[List.getElem?_take] at hj
   split at hj
   ·rw[List.getElem?_drop] at hj
    obtain⟨v',c1,c2⟩:=b4 (i+j) v hj
    exact⟨v',by dsimp only;rw[Nat.add_assoc];exact c1,c2.mono hle⟩
   ·cases hj
  ·rw[AHeap.upd_ne _ _ e] at hx'
   obtain⟨q,hq,a1,a2⟩:=hH.obj x ox hx'
   exact⟨q,by rw[bset_ne _ _ e];exact hq,a1,fun h=>(a2 h).mono hle⟩
 ·intro x y ox oy px py hne hx' hy hpx hpy hro sx sy
  by_cases ex:x=N
  ·subst ex;rw[AHeap.upd_same] at hx';cases hx';cases hro
  ·rw[bset_ne _ _ ex] at hpx
   rw[AHeap.upd_ne _ _ ex] at hx'
   by_cases ey:y=N
   ·subst ey
    rw[bset_same] at hpy;cases hpy
    have hxh:x≠h:=by rintro rfl;rw[hσ] at hx';cases hx';cases hro
    exact (hH.disj x h ox _ px p hxh hx' hσ hpx hp hro sx hs).part rfl (Nat.le_add_right _ _) (by dsimp only;obtain⟨_,_,_,_,_,_,b3,_⟩:=hr.ex;dsimp only at b3;omega)
   ·rw[bset_ne _ _ ey] at hpy
    rw[AHeap.upd_ne _ _ ey] at hy
    exact hH.disj x y ox oy px py hne hx' hy hpx hpy hro sx sy
 ·have h:=hg G x e
  by_cases e2:G=N
  ·subst e2
   have:=(hH.gb q g ob hq).2 G x e
   rw[hβ] at this;cases this
  ·rw[AHeap.upd_ne _ _ e2] at h;exact h
def a3 (P:Program) (σ:AHeap) (t:TypeId) (x:Value) (lo hi:Option Value) (mx:Value) (K:Value→AHeap→Prop):Prop :=
  ∃e kl ku km,∃l u m:Nat,P.underlying t=some (.slice e)∧(lo=some (.int kl l)∨(lo=none∧l=0))∧hi=some (.int ku u)∧mx=.int km m∧l≤u∧u≤m ∧
    ((x=.slice none 0 0∧m=0∧K (.slice none 0 0) σ) ∨
     (∃h o len z,x=.slice (some ⟨h,o,none⟩) len z∧z=P.cellsOf e∧m≤len∧∀g,σ g=none→K (.slice (some ⟨g,0,none⟩) (u - l) z) (if l=m then σ.upd g (some ⟨[],false⟩) else σ)) ∨
     (∃h o len z cs,x=.slice (some ⟨h,o,none⟩) len z∧z=P.cellsOf e∧m≤len∧l < m∧σ h=some ⟨cs,true⟩∧o+len * z≤cs.length ∧
       ∀g,σ g=none→K (.slice (some ⟨g,0,none⟩) (u - l) z) (σ.upd g (some ⟨(cs.drop (o+l * z)).take ((m - l) * z),true⟩))) ∨
     (∃h o len z,x=.slice (some ⟨h,o,none⟩) len z∧z=P.cellsOf e∧m≤len∧l < m∧K (.slice (some ⟨h,o+l * z,some (m - l)⟩) (u - l) z) σ))
theorem step_slice3 {t:TypeId} {x y:Operand} {lo hi:Option Operand} (hd:∀t,d=some t→t < n.n) (hx:okx x=true) (hlo:lo.all okx=true) (hhi:hi.all okx=true) (hy:okx y=true) (hz:0 < aesz P t∨P.underlying t=some .string)
  (hs:a3 P σ t (ev a x) (lo.map (ev a)) (hi.map (ev a)) (ev a y) fun v σ'=>K (aput a d v) σ') :
  AStep P w0 n ⟨d,.slice t x lo hi (some y),ty,pos,af,gd⟩ a σ K :=
 .val hd fun β w act hH hF=>by
  have rx:=hF.ev hx
  have ry:=hF.ev hy
  have scl:∀{y:Option Operand} {k:IntKind} {i:Int},y.all okx=true→y.map (ev a)=some (.int k i)→y.map act.eval=some (.int k i):=by
   intro y k i hy he
   cases y with
   | none=>cases he
   | some y=>simp only[Option.map_some,Option.some.injEq] at he ⊢;have:=hF.ev (x:=y) (by simpa using hy);rw[he] at this;exact relv_int this
  have nn:∀{y:Option Operand},y.map (ev a)=none→y.map act.eval=none:=by intro y he;cases y<;>simp at he ⊢
  obtain⟨e,kl,ku,km,l,u,m,ht,e1,e2,e3,hlu,hum,hcase⟩:=hs
  have hzp:0 < P.cellsOf e:=by
   rcases hz with h|h
   ·simpa [aesz,ht] using h
   ·rw[ht] at h;cases h
  obtain⟨inf,hin,hsz⟩:=info_of_cells hzp
  rw[e3] at ry
  have hvy:=relv_int ry
  have hr1:∀ad len cap,act.eval x=.slice ad len cap→m≤cap→(Instr.sliceAt t (act.eval x) (lo.map act.eval) (hi.map act.eval) (some (act.eval y))).run P w=.ok (.slice (if m=l then ad else ad.map (·.add (l * inf.size))) (u - l) (m - l)) w:=by
   intro ad len cap hvx hmc
   have c1:(m:Int)≤(cap:Int):=by omega
   have c2:(u:Int)≤(m:Int):=by omega
   have c3:(l:Int)≤(u:Int):=by omega
   rcases e1 with e1 |⟨e1,h0⟩
   ·simp [hvx,scl hlo e1,scl hhi e2,hvy,Instr.sliceAt,Instr.slice,run_underlying ht,Instr.sliceBounds,Instr.sliceBound,asIntOf,Go.sizeOf,run_of_info hin,hmc,hum,hlu]
   ·subst h0
    simp [hvx,nn e1,scl hhi e2,hvy,Instr.sliceAt,Instr.slice,run_underlying ht,Instr.sliceBounds,Instr.sliceBound,asIntOf,Go.sizeOf,run_of_info hin,hmc,hum]
  rcases hcase with ⟨hv,hm0,hk⟩ |⟨h,o,len,z,hv,hze,hml,hk⟩ |⟨h,o,len,z,cs,hv,hze,hml,hlm,hro,hcl,hk⟩ |⟨h,o,len,z,hv,hze,hml,hlm,hk⟩
  ·rw[hv] at rx
   have hvx:act.eval x=.slice none 0 0:=by generalize act.eval x=vx at rx;cases rx;rfl
   have hr:=hr1 _ _ _ hvx (by omega)
   have hl0:l=0:=by omega
   have hu0:u=0:=by omega
   subst hl0;subst hu0;subst hm0
   refine⟨β,_,_,σ,w,.refl _,by simp only[execOp,Sem.run_bind,Option.map_some,hr];rfl,?_,hH,hk⟩
   simp only[if_true,Nat.sub_self]
   exact .slcNil
  ·rw[hv] at rx
   have empty:∀ad,(Instr.sliceAt t (act.eval x) (lo.map act.eval) (hi.map act.eval) (some (act.eval y))).run P w=.ok (.slice ad 0 0) w→l=m →
     ∃β' v' v'' σ' w',Le β β'∧(execOp act.eval ⟨d,.slice t x lo hi (some y),ty,pos,af,gd⟩).run P w=.ok (.value v'') w'∧RelV β' v' v''∧RelH w0 n.pr β' σ' w'∧K (aput a d v') σ':=by
    intro ad hr hlm
    obtain⟨g,g1,g2,g3⟩:=hH.name ⟨0,0,0⟩ [] (fun h=>absurd h (by simp)) (fun _=>rfl) (fun _ _ h=>absurd h (by simp)) (fun h=>absurd h (by simp))
    have hk':=hk g g1
    rw[if_pos hlm] at hk'
    have hu:u - l=0:=by omega
    rw[hu] at hk'
    exact⟨_,_,_,_,w,le_bset g2 _,by simp only[execOp,Sem.run_bind,Option.map_some,hr];rfl,.slcE (bset_same _ _ _) (by simp) ad,g3,hk'⟩
   rcases relv_slc rx with ⟨pl,cap,hpl,hc,hl,hvx⟩ |⟨hl0,pl,xx,hpl,hc,hvx⟩
   ·have hr:=hr1 _ _ _ hvx (by omega)
    by_cases hml':m=l
    ·have hu:u=l:=by omega
     subst hu;subst hml'
     rw[if_pos rfl,Nat.sub_self] at hr
     exact empty _ hr rfl
    ·rw[if_neg hml'] at hr
     have hlt:l < m:=by omega
     have hmul:(l+(m - l)) * z≤cap * z:=Nat.mul_le_mul_right _ (by omega)
     rw[Nat.add_mul] at hmul
     have hpos:0 < (m - l) * z:=Nat.mul_pos (by omega) (by omega)
     obtain⟨g,g1,g2,g3⟩:=hH.nameOnly ⟨pl.block,pl.shift+o+l * z,pl.shift+o+l * z+(m - l) * z⟩ (fun _=>hH.dom h pl hpl (by omega))
     have hk':=hk g g1
     rw[if_neg (by omega)] at hk'
     refine⟨_,_,_,_,w,le_bset g2 _,by simp only[execOp,Sem.run_bind,Option.map_some,hr];rfl,?_,g3,hk'⟩
     simp only[Option.map_some,add_addr,hsz]
     rw[←hze]
     exact RelV.slc (o:=0) (bset_same β g ⟨pl.block,pl.shift+o+l * z,pl.shift+o+l * z+(m - l) * z⟩) (by simp) (by omega)
   ·have hm0:m=0:=by omega
    have hl1:l=0:=by omega
    have hu1:u=0:=by omega
    subst hm0;subst hl1;subst hu1
    have hr:=hr1 _ _ _ hvx (by omega)
    rw[if_pos rfl] at hr
    exact empty _ hr rfl
  ·rw[hv] at rx
   rcases relv_slc rx with ⟨pl,cap,hpl,hc,hl,hvx⟩ |⟨hl0,pl,xx,hpl,hc,hvx⟩
   ·have hr:=hr1 _ _ _ hvx (by omega)
    rw[if_neg (by omega)] at hr
    have hmul:(l+(m - l)) * z≤len * z:=Nat.mul_le_mul_right _ (by omega)
    rw[Nat.add_mul] at hmul
    have hpos:0 < (m - l) * z:=Nat.mul_pos (by omega) (by omega)
    obtain⟨g,g1,g2,g3⟩:=hH.nameRo hro hpl (o+l * z) ((m - l) * z) hpos (by omega)
    refine⟨_,_,_,_,w,le_bset g2 _,by simp only[execOp,Sem.run_bind,Option.map_some,hr];rfl,?_,g3,hk g g1⟩
    simp only[Option.map_some,add_addr,hsz]
    rw[←hze]
    have hre:=RelV.slc (β:=bset β g ⟨pl.block,pl.shift+(o+l * z),pl.shift+(o+l * z)+(m - l) * z⟩) (h:=g) (o:=0) (len:=u - l) (z:=z) (cap:=m - l) (bset_same _ _ _) (by dsimp only;omega) (by omega)
    dsimp only at hre
    rw[Nat.add_zero,←Nat.add_assoc] at hre
    rw[←Nat.add_assoc]
    exact hre
   ·omega
  ·rw[hv] at rx
   rcases relv_slc rx with ⟨pl,cap,hpl,hc,hl,hvx⟩ |⟨hl0,pl,xx,hpl,hc,hvx⟩
   ·have hr:=hr1 _ _ _ hvx (by omega)
    rw[if_neg (by omega)] at hr
    have hmul:(l+(m - l)) * z≤cap * z:=Nat.mul_le_mul_right _ (by omega)
    rw[Nat.add_mul] at hmul
    have hpos:0 < (m - l) * z:=Nat.mul_pos (by omega) (by omega)
    refine⟨β,_,_,_,w,.refl _,by simp only[execOp,Sem.run_bind,Option.map_some,hr];rfl,?_,hH,hk⟩
    have hre:=RelV.slcC (β:=β) (h:=h) (o:=o+l * z) (len:=u - l) (z:=z) (cap:=m - l) hpl (by omega) (by omega)
    simp only[Option.map_some,add_addr,hsz]
    rw[←hze,Nat.add_assoc]
    exact hre
   ·omega
theorem acells_run {β:Beta} {w:World} (hH:RelH w0 n.pr β σ w) {z:Nat} {v v':Value} {vs:List Value} (hr:RelV β v v') (hc:acells z σ v=some vs) :
  ∃m vs' ad cap,v'=.slice ad m cap∧vs.length=m * z∧RelL β vs vs'∧(Builtin.firstCells z m v').run P w=.ok vs'.toArray w:=by
 unfold acells at hc
 split at hc
 ·cases hc
  cases hr
  exact⟨0,[],none,0,rfl,by simp,RelL.nil β,by simp [Builtin.firstCells]⟩
 ·rename_i h o len z'
  split at hc
  ·rename_i hz
   subst hz
   rcases relv_slc hr with ⟨p,cap,hp,h1,h2,rfl⟩ |⟨rfl,p,x,hp,h1,rfl⟩
   ·split at hc
    ·rename_i hl;subst hl;cases hc
     refine⟨0,[],_,_,rfl,by simp,RelL.nil β,?_⟩
     simp [Builtin.firstCells,loadCells,loadCellsFrom]
    ·obtain⟨hl,vs',r1,r2⟩:=hH.cells hp hc
     refine⟨len,vs',_,_,rfl,hl,r1,?_⟩
     exact run_firstCells_some w z len _ len cap vs' (by rw[←r1.1,hl]) r2
   ·simp only[if_true] at hc
    cases hc
    refine⟨0,[],_,_,rfl,by simp,RelL.nil β,?_⟩
    cases x<;>simp [Builtin.firstCells,loadCells,loadCellsFrom]
  ·cases hc
 ·cases hc
def appd (base:List Value) (k:Nat) (ys:List Value):List Value :=
 if k+ys.length≤base.length then lwrite base k ys else base.take k++ys
theorem appd_length (base:List Value) (k:Nat) (ys:List Value) (hk:k≤base.length):(appd base k ys).length=max base.length (k+ys.length)∨(base.length < k+ys.length∧(appd base k ys).length=k+ys.length):=by
 unfold appd
 split
 ·rename_i h;rw[lwrite_length _ _ _ h];left;omega
 ·right;simp;omega
section
variable (w:World)
theorem lenOf_slice (ad:Option Addr) (m cap:Nat):(Builtin.lenOf (.slice ad m cap)).run P w=.ok m w:=rfl
theorem run_append_place {t u e e2 ty:TypeId} {i:TypeInfo} (ht:P.underlying t=some (.slice e)) (hu:P.underlying u=some (.slice e2)) (hi:P.info? e=some i)
  {base:Option Addr} {sLen sCap m c:Nat} {ad:Option Addr} {new:Array Value} {w':World} (hn:sLen+m≤sCap)
  (hnew:(Builtin.firstCells i.size m (.slice ad m c)).run P w=.ok new w) (hst:∀b,base=some b→(storeCells (b.add (sLen * i.size)) new.toList).run P w=.ok () w') (hb0:base=none→w'=w) :
  (Builtin.append_ #[t,u] ty #[.slice base sLen sCap,.slice ad m c]).run P w=.ok (.slice base (sLen+m) sCap) w':=by
 cases base with
 | none=>simp [Builtin.append_,run_underlying ht,run_underlying hu,Go.sizeOf,run_of_info hi,lenOf_slice,hn,hnew,hb0]
 | some b=>simp [Builtin.append_,run_underlying ht,run_underlying hu,Go.sizeOf,run_of_info hi,lenOf_slice,hn,hnew,hst b rfl]
theorem run_append_move {t u e e2 ty:TypeId} {i:TypeInfo} {z:Value} (ht:P.underlying t=some (.slice e)) (hu:P.underlying u=some (.slice e2)) (hi:P.info? e=some i) (hz:i.zero=some z)
  {base:Option Addr} {sLen sCap m c:Nat} {ad:Option Addr} {old new:Array Value} (hn:sCap < sLen+m) (hs:(sLen+m) * i.bytes≤2 ^ 40) (hs2:sLen+m≤2 ^ 40)
  (hold:(Builtin.firstCells i.size sLen (.slice base sLen sCap)).run P w.drew=.ok old w.drew) (hnew:(Builtin.firstCells i.size m (.slice ad m c)).run P w.drew=.ok new w.drew) :
  (Builtin.append_ #[t,u] ty #[.slice base sLen sCap,.slice ad m c]).run P w =
   .ok (.slice (some ⟨w.heap.size,0,none⟩) (sLen+m) (grownCap w (sLen+m) sCap e)) (w.drew.alloc (.cells (old++new++Builtin.zeroCells z.cells (grownCap w (sLen+m) sCap e - (sLen+m))) e)):=by
 have hn':¬ (sLen+m≤sCap):=by omega
 have h63:¬ (9223372036854775807 < ((sLen:Int)+(m:Int))):=by omega
 have h48:¬ (281474976710656 < Builtin.nextslicecap (sLen+m) sCap * i.bytes):=by
  have:=growslice_fits hn (bytes:=i.bytes) (by omega)
  omega
 simp [Builtin.append_,run_underlying ht,run_underlying hu,Go.sizeOf,run_of_info hi,zeroValue,hz,lenOf_slice,hn',h63,h48,Question.forced,hold,hnew,newRow,grownCap]
end
theorem le_grownCap' (w:World) (need old:Nat) (e:TypeId):need≤grownCap w need old e:=by
 simp [grownCap,Question.cut]
theorem step_append_nil {x y:Operand} {t u e e2:TypeId} {z:Value} {ys:List Value} {i:TypeInfo} (hd:∀t,d=some t→t < n.n) (hx:okx x=true) (hy:okx y=true)
  (ht:P.underlying t=some (.slice e)) (hu:P.underlying u=some (.slice e2)) (hi:P.info? e=some i) (hz:i.zero=some z) (hzz:z.cells.size=i.size) (hs:0 < i.size)
  (hxv:ev a x=.slice none 0 0) (hc:acells i.size σ (ev a y)=some ys) (hb:ys.length * i.bytes≤2 ^ 40∧ys.length≤2 ^ 40)
  (hk:∀h,σ h=none→K (aput a d (.slice (some ⟨h,0,none⟩) (ys.length / i.size) i.size)) (σ.upd h (some ⟨ys,false⟩))) :
  AStep P w0 n ⟨d,.call ⟨.builtin .append,#[x,y],#[t,u]⟩,ty,pos,af,gd⟩ a σ K :=
 .val hd fun β w act hH hF=>by
  have rx:=hF.ev hx
  have ry:=hF.ev hy
  rw[hxv] at rx
  have hvx:act.eval x=.slice none 0 0:=by generalize act.eval x=vx at rx;cases rx;rfl
  have hD:RelH w0 n.pr β σ w.drew:=hH.grow (hH.below.drew) (Nat.le_refl _) (fun _ _=>rfl)
  obtain⟨m,ys',ad,cap,hvy,hlen,rys,hrun⟩:=acells_run (P:=P) hD ry hc
  have hm:ys.length / i.size=m:=by rw[hlen];exact Nat.mul_div_cancel _ hs
  rw[hm] at hk
  have hmb:m≤ys.length:=by rw[hlen];exact Nat.le_mul_of_pos_right _ hs
  rw[hvy] at hrun
  have hex:∀r w',(Builtin.append_ #[t,u] ty #[.slice none 0 0,.slice ad m cap]).run P w=.ok r w'→(execOp act.eval ⟨d,.call ⟨.builtin .append,#[x,y],#[t,u]⟩,ty,pos,af,gd⟩).run P w=.ok (.value r) w':=by
   intro r w' hr
   simp [execOp,resolve,invoke,builtin,hvx,hvy,hr]
  by_cases hm0:m=0
  ·subst hm0
   have hys:ys=[]:=List.eq_nil_of_length_eq_zero (by omega)
   subst hys
   have hys':=rys.nil_inv;subst hys'
   obtain⟨h,a1,a2,a3⟩:=hH.name ⟨0,0,0⟩ [] (fun h=>absurd h (by simp)) (fun _=>rfl) (fun _ _ h=>absurd h (by simp)) (fun h=>absurd h (by simp))
   obtain⟨m2,ys2,ad2,cap2,hvy2,hlen2,rys2,hrun2⟩:=acells_run (P:=P) hH ry hc
   rw[hvy] at hvy2;cases hvy2
   rw[hvy] at hrun2
   refine⟨_,.slice (some ⟨h,0,none⟩) 0 i.size,.slice none 0 0,_,w,le_bset a2 _,hex _ _ ?_,.slcE (bset_same _ _ _) (by simp) none,a3,hk h a1⟩
   have hys2:=rys2.nil_inv;subst hys2
   exact run_append_place w ht hu hi (sLen:=0) (sCap:=0) (m:=0) (Nat.le_refl _) hrun2 (fun b hb=>by cases hb) (fun _=>rfl)
  ·have hb1:(0+m) * i.bytes≤2 ^ 40:=by rw[Nat.zero_add];exact Nat.le_trans (Nat.mul_le_mul_right _ hmb) hb.1
   have hr:=run_append_move w (ty:=ty) ht hu hi hz (base:=none) (sLen:=0) (sCap:=0) (old:=#[]) (by omega) hb1 (by omega) (by simp [Builtin.firstCells]) hrun
   have hcap:=le_grownCap' w (0+m) 0 e
   generalize grownCap w (0+m) 0 e=nw at hr hcap
   generalize hC:#[]++ys'.toArray++Builtin.zeroCells z.cells (nw - (0+m))=C at hr
   have hCs:C.size=nw * i.size:=by
    rw[←hC];simp [size_zeroCells,hzz,←rys.1,hlen]
    rw[←Nat.add_mul];congr 1;omega
   obtain⟨h,a1,a2,a3⟩:=hD.alloc ys C e (nw * i.size) (by omega) (by rw[hlen];exact Nat.mul_le_mul_right _ (by omega)) (fun j v hv=>by
     obtain⟨v',e1,e2⟩:=rys.2 j v hv
     refine⟨v',?_,e2⟩
     have hj:j < ys'.length:=by
      rcases Nat.lt_or_ge j ys'.length with h|h
      ·exact h
      ·rw[List.getElem?_eq_none h] at e1;cases e1
     rw[←hC,Array.getElem?_append_left (by simpa using hj)]
     simpa using e1)
   refine⟨_,.slice (some ⟨h,0,none⟩) m i.size,_,_,_,le_bset a2 _,hex _ _ hr,?_,a3,hk h a1⟩
   rw[Nat.zero_add]
   exact .slc (o:=0) (bset_same β h ⟨w.heap.size,0,nw * i.size⟩) (by simp) (by omega)
theorem step_append {x y : Operand} {t u e e2 : TypeId} {z : Value} {ys : List Value} {i : TypeInfo} {h o len : Nat} {ob : AObj} (hd : ∀ t, d = some t → t < n.n) (hx : okx x = true) (hy : okx y = true)
    (ht : P.underlying t = some (.slice e)) (hu : P.underlying u = some (.slice e2)) (hi : P.info? e = some i) (hz : i.zero = some z) (hzz : z.cells.size = i.size) (hs : 0 < i.size)
    (hxv : ev a x = .slice (some ⟨h, o, none⟩) len i.size) (hσ : σ h = some ob) (hro : ob.ro = false) (hol : o + len * i.size ≤ ob.cells.length) (hone : ys.all Value.oneCell' = true)
    (hc : acells i.size σ (ev a y) = some ys) (hb : (len * i.size + ys.length) * i.bytes ≤ 2 ^ 40 ∧ len * i.size + ys.length ≤ 2 ^ 40)
    (hk : ∀ h', σ h' = none → K (aput a d (.slice (some ⟨h', 0, none⟩) (len + ys.length / i.size) i.size)) ((σ.upd h none).upd h' (some ⟨appd (ob.cells.drop o) (len * i.size) ys, false⟩))) :
    AStep P w0 n ⟨d, .call ⟨.builtin .append, #[x, y], #[t, u]⟩, ty, pos, af, gd⟩ a σ K :=
  .val hd fun β w act hH hF => by
    have rx := hF.ev hx
    have ry := hF.ev hy
    rw [hxv] at rx
    have hD : RelH w0 n.pr β σ w.drew := hH.grow (hH.below.drew) (Nat.le_refl _) (fun _ _ => rfl)
    obtain ⟨m, ys', ad, cy, hvy, hlen, rys, hrunD⟩ := acells_run (P := P) hD ry hc
    obtain ⟨m2, ys2, ad2, cy2, hvy2, _, rys2, hrun⟩ := acells_run (P := P) hH ry hc
    rw [hvy] at hvy2; cases hvy2
    rw [hvy] at hrun hrunD
    have hm : ys.length / i.size = m := by rw [hlen]; exact Nat.mul_div_cancel _ hs
    rw [hm] at hk
    have hbase : len * i.size ≤ (ob.cells.drop o).length := by simp; omega
    obtain ⟨p, hp⟩ := hH.placed hσ
    have hfresh : ∀ h', σ h' = none → h' ≠ h := by intro h' e1 e2; subst e2; rw [hσ] at e1; cases e1
    have hsz : (len + m) * i.size = len * i.size + ys.length := by rw [hlen, Nat.add_mul]
    have hle1 : len + m ≤ (len + m) * i.size := Nat.le_mul_of_pos_right _ hs
    have hbb : (len + m) * i.bytes ≤ 2 ^ 40 := Nat.le_trans (Nat.mul_le_mul_right _ hle1) (by rw [hsz]; exact hb.1)
    -- what comes of either way
    have hex : ∀ vx r w', act.eval x = vx → (Builtin.append_ #[t, u] ty #[vx, .slice ad m cy]).run P w = .ok r w' → (execOp act.eval ⟨d, .call ⟨.builtin .append, #[x, y], #[t, u]⟩, ty, pos, af, gd⟩).run P w = .ok (.value r) w' := by
      intro vx r w' hvx hr
      simp [execOp, resolve, invoke, builtin, hvx, hvy, hr]
    -- it has moved
    have move : ∀ vx base cap (old : List Value), act.eval x = vx → vx = .slice base len cap → cap < len + m → RelL β ((ob.cells.drop o).take (len * i.size)) old → (ob.cells.drop o).length < len * i.size + ys.length →
        (Builtin.firstCells i.size len vx).run P w.drew = .ok old.toArray w.drew →
        ∃ β' v v' σ' w', Le β β' ∧ (execOp act.eval ⟨d, .call ⟨.builtin .append, #[x, y], #[t, u]⟩, ty, pos, af, gd⟩).run P w = .ok (.value v') w' ∧ RelV β' v v' ∧ RelH w0 n.pr β' σ' w' ∧ K (aput a d v) σ' := by
      intro vx base cap old hvx hvs hcl hrel hbl hold
      subst hvs
      have hr := run_append_move w (ty := ty) ht hu hi hz hcl hbb (by omega) hold hrunD
      have hcap := le_grownCap' w (len + m) cap e
      generalize grownCap w (len + m) cap e = nw at hr hcap
      generalize hC : old.toArray ++ ys'.toArray ++ Builtin.zeroCells z.cells (nw - (len + m)) = C at hr
      have holdl : old.length = len * i.size := by rw [← hrel.1, List.length_take]; omega
      have hCs : C.size = nw * i.size := by
        rw [← hC]; simp [size_zeroCells, hzz, ← rys.1, hlen, holdl]
        rw [← Nat.add_mul, ← Nat.add_mul]; congr 1; omega
      have hap : appd (ob.cells.drop o) (len * i.size) ys = (ob.cells.drop o).take (len * i.size) ++ ys := by
        unfold appd; rw [if_neg (by omega)]
      have happ := RelL.app hrel rys
      have hE : RelH w0 n.pr β (σ.upd h none) w.drew := hD.erase h
      obtain ⟨h', a1, a2, a3⟩ := hE.alloc (appd (ob.cells.drop o) (len * i.size) ys) C e (nw * i.size) (by omega) (by
          rw [hap, List.length_append, List.length_take, hlen]
          have : (len + m) * i.size ≤ nw * i.size := Nat.mul_le_mul_right _ (by omega)
          rw [Nat.add_mul] at this; omega) (fun j v hv => by
          rw [hap] at hv
          obtain ⟨v', e1, e2⟩ := happ.2 j v hv
          refine ⟨v', ?_, e2⟩
          have hj : j < (old ++ ys').length := by
            rcases Nat.lt_or_ge j (old ++ ys').length with h | h
            · exact h
            · rw [List.getElem?_eq_none h] at e1; cases e1
          rw [← hC, Array.getElem?_append_left (by simpa using hj)]
          simpa using e1)
      have a1' : σ h' = none := by
        by_cases e : h' = h
        · subst e; rw [hp] at a2; cases a2
        · rwa [AHeap.upd_ne _ _ e] at a1
      refine ⟨_, .slice (some ⟨h', 0, none⟩) (len + m) i.size, _, _, _, le_bset a2 _, hex _ _ _ hvx hr, ?_, a3, hk h' a1'⟩
      exact .slc (o := 0) (bset_same β h' ⟨w.heap.size, 0, nw * i.size⟩) (by simp) (by omega)
    rcases relv_slc rx with ⟨pl, cap, hpl, hcq, hlq, hvx⟩ | ⟨hl0, pl, xx, hpl, hcq, hvx⟩
    · rw [hp] at hpl; cases hpl
      have hlenR := hH.len hσ hp
      by_cases hin : len + m ≤ cap
      · -- in place
        have hmm : (len + m) * i.size ≤ cap * i.size := Nat.mul_le_mul_right _ hin
        by_cases hz0 : p.lim ≤ p.shift
        · -- nothing there, nothing put
          have hcells : ob.cells = [] := by rcases hlenR with h1 | h1; · exact List.eq_nil_of_length_eq_zero (by omega)
                                            · exact h1.2
          have hl0 : len = 0 ∧ m = 0 := by
            have : cap * i.size = 0 := by omega
            have h2 : cap = 0 := by rcases Nat.mul_eq_zero.1 this with h | h; · exact h
                                    · omega
            omega
          obtain ⟨rfl, rfl⟩ := hl0
          have hys : ys = [] := List.eq_nil_of_length_eq_zero (by omega)
          subst hys
          have hys2 := rys2.nil_inv; subst hys2
          have hE : RelH w0 n.pr β (σ.upd h none) w := hH.erase h
          obtain ⟨h', a1, a2, a3⟩ := hE.name ⟨p.block, p.shift + o, p.lim⟩ (appd (ob.cells.drop o) (0 * i.size) []) (fun h => absurd h (by simp; omega)) (fun _ => by simp [appd, hcells, lwrite]) (fun _ _ h => absurd h (by simp; omega)) (fun h => absurd h (by simp; omega))
          have a1' : σ h' = none := by
            by_cases e : h' = h
            · subst e; rw [hp] at a2; cases a2
            · rwa [AHeap.upd_ne _ _ e] at a1
          refine ⟨_, .slice (some ⟨h', 0, none⟩) (0 + 0) i.size, _, _, w, le_bset a2 _, hex _ _ _ hvx (run_append_place w ht hu hi hin hrun (w' := w) (fun b hb => by cases hb; simp [storeCells]) (fun h => by cases h)), ?_, a3, hk h' a1'⟩
          exact .slc (o := 0) (bset_same β h' _) (by simpa using hcq) (by omega)
        · have hz1 : p.shift < p.lim := by omega
          obtain ⟨p', hp', _, hobj⟩ := hH.obj h ob hσ
          rw [hp] at hp'; cases hp'
          obtain ⟨cs, elem, lo, hi', hbk, hl1, hl2, hcs, hw⟩ := (hobj hz1).ex
          obtain ⟨hba, hfr⟩ := hw hro
          have hlt : p.block < w.heap.size := hH.dom h p hp hz1
          have hst := run_storeCells P p.block elem lo hi' ys2 (p.shift + o + len * i.size) 0 cs w hbk (by rw [← rys2.1]; omega) (fun v hv => by
              obtain ⟨j, hj, rfl⟩ := List.getElem_of_mem hv
              have hj2 : j < ys.length := by rw [rys2.1]; exact hj
              obtain ⟨y', e1, e2⟩ := rys2.2 j ys[j] (by simp [hj2])
              have : y' = ys2[j] := by simpa [hj] using e1.symm
              subst this
              rw [List.all_eq_true] at hone
              exact oneCell_rel e2 (hone _ (by simp))) (fun j c1 c2 => hfr j (by omega) (by rw [← rys2.1] at c2; omega))
          simp only [Nat.add_zero] at hst
          generalize hwn : World.putObj w p.block (.cells (awrite cs (p.shift + o + len * i.size) ys2) elem (lo, hi')) = wn at hst
          have hblk : ∀ b, b ≠ p.block → wn.heap[b]? = w.heap[b]? := by
            intro b hne; rw [← hwn]; simp only [World.putObj]; rw [Array.getElem?_setIfInBounds_ne (by omega)]
          have hself : wn.heap[p.block]? = some (.cells (awrite cs (p.shift + o + len * i.size) ys2) elem (lo, hi')) := by
            rw [← hwn]; simp [World.putObj, hlt]
          have hE0 : RelH w0 n.pr β (σ.upd h none) w := hH.erase h
          have hE : RelH w0 n.pr β (σ.upd h none) wn := by
            refine ⟨by rw [← hwn]; exact Below.putObj hH.below hba _, hE0.fin, fun x q c1 c2 => by rw [← hwn]; simpa [World.putObj] using hH.dom x q c1 c2, fun x ox hx' => ?_, hE0.disj, fun q g ob hq hg => have hP := hH.prot q g ob hq (fun G x e => guard_none (hg G x e)); ⟨(hblk q (fun e => by have h2 := hP; rw [e, hbk] at h2; obtain ⟨h2, h3⟩ := h2; cases h2; simp [Obj.isCells] at h3)).trans hP.1, hP.2⟩, fun k g o h => let ⟨a, b⟩ := hH.gb k g o h; ⟨by rw [← hwn]; simpa [World.putObj] using a, b⟩⟩
            obtain ⟨q, hq, c1, c2⟩ := hE0.obj x ox hx'
            have hxh : x ≠ h := by intro e; subst e; rw [AHeap.upd_same] at hx'; cases hx'
            rw [AHeap.upd_ne _ _ hxh] at hx'
            exact ⟨q, hq, c1, fun hqs => (c2 hqs).of_write hbk hself hblk (by omega) (by rw [← rys2.1]; omega) (by rw [← rys2.1]; omega) (hH.disj h x ob ox p q (fun e => hxh e.symm) hσ hx' hp hq hro hz1 hqs)⟩
          have happl : (appd (ob.cells.drop o) (len * i.size) ys).length ≤ cap * i.size := by
            rcases appd_length (ob.cells.drop o) (len * i.size) ys hbase with h1 | h1
            · rw [h1]; simp; omega
            · rw [h1.2]; omega
          obtain ⟨h', a1, a2, a3⟩ := hE.name ⟨p.block, p.shift + o, p.lim⟩ (appd (ob.cells.drop o) (len * i.size) ys) (fun _ => by
              rw [← hwn]; simpa [World.putObj] using hlt) (fun h0 => by
              dsimp only at h0
              exact List.eq_nil_of_length_eq_zero (by omega)) (fun β' hle _ => by
              refine ⟨_, elem, lo, hi', hself, by rw [awrite_size]; exact hl1, by dsimp only; omega, ?_, fun _ => ⟨hba, fun j c1 c2 => hfr j (by dsimp only at c1; omega) c2⟩⟩
              intro j v hv
              dsimp only at hv ⊢
              rw [awrite_get _ _ _ (by rw [← rys2.1]; omega)]
              unfold appd at hv
              have old : ∀ j, ob.cells[o + j]? = some v → ∃ v', cs[p.shift + o + j]? = some v' ∧ RelV β' v v' := by
                intro j hj
                obtain ⟨v', e1, e2⟩ := hcs (o + j) v hj
                exact ⟨v', by rw [Nat.add_assoc]; exact e1, e2.mono hle⟩
              split at hv
              · rename_i hfit
                rw [lwrite_get _ _ _ hfit] at hv
                by_cases hj : len * i.size ≤ j ∧ j < len * i.size + ys.length
                · rw [if_pos hj] at hv
                  obtain ⟨y', e1, e2⟩ := rys2.2 _ _ hv
                  refine ⟨y', ?_, e2.mono hle⟩
                  rw [if_pos (by rw [← rys2.1]; omega), ← e1]; congr 1; omega
                · rw [if_neg hj] at hv
                  rw [if_neg (by rw [← rys2.1]; omega)]
                  exact old j (by simpa using hv)
              · by_cases hj : j < len * i.size
                · rw [List.getElem?_append_left (by rw [List.length_take]; omega), List.getElem?_take, if_pos hj] at hv
                  rw [if_neg (by omega)]
                  exact old j (by simpa using hv)
                · rw [List.getElem?_append_right (by rw [List.length_take]; omega), List.length_take, Nat.min_eq_left hbase] at hv
                  obtain ⟨y', e1, e2⟩ := rys2.2 _ _ hv
                  have hjl : j - len * i.size < ys2.length := by
                    rcases Nat.lt_or_ge (j - len * i.size) ys2.length with h | h
                    · exact h
                    · rw [List.getElem?_eq_none h] at e1; cases e1
                  refine ⟨y', ?_, e2.mono hle⟩
                  rw [if_pos (by omega), ← e1]; congr 1; omega) (fun _ x ox q hx' hq hqs => by
              have hxh : x ≠ h := by intro e; subst e; rw [AHeap.upd_same] at hx'; cases hx'
              rw [AHeap.upd_ne _ _ hxh] at hx'
              exact (hH.disj h x ob ox p q (fun e => hxh e.symm) hσ hx' hp hq hro hz1 hqs).symm.part rfl (by dsimp only; omega) (Nat.le_refl _))
          have a1' : σ h' = none := by
            by_cases e : h' = h
            · subst e; rw [hp] at a2; cases a2
            · rwa [AHeap.upd_ne _ _ e] at a1
          refine ⟨_, .slice (some ⟨h', 0, none⟩) (len + m) i.size, _, _, _, le_bset a2 _, hex _ _ _ hvx (run_append_place w ht hu hi hin hrun (w' := wn) (fun b hb => by cases hb; rw [add_addr]; exact hst) (fun h => by cases h)), ?_, a3, hk h' a1'⟩
          exact .slc (o := 0) (bset_same β h' _) (by simpa using hcq) hin
      · -- moved
        have hold : ∃ old : List Value, RelL β ((ob.cells.drop o).take (len * i.size)) old ∧ (Builtin.firstCells i.size len (.slice (some ⟨p.block, p.shift + o, none⟩) len cap)).run P w.drew = .ok old.toArray w.drew := by
          have hl : lds σ h o (len * i.size) = some ((ob.cells.drop o).take (len * i.size)) := by
            unfold lds; rw [hσ]; simp only [Option.bind_some]; rw [if_pos hol]
          obtain ⟨_, vs', r1, r2⟩ := hD.cells hp hl
          refine ⟨vs', r1, run_firstCells_some w.drew i.size len _ len cap vs' ?_ r2⟩
          rw [← r1.1, List.length_take]; omega
        obtain ⟨old, r1, r2⟩ := hold
        refine move _ _ cap old hvx rfl (by omega) r1 ?_ r2
        have hc1 : (cap + 1) * i.size ≤ (len + m) * i.size := Nat.mul_le_mul_right _ (by omega)
        rw [Nat.add_mul] at hc1
        rcases hlenR with h1 | h1
        · simp; omega
        · rw [h1.2]; simp; omega
    · subst hl0
      rw [hp] at hpl; cases hpl
      have hbe : ob.cells.drop o = [] := by
        rcases hH.len hσ hp with h1 | h1
        · exact List.drop_eq_nil_of_le (by omega)
        · rw [h1.2]; simp
      by_cases hm0 : m = 0
      · subst hm0
        have hys : ys = [] := List.eq_nil_of_length_eq_zero (by omega)
        subst hys
        have hys2 := rys2.nil_inv; subst hys2
        have hE : RelH w0 n.pr β (σ.upd h none) w := hH.erase h
        obtain ⟨h', a1, a2, a3⟩ := hE.name ⟨0, 0, 0⟩ (appd (ob.cells.drop o) (0 * i.size) []) (fun h => absurd h (by simp)) (fun _ => by simp [appd, hbe, lwrite]) (fun _ _ h => absurd h (by simp)) (fun h => absurd h (by simp))
        have a1' : σ h' = none := by
          by_cases e : h' = h
          · subst e; rw [hp] at a2; cases a2
          · rwa [AHeap.upd_ne _ _ e] at a1
        refine ⟨_, .slice (some ⟨h', 0, none⟩) (0 + 0) i.size, _, _, w, le_bset a2 _, hex _ _ _ hvx (run_append_place w ht hu hi (Nat.le_refl _) hrun (w' := w) (fun b hb => by simp [storeCells]) (fun _ => rfl)), ?_, a3, hk h' a1'⟩
        exact .slcE (bset_same _ _ _) (by simp) xx
      · refine move _ _ 0 [] hvx rfl (by omega) (by simp; exact RelL.nil β) (by rw [hbe]; simp; rw [hlen]; exact Nat.mul_pos (by omega) hs) ?_
        cases xx <;> simp [Builtin.firstCells, loadCells, loadCellsFrom]
theorem RelH.put {β:Beta} {w:World} {h:Nat} (hE:RelH w0 n.pr β (σ.upd h none) w) {p:Place} (hp:β h=some p) (o:AObj) (he:p.lim≤p.shift→o.cells=[]) (ho:p.shift < p.lim→RelO w0 β w p o)
  (hdis:p.shift < p.lim→∀x ox q,x≠h→σ x=some ox→β x=some q→q.shift < q.lim→Apt q p) (hof:o.ro=false:=by rfl):RelH w0 n.pr β (σ.upd h (some o)) w:=by
 refine⟨hE.below,?_,hE.dom,fun x ox hx=>?_,fun x y ox oy px py hne hx hy hpx hpy hro sx sy=>?_,fun q g ob hq hg=>hE.prot q g ob hq (fun G x e=>guard_put (hg G x e) hof),hE.gb⟩
 ·obtain⟨N,hN⟩:=hE.fin
  refine⟨N,fun x hx=>⟨(hN x hx).1,?_⟩⟩
  have hxh:x≠h:=by rintro rfl;rw[(hN x hx).1] at hp;cases hp
  have:=(hN x hx).2
  rw[AHeap.upd_ne _ _ hxh] at this ⊢;exact this
 ·by_cases e:x=h
  ·subst e;rw[AHeap.upd_same] at hx;cases hx;exact⟨p,hp,he,ho⟩
  ·rw[AHeap.upd_ne _ _ e] at hx
   exact hE.obj x ox (by rw[AHeap.upd_ne _ _ e];exact hx)
 ·by_cases ex:x=h
  ·subst ex
   rw[AHeap.upd_ne _ _ (fun e=>hne e.symm)] at hy
   rw[hp] at hpx;cases hpx
   exact (hdis sx y oy py (fun e=>hne e.symm) hy hpy sy).symm
  ·rw[AHeap.upd_ne _ _ ex] at hx
   by_cases ey:y=h
   ·subst ey
    rw[hp] at hpy;cases hpy
    exact hdis sy x ox px ex hx hpx sx
   ·rw[AHeap.upd_ne _ _ ey] at hy
    exact hE.disj x y ox oy px py hne (by rw[AHeap.upd_ne _ _ ex];exact hx) (by rw[AHeap.upd_ne _ _ ey];exact hy) hpx hpy hro sx sy
theorem step_append_both {x y : Operand} {t u e e2 : TypeId} {z : Value} {ys : List Value} {i : TypeInfo} {h o len : Nat} {ob : AObj} (hd : ∀ t, d = some t → t < n.n) (hx : okx x = true) (hy : okx y = true)
    (ht : P.underlying t = some (.slice e)) (hu : P.underlying u = some (.slice e2)) (hi : P.info? e = some i) (hz : i.zero = some z) (hzz : z.cells.size = i.size) (hs : 0 < i.size)
    (hxv : ev a x = .slice (some ⟨h, o, none⟩) len i.size) (hσ : σ h = some ob) (hro : ob.ro = false) (hol : o + len * i.size ≤ ob.cells.length) (hone : ys.all Value.oneCell' = true)
    (hc : acells i.size σ (ev a y) = some ys) (hb : (len * i.size + ys.length) * i.bytes ≤ 2 ^ 40 ∧ len * i.size + ys.length ≤ 2 ^ 40)
    (hk1 : K (aput a d (.slice (some ⟨h, o, none⟩) (len + ys.length / i.size) i.size)) (σ.upd h (some ⟨appd ob.cells (o + len * i.size) ys, false⟩)))
    (hk : ∀ h', σ h' = none → K (aput a d (.slice (some ⟨h', 0, none⟩) (len + ys.length / i.size) i.size)) (σ.upd h' (some ⟨(ob.cells.drop o).take (len * i.size) ++ ys, false⟩))) :
    AStep P w0 n ⟨d, .call ⟨.builtin .append, #[x, y], #[t, u]⟩, ty, pos, af, gd⟩ a σ K :=
  .val hd fun β w act hH hF => by
    have rx := hF.ev hx
    have ry := hF.ev hy
    rw [hxv] at rx
    have hD : RelH w0 n.pr β σ w.drew := hH.grow (hH.below.drew) (Nat.le_refl _) (fun _ _ => rfl)
    obtain ⟨m, ys', ad, cy, hvy, hlen, rys, hrunD⟩ := acells_run (P := P) hD ry hc
    obtain ⟨m2, ys2, ad2, cy2, hvy2, _, rys2, hrun⟩ := acells_run (P := P) hH ry hc
    rw [hvy] at hvy2; cases hvy2
    rw [hvy] at hrun hrunD
    have hm : ys.length / i.size = m := by rw [hlen]; exact Nat.mul_div_cancel _ hs
    rw [hm] at hk hk1
    obtain ⟨p, hp⟩ := hH.placed hσ
    have hsz : (len + m) * i.size = len * i.size + ys.length := by rw [hlen, Nat.add_mul]
    have hle1 : len + m ≤ (len + m) * i.size := Nat.le_mul_of_pos_right _ hs
    have hbb : (len + m) * i.bytes ≤ 2 ^ 40 := Nat.le_trans (Nat.mul_le_mul_right _ hle1) (by rw [hsz]; exact hb.1)
    have hex : ∀ vx r w', act.eval x = vx → (Builtin.append_ #[t, u] ty #[vx, .slice ad m cy]).run P w = .ok r w' → (execOp act.eval ⟨d, .call ⟨.builtin .append, #[x, y], #[t, u]⟩, ty, pos, af, gd⟩).run P w = .ok (.value r) w' := by
      intro vx r w' hvx hr
      simp [execOp, resolve, invoke, builtin, hvx, hvy, hr]
    -- it has moved
    have move : ∀ vx base cap (old : List Value), act.eval x = vx → vx = .slice base len cap → cap < len + m → RelL β ((ob.cells.drop o).take (len * i.size)) old →
        (Builtin.firstCells i.size len vx).run P w.drew = .ok old.toArray w.drew →
        ∃ β' v v' σ' w', Le β β' ∧ (execOp act.eval ⟨d, .call ⟨.builtin .append, #[x, y], #[t, u]⟩, ty, pos, af, gd⟩).run P w = .ok (.value v') w' ∧ RelV β' v v' ∧ RelH w0 n.pr β' σ' w' ∧ K (aput a d v) σ' := by
      intro vx base cap old hvx hvs hcl hrel hold
      subst hvs
      have hr := run_append_move w (ty := ty) ht hu hi hz hcl hbb (by omega) hold hrunD
      have hcap := le_grownCap' w (len + m) cap e
      generalize grownCap w (len + m) cap e = nw at hr hcap
      generalize hC : old.toArray ++ ys'.toArray ++ Builtin.zeroCells z.cells (nw - (len + m)) = C at hr
      have hbase : ((ob.cells.drop o).take (len * i.size)).length = len * i.size := by rw [List.length_take, List.length_drop]; omega
      have holdl : old.length = len * i.size := by rw [← hrel.1, hbase]
      have hCs : C.size = nw * i.size := by
        rw [← hC]; simp [size_zeroCells, hzz, ← rys.1, hlen, holdl]
        rw [← Nat.add_mul, ← Nat.add_mul]; congr 1; omega
      have happ := RelL.app hrel rys
      obtain ⟨h', a1, a2, a3⟩ := hD.alloc ((ob.cells.drop o).take (len * i.size) ++ ys) C e (nw * i.size) (by omega) (by
          rw [List.length_append, hbase, hlen]
          have : (len + m) * i.size ≤ nw * i.size := Nat.mul_le_mul_right _ (by omega)
          rw [Nat.add_mul] at this; omega) (fun j v hv => by
          obtain ⟨v', e1, e2⟩ := happ.2 j v hv
          refine ⟨v', ?_, e2⟩
          have hj : j < (old ++ ys').length := by
            rcases Nat.lt_or_ge j (old ++ ys').length with h | h
            · exact h
            · rw [List.getElem?_eq_none h] at e1; cases e1
          rw [← hC, Array.getElem?_append_left (by simpa using hj)]
          simpa using e1)
      refine ⟨_, .slice (some ⟨h', 0, none⟩) (len + m) i.size, _, _, _, le_bset a2 _, hex _ _ _ hvx hr, ?_, a3, hk h' a1⟩
      exact .slc (o := 0) (bset_same β h' ⟨w.heap.size, 0, nw * i.size⟩) (by simp) (by omega)
    rcases relv_slc rx with ⟨pl, cap, hpl, hcq, hlq, hvx⟩ | ⟨hl0, pl, xx, hpl, hcq, hvx⟩
    · rw [hp] at hpl; cases hpl
      have hlenR := hH.len hσ hp
      by_cases hin : len + m ≤ cap
      · -- in place
        have hmm : (len + m) * i.size ≤ cap * i.size := Nat.mul_le_mul_right _ hin
        by_cases hz0 : p.lim ≤ p.shift
        · have hcells : ob.cells = [] := by rcases hlenR with h1 | h1; · exact List.eq_nil_of_length_eq_zero (by omega)
                                            · exact h1.2
          have hl0 : len = 0 ∧ m = 0 := by
            have : cap * i.size = 0 := by omega
            have h2 : cap = 0 := by rcases Nat.mul_eq_zero.1 this with h | h; · exact h
                                    · omega
            omega
          obtain ⟨rfl, rfl⟩ := hl0
          have hys : ys = [] := List.eq_nil_of_length_eq_zero (by omega)
          subst hys
          have hys2 := rys2.nil_inv; subst hys2
          have hE : RelH w0 n.pr β (σ.upd h none) w := hH.erase h
          have hP := hE.put hp ⟨appd ob.cells (o + 0 * i.size) [], false⟩ (fun _ => by simp [appd, hcells, lwrite]) (fun h => absurd h (by omega)) (fun h => absurd h (by omega))
          refine ⟨β, .slice (some ⟨h, o, none⟩) (0 + 0) i.size, _, _, w, Le.refl β, hex _ _ _ hvx (run_append_place w ht hu hi hin hrun (w' := w) (fun b hb => by cases hb; simp [storeCells]) (fun h => by cases h)), ?_, hP, hk1⟩
          exact .slc hp hcq hin
        · have hz1 : p.shift < p.lim := by omega
          obtain ⟨p', hp', _, hobj⟩ := hH.obj h ob hσ
          rw [hp] at hp'; cases hp'
          obtain ⟨cs, elem, lo, hi', hbk, hl1, hl2, hcs, hw⟩ := (hobj hz1).ex
          obtain ⟨hba, hfr⟩ := hw hro
          have hlt : p.block < w.heap.size := hH.dom h p hp hz1
          have hst := run_storeCells P p.block elem lo hi' ys2 (p.shift + o + len * i.size) 0 cs w hbk (by rw [← rys2.1]; omega) (fun v hv => by
              obtain ⟨j, hj, rfl⟩ := List.getElem_of_mem hv
              have hj2 : j < ys.length := by rw [rys2.1]; exact hj
              obtain ⟨y', e1, e2⟩ := rys2.2 j ys[j] (by simp [hj2])
              have : y' = ys2[j] := by simpa [hj] using e1.symm
              subst this
              rw [List.all_eq_true] at hone
              exact oneCell_rel e2 (hone _ (by simp))) (fun j c1 c2 => hfr j (by omega) (by rw [← rys2.1] at c2; omega))
          simp only [Nat.add_zero] at hst
          generalize hwn : World.putObj w p.block (.cells (awrite cs (p.shift + o + len * i.size) ys2) elem (lo, hi')) = wn at hst
          have hblk : ∀ b, b ≠ p.block → wn.heap[b]? = w.heap[b]? := by
            intro b hne; rw [← hwn]; simp only [World.putObj]; rw [Array.getElem?_setIfInBounds_ne (by omega)]
          have hself : wn.heap[p.block]? = some (.cells (awrite cs (p.shift + o + len * i.size) ys2) elem (lo, hi')) := by
            rw [← hwn]; simp [World.putObj, hlt]
          have hE0 : RelH w0 n.pr β (σ.upd h none) w := hH.erase h
          have hE : RelH w0 n.pr β (σ.upd h none) wn := by
            refine ⟨by rw [← hwn]; exact Below.putObj hH.below hba _, hE0.fin, fun x q c1 c2 => by rw [← hwn]; simpa [World.putObj] using hH.dom x q c1 c2, fun x ox hx' => ?_, hE0.disj, fun q g ob hq hg => have hP := hH.prot q g ob hq (fun G x e => guard_none (hg G x e)); ⟨(hblk q (fun e => by have h2 := hP; rw [e, hbk] at h2; obtain ⟨h2, h3⟩ := h2; cases h2; simp [Obj.isCells] at h3)).trans hP.1, hP.2⟩, fun k g o h => let ⟨a, b⟩ := hH.gb k g o h; ⟨by rw [← hwn]; simpa [World.putObj] using a, b⟩⟩
            obtain ⟨q, hq, c1, c2⟩ := hE0.obj x ox hx'
            have hxh : x ≠ h := by intro e; subst e; rw [AHeap.upd_same] at hx'; cases hx'
            rw [AHeap.upd_ne _ _ hxh] at hx'
            exact ⟨q, hq, c1, fun hqs => (c2 hqs).of_write hbk hself hblk (by omega) (by rw [← rys2.1]; omega) (by rw [← rys2.1]; omega) (hH.disj h x ob ox p q (fun e => hxh e.symm) hσ hx' hp hq hro hz1 hqs)⟩
          have happl : p.shift + (appd ob.cells (o + len * i.size) ys).length ≤ p.lim := by
            rcases appd_length ob.cells (o + len * i.size) ys hol with h1 | h1
            · rw [h1]; omega
            · rw [h1.2]; omega
          have hP := hE.put hp ⟨appd ob.cells (o + len * i.size) ys, false⟩ (fun h0 => absurd h0 (by omega)) (fun _ => by
              refine ⟨_, elem, lo, hi', hself, by rw [awrite_size]; exact hl1, happl, ?_, fun _ => ⟨hba, hfr⟩⟩
              intro j v hv
              dsimp only at hv ⊢
              rw [awrite_get _ _ _ (by rw [← rys2.1]; omega)]
              unfold appd at hv
              split at hv
              · rename_i hfit
                rw [lwrite_get _ _ _ hfit] at hv
                by_cases hj : o + len * i.size ≤ j ∧ j < o + len * i.size + ys.length
                · rw [if_pos hj] at hv
                  obtain ⟨y', e1, e2⟩ := rys2.2 _ _ hv
                  refine ⟨y', ?_, e2⟩
                  rw [if_pos (by rw [← rys2.1]; omega), ← e1]; congr 1; omega
                · rw [if_neg hj] at hv
                  rw [if_neg (by rw [← rys2.1]; omega)]
                  exact hcs j v hv
              · by_cases hj : j < o + len * i.size
                · rw [List.getElem?_append_left (by rw [List.length_take]; omega), List.getElem?_take, if_pos hj] at hv
                  rw [if_neg (by omega)]
                  exact hcs j v hv
                · rw [List.getElem?_append_right (by rw [List.length_take]; omega), List.length_take, Nat.min_eq_left hol] at hv
                  obtain ⟨y', e1, e2⟩ := rys2.2 _ _ hv
                  have hjl : j - (o + len * i.size) < ys2.length := by
                    rcases Nat.lt_or_ge (j - (o + len * i.size)) ys2.length with h | h
                    · exact h
                    · rw [List.getElem?_eq_none h] at e1; cases e1
                  refine ⟨y', ?_, e2⟩
                  rw [if_pos (by omega), ← e1]; congr 1; omega) (fun _ x ox q hxh hx' hq hqs => (hH.disj h x ob ox p q (fun e => hxh e.symm) hσ hx' hp hq hro hz1 hqs).symm)
          refine ⟨β, .slice (some ⟨h, o, none⟩) (len + m) i.size, _, _, _, Le.refl β, hex _ _ _ hvx (run_append_place w ht hu hi hin hrun (w' := wn) (fun b hb => by cases hb; rw [add_addr]; exact hst) (fun h => by cases h)), ?_, hP, hk1⟩
          exact .slc hp hcq hin
      · -- moved
        have hold : ∃ old : List Value, RelL β ((ob.cells.drop o).take (len * i.size)) old ∧ (Builtin.firstCells i.size len (.slice (some ⟨p.block, p.shift + o, none⟩) len cap)).run P w.drew = .ok old.toArray w.drew := by
          have hl : lds σ h o (len * i.size) = some ((ob.cells.drop o).take (len * i.size)) := by
            unfold lds; rw [hσ]; simp only [Option.bind_some]; rw [if_pos hol]
          obtain ⟨_, vs', r1, r2⟩ := hD.cells hp hl
          refine ⟨vs', r1, run_firstCells_some w.drew i.size len _ len cap vs' ?_ r2⟩
          rw [← r1.1, List.length_take, List.length_drop]; omega
        obtain ⟨old, r1, r2⟩ := hold
        exact move _ _ cap old hvx rfl (by omega) r1 r2
    · subst hl0
      rw [hp] at hpl; cases hpl
      by_cases hm0 : m = 0
      · subst hm0
        have hys : ys = [] := List.eq_nil_of_length_eq_zero (by omega)
        subst hys
        have hys2 := rys2.nil_inv; subst hys2
        have hob : appd ob.cells (o + 0 * i.size) [] = ob.cells := by
          unfold appd
          rw [if_pos (by simp; omega)]
          simp [lwrite]
        have hup : σ.upd h (some ⟨appd ob.cells (o + 0 * i.size) [], false⟩) = σ := by
          rw [hob]
          funext k
          by_cases hk' : k = h
          · subst hk'; rw [AHeap.upd_same, hσ]; congr 1; cases ob; simp at hro; subst hro; rfl
          · rw [AHeap.upd_ne _ _ hk']
        rw [hup] at hk1
        refine ⟨β, .slice (some ⟨h, o, none⟩) (0 + 0) i.size, _, _, w, Le.refl β, hex _ _ _ hvx (run_append_place w ht hu hi (Nat.le_refl _) hrun (w' := w) (fun b hb => by simp [storeCells]) (fun _ => rfl)), ?_, hH, hk1⟩
        exact .slcE hp hcq xx
      · refine move _ _ 0 [] hvx rfl (by omega) (by simp; exact RelL.nil β) ?_
        cases xx <;> simp [Builtin.firstCells, loadCells, loadCellsFrom]
end Go.Abs
namespace Go.Abs
open Go.RowKit
variable {P:Program} {w0:World} {n:NR} {a:AFrame} {σ:AHeap} {K:AFrame→AHeap→Prop}
variable {d:Option Tmp} {ty:TypeId} {pos:String} {af:Array Edge} {gd:Option (Nat × Bool)}
def azeros (z:Value) (k:Nat):List Value:=(madeCells z.cells k).toList
theorem azeros_length (z:Value) (k:Nat):(azeros z k).length=k:=by simp [azeros,size_madeCells]
theorem azeros_one (z:Value) (hz:z.cells=#[z]) (k:Nat):azeros z k=List.replicate k z:=by
 unfold azeros
 apply List.ext_getElem?
 intro i
 rw[List.getElem?_replicate]
 by_cases h:i < k
 ·simp [madeCells,hz,h,Nat.mod_one]
 ·simp [madeCells,hz,h]
theorem azeros_lit (z:Value) (hl:z.cells.toList.all litOk=true) (k:Nat):(azeros z k).all litOk=true:=by
 rw[List.all_eq_true] at hl ⊢
 intro v hv
 simp only[azeros,madeCells,Array.toList_map,List.mem_map] at hv
 obtain⟨i,_,rfl⟩:=hv
 by_cases hs:i % z.cells.size < z.cells.size
 ·have:z.cells[i % z.cells.size]! = z.cells[i % z.cells.size]:=getElem!_pos z.cells _ hs
  rw[this];exact hl _ (by simp)
 ·have:z.cells[i % z.cells.size]! = default:=getElem!_neg z.cells _ hs
  rw[this];rfl
theorem azeros_take (z:Value) {k m:Nat} (h:m≤k):(azeros z k).take m=azeros z m:=by
 unfold azeros madeCells
 simp only[Array.toList_map,←List.map_take]
 congr 1
 simp [h]
theorem step_makeSlice {t e:TypeId} {x y:Operand} {kx ky:IntKind} {l c:Int} {z:Value} {i:TypeInfo} (hd:∀t,d=some t→t < n.n) (hx:okx x=true) (hy:okx y=true)
  (ht:P.underlying t=some (.slice e)) (hi:P.info? e=some i) (hz:i.zero=some z) (hl:z.cells.toList.all litOk=true)
  (hxv:ev a x=.int kx l) (hyv:ev a y=.int ky c) (h0:0≤l) (hlc:l≤c) (hb:(i.bytes:Int) * c≤1099511627776∧c≤1099511627776)
  (hk:∀h,σ h=none→K (aput a d (.slice (some ⟨h,0,none⟩) l.toNat i.size)) (σ.upd h (some ⟨azeros z (l.toNat * i.size),false⟩))) :
  AStep P w0 n ⟨d,.makeSlice t x y,ty,pos,af,gd⟩ a σ K :=
 .val hd fun β w act hH hF=>by
  have rx:=hF.ev hx
  have ry:=hF.ev hy
  rw[hxv] at rx;rw[hyv] at ry
  have hvx:=relv_int rx
  have hvy:=relv_int ry
  have hr:=run_make (P:=P) w t e i z ht hi hz kx ky l c h0 hlc (by omega) (by omega)
  have hlz:=azeros_lit z hl (c.toNat * i.size)
  have hle:l.toNat * i.size≤c.toNat * i.size:=Nat.mul_le_mul_right _ (by omega)
  obtain⟨h,a1,a2,a3⟩:=hH.alloc (azeros z (l.toNat * i.size)) (madeCells z.cells (c.toNat * i.size)) e (c.toNat * i.size) (by rw[size_madeCells];exact Nat.le_refl _) (by rw[azeros_length];exact hle) (fun j v hv=>by
   refine⟨v,?_,RelV.lit ?_⟩
   ·have h1:(azeros z (c.toNat * i.size))[j]?=some v:=by
     rw[←azeros_take z hle,List.getElem?_take] at hv
     split at hv
     ·exact hv
     ·cases hv
    simpa [azeros] using h1
   ·have:=azeros_lit z hl (l.toNat * i.size)
    rw[List.all_eq_true] at this
    exact this v (List.mem_of_getElem? hv))
  refine⟨_,.slice (some ⟨h,0,none⟩) l.toNat i.size,_,_,_,le_bset a2 _,?_,.slc (o:=0) (cap:=c.toNat) (bset_same β h ⟨w.heap.size,0,c.toNat * i.size⟩) (by simp) (by omega),a3,hk h a1⟩
  simp [execOp,hvx,hvy,hr]
theorem step_fieldAddr {s:TypeId} {x:Operand} {f:Nat} {fs:Array Field} {fl:Field} {h o:Nat} (hd:∀t,d=some t→t < n.n) (hx:okx x=true)
  (ht:P.underlying s=some (.struct fs)) (hf:fs[f]?=some fl) (hz:0 < P.cellsOf fl.type) (hp:ev a x=.pointer (some ⟨h,o,none⟩))
  (hk:K (aput a d (.pointer (some ⟨h,o+fl.offset,none⟩))) σ) :
  AStep P w0 n ⟨d,.fieldAddr s x f,ty,pos,af,gd⟩ a σ K :=
 .val hd fun β w act hH hF=>by
  have rx:=hF.ev hx
  rw[hp] at rx
  obtain⟨p,hq,hvx⟩:=relv_ptr rx
  obtain⟨inf,hin,hsz⟩:=info_of_cells hz
  have hne:¬ inf.size=0:=by omega
  refine⟨β,_,_,σ,w,.refl _,?_,.ptr (o:=o+fl.offset) hq,hH,hk⟩
  simp [execOp,hvx,Instr.fieldAt,Instr.sureAddr,run_underlying ht,hf,fieldPlace,Go.sizeOf,run_of_info hin,hne,add_addr,Nat.add_assoc]
def apart (P:Program) (t:TypeId) (cs:Array Value) (off:Nat):Option Value :=
 if aisAgg P t then (if off+P.cellsOf t≤cs.size then some (.agg (cs.extract off (off+P.cellsOf t))) else none) else cs[off]?
theorem apart_run {β:Beta} {t:TypeId} {ds:TypeDesc} {xs ys:Array Value} {off:Nat} {v:Value} (w:World) (ht:P.underlying t=some ds) (hz:0 < P.cellsOf t) (hr:RelL β xs.toList ys.toList)
  (hv:apart P t xs off=some v):∃v',(part t ys off).run P w=.ok v' w∧RelV β v v':=by
 have hsz:xs.size=ys.size:=by simpa using hr.1
 unfold apart at hv
 unfold part
 rw[Sem.run_bind,aisAgg_run ht]
 simp only[Result.andThen_ok]
 cases ha:aisAgg P t with
 | true =>
  rw[ha] at hv
  simp only[if_true] at hv ⊢
  split at hv
  ·rename_i hle
   cases hv
   obtain⟨inf,hin,hs⟩:=info_of_cells hz
   refine⟨_,by simp [Go.sizeOf,run_of_info hin];rfl,?_⟩
   rw[hs]
   obtain⟨r1,r2⟩:=RelL.to_arr hr
   refine .agg _ _ (by simp [hsz]) (fun i hi=>?_)
   have hi':i < P.cellsOf t:=by simp at hi;omega
   have:=r2 (off+i) (by omega)
   have e1:off+i < xs.size:=by omega
   have e2:off+i < ys.size:=by omega
   simp [e1,e2] at this
   have g1:i < min (off+P.cellsOf t) xs.size - off:=by omega
   have g2:i < min (off+P.cellsOf t) ys.size - off:=by omega
   simp [g1,g2]
   exact this
  ·cases hv
 | false =>
  rw[ha] at hv
  simp only[Bool.false_eq_true,if_false] at hv ⊢
  obtain⟨v',h1,h2⟩:=hr.2 off v (by simpa using hv)
  have:ys[off]?=some v':=by simpa using h1
  exact⟨v',by simp [this],h2⟩
theorem relv_agg {β:Beta} {xs:Array Value} {v:Value} (h:RelV β (.agg xs) v):∃ys,v=.agg ys∧RelL β xs.toList ys.toList:=by
 cases h with
 | agg _ ys hs he=>exact⟨ys,rfl,RelL.of_arr hs he⟩
theorem relv_tuple {β:Beta} {xs:Array Value} {v:Value} (h:RelV β (.tuple xs) v):∃ys,v=.tuple ys∧RelL β xs.toList ys.toList:=by
 cases h with
 | tuple _ ys hs he=>exact⟨ys,rfl,RelL.of_arr hs he⟩
theorem step_field {s:TypeId} {x:Operand} {f:Nat} {fs:Array Field} {fl:Field} {ds:TypeDesc} {cs:Array Value} {v:Value} (hd:∀t,d=some t→t < n.n) (hx:okx x=true)
  (ht:P.underlying s=some (.struct fs)) (hf:fs[f]?=some fl) (htf:P.underlying fl.type=some ds) (hz:0 < P.cellsOf fl.type) (hp:ev a x=.agg cs) (hv:apart P fl.type cs fl.offset=some v)
  (hk:K (aput a d v) σ) :
  AStep P w0 n ⟨d,.field s x f,ty,pos,af,gd⟩ a σ K :=
 .val hd fun β w act hH hF=>by
  have rx:=hF.ev hx
  rw[hp] at rx
  obtain⟨ys,hvx,hr⟩:=relv_agg rx
  obtain⟨v',h1,h2⟩:=apart_run (P:=P) w htf hz hr hv
  refine⟨β,v,v',σ,w,.refl _,?_,h2,hH,hk⟩
  simp [execOp,hvx,Instr.field,run_underlying ht,hf,asAgg,h1]
theorem step_extract {x:Operand} {k:Nat} {vs:Array Value} {v:Value} (hd:∀t,d=some t→t < n.n) (hx:okx x=true) (hp:ev a x=.tuple vs) (hv:vs[k]?=some v)
  (hk:K (aput a d v) σ):AStep P w0 n ⟨d,.extract x k,ty,pos,af,gd⟩ a σ K :=
 .val hd fun β w act hH hF=>by
  have rx:=hF.ev hx
  rw[hp] at rx
  obtain⟨ys,hvx,hr⟩:=relv_tuple rx
  obtain⟨v',h1,h2⟩:=hr.2 k v (by simpa using hv)
  have h3:ys[k]?=some v':=by simpa using h1
  refine⟨β,v,v',σ,w,.refl _,?_,h2,hH,hk⟩
  simp [execOp,hvx,Instr.extract,h3]
theorem step_indexStr {t:TypeId} {x y:Operand} {s:ByteArray} {k:IntKind} {i:Int} (hd:∀t,d=some t→t < n.n) (hx:okx x=true) (hy:okx y=true) (ht:P.underlying t=some .string)
  (hp:ev a x=.string s) (hi:ev a y=.int k i) (h0:0≤i) (h1:i < s.size) (hk:K (aput a d (.int .u8 (s.data.toList.getD i.toNat 0).toNat)) σ) :
  AStep P w0 n ⟨d,.index t x y,ty,pos,af,gd⟩ a σ K :=
 .val hd fun β w act hH hF=>by
  have rx:=hF.ev hx
  have ry:=hF.ev hy
  rw[hp] at rx;rw[hi] at ry
  have hvx:=relv_string rx
  have hvy:=relv_int ry
  have hlt:i.toNat < s.size:=by omega
  have h2:s[i.toNat]?=some s[i.toNat]:=getElem?_pos s i.toNat hlt
  have h3:s.data[i.toNat]?.getD 0=s[i.toNat]:=by
   have:i.toNat < s.data.size:=hlt
   simp only[Array.getElem?_eq_getElem this,Option.getD_some]
   rfl
  refine⟨β,_,_,σ,w,.refl _,?_,.int _ _,hH,hk⟩
  simp [execOp,hvx,hvy,Instr.index,asIntOf,run_underlying ht,h0,h2,h3]
theorem step_makeFunc {fn:Fn} {cs:List Operand} (hd:∀t,d=some t→t < n.n) (hx:cs.all okx=true)
  (hk:K (aput a d (.func fn #[] (cs.map (ev a)).toArray)) σ) :
  AStep P w0 n ⟨d,.makeFunc fn #[] cs.toArray,ty,pos,af,gd⟩ a σ K :=
 .val hd fun β w act hH hF=>by
  have hr:RelL β (cs.map (ev a)) (cs.map act.eval):=by
   clear hk hd
   induction cs with
   | nil=>exact RelL.nil β
   | cons c cs ih =>
    simp only[List.all_cons,Bool.and_eq_true] at hx
    exact RelL.cons (hF.ev hx.1) (ih hx.2)
  obtain⟨r1,r2⟩:=RelL.to_arr (xs:=(cs.map (ev a)).toArray) (ys:=(cs.map act.eval).toArray) (by simpa using hr)
  refine⟨β,.func fn #[] (cs.map (ev a)).toArray,.func fn #[] (cs.map act.eval).toArray,σ,w,.refl _,?_,.func fn _ _ r1 r2,hH,hk⟩
  simp [execOp,Instr.makeFunc]
theorem step_copy {x y:Operand} {t u e:TypeId} {ys:List Value} {i:TypeInfo} {h o len:Nat} {σ':AHeap} (hd:∀t,d=some t→t < n.n) (hx:okx x=true) (hy:okx y=true)
  (ht:P.underlying t=some (.slice e)) (hi:P.info? e=some i) (hs:0 < i.size)
  (hxv:ev a x=.slice (some ⟨h,o,none⟩) len i.size) (hc:acells i.size σ (ev a y)=some ys) (hfit:ys.length≤len * i.size)
  (hw:(ys=[]∧σ'=σ)∨(ys.all Value.oneCell'=true∧sts σ h o ys=some σ')) (hk:K (aput a d (.int .i64 (ys.length / i.size:Nat))) σ') :
  AStep P w0 n ⟨d,.call ⟨.builtin .copy,#[x,y],#[t,u]⟩,ty,pos,af,gd⟩ a σ K :=
 .val hd fun β w act hH hF=>by
  have rx:=hF.ev hx
  have ry:=hF.ev hy
  rw[hxv] at rx
  obtain⟨m,ys',ad,cap,hvy,hlen,rys,hrun⟩:=acells_run (P:=P) hH ry hc
  have hm:ys.length / i.size=m:=by rw[hlen];exact Nat.mul_div_cancel _ hs
  rw[hm] at hk
  have hml:m≤len:=by rw[hlen] at hfit;exact Nat.le_of_mul_le_mul_right hfit hs
  rw[hvy] at hrun
  have hex:∀base c w',act.eval x=.slice base len c→(∀b,base=some b→(storeCells b ys').run P w=.ok () w')→(base=none→w'=w) →
    (execOp act.eval ⟨d,.call ⟨.builtin .copy,#[x,y],#[t,u]⟩,ty,pos,af,gd⟩).run P w=.ok (.value (.int .i64 m)) w':=by
   intro base c w' hvx hst hn
   have hmin:Nat.min m len=m:=Nat.min_eq_left hml
   cases base with
   | none=>simp [execOp,resolve,invoke,builtin,Builtin.copy_,hvx,hvy,run_underlying ht,lenOf_slice,hmin,Go.sizeOf,run_of_info hi,hrun,goInt,hn rfl]
   | some b=>simp [execOp,resolve,invoke,builtin,Builtin.copy_,hvx,hvy,run_underlying ht,lenOf_slice,hmin,Go.sizeOf,run_of_info hi,hrun,goInt,hst b rfl]
  rcases hw with ⟨rfl,rfl⟩ |⟨h1,h2⟩
  ·have hys:=rys.nil_inv;subst hys
   obtain⟨base,c,hvx⟩:=relv_slice rx
   exact⟨β,.int .i64 m,.int .i64 m,σ',w,.refl _,hex base c w hvx (fun b _=>by simp [storeCells]) (fun _=>rfl),.int _ _,hH,hk⟩
  ·obtain⟨ob,hσ,hro,hle,hpos,rfl⟩:=sts_some h2
   rcases relv_slc rx with ⟨p,c,hp,_,_,hvx⟩ |⟨hl0,_⟩
   ·obtain⟨w',hr,hH'⟩:=hH.write hσ hp hro hle rys (fun v hv=>by rw[List.all_eq_true] at h1;exact h1 v hv)
    exact⟨β,.int .i64 m,.int .i64 m,_,w',.refl _,hex _ c w' hvx (fun b hb=>by cases hb;exact hr P) (fun h=>by cases h),.int _ _,hH',hk⟩
   ·subst hl0;simp at hfit;subst hfit;simp at hpos
theorem step_clear {x:Operand} {t e:TypeId} {i:TypeInfo} {z:Value} {h o len:Nat} {σ':AHeap} (hd:∀t,d=some t→t < n.n) (hx:okx x=true)
  (ht:P.underlying t=some (.slice e)) (hi:P.info? e=some i) (hz:i.zero=some z) (hl:z.cells.toList.all litOk=true)
  (hxv:ev a x=.slice (some ⟨h,o,none⟩) len i.size)
  (hc:(len=0∧σ'=σ)∨((azeros z (len * i.size)).all Value.oneCell'=true∧z.cells.size=i.size∧sts σ h o (azeros z (len * i.size))=some σ')) (hk:K (aput a d undef) σ') :
  AStep P w0 n ⟨d,.call ⟨.builtin .clear,#[x],#[t]⟩,ty,pos,af,gd⟩ a σ K :=
 .val hd fun β w act hH hF=>by
  have rx:=hF.ev hx
  rw[hxv] at rx
  have und:RelV β undef (.tuple #[]):=RelV.undef β
  by_cases h0:len=0
  ·have hσ:σ'=σ:=by
    rcases hc with ⟨_,h⟩ |⟨_,_,h⟩
    ·exact h
    ·obtain⟨ob,_,_,_,hpos,_⟩:=sts_some h
     rw[azeros_length,h0] at hpos;simp at hpos
   subst hσ
   subst h0
   refine⟨β,undef,.tuple #[],_,w,.refl _,?_,und,hH,hk⟩
   obtain⟨ad,cap,hvx⟩:∃ad cap,act.eval x=.slice ad 0 cap:=by
    rcases relv_slc rx with ⟨_,cap,_,_,_,hvx⟩ |⟨_,_,xx,_,_,hvx⟩
    ·exact⟨_,_,hvx⟩
    ·exact⟨_,_,hvx⟩
   cases ad<;>simp [execOp,resolve,invoke,builtin,Builtin.clear_,run_underlying ht,hvx]
  ·rcases hc with ⟨h,_⟩ |⟨h1,hzs,h2⟩
   ·exact absurd h h0
   obtain⟨ob,hσ,hro,hle,hpos,rfl⟩:=sts_some h2
   rcases relv_slc rx with ⟨p,c,hp,_,hlc,hvx⟩ |⟨hl0,_⟩
   ·have hlz:=azeros_lit z hl (len * i.size)
    obtain⟨w',hr,hH'⟩:=hH.write hσ hp hro hle (rell_lits hlz) (fun v hv=>by rw[List.all_eq_true] at h1;exact h1 v hv)
    refine⟨β,undef,.tuple #[],_,w',.refl _,?_,und,hH',hk⟩
    have hzc:(Builtin.zeroCells z.cells len).toList=azeros z (len * i.size):=by
     unfold azeros madeCells Builtin.zeroCells
     rw[hzs]
    have hne:len≠0:=h0
    have hr':=hr P
    cases len with
    | zero=>exact absurd rfl h0
    | succ m =>
     simp [execOp,resolve,invoke,builtin,Builtin.clear_,run_underlying ht,hvx,zeroValue,run_of_info hi,hz,hzc,hr']
   ·exact absurd hl0 h0
def callable (P:Program) (f:FuncId):Bool :=
 match P.funcs[f]? with
 | some fn => fn.name != "runtime.NumGoroutine" && fn.body.isSome
 | none=>false
def ACall (P:Program) (w0:World) (f:FuncId) (args:List Value) (σ:AHeap) (R:Value→AHeap→Prop):Prop :=
 callable P f=true∧∀pr β w (args':List Value),RelH w0 pr β σ w→RelL β args args' →
  Calls P f args'.toArray w fun e w'=>∃β' r r' σ',Le β β'∧e=.returned r'∧RelV β' r r'∧RelH w0 pr β' σ' w'∧R r σ'
theorem ACall.mono {f:FuncId} {args:List Value} {R R':Value→AHeap→Prop} (h:ACall P w0 f args σ R) (hr:∀r σ',R r σ'→R' r σ'):ACall P w0 f args σ R' :=
 ⟨h.1,fun pr β w args' h1 h2=>(h.2 pr β w args' h1 h2).mono fun _ _ ⟨β',r,r',σ',a1,a2,a3,a4,a5⟩=>⟨β',r,r',σ',a1,a2,a3,a4,hr _ _ a5⟩⟩
theorem ACall.drop {f:FuncId} {args:List Value} {R R':Value→AHeap→Prop} (h:ACall P w0 f args σ R) (hr:∀r σ1,R r σ1→∃σ'',Sub σ'' σ1∧R' r σ''):ACall P w0 f args σ R' :=
 ⟨h.1,fun pr β w args' h1 h2=>(h.2 pr β w args' h1 h2).mono fun _ _ ⟨β',r,r',_,a1,a2,a3,a4,a5⟩ =>
  let ⟨σ'',s1,s2⟩:=hr _ _ a5;⟨β',r,r',σ'',a1,a2,a3,a4.sub s1,s2⟩⟩
theorem calls_fz {r:Option Nat} {m:Nat} {P:Program} {f:FuncId} {args:Array Value} {w:World} {R:Ending→World→Prop} (h:Calls P f args w R):CallsIn (fz r) m P f args w R :=
 (callsIn_wide (n:=m)).2 h
theorem relL_map {β:Beta} {act:Act} (hF:RelF n β a act):∀{xs:List Operand},xs.all okx=true→RelL β (xs.map (ev a)) (xs.map act.eval)
 | [],_=>RelL.nil β
 | x :: xs,h=>by
  simp only[List.all_cons,Bool.and_eq_true] at h
  exact RelL.cons (hF.ev h.1) (relL_map hF h.2)
theorem step_call {x:Operand} {f:FuncId} {caps:Array Value} {xs:List Operand} {ts:Array TypeId} (hd:∀t,d=some t→t < n.n) (hx:okx x=true) (hxs:xs.all okx=true)
  (hp:ev a x=.func (.func f) #[] caps) (hk:ACall P w0 f (xs.map (ev a)++caps.toList) σ fun r σ'=>K (aput a d r) σ') :
  AStep P w0 n ⟨d,.call ⟨.value x,xs.toArray,ts⟩,ty,pos,af,gd⟩ a σ K:=by
 intro β w act hH hF Kc Qc hK
 have rx:=hF.ev hx
 rw[hp] at rx
 have hfun:∃caps',act.eval x=.func (.func f) #[] caps'∧RelL β caps.toList caps'.toList:=by
  generalize act.eval x=vx at rx
  cases rx with
  | func _ _ ys hs he=>exact⟨ys,rfl,RelL.of_arr hs he⟩
 obtain⟨caps',hvx,hcap⟩:=hfun
 obtain⟨hcl,hcalls⟩:=hk
 unfold callable at hcl
 split at hcl
 ·rename_i fn hfn
  simp only[Bool.and_eq_true,bne_iff_ne,ne_eq] at hcl
  have hn:=hcl.1
  have hrun:(execOp act.eval ⟨d,.call ⟨.value x,xs.toArray,ts⟩,ty,pos,af,gd⟩).run P w=.ok (.enter f ((xs.map act.eval)++caps'.toList).toArray) w:=by
   obtain⟨c,hc⟩:=Option.isSome_iff_exists.1 hcl.2
   simp [execOp,resolve,invoke,Deferred.ofValue,hvx,callFunc,hfn,hn,hc]
  refine⟨fun _ _=>trivial,?_⟩
  rw[Oper.semAt_eq _ _ _ (by intro c hc;cases hc),hrun,Oper.uponIn_enter]
  refine⟨fun h=>by simp [fz,Fence.wide] at h,calls_fz ((hcalls n.pr β w _ hH (RelL.app (relL_map hF hxs) hcap)).mono ?_)⟩
  rintro e w' ⟨β',r,r',σ',a1,rfl,a3,a4,a5⟩
  exact hK β' _ σ' _ _ a1 a4 ((hF.mono a1).put hd a3) a5
 ·cases hcl
def AYield (P:Program) (w0:World) (pr:Prot) (l:Nat) (args:List Value) (σ:AHeap) (R:Value→AHeap→Prop):Prop :=
 ∀(r:Option Nat) β w (args':List Value),RelH w0 pr β σ w→RelL β args args'→∃fn tmps assign body,(Instr.yield l args'.toArray).run P w=.ok (.round l fn tmps assign body) w ∧
  RoundIn (fz r) 0 P l fn tmps assign body w fun e w'=>∃β' v v' σ',Le β β'∧e=.returned v'∧RelV β' v v'∧RelH w0 pr β' σ' w'∧R v σ'
theorem AYield.mono {pr:Prot} {l:Nat} {args:List Value} {R R':Value→AHeap→Prop} (h:AYield P w0 pr l args σ R) (hr:∀r σ',R r σ'→R' r σ'):AYield P w0 pr l args σ R' :=
 fun r β w args' h1 h2=>let ⟨fn,tmps,assign,body,e,k⟩:=h r β w args' h1 h2;⟨fn,tmps,assign,body,e,k.mono fun _ _ ⟨β',v,v',σ',a1,a2,a3,a4,a5⟩=>⟨β',v,v',σ',a1,a2,a3,a4,hr _ _ a5⟩⟩
theorem step_yield {x:Operand} {l:Nat} {xs:List Operand} {ts:Array TypeId} (hd:∀t,d=some t→t < n.n) (hx:okx x=true) (hxs:xs.all okx=true)
  (hp:ev a x=.func (.yield l) #[] #[]) (hk:AYield P w0 n.pr l (xs.map (ev a)) σ fun r σ'=>K (aput a d r) σ') :
  AStep P w0 n ⟨d,.call ⟨.value x,xs.toArray,ts⟩,ty,pos,af,gd⟩ a σ K:=by
 intro β w act hH hF Kc Qc hK
 have rx:=hF.ev hx
 rw[hp] at rx
 have hvx:act.eval x=.func (.yield l) #[] #[]:=by
  generalize act.eval x=vx at rx
  cases rx with
  | func _ _ ys hs he=>have:ys=#[]:=Array.eq_empty_of_size_eq_zero hs.symm;rw[this]
 obtain⟨fn,tmps,assign,body,hy,hround⟩:=hk n.r β w _ hH (relL_map hF hxs)
 have hrun:(execOp act.eval ⟨d,.call ⟨.value x,xs.toArray,ts⟩,ty,pos,af,gd⟩).run P w=.ok (.round l fn tmps assign body) w:=by
  simp [execOp,resolve,invoke,Deferred.ofValue,hvx,hy]
 refine⟨fun _ _=>trivial,?_⟩
 rw[Oper.semAt_eq _ _ _ (by intro c hc;cases hc),hrun,Oper.uponIn_round]
 refine⟨fun h=>by simp [fz,Fence.wide] at h,hround.mono ?_⟩
 rintro e w' ⟨β',r,r',σ',a1,rfl,a3,a4,a5⟩
 exact hK β' _ σ' _ _ a1 a4 ((hF.mono a1).put hd a3) a5
end Go.Abs
namespace Go.Abs
open Go.RowKit
variable (P:Program) (w0:World) (n:NR)
abbrev AK:=AFrame→AHeap→Prop
abbrev AQ:=Exit→AFrame→AHeap→Prop
def gslot (ops:List Oper) (j:Nat):Option Tmp:=(ops[j]?).bind (·.dst)
def gval (ops:List Oper) (a:AFrame) (j:Nat):Option Bool :=
 match gslot ops j with
 | some t=>match a t with | .bool b=>some b|_=>none
 | none=>none
theorem gval_rel {n:NR} {β:Beta} {a:AFrame} {act:Act} (hF:RelF n β a act) (ops:Array Oper) (j:Nat) (hj:∀t,gslot ops.toList j=some t→t < n.n):yielded ops act.tmps j=gval ops.toList a j:=by
 unfold yielded gval
 have e:((ops[j]?).bind (·.dst))=gslot ops.toList j:=by simp [gslot]
 rw[e]
 cases hg:gslot ops.toList j with
 | none=>rfl
 | some t =>
  have ht:=hj t hg
  have h1:=hF.tmp t
  have hs:t < act.tmps.size:=by rw[hF.size];exact ht
  have h2:act.tmps[t]?=some (act.tmps.getD t undef):=by simp [hs]
  simp only[Option.bind_some,h2]
  generalize a t=x at h1
  generalize act.tmps.getD t undef=y at h1
  cases h1<;>rfl
def AOps (ops:Array Oper) (l:List Nat) (a:AFrame) (σ:AHeap) (K:AK):Prop :=
 ∀β w act,RelH w0 n.pr β σ w→RelF n β a act→∀Q:Exit→Act→World→Prop,
  (∀β' a' σ' act' w',Le β β'→RelH w0 n.pr β' σ' w'→RelF n β' a' act'→K a' σ'→Q .normal act' w')→wpOpsIn (fz n.r) 0 P ops Q l act w
def goodOp (n:Nat) (ops:List Oper) (o:Oper):Bool :=
 (match o.dst with|some t=>decide (t < n)|none=>true) &&
 (match o.guard with|some (j,_)=>(match gslot ops j with|some t=>decide (t < n)|none=>true)|none=>true)
variable {P w0 n}
theorem AOps.nil {ops:Array Oper} {a:AFrame} {σ:AHeap} {K:AK} (h:K a σ):AOps P w0 n ops [] a σ K :=
 fun β _ _ hH hF _ hQ=>hQ β a σ _ _ (.refl _) hH hF h
theorem AOps.cons {ops:Array Oper} {i:Nat} {l:List Nat} {o:Oper} {a:AFrame} {σ:AHeap} {K:AK} (ho:ops[i]?=some o) (hg:goodOp n.n ops.toList o=true)
  (h1:(∀j want,o.guard=some (j,want)→gval ops.toList a j=some want)→AStep P w0 n o a σ fun a' σ'=>AOps P w0 n ops l a' σ' K)
  (h2:(∃j want,o.guard=some (j,want)∧gval ops.toList a j≠some want)→AOps P w0 n ops l (aput a o.dst undef) σ K):AOps P w0 n ops (i :: l) a σ K:=by
 intro β w act hH hF Q hQ
 unfold goodOp at hg
 rw[Bool.and_eq_true] at hg
 have hd:∀t,o.dst=some t→t < n.n:=by
  intro t ht;rw[ht] at hg;simpa using hg.1
 simp only[wpOpsIn,ho]
 cases hgu:o.guard with
 | none =>
  have hw:Region.wanted o (yielded ops act.tmps)=true:=by simp [Region.wanted,hgu]
  rw[if_pos hw]
  exact (h1 (fun j want hj=>by rw[hgu] at hj;cases hj) β w act hH hF _ _ fun β' a' σ' act' w' c1 c2 c3 c4=>c4 β' w' act' c2 c3 Q fun β2 a2 σ2 act2 w2 d1 d2 d3 d4=>hQ β2 a2 σ2 act2 w2 (c1.trans d1) d2 d3 d4)
 | some jw =>
  obtain⟨j,want⟩:=jw
  have hj:∀t,gslot ops.toList j=some t→t < n.n:=by
   intro t ht;have:=hg.2;rw[hgu] at this;simp only[ht] at this;simpa using this
  have hy:=gval_rel hF ops j hj
  have hw:Region.wanted o (yielded ops act.tmps)=(gval ops.toList a j == some want):=by simp [Region.wanted,hgu,hy]
  rw[hw]
  by_cases hv:gval ops.toList a j=some want
  ·rw[if_pos (by simp [hv])]
   exact (h1 (fun j' want' hj'=>by rw[hgu] at hj';cases hj';exact hv) β w act hH hF _ _ fun β' a' σ' act' w' c1 c2 c3 c4=>c4 β' w' act' c2 c3 Q fun β2 a2 σ2 act2 w2 d1 d2 d3 d4=>hQ β2 a2 σ2 act2 w2 (c1.trans d1) d2 d3 d4)
  ·rw[if_neg (by simp [hv])]
   exact⟨fun _ _=>trivial,h2 ⟨j,want,hgu,hv⟩ β w _ hH (hF.put hd (RelV.undef _)) Q hQ⟩
def ACode (P:Program) (w0:World) (n:NR) (c:Code) (a:AFrame) (σ:AHeap) (Q:AQ):Prop :=
 ∀β w act,RelH w0 n.pr β σ w→RelF n β a act→c.wpIn (fz n.r) 0 P (fun e act' w'=>∃β' a' σ',Le β β'∧RelH w0 n.pr β' σ' w'∧RelF n β' a' act'∧Q e a' σ') act w
section
variable {c:Code} {a:AFrame} {σ:AHeap} {Q:AQ}
theorem ACode.mono {Q':AQ} (h:ACode P w0 n c a σ Q) (hq:∀e a σ,Q e a σ→Q' e a σ):ACode P w0 n c a σ Q' :=
 fun β w act hH hF=>wpIn_mono (h β w act hH hF) fun e _ _ ⟨β',a',σ',c1,c2,c3,c4⟩=>⟨β',a',σ',c1,c2,c3,hq e _ _ c4⟩
theorem acode_skip (h:Q .normal a σ):ACode P w0 n .skip a σ Q:=fun β _ _ hH hF=>wpIn_skip ⟨β,a,σ,.refl _,hH,hF,h⟩
theorem acode_label {l:Nat} (h:Q .normal a σ):ACode P w0 n (.label l) a σ Q:=fun β _ _ hH hF=>wpIn_label ⟨β,a,σ,.refl _,hH,hF,h⟩
theorem acode_exit {id:Nat} (h:Q (.exit id) a σ):ACode P w0 n (.exit id) a σ Q:=fun β _ _ hH hF=>wpIn_exit ⟨β,a,σ,.refl _,hH,hF,h⟩
theorem acode_goto {l:Nat} (h:Q (.goto l) a σ):ACode P w0 n (.goto l) a σ Q:=fun β _ _ hH hF=>wpIn_goto ⟨β,a,σ,.refl _,hH,hF,h⟩
theorem acode_ret (h:Q .ret a σ):ACode P w0 n .ret a σ Q:=fun β _ _ hH hF=>wpIn_ret ⟨β,a,σ,.refl _,hH,hF,h⟩
def seqK (y:AFrame→AHeap→Prop) (Q:AQ):AQ
 | .normal,a,σ=>y a σ
 | e,a,σ=>Q e a σ
theorem acode_seq {x y:Code} (h:ACode P w0 n x a σ (seqK (fun a σ=>ACode P w0 n y a σ Q) Q)):ACode P w0 n (.seq x y) a σ Q:=by
 intro β w act hH hF
 refine wpIn_seq (wpIn_mono (h β w act hH hF) ?_)
 rintro e act' w' ⟨β',a',σ',c1,c2,c3,c4⟩
 cases e<;>simp only[seqK] at c4<;>simp only[Exit.then]
 case normal =>
  refine wpIn_mono (c4 β' w' act' c2 c3) ?_
  rintro e act2 w2 ⟨β2,a2,σ2,d1,d2,d3,d4⟩
  exact⟨β2,a2,σ2,c1.trans d1,d2,d3,d4⟩
 all_goals exact⟨β',a',σ',c1,c2,c3,c4⟩
theorem acode_cond {x:Operand} {t e:Code} {b:Bool} (hx:okx x=true) (hb:ev a x=.bool b) (ht:b=true→ACode P w0 n t a σ Q) (he:b=false→ACode P w0 n e a σ Q) :
  ACode P w0 n (.cond x t e) a σ Q:=by
 intro β w act hH hF
 have h1:=hF.ev hx
 rw[hb] at h1
 have h2:=relv_bool h1
 exact wpIn_cond_split h2 (fun h=>ht h β w act hH hF) (fun h=>he h β w act hH hF)
def blockK (id:Nat) (Q:AQ):AQ
 | .exit id',a,σ=>if id'=id then Q .normal a σ else Q (.exit id') a σ
 | e,a,σ=>Q e a σ
theorem acode_block {id:Nat} {x:Code} (h:ACode P w0 n x a σ (blockK id Q)):ACode P w0 n (.block id x) a σ Q:=by
 intro β w act hH hF
 refine wpIn_block (wpIn_mono (h β w act hH hF) ?_)
 rintro e act' w' ⟨β',a',σ',c1,c2,c3,c4⟩
 cases e<;>simp only[blockK] at c4<;>simp only[Exit.inBlock]
 case exit id' =>
  split
  ·rename_i h;rw[if_pos h] at c4;exact⟨β',a',σ',c1,c2,c3,c4⟩
  ·rename_i h;rw[if_neg h] at c4;exact⟨β',a',σ',c1,c2,c3,c4⟩
 all_goals exact⟨β',a',σ',c1,c2,c3,c4⟩
theorem acode_loop {x:Code} (I:Nat→AFrame→AHeap→Prop) (m:Nat) (h0:I m a σ)
  (round:∀m a σ,I m a σ→ACode P w0 n x a σ (seqK (fun a' σ'=>∃m',m' < m∧I m' a' σ') Q)):ACode P w0 n (.loop x) a σ Q:=by
 intro β w act hH hF b k cs hro hb hr
 have key:∀m a σ β w act,I m a σ→RelH w0 n.pr β σ w→RelF n β a act →
   ∃e act' w',(∃β' a' σ',Le β β'∧RelH w0 n.pr β' σ' w'∧RelF n β' a' act'∧Q e a' σ')∧ArrivesIn (Machine.fenced P (fz n.r)) P (lone (b.atR act (.code x :: .inLoop x :: k)) cs w) b k cs e act' w':=by
  intro m
  induction m using Nat.strongRecOn with
  | _ m ih =>
   intro a σ β w act hI hH hF
   obtain⟨e,act1,w1,⟨β1,a1,σ1,c1,c2,c3,c4⟩,harr⟩:=round m a σ hI β w act hH hF b (.inLoop x :: k) cs hro hb hr
   cases e with
   | normal =>
    obtain⟨m',hm',hI'⟩:=c4
    obtain⟨e2,act2,w2,⟨β2,a2,σ2,d1,d2,d3,d4⟩,harr2⟩:=ih m' hm' a1 σ1 β1 w1 act1 hI' c2 c3
    exact⟨e2,act2,w2,⟨β2,a2,σ2,c1.trans d1,d2,d3,d4⟩,.of_steps (StepsIn.trans harr (.one (fenced_calm hb hr rfl) stepR_inLoop)) harr2⟩
   | exit id=>exact⟨_,act1,w1,⟨β1,a1,σ1,c1,c2,c3,c4⟩,.pass (x:=.inLoop x) rfl (fun _ _=>.inl (by simp)) harr⟩
   | goto l=>exact⟨_,act1,w1,⟨β1,a1,σ1,c1,c2,c3,c4⟩,.pass (x:=.inLoop x) rfl (fun _ _=>.inl (by simp)) harr⟩
   | ret=>exact⟨_,act1,w1,⟨β1,a1,σ1,c1,c2,c3,c4⟩,.pass (x:=.inLoop x) rfl (fun _ _=>.inl (by simp)) harr⟩
   | panic ch=>exact⟨_,act1,w1,⟨β1,a1,σ1,c1,c2,c3,c4⟩,.pass (x:=.inLoop x) rfl (fun _ _=>.inl (by simp)) harr⟩
   | outgrown=>exact⟨_,act1,w1,⟨β1,a1,σ1,c1,c2,c3,c4⟩,.pass (x:=.inLoop x) rfl (fun _ _=>.inl (by simp)) harr⟩
 obtain⟨e,act',w',hq,harr⟩:=key m a σ β w act h0 hH hF
 exact⟨e,act',w',hq,.of_steps (.one (fenced_calm hb hr rfl) stepR_loop) harr⟩
theorem acode_region {id:Nat} {ops:Array Oper} (h:AOps P w0 n ops (List.range ops.size) a σ (Q .normal)):ACode P w0 n (.region id ops false) a σ Q :=
 fun β w act hH hF=>wpIn_region (h β w act hH hF _ fun β' a' σ' _ _ c1 c2 c3 c4=>⟨β',a',σ',c1,c2,c3,c4⟩)
def rtv (f:Nat→Value):ResultVar→Value
 | .tmp t=>f t
 | .cell _ _=>undef
def rtmp:ResultVar→Bool
 | .tmp _=>true
 | .cell _ _=>false
def aresults (fn:Func) (a:AFrame):Value :=
 match fn.results.toList with
 | [r]=>rtv a r
 | rs=>.tuple (rs.map (rtv a)).toArray
def tmpsOnly (fn:Func):Bool:=fn.results.toList.all rtmp
theorem mapM_tmps (P:Program) (w:World) (tv:Nat→Value) (g:ResultVar→Sem Value) (hg:∀t,g (.tmp t)=pure (tv t)):∀rs:List ResultVar,rs.all rtmp=true→(rs.mapM g).run P w=.ok (rs.map (rtv tv)) w
 | [],_=>by simp
 | .tmp t :: rs,h=>by
  have ih:=mapM_tmps P w tv g hg rs (by simpa [rtmp] using h)
  simp [List.mapM_cons,hg,ih,rtv]
 | .cell _ _ :: _,h=>by simp [rtmp] at h
theorem results_rel {β:Beta} {act:Act} (hF:RelF n β a act):∀rs:List ResultVar,rs.all rtmp=true→RelL β (rs.map (rtv a)) (rs.map (rtv fun t=>act.tmps.getD t undef))
 | [],_=>RelL.nil β
 | .tmp t :: rs,h=>RelL.cons (hF.tmp t) (results_rel hF rs (by simpa [rtmp] using h))
 | .cell _ _ :: _,h=>by simp [rtmp] at h
theorem results_run (P:Program) {fn:Func} {β:Beta} {act:Act} (hF:RelF n β a act) (ht:tmpsOnly fn=true) (w:World) :
  ∃v',(results fn act.tmps).run P w=.ok v' w∧RelV β (aresults fn a) v':=by
 have k2:=results_rel hF fn.results.toList ht
 unfold results
 rw[Sem.run_bind,Array.mapM_eq_mapM_toList,Sem.run_map,mapM_tmps P w (fun t=>act.tmps.getD t undef) _ (fun t=>rfl) _ ht]
 simp only[Result.andThen_ok,Sem.run_pure]
 refine⟨_,rfl,?_⟩
 generalize hrs:fn.results.toList=rs at k2
 unfold aresults
 rw[hrs]
 match rs,k2 with
 | [],k2=>simp;exact .tuple _ _ rfl (fun i hi=>by simp at hi)
 | [r],k2=>simpa using k2.tail.1
 | r :: r2 :: rs,k2 =>
  obtain⟨e1,e2⟩:=RelL.to_arr (xs:=((r :: r2 :: rs).map (rtv a)).toArray) (ys:=((r :: r2 :: rs).map (rtv fun t=>act.tmps.getD t undef)).toArray) (by simpa using k2)
  rw[dif_neg (by simp)]
  exact .tuple _ _ e1 e2
def aenter (args:List Value):AFrame:=fun t=>args.getD t undef
theorem acall_of_code {f:FuncId} {fn:Func} {c:Code} {args:List Value} {R:Value→AHeap→Prop} (hf:P.funcs[f]?=some fn) (hb:fn.body=some c) (hc:callable P f=true) (ht:tmpsOnly fn=true) (hn:args.length≤fn.ntmps)
  (h:∀pr,ACode P w0 ⟨fn.ntmps,none,[],pr⟩ c (aenter args) σ fun e a' σ'=>(e=.normal∨e=.ret)∧∃σ'',Sub σ'' σ'∧R (aresults fn a') σ''):ACall P w0 f args σ R:=by
 refine⟨hc,fun pr β w args' hH hA=>?_⟩
 refine calls_of_wp hf hb (wp_mono (wpIn_wide.1 (h pr β w _ hH ⟨?_,rfl,fun t=>?_⟩)) ?_)
 ·simp;rw[←hA.1];omega
 ·unfold aenter
  by_cases hlt:t < args.length
  ·obtain⟨y,e1,e2⟩:=hA.2 t args[t] (by simp [hlt])
   have hlt':t < args'.length:=by rw[←hA.1];exact hlt
   have:args'[t]=y:=by simpa [hlt'] using e1
   simp [List.getD,hlt,Array.getElem?_append_left,hlt',this]
   exact e2
  ·have hlt':¬ t < args'.length:=by rw[←hA.1];exact hlt
   have e1:args.getD t undef=undef:=by simp [List.getD,List.getElem?_eq_none (Nat.le_of_not_lt hlt)]
   rw[e1]
   have e2:(args'.toArray++Array.replicate (fn.ntmps - args'.toArray.size) undef).getD t undef=undef:=by
    rw[Array.getD_eq_getD_getElem?,Array.getElem?_append_right (by simpa using Nat.le_of_not_lt hlt'),Array.getElem?_replicate]
    split<;>rfl
   rw[e2]
   exact RelV.undef β
 ·rintro e act' w' ⟨β',a',σ',c1,c2,c3,c4,σ'',s1,s2⟩
  obtain⟨v',r1,r2⟩:=results_run (a:=a') P c3 ht w'
  rcases c4 with rfl|rfl
  ·exact⟨c3.defers,v',r1,β',_,v',σ'',c1,rfl,r2,c2.sub s1,s2⟩
  ·exact⟨c3.defers,v',r1,β',_,v',σ'',c1,rfl,r2,c2.sub s1,s2⟩
end
end Go.Abs
namespace Go.Abs
open Go.RowKit
variable (P:Program) (w0:World) (n:NR)
def isBool (t:TypeId):Bool :=
 match P.underlying t with
 | some .bool=>true
 | _=>false
theorem isBool_spec {t:TypeId} (h:isBool P t=true):P.underlying t=some .bool:=by
 unfold isBool at h
 split at h
 ·assumption
 ·cases h
def cellEq (xs ys:Array Value) (f:Field):Option Bool :=
 if f.name = "_" then none else
 match P.underlying f.type,xs[f.offset]?,ys[f.offset]? with
 | some .bool,some (.bool a),some (.bool b)=>some (a == b)
 | some (.int _),some (.int k a),some (.int k' b)=>if k=k' then some (a == b) else none
 | some .string,some (.string a),some (.string b)=>some (a == b)
 | _,_,_=>none
def cellsEq (xs ys:Array Value):List Field→Option Bool
 | []=>some true
 | f :: fs=>(cellEq P xs ys f).bind fun b=>(cellsEq xs ys fs).map fun c=>b && c
def flatEq (t:TypeId) (xs ys:Array Value):Option Bool :=
 match P.underlying t with
 | some (.struct fs)=>if P.stoodInHeld t=false∧P.eqGuardType P.depth t=false∧xs.toList.all scal0=true∧ys.toList.all scal0=true then cellsEq P xs ys fs.toList else none
 | _=>none
def abin (t:TypeId):BinOp→Value→Value→Option Value
 | .add,.int k a,.int k' b=>if k=k' then some (.int k (k.wrap (a+b))) else none
 | .sub,.int k a,.int k' b=>if k=k' then some (.int k (k.wrap (a - b))) else none
 | .mul,.int k a,.int k' b=>if k=k' then some (.int k (k.wrap (a * b))) else none
 | .quo,.int k a,.int k' b=>if k=k'∧b≠0 then some (.int k (k.wrap (a.tdiv b))) else none
 | .rem,.int k a,.int k' b=>if k=k'∧b≠0 then some (.int k (a.tmod b)) else none
 | .eql,.int k a,.int k' b=>if k=k' then some (.bool (a == b)) else none
 | .neq,.int k a,.int k' b=>if k=k' then some (.bool (a != b)) else none
 | .lss,.int k a,.int k' b=>if k=k' then some (.bool (a < b)) else none
 | .leq,.int k a,.int k' b=>if k=k' then some (.bool (a≤b)) else none
 | .gtr,.int k a,.int k' b=>if k=k' then some (.bool (a > b)) else none
 | .geq,.int k a,.int k' b=>if k=k' then some (.bool (a ≥ b)) else none
 | .xor,.int k a,.int k' b=>if k=k' then some (.int k (k.wrap (BitVec.ofInt k.bits a ^^^ BitVec.ofInt k.bits b).toNat)) else none
 | .and,.int k a,.int k' b=>if k=k' then some (.int k (k.wrap (BitVec.ofInt k.bits a &&& BitVec.ofInt k.bits b).toNat)) else none
 | .or,.int k a,.int k' b=>if k=k' then some (.int k (k.wrap (BitVec.ofInt k.bits a ||| BitVec.ofInt k.bits b).toNat)) else none
 | .shl,.int k a,.int _ b=>if 0≤b then some (.int k (k.wrap (a * 2 ^ (min b.toNat k.bits)))) else none
 | .shr,.int k a,.int _ b=>if 0≤b then some (.int k (a.fdiv (2 ^ (min b.toNat k.bits)))) else none
 | .eql,.bool a,.bool b=>if isBool P t=true then some (.bool (a == b)) else none
 | .neq,.bool a,.bool b=>if isBool P t=true then some (.bool (!(a == b))) else none
 | .eql,.string a,.string b=>some (.bool (a.toList == b.toList))
 | .neq,.string a,.string b=>some (.bool (!(a.toList == b.toList)))
 | .lss,.string a,.string b=>some (.bool (Op.bytesLess a.toList b.toList))
 | .add,.string a,.string b=>if a.size+b.size≤2 ^ 40 then some (.string (a++b)) else none
 | .eql,.agg xs,.agg ys=>(flatEq P t xs ys).map .bool
 | .neq,.agg xs,.agg ys=>(flatEq P t xs ys).map fun b=>.bool !b
 | _,_,_=>none
theorem flat_scal {t:TypeId} {xs ys:Array Value} {b:Bool} (h:flatEq P t xs ys=some b):scal (.agg xs)=true∧scal (.agg ys)=true:=by
 unfold flatEq at h
 split at h
 ·split at h
  ·rename_i hc;exact⟨hc.2.2.1,hc.2.2.2⟩
  ·cases h
 ·cases h
theorem evalP_bind {α β:Type} (s:Sem α) (f:α→Sem β):evalP P (s >>= f)=(evalP P s).bind fun a=>evalP P (f a):=by
 show evalP P (s.bind f)=_
 induction s with
 | pure a=>rfl
 | program k ih=>simp only[Sem.bind,evalP,ih]
 | load|store|new|shape|freeze|frozen|getObj|setObj|choose|sys|mark|halt=>rfl
theorem evalP_underlying {t:TypeId} {d:TypeDesc} (h:P.underlying t=some d):evalP P (underlying t)=some d:=by
 unfold underlying
 rw[evalP_bind]
 simp only[program,evalP,Option.bind_some,h]
 rfl
theorem abin_scal {t:TypeId} {op:BinOp} {x y v:Value} (h:abin P t op x y=some v):scal x=true∧scal y=true∧scal v=true:=by
 unfold abin at h
 split at h
 case h_23 =>
  obtain⟨b,hb,rfl⟩:=Option.map_eq_some_iff.1 h
  exact⟨(flat_scal P hb).1,(flat_scal P hb).2,rfl⟩
 case h_24 =>
  obtain⟨b,hb,rfl⟩:=Option.map_eq_some_iff.1 h
  exact⟨(flat_scal P hb).1,(flat_scal P hb).2,rfl⟩
 all_goals (first | (split at h<;>first | (cases h;exact⟨rfl,rfl,rfl⟩)|cases h) | (cases h;exact⟨rfl,rfl,rfl⟩)|cases h)
theorem evalP_guard (op:BinOp) (t:TypeId) (x y:Operand) {a b:Value} (ha:scal0 a=true):evalP P (eqGuard op t x y a b)=some ():=by
 unfold eqGuard
 cases a<;>first | (simp [scal0] at ha;done) | (cases op<;>rfl)
theorem evalP_equalIn_bool {t:TypeId} (ht:P.underlying t=some .bool) (d:Nat) (a b:Bool):evalP P (Op.equalIn (d+1) t (.bool a) (.bool b))=some (a == b):=by
 rw[Op.equalIn,evalP_bind,evalP_underlying P ht]
 rfl
theorem evalP_eql_bool {t:TypeId} (ht:P.underlying t=some .bool) (a b:Bool):evalP P (binOp .eql t (.bool a) (.bool b))=some (.bool (a == b)):=by
 show evalP P (do pure (Value.bool (←Op.equalIn (9999+1) t (Value.bool a) (Value.bool b))):Sem Value)=_
 rw[evalP_bind,evalP_equalIn_bool P ht]
 rfl
theorem evalP_neq_bool {t:TypeId} (ht:P.underlying t=some .bool) (a b:Bool):evalP P (binOp .neq t (.bool a) (.bool b))=some (.bool (!(a == b))):=by
 show evalP P (do pure (Value.bool (!(←Op.equalIn (9999+1) t (Value.bool a) (Value.bool b)))):Sem Value)=_
 rw[evalP_bind,evalP_equalIn_bool P ht]
 rfl
theorem evalP_add_string {t:TypeId} {a b:ByteArray} (h:a.size+b.size≤2 ^ 40):evalP P (binOp .add t (.string a) (.string b))=some (.string (a++b)):=by
 have e:IntKind.i64.max=9223372036854775807:=rfl
 show evalP P (if ((a.size+b.size:Nat):Int) > IntKind.i64.max then unsupported _ else pure (Value.string (a++b)):Sem Value)=_
 rw[if_neg (by rw[e];omega)]
 rfl
theorem evalP_program:evalP P (program:Sem Program)=some P:=rfl
theorem evalP_isAgg {t:TypeId} {ds:TypeDesc} (ht:P.underlying t=some ds) (h:∀fs,ds≠.struct fs) (h2:∀n e,ds≠.array n e):evalP P (isAgg t)=some false:=by
 unfold isAgg
 rw[evalP_bind,evalP_underlying P ht]
 simp only[Option.bind_some]
 cases ds<;>first|rfl|exact absurd rfl (h _)|exact absurd rfl (h2 _ _)
theorem evalP_part {t:TypeId} {ds:TypeDesc} (ht:P.underlying t=some ds) (h:∀fs,ds≠.struct fs) (h2:∀n e,ds≠.array n e) {xs:Array Value} {i:Nat} {v:Value} (hv:xs[i]?=some v):evalP P (part t xs i)=some v:=by
 unfold part
 rw[evalP_bind,evalP_isAgg P ht h h2]
 simp only[Option.bind_some,Bool.false_eq_true,if_false,hv]
 rfl
theorem evalP_cell {d:Nat} {xs ys:Array Value} {f:Field} {b:Bool} (h:cellEq P xs ys f=some b) :
  evalP P (do let u ← part f.type xs f.offset; let v ← part f.type ys f.offset; Op.equalIn (d + 1) f.type u v : Sem Bool) = some b ∧ f.name ≠ "_" := by
 unfold cellEq at h
 split at h
 ·cases h
 rename_i hn
 refine⟨?_,hn⟩
 have key:∀{ds:TypeDesc} {u v:Value},P.underlying f.type=some ds→(∀fs,ds≠.struct fs)→(∀n e,ds≠.array n e)→xs[f.offset]?=some u→ys[f.offset]?=some v→evalP P (Op.equalIn (d+1) f.type u v)=some b →
   evalP P (do let u ←part f.type xs f.offset;let v ←part f.type ys f.offset;Op.equalIn (d+1) f.type u v:Sem Bool)=some b:=by
  intro ds u v ht h1 h2 hu hv he
  rw[evalP_bind,evalP_part P ht h1 h2 hu]
  simp only[Option.bind_some]
  rw[evalP_bind,evalP_part P ht h1 h2 hv]
  simp only[Option.bind_some]
  exact he
 split at h
 ·rename_i ht hu hv
  cases h
  exact key ht (fun _ h=>by cases h) (fun _ _ h=>by cases h) hu hv (evalP_equalIn_bool P ht d _ _)
 ·rename_i ht hu hv
  split at h
  ·rename_i hk
   subst hk
   cases h
   refine key ht (fun _ h=>by cases h) (fun _ _ h=>by cases h) hu hv ?_
   rw[Op.equalIn,evalP_bind,evalP_underlying P ht]
   simp only[Option.bind_some,if_true]
   rfl
  ·cases h
 ·rename_i ht hu hv
  cases h
  refine key ht (fun _ h=>by cases h) (fun _ _ h=>by cases h) hu hv ?_
  rw[Op.equalIn,evalP_bind,evalP_underlying P ht]
  simp only[Option.bind_some]
  rfl
 ·cases h
theorem evalP_cells {d : Nat} {xs ys : Array Value} : ∀ (fs : List Field) (b : Bool), cellsEq P xs ys fs = some b →
    evalP P (forIn fs (none, ()) (fun f __s =>
            if f.name ≠ "_" then do
              let __do_lift ← part f.type xs f.offset
              let __do_lift_1 ← part f.type ys f.offset
              let __do_lift ← Op.equalIn (d + 1) f.type __do_lift __do_lift_1
              if (!__do_lift) = true then pure (ForInStep.done (some false, ())) else pure (ForInStep.yield (none, ()))
            else pure (ForInStep.yield (none, ()))) : Sem (Option Bool × Unit)) = some (if b then none else some false, ())
  | [], b, h => by
    simp only [cellsEq, Option.some.injEq] at h
    subst h
    rfl
  | f :: fs, b, h => by
    simp only [cellsEq, Option.bind_eq_some_iff, Option.map_eq_some_iff] at h
    obtain ⟨x, hx, y, hy, rfl⟩ := h
    obtain ⟨h1, hn⟩ := evalP_cell P (d := d) hx
    rw [List.forIn_cons, evalP_bind]
    rw [if_pos hn]
    have e : evalP P (do
              let __do_lift ← part f.type xs f.offset
              let __do_lift_1 ← part f.type ys f.offset
              let __do_lift ← Op.equalIn (d + 1) f.type __do_lift __do_lift_1
              if (!__do_lift) = true then pure (ForInStep.done (some false, ())) else pure (ForInStep.yield (none, ())) : Sem (ForInStep (Option Bool × Unit))) = some (if x then .yield (none, ()) else .done (some false, ())) := by
      have h2 : (do
              let __do_lift ← part f.type xs f.offset
              let __do_lift_1 ← part f.type ys f.offset
              let __do_lift ← Op.equalIn (d + 1) f.type __do_lift __do_lift_1
              if (!__do_lift) = true then pure (ForInStep.done (some false, ())) else pure (ForInStep.yield (none, ())) : Sem (ForInStep (Option Bool × Unit))) =
          ((do let u ← part f.type xs f.offset; let v ← part f.type ys f.offset; Op.equalIn (d + 1) f.type u v : Sem Bool) >>= fun r => if (!r) = true then pure (ForInStep.done (some false, ())) else pure (ForInStep.yield (none, ()))) := by
        simp only [bind_assoc]
      rw [h2, evalP_bind, h1]
      simp only [Option.bind_some]
      cases x <;> rfl
    rw [e]
    simp only [Option.bind_some]
    cases x with
    | false => simp; rfl
    | true => simpa using evalP_cells fs y hy
theorem evalP_equalIn_agg {t:TypeId} {xs ys:Array Value} {b:Bool} (h:flatEq P t xs ys=some b) (d:Nat):evalP P (Op.equalIn (d+2) t (.agg xs) (.agg ys))=some b:=by
 unfold flatEq at h
 split at h
 ·rename_i fs ht
  split at h
  ·rename_i hc
   rw[Op.equalIn,evalP_bind,evalP_underlying P ht]
   simp only[Option.bind_some]
   rw[evalP_bind,evalP_program]
   simp only[Option.bind_some,hc.1,Bool.false_eq_true,if_false]
   rw[evalP_bind,←Array.forIn_toList,evalP_cells P (d:=d) fs.toList b h]
   simp only[Option.bind_some]
   cases b<;>rfl
  ·cases h
 ·cases h
theorem evalP_guard_agg (op:BinOp) {t:TypeId} (x y:Operand) {xs ys:Array Value} {b:Bool} (h:flatEq P t xs ys=some b):evalP P (eqGuard op t x y (.agg xs) (.agg ys))=some ():=by
 have hg:P.eqGuardType P.depth t=false:=by
  unfold flatEq at h
  split at h
  ·split at h
   ·rename_i hc;exact hc.2.1
   ·cases h
  ·cases h
 unfold eqGuard
 cases op<;>first|rfl | (
  simp only[Bool.not_true,Bool.false_eq_true,if_false]
  rw[evalP_bind,evalP_program]
  simp only[Option.bind_some]
  rw[evalP_bind,evalP_program]
  simp only[Option.bind_some,hg]
  rfl)
theorem abin_eval {t:TypeId} {op:BinOp} {x y v:Value} (ox oy:Operand) (h:abin P t op x y=some v) :
    evalP P (do eqGuard op t ox oy x y;binOp op t x y)=some v:=by
  unfold abin at h
  split at h
  case h_23 =>
    obtain⟨b,hb,rfl⟩:=Option.map_eq_some_iff.1 h
    rw[evalP_bind,evalP_guard_agg P .eql ox oy hb]
    show evalP P (do pure (Value.bool (←Op.equalIn (9998+2) t (Value.agg _) (Value.agg _))):Sem Value)=_
    rw[evalP_bind,evalP_equalIn_agg P hb]
    rfl
  case h_24 =>
    obtain⟨b,hb,rfl⟩:=Option.map_eq_some_iff.1 h
    rw[evalP_bind,evalP_guard_agg P .neq ox oy hb]
    show evalP P (do pure (Value.bool (!(←Op.equalIn (9998+2) t (Value.agg _) (Value.agg _)))):Sem Value)=_
    rw[evalP_bind,evalP_equalIn_agg P hb]
    rfl
  case h_25=>cases h
  all_goals rw[evalP_bind,evalP_guard P _ t ox oy rfl]
  all_goals simp only[Option.bind_some]
  case h_17 =>
    split at h
    · rename_i hb;cases h;exact evalP_eql_bool P (isBool_spec P hb) _ _
    · cases h
  case h_18 =>
    split at h
    · rename_i hb;cases h;exact evalP_neq_bool P (isBool_spec P hb) _ _
    · cases h
  case h_22 =>
    split at h
    · rename_i hb;cases h;exact evalP_add_string P hb
    · cases h
  all_goals first
    | (split at h
       · rename_i hk
         first
           | (obtain⟨rfl,hb⟩:=hk;cases h;simp only[binOp,Op.intDiv,if_neg hb,ne_eq,not_true_eq_false,if_false];rfl)
           | (subst hk;cases h;simp only[binOp,Op.intArith,Op.intCmp,Op.intBits,ne_eq,not_true_eq_false,if_false];rfl)
           | (cases h;simp only[binOp,Op.shift];rw[if_neg (by omega)];rfl)
       · cases h)
    | (cases h;rfl)
    | cases h
def aun:UnOp→Value→Option Value
 | .not,.bool b=>some (.bool !b)
 | .neg,.int k a=>some (.int k (k.wrap (0 - a)))
 | _,_=>none
def aconv (s t:TypeId) (x:Value):Option Value :=
 match P.underlying s,P.underlying t,x with
 | some _,some (.int k),.int _ a=>some (.int k (k.wrap a))
 | _,_,_=>none
def amin:List Value→Option Value
 | [.int k x,.int _ y]=>some (.int k (if y < x then y else x))
 | _=>none
def amax:List Value→Option Value
 | [.int k x,.int _ y]=>some (.int k (if y > x then y else x))
 | [.int k x,.int _ y,.int _ z]=>some (.int k (if z > (if y > x then y else x) then z else (if y > x then y else x)))
 | _=>none
end Go.Abs
namespace Go.Abs
open Go.RowKit
def textOf (bs:List Int):ByteArray:=bs.foldl (fun s n=>s.push (UInt8.ofNat n.toNat)) .empty
def byteOf:Value→Option Int
 | .int .u8 n=>some n
 | _=>none
theorem run_convBytes (P:Program) (w:World) (a:Addr) (vs:List Value) (bs:List Int) (cap:Nat) (h:vs.mapM byteOf=some bs) (hl:(loadCells a vs.length).run P w=.ok vs.toArray w) :
  (Conv.bytesToString (.slice (some a) vs.length cap)).run P w=.ok (.string (textOf bs)) w:=by
 unfold Conv.bytesToString
 simp only
 rw[Sem.run_bind,hl]
 simp only[Result.andThen_ok]
 rw[Sem.run_bind]
 simp only[List.forIn_toArray]
 have key:∀(vs:List Value) (bs:List Int) (s:ByteArray),vs.mapM byteOf=some bs→∀f:Value→ByteArray→Sem (ForInStep ByteArray),(∀n r,f (.int .u8 n) r=pure (ForInStep.yield (r.push (UInt8.ofNat n.toNat)))) →
   (forIn vs s f).run P w=.ok (bs.foldl (fun s n=>s.push (UInt8.ofNat n.toNat)) s) w:=by
  intro vs
  induction vs with
  | nil=>intro bs s h f _;simp at h;subst h;rfl
  | cons v vs ih =>
   intro bs s h f hf
   simp only[List.mapM_cons] at h
   cases hv:byteOf v with
   | none=>rw[hv] at h;cases h
   | some b =>
    rw[hv] at h
    cases hr:vs.mapM byteOf with
    | none=>rw[hr] at h;cases h
    | some br =>
     rw[hr] at h
     obtain rfl:b :: br=bs:=by simpa using h
     unfold byteOf at hv
     split at hv
     ·cases hv
      have:=ih br (s.push (UInt8.ofNat b.toNat)) hr f hf
      simp only[List.forIn_cons,List.foldl_cons,hf]
      rw[Sem.run_bind]
      simpa using this
     ·cases hv
 rw[key vs bs _ h]
 ·rfl
 ·intro n r;rfl
theorem rel_bytes {β:Beta} {vs vs':List Value} {bs:List Int} (h:RelL β vs vs') (hb:vs.mapM byteOf=some bs):vs'=vs:=by
 refine List.ext_getElem h.1.symm fun i h1 h2=>?_
 have hi:i < vs.length:=h2
 obtain⟨y,e1,e2⟩:=h.2 i vs[i] (by simp [hi])
 have hy:y=vs'[i]:=by simpa [h1] using e1.symm
 subst hy
 have hs:scal0 vs[i]=true:=by
  have:∀(vs:List Value) (bs:List Int),vs.mapM byteOf=some bs→∀v∈vs,scal0 v=true:=by
   intro vs
   induction vs with
   | nil=>intro _ _ v hv;cases hv
   | cons u us ih =>
    intro bs hb v hv
    simp only[List.mapM_cons] at hb
    cases hu:byteOf u with
    | none=>rw[hu] at hb;cases hb
    | some b =>
     rw[hu] at hb
     cases hr:us.mapM byteOf with
     | none=>rw[hr] at hb;cases hb
     | some br =>
      rcases List.mem_cons.1 hv with rfl|hv
      ·unfold byteOf at hu;split at hu
       ·rfl
       ·cases hu
      ·exact ih br hr v hv
  exact this vs bs hb _ (by simp)
 exact e2.scal0_eq hs
section
variable {P:Program} {w0:World} {n:NR} {d:Option Tmp} {ty:TypeId} {pos:String} {af:Array Go.Edge} {gd:Option (Nat × Bool)} {a:AFrame} {σ:AHeap} {K:AFrame→AHeap→Prop}
theorem step_convBytes {s t e:TypeId} {x:Operand} {h o l z:Nat} {vs:List Value} {bs:List Int} (hd:∀t,d=some t→t < n.n) (hx:okx x=true)
  (hs:P.underlying s=some (.slice e)) (he:P.underlying e=some (.int .u8)) (ht:P.underlying t=some .string) (hp:ev a x=.slice (some ⟨h,o,none⟩) l z)
  (hl:lds σ h o l=some vs) (hb:vs.mapM byteOf=some bs) (hk:K (aput a d (.string (textOf bs))) σ):AStep P w0 n ⟨d,.convert s t x,ty,pos,af,gd⟩ a σ K :=
 .val hd fun β w act hH hF=>by
  have rx:=hF.ev hx
  rw[hp] at rx
  refine⟨β,_,.string (textOf bs),σ,w,.refl _,?_,.string _,hH,hk⟩
  have hlv:vs.length=l:=by
   unfold lds at hl
   cases ho:σ h with
   | none=>rw[ho] at hl;cases hl
   | some ob =>
    rw[ho] at hl
    simp only[Option.bind_some] at hl
    split at hl
    ·cases hl;simp;omega
    ·cases hl
  simp only[execOp]
  generalize act.eval x=y at rx
  cases rx with
  | @slc _ _ _ _ cap p hpp hc hll =>
   obtain⟨hlen,vs',h1,h2⟩:=hH.cells hpp hl
   obtain rfl:=rel_bytes h1 hb
   have h3:=run_loadCells_list (P:=P) w ⟨p.block,p.shift+o,none⟩ vs' h2
   have h4:=run_convBytes P w ⟨p.block,p.shift+o,none⟩ vs' bs cap hb h3
   rw[hlv] at h4
   simp [convert,run_underlying hs,run_underlying he,run_underlying ht,h4]
  | @slcE _ _ _ p hpp hz x =>
   have e0:vs=[]:=List.eq_nil_of_length_eq_zero hlv
   subst e0
   obtain rfl:[]=bs:=by simpa using hb
   cases x with
   | none=>simp [convert,run_underlying hs,run_underlying he,run_underlying ht,Conv.bytesToString,textOf]
   | some ad =>
    have h4:(Conv.bytesToString (.slice (some ad) 0 0)).run P w=.ok (.string (textOf [])) w:=run_convBytes P w ad [] [] 0 rfl rfl
    simp [convert,run_underlying hs,run_underlying he,run_underlying ht,h4]
end
end Go.Abs
namespace Go.Abs
open Go.RowKit
variable (P:Program) (w0:Base)
def aconvH (σ:AHeap) (s t:TypeId) (x:Value):Option Value :=
 match x with
 | .slice (some ⟨h,o,none⟩) l _ =>
  match P.underlying s,P.underlying t with
  | some (.slice e),some .string=>(match P.underlying e with|some (.int .u8)=>((lds σ h o l).bind fun vs=>vs.mapM byteOf).map fun bs=>.string (textOf bs)|_=>none)
  | _,_=>none
 | x=>aconv P s t x
theorem aconvH_int {σ:AHeap} {s t:TypeId} {k:IntKind} {z:Int}:aconvH P σ s t (.int k z)=aconv P s t (.int k z):=rfl
def nilOp:Operand→Bool
 | .const (.slice none 0 0)=>true
 | .const .nilIface=>true
 | _=>false
def nilEq (y:Operand) (op:BinOp) (t:TypeId) (v:Value) (K:Value→Prop):Prop :=
 (y=.const (.slice none 0 0)∧∃b l z,op=.eql∧(∃e,P.underlying t=some (.slice e))∧v=.slice b l z∧∀c,(b=none→c=true)→(0 < l→c=false)→K (.bool c)) ∨
 (y=.const .nilIface∧op=.neq∧(∃ms,P.underlying t=some (.interface ms))∧((v=.nilIface∧K (.bool false))∨((∃u x,v=.iface u x)∧K (.bool true))))
def vcV (o:Oper) (ρ:Operand→Value) (σ:AHeap) (K:Value→AHeap→Prop):Prop :=
  match o.op with
  | .move x=>K (ρ x) σ
  | .assign x=>K (ρ x) σ
  | .pick c x y=>∃b,ρ c=.bool b∧K (bif b then ρ x else ρ y) σ
  | .binOp op t x y _=>bif nilOp y then nilEq P y op t (ρ x) (fun v=>K v σ) else ∃v,abin P t op (ρ x) (ρ y)=some v∧K v σ
  | .unOp op _ x=>∃v,aun op (ρ x)=some v∧K v σ
  | .convert s t x=>∃v,aconvH P σ s t (ρ x)=some v∧K v σ
  | .nilCheck x=>(∃p,ρ x=.pointer (some p))∧K (ρ x) σ
  | .indexAddr t x y=>∃h b i len,aidx P t (ρ x) (ρ y)=some (h,b,i,len)∧0≤i∧i < len∧K (.pointer (some ⟨h,b+i.toNat * aesz P t,none⟩)) σ
  | .load t x=>∃h i,ρ x=.pointer (some ⟨h,i,none⟩) ∧
      if aisAgg P t then ∃vs,lds σ h i (P.cellsOf t)=some vs∧K (.agg vs.toArray) σ else ∃v,ld σ h i=some v∧K v σ
  | .store t x y=>∃h i,ρ x=.pointer (some ⟨h,i,none⟩)∧(ρ y).cells.size=P.cellsOf t∧(ρ y).cells.toList.all Value.oneCell'=true ∧
      ∃σ',sts σ h i (ρ y).cells.toList=some σ'∧K undef σ'
  | .alloc t=>∃z,azero P t=some z∧∀h,σ h=none→K (.pointer (some ⟨h,0,none⟩)) (σ.upd h (some ⟨z.cells.toList,false⟩))
  | .box _ x=>∀h,σ h=none→K (.pointer (some ⟨h,0,none⟩)) (σ.upd h (some ⟨(ρ x).cells.toList,false⟩))
  | .build t ps=>∃z out,azero P t=some z∧Instr.fill (aplaces P t) z.cells (ps.toList.map fun p=>(p.1,ρ p.2))=some out∧K (.agg out) σ
  | .buildSlice t len ps=>∃e z out,P.underlying t=some (.slice e)∧azero P e=some z ∧
      Instr.fill (fun i=>some (i * P.cellsOf e,P.cellsOf e)) ((Array.range (len * P.cellsOf e)).map (z.cells[· % z.cells.size]!)) (ps.toList.map fun p=>(p.1,ρ p.2))=some out∧out.size=len * P.cellsOf e ∧
      ∀h,σ h=none→K (.slice (some ⟨h,0,none⟩) len (P.cellsOf e)) (σ.upd h (some ⟨out.toList,false⟩))
  | .slice t x lo hi none=>∃p v,aslice P t (ρ x) (lo.map (ρ)) (hi.map (ρ))=some (p,v)∧(p∨bey P σ t (ρ x) (lo.map (ρ)) (hi.map (ρ)))∧K v σ
  | .slice t x lo hi (some m)=>a3 P σ t (ρ x) (lo.map (ρ)) (hi.map (ρ)) (ρ m) K
  | .makeSlice t x y=>∃kx l ky c e i z,P.underlying t=some (.slice e)∧P.info? e=some i∧i.zero=some z∧ρ x=.int kx l∧ρ y=.int ky c∧0≤l∧l≤c∧(i.bytes:Int) * c≤1099511627776∧c≤1099511627776 ∧
      ∀h,σ h=none→K (.slice (some ⟨h,0,none⟩) l.toNat i.size) (σ.upd h (some ⟨azeros z (l.toNat * i.size),false⟩))
  | .fieldAddr s x f=>∃fs fl h b,P.underlying s=some (.struct fs)∧fs[f]?=some fl∧ρ x=.pointer (some ⟨h,b,none⟩)∧K (.pointer (some ⟨h,b+fl.offset,none⟩)) σ
  | .field s x f=>∃fs fl cs v,P.underlying s=some (.struct fs)∧fs[f]?=some fl∧ρ x=.agg cs∧apart P fl.type cs fl.offset=some v∧K v σ
  | .extract x k=>∃vs v,ρ x=.tuple vs∧vs[k]?=some v∧K v σ
  | .index t x y=>P.underlying t=some .string∧∃s k i,ρ x=.string s∧ρ y=.int k i∧0≤i∧i < s.size∧K (.int .u8 (s.data.toList.getD i.toNat 0).toNat) σ
  | .makeFunc fn first cs=>first=#[]∧K (.func fn #[] (cs.toList.map (ρ)).toArray) σ
  | .call c =>
    match c.callee,c.args.toList,c.argTypes.toList with
    | .builtin .len,[x],[t]=>∃m,alen P t (ρ x)=some m∧K (.int .i64 m) σ
    | .builtin .min,xs,_=>∃v,amin (xs.map (ρ))=some v∧K v σ
    | .builtin .max,xs,_=>∃v,amax (xs.map (ρ))=some v∧K v σ
    | .builtin .append,[x,y],[t,u]=>∃e e2 i z ys,P.underlying t=some (.slice e)∧P.underlying u=some (.slice e2)∧P.info? e=some i∧i.zero=some z∧acells i.size σ (ρ y)=some ys ∧
        ((ρ x=.slice none 0 0∧ys.length * i.bytes≤1099511627776∧ys.length≤1099511627776 ∧
            ∀h,σ h=none→K (.slice (some ⟨h,0,none⟩) (ys.length / i.size) i.size) (σ.upd h (some ⟨ys,false⟩))) ∨
         (∃h b len ob,ρ x=.slice (some ⟨h,b,none⟩) len i.size∧σ h=some ob∧ob.ro=false∧b+len * i.size≤ob.cells.length∧ys.all Value.oneCell'=true ∧
            (len * i.size+ys.length) * i.bytes≤1099511627776∧len * i.size+ys.length≤1099511627776 ∧
            ∀h',σ h'=none→K (.slice (some ⟨h',0,none⟩) (len+ys.length / i.size) i.size) ((σ.upd h none).upd h' (some ⟨appd (ob.cells.drop b) (len * i.size) ys,false⟩))) ∨
         (∃h b len ob,ρ x=.slice (some ⟨h,b,none⟩) len i.size∧σ h=some ob∧ob.ro=false∧b+len * i.size≤ob.cells.length∧ys.all Value.oneCell'=true ∧
            (len * i.size+ys.length) * i.bytes≤1099511627776∧len * i.size+ys.length≤1099511627776 ∧
            K (.slice (some ⟨h,b,none⟩) (len+ys.length / i.size) i.size) (σ.upd h (some ⟨appd ob.cells (b+len * i.size) ys,false⟩)) ∧
            ∀h',σ h'=none→K (.slice (some ⟨h',0,none⟩) (len+ys.length / i.size) i.size) (σ.upd h' (some ⟨(ob.cells.drop b).take (len * i.size)++ys,false⟩))))
    | .builtin .copy,[x,y],[t,_]=>∃e i ys h b len σ',P.underlying t=some (.slice e)∧P.info? e=some i∧ρ x=.slice (some ⟨h,b,none⟩) len i.size∧acells i.size σ (ρ y)=some ys∧ys.length≤len * i.size ∧
        ((ys=[]∧σ'=σ)∨(ys.all Value.oneCell'=true∧sts σ h b ys=some σ'))∧K (.int .i64 (ys.length / i.size:Nat)) σ'
    | .builtin .clear,[x],[t]=>∃e i z h b len σ',P.underlying t=some (.slice e)∧P.info? e=some i∧i.zero=some z∧ρ x=.slice (some ⟨h,b,none⟩) len i.size ∧
        ((len=0∧σ'=σ)∨((azeros z (len * i.size)).all Value.oneCell'=true∧sts σ h b (azeros z (len * i.size))=some σ'))∧K undef σ'
    | .value f,xs,_=>(∃g caps,ρ f=.func (.func g) #[] caps∧ACall P w0.w g (xs.map (ρ)++caps.toList) σ fun r σ'=>K r σ')∨∃l,ρ f=.func (.yield l) #[] #[]∧AYield P w0.w w0.pr l (xs.map (ρ)) σ fun r σ'=>K r σ'
    | _,_,_=>False
  | _=>False
def vcOp (o:Oper) (a:AFrame) (σ:AHeap) (K:AK):Prop:=vcV P w0 o (ev a) σ fun v σ'=>K (aput a o.dst v) σ'
def typeOk (t:TypeId):Bool:=(P.underlying t).isSome
def elemOk (t:TypeId):Bool :=
 match P.underlying t with
 | some (.slice e)=>match P.info? e with
  | some i=>match i.zero with
   | some z=>decide (0 < i.size) && z.cells.size == i.size && z.cells.toList.all litOk
   | none=>false
  | none=>false
 | _=>false
def zeroOk (t:TypeId):Bool :=
 match azero P t with
 | some z=>z.cells.toList.all litOk
 | none=>false
def statOk (o:Oper):Bool :=
 o.op.operands.toList.all okx &&
 match o.op with
 | .indexAddr t _ _=>decide (0 < aesz P t)
 | .load t _=>typeOk P t && (!aisAgg P t || decide (0 < P.cellsOf t))
 | .alloc t=>zeroOk P t
 | .build t _=>zeroOk P t && fieldsOk P t
 | .buildSlice t len _=>match P.underlying t with
  | some (.slice e)=>zeroOk P e && decide (0 < P.cellsOf e) && decide (len * P.cellsOf e≤1024)
  | _=>false
 | .slice t _ _ _ _=>decide (0 < aesz P t) || (match P.underlying t with|some .string=>true|_=>false)
 | .makeSlice t _ _=>elemOk P t
 | .fieldAddr s _ f=>match P.underlying s with
  | some (.struct fs)=>match fs[f]? with|some fl=>decide (0 < P.cellsOf fl.type)|none=>false
  | _=>false
 | .field s _ f=>match P.underlying s with
  | some (.struct fs)=>match fs[f]? with|some fl=>decide (0 < P.cellsOf fl.type) && (P.underlying fl.type).isSome|none=>false
  | _=>false
 | .call c=>match c.callee with
  | .builtin .append | .builtin .copy | .builtin .clear=>match c.argTypes.toList with|t :: _=>elemOk P t | []=>false
  | _=>true
 | _=>true
variable {P w0} {n:NR} {a:AFrame} {σ:AHeap} {K:AK}
theorem elemOk_spec {t e:TypeId} {i:TypeInfo} {z:Value} (h:elemOk P t=true) (ht:P.underlying t=some (.slice e)) (hi:P.info? e=some i) (hz:i.zero=some z) :
  0 < i.size∧z.cells.size=i.size∧z.cells.toList.all litOk=true:=by
 unfold elemOk at h
 simp only[ht,hi,hz,Bool.and_eq_true,decide_eq_true_eq,beq_iff_eq] at h
 exact⟨h.1.1,h.1.2,h.2⟩
theorem amin_eval {xs:List Value} {v:Value} (h:amin xs=some v) (ts:Array TypeId) (t:TypeId):xs.all scal=true∧evalP P (Builtin.min_ ts t xs.toArray)=some v∧scal v=true:=by
 unfold amin at h
 split at h
 ·cases h;exact⟨rfl,rfl,rfl⟩
 ·cases h
theorem amax_eval {xs:List Value} {v:Value} (h:amax xs=some v) (ts:Array TypeId) (t:TypeId):xs.all scal=true∧evalP P (Builtin.max_ ts t xs.toArray)=some v∧scal v=true:=by
 unfold amax at h
 split at h
 ·cases h;exact⟨rfl,rfl,rfl⟩
 ·cases h;exact⟨rfl,rfl,rfl⟩
 ·cases h
theorem evalP_nilEq {t:TypeId} {e:TypeId} (ht:P.underlying t=some (.slice e)) (x y:Operand) (b:Option Addr) (l z:Nat) :
  evalP P (do eqGuard .eql t x y (.slice b l z) (.slice none 0 0);binOp .eql t (.slice b l z) (.slice none 0 0))=some (.bool b.isNone):=by
 rw[evalP_bind,show evalP P (eqGuard .eql t x y (.slice b l z) (.slice none 0 0))=some () from rfl]
 simp only[Option.bind_some]
 show evalP P (do pure (Value.bool (←Op.equalIn (9999+1) t (.slice b l z) (.slice none 0 0))):Sem Value)=_
 rw[evalP_bind,Op.equalIn,evalP_bind,evalP_underlying P ht]
 cases b<;>rfl
theorem step_nilEq {t u e:TypeId} {x y:Operand} {b:Option Addr} {l z:Nat} {d:Option Nat} {ty:TypeId} {pos:String} {af:Array Edge} {gd:Option (Nat × Bool)} {a:AFrame} {σ:AHeap} {K:AFrame→AHeap→Prop} {n:NR} (hd:∀t,d=some t→t < n.n) (hx:okx x=true) (hy:okx y=true) (he:P.underlying t=some (.slice e))
  (hyv:y=.const (.slice none 0 0)) (hxv:ev a x=.slice b l z) (hk:∀c,(b=none→c=true)→(0 < l→c=false)→K (aput a d (.bool c)) σ) :
  AStep P w0.w n ⟨d,.binOp .eql t x y u,ty,pos,af,gd⟩ a σ K :=
 .val hd fun β w act hH hF=>by
  have h1:=hF.ev hx
  have h2:=hF.ev hy
  rw[hxv] at h1
  rw[hyv] at h2
  have hs:∃b' l' z',act.eval x=.slice b' l' z'∧(b=none→b'.isNone=true)∧(0 < l→b'.isNone=false):=by
   generalize act.eval x=vx at h1
   cases h1 with
   | slcNil=>exact⟨none,0,0,rfl,fun _=>rfl,fun h=>absurd h (by omega)⟩
   | slc hp hc hl=>exact⟨_,_,_,rfl,(fun h=>nomatch h),(fun _=>rfl)⟩
   | slcE hp hz x'=>exact⟨x',0,0,rfl,(fun h=>nomatch h),(fun h=>absurd h (by omega))⟩
   | slcC hp hc hl=>exact⟨_,_,_,rfl,(fun h=>nomatch h),(fun _=>rfl)⟩
  have hy2:act.eval (.const (.slice none 0 0))=.slice none 0 0:=by
   generalize act.eval (.const (.slice none 0 0))=vy at h2
   cases h2 with
   | slcNil=>rfl
  obtain⟨b',l',z',e1,c1,c2⟩:=hs
  have h3:=evalP_run (evalP_nilEq he x y b' l' z') w
  refine⟨β,.bool b'.isNone,.bool b'.isNone,σ,w,.refl _,?_,.bool _,hH,hk _ c1 c2⟩
  subst hyv
  simp only[execOp,e1,hy2]
  rw[Sem.run_bind,h3]
  rfl
theorem evalP_nilIf {t:TypeId} {ms:Array (String × TypeId)} (ht:P.underlying t=some (.interface ms)) (x:Operand) (v:Value) (b:Bool) (hv:(v=.nilIface∧b=false)∨((∃u y,v=.iface u y)∧b=true)) :
  evalP P (do eqGuard .neq t x (.const .nilIface) v .nilIface;binOp .neq t v .nilIface)=some (.bool b):=by
 rcases hv with ⟨rfl,rfl⟩ |⟨⟨u,y,rfl⟩,rfl⟩
 ·rw[evalP_bind,show evalP P (eqGuard .neq t x (.const .nilIface) .nilIface .nilIface)=some () by unfold eqGuard;simp;rfl]
  simp only[Option.bind_some]
  show evalP P (do pure (Value.bool (!(←Op.equalIn (9999+1) t .nilIface .nilIface))):Sem Value)=_
  rw[evalP_bind,Op.equalIn,evalP_bind,evalP_underlying P ht]
  rfl
 ·rw[evalP_bind,show evalP P (eqGuard .neq t x (.const .nilIface) (.iface u y) .nilIface)=some () from rfl]
  simp only[Option.bind_some]
  show evalP P (do pure (Value.bool (!(←Op.equalIn (9999+1) t (.iface u y) .nilIface))):Sem Value)=_
  rw[evalP_bind,Op.equalIn,evalP_bind,evalP_underlying P ht]
  rfl
theorem step_nilIf {t u:TypeId} {ms:Array (String × TypeId)} {x y:Operand} {d:Option Nat} {ty:TypeId} {pos:String} {af:Array Edge} {gd:Option (Nat × Bool)} {a:AFrame} {σ:AHeap} {K:AFrame→AHeap→Prop} {n:NR} (hd:∀t,d=some t→t < n.n) (hx:okx x=true) (hy:okx y=true) (he:P.underlying t=some (.interface ms))
  (hyv:y=.const .nilIface) (hk:(ev a x=.nilIface∧K (aput a d (.bool false)) σ)∨((∃u v,ev a x=.iface u v)∧K (aput a d (.bool true)) σ)) :
  AStep P w0.w n ⟨d,.binOp .neq t x y u,ty,pos,af,gd⟩ a σ K :=
 .val hd fun β w act hH hF=>by
  have h1:=hF.ev hx
  have hs:∃b,((act.eval x=.nilIface∧b=false)∨((∃u y,act.eval x=.iface u y)∧b=true))∧K (aput a d (.bool b)) σ:=by
   rcases hk with ⟨e,k⟩ |⟨⟨u,v,e⟩,k⟩
   ·rw[e] at h1
    generalize act.eval x=vx at h1
    cases h1
    exact⟨false,.inl ⟨rfl,rfl⟩,k⟩
   ·rw[e] at h1
    generalize act.eval x=vx at h1
    cases h1
    exact⟨true,.inr ⟨⟨_,_,rfl⟩,rfl⟩,k⟩
  obtain⟨b,e1,k⟩:=hs
  have h3:=evalP_run (evalP_nilIf he x (act.eval x) b e1) w
  refine⟨β,.bool b,.bool b,σ,w,.refl _,?_,.bool _,hH,k⟩
  subst hyv
  simp only[execOp]
  rw[Sem.run_bind,show act.eval (.const .nilIface)=.nilIface from rfl,h3]
  rfl
theorem vcOp_sound {o:Oper} (hpr:n.pr=w0.pr) (hs:statOk P o=true) (hd:∀t,o.dst=some t→t < n.n) (h:vcOp P w0 o a σ K):AStep P w0.w n o a σ K:=by
 obtain⟨d,op,ty,pos,af,gd⟩:=o
 unfold statOk at hs
 rw[Bool.and_eq_true] at hs
 obtain⟨hx,hs⟩:=hs
 dsimp only at hx hs hd
 unfold vcOp vcV at h
 dsimp only at h
 cases op
 case move x=>exact step_move hd (by simpa [Op.operands] using hx) h
 case assign x=>exact step_assign hd (by simpa [Op.operands] using hx) h
 case pick c x y =>
  obtain⟨b,h1,h2⟩:=h
  simp [Op.operands] at hx
  exact step_pick hd hx.1 hx.2.1 hx.2.2 h1 h2
 case binOp op t x y u =>
  simp [Op.operands] at hx
  change (bif nilOp y then nilEq P y op t (ev a x) (fun v=>K (aput a d v) σ) else ∃v,abin P t op (ev a x) (ev a y)=some v∧K (aput a d v) σ) at h
  cases hn:nilOp y with
  | true =>
   rw[hn] at h
   rcases h with ⟨hy,b,l,z,rfl,⟨e,he⟩,hv,hk⟩ |⟨hy,rfl,⟨ms,he⟩,hk⟩
   ·exact step_nilEq hd hx.1 hx.2 he hy hv hk
   ·exact step_nilIf hd hx.1 hx.2 he hy hk
  | false =>
  rw[hn] at h
  obtain⟨v,h1,h2⟩:=h
  obtain⟨s1,s2,s3⟩:=abin_scal P h1
  exact step_binOp hd hx.1 hx.2 s1 s2 (abin_eval P x y h1) s3 h2
 case unOp op t x =>
  obtain⟨v,h1,h2⟩:=h
  simp [Op.operands] at hx
  unfold aun at h1
  split at h1
  ·rename_i hev;cases h1;exact step_unOp hd hx (by rw[hev];rfl) (by rw[hev];rfl) rfl h2
  ·rename_i hev;cases h1;exact step_unOp hd hx (by rw[hev];rfl) (by rw[hev];rfl) rfl h2
  ·cases h1
 case convert s t x =>
  obtain⟨v,h1,h2⟩:=h
  simp [Op.operands] at hx
  unfold aconvH at h1
  split at h1
  ·rename_i h' o' l' z' e3
   split at h1
   ·rename_i e hs' ht'
    split at h1
    ·rename_i he'
     cases hlds:lds σ h' o' l' with
     | none=>rw[hlds] at h1;cases h1
     | some vs =>
      rw[hlds] at h1
      simp only[Option.bind_some] at h1
      cases hm:vs.mapM byteOf with
      | none=>rw[hm] at h1;cases h1
      | some bs =>
       rw[hm] at h1
       simp only[Option.map_some,Option.some.injEq] at h1
       subst h1
       exact step_convBytes hd hx hs' he' ht' e3 hlds hm h2
    ·cases h1
   ·cases h1
  ·unfold aconv at h1
   split at h1
   ·rename_i ds k kk m e1 e2 e3
    cases h1
    refine step_convert hd hx (by rw[e3];rfl) ?_ rfl h2
    rw[e3]
    unfold convert
    rw[evalP_bind,evalP_underlying P e1]
    simp only[Option.bind_some]
    rw[evalP_bind,evalP_underlying P e2]
    rfl
   ·cases h1
 case nilCheck x =>
  obtain⟨⟨p,h1⟩,h2⟩:=h
  exact step_nilCheck hd (by simpa [Op.operands] using hx) h1 h2
 case indexAddr t x y =>
  obtain⟨h',b,i,len,h1,h2,h3,h4⟩:=h
  simp [Op.operands] at hx
  exact step_indexAddr hd hx.1 hx.2 h1 (by simpa using hs) h2 h3 h4
 case load t x =>
  obtain⟨h',i,h1,h2⟩:=h
  simp only[Bool.and_eq_true,typeOk] at hs
  obtain⟨ds,hds⟩:=Option.isSome_iff_exists.1 hs.1
  have hxx:okx x=true:=by simpa [Op.operands] using hx
  cases ha:aisAgg P t with
  | true =>
   rw[ha] at h2 hs
   simp only[if_true] at h2
   obtain⟨vs,h3,h4⟩:=h2
   exact step_loadAgg hd hxx hds ha (by simpa using hs.2) h1 h3 h4
  | false =>
   rw[ha] at h2
   simp only[Bool.false_eq_true,if_false] at h2
   obtain⟨v,h3,h4⟩:=h2
   exact step_load hd hxx hds ha h1 h3 h4
 case store t x y =>
  obtain⟨h',i,h1,h2,h3,σ',h4,h5⟩:=h
  simp [Op.operands] at hx
  exact step_store hd hx.1 hx.2 h1 h2 h3 h4 h5
 case alloc t =>
  obtain⟨z,h1,h2⟩:=h
  simp only[zeroOk,h1] at hs
  exact step_alloc hd h1 hs h2
 case box t x=>exact step_box hd (by simpa [Op.operands] using hx) h
 case build t ps =>
  obtain⟨z,out,h1,h2,h3⟩:=h
  simp only[zeroOk,h1,Bool.and_eq_true] at hs
  have hp:ps.toList.all (fun p=>okx p.2)=true:=by
   simp only[Op.operands] at hx;rw[List.all_eq_true] at hx ⊢;intro p hp;exact hx _ (by simp;exact⟨p.1,by simpa using hp⟩)
  have:=step_build (P:=P) (w0:=w0.w) (ty:=ty) (pos:=pos) (af:=af) (gd:=gd) hd hp h1 hs.1 hs.2 h2 h3
  simpa using this
 case buildSlice t len ps =>
  obtain⟨e,z,out,h1,h2,h3,h4,h5⟩:=h
  simp only[h1,zeroOk,h2,Bool.and_eq_true,decide_eq_true_eq] at hs
  have hp:ps.toList.all (fun p=>okx p.2)=true:=by
   simp only[Op.operands] at hx;rw[List.all_eq_true] at hx ⊢;intro p hp;exact hx _ (by simp;exact⟨p.1,by simpa using hp⟩)
  have:=step_buildSlice (P:=P) (w0:=w0.w) (ty:=ty) (pos:=pos) (af:=af) (gd:=gd) hd hp h1 h2 hs.1.1 hs.1.2 hs.2 h3 h4 h5
  simpa using this
 case slice t x lo hi mx =>
  have hz:0 < aesz P t∨P.underlying t=some .string:=by
   rw[Bool.or_eq_true] at hs
   rcases hs with hs|hs
   ·exact .inl (by simpa using hs)
   ·right;split at hs
    ·assumption
    ·cases hs
  have hxx:okx x=true:=by simp [Op.operands] at hx;exact hx.1
  have hll:lo.all okx=true:=by
   cases lo with
   | none=>rfl
   | some l=>simp [Op.operands] at hx ⊢;exact hx.2.1
  have hhh:hi.all okx=true:=by
   cases hi with
   | none=>rfl
   | some l=>simp [Op.operands] at hx ⊢;first|exact hx.2.2.1|exact hx.2.2
  cases mx with
  | some m =>
   have hmm:okx m=true:=by simp [Op.operands] at hx;exact hx.2.2.2
   exact step_slice3 hd hxx hll hhh hmm hz h
  | none =>
   obtain⟨p,v,h1,h2,h3⟩:=h
   rcases h2 with h2|h2
   ·exact step_sliceAll hd hxx hll hhh hz h1 h2 h3
   ·exact step_sliceBey hd hxx hll hhh hz h1 h2 h3
 case makeSlice t x y =>
  obtain⟨kx,l,ky,c,e,i,z,h1,h2,h3,h4,h5,h6,h7,h8,h9,h10⟩:=h
  simp [Op.operands] at hx
  obtain⟨e1,e2,e3⟩:=elemOk_spec hs h1 h2 h3
  exact step_makeSlice hd hx.1 hx.2 h1 h2 h3 e3 h4 h5 h6 h7 ⟨h8,h9⟩ h10
 case fieldAddr s x f =>
  obtain⟨fs,fl,h',b,h1,h2,h3,h4⟩:=h
  simp only[h1,h2,decide_eq_true_eq] at hs
  exact step_fieldAddr hd (by simpa [Op.operands] using hx) h1 h2 hs h3 h4
 case field s x f =>
  obtain⟨fs,fl,cs,v,h1,h2,h3,h4,h5⟩:=h
  simp only[h1,h2,Bool.and_eq_true,decide_eq_true_eq] at hs
  obtain⟨ds,hds⟩:=Option.isSome_iff_exists.1 hs.2
  exact step_field hd (by simpa [Op.operands] using hx) h1 h2 hds hs.1 h3 h4 h5
 case extract x k =>
  obtain⟨vs,v,h1,h2,h3⟩:=h
  exact step_extract hd (by simpa [Op.operands] using hx) h1 h2 h3
 case index t x y =>
  obtain⟨ht,s,k,i,h1,h2,h3,h4,h5⟩:=h
  simp [Op.operands] at hx
  exact step_indexStr hd hx.1 hx.2 ht h1 h2 h3 h4 h5
 case makeFunc fn first cs =>
  obtain⟨rfl,h2⟩:=h
  have hp:cs.toList.all okx=true:=by simpa [Op.operands] using hx
  have:=step_makeFunc (P:=P) (w0:=w0.w) (ty:=ty) (pos:=pos) (af:=af) (gd:=gd) hd hp h2
  simpa using this
 case call c =>
  obtain⟨callee,args,types⟩:=c
  dsimp only at h hs
  split at h
  ·rename_i x t e2 e3
   obtain⟨m,h1,h2⟩:=h
   have ea:args=#[x]:=by apply Array.ext';simpa using e2
   have et:types=#[t]:=by apply Array.ext';simpa using e3
   subst ea;subst et
   exact step_len hd (by simpa [Op.operands,Call.operands] using hx) h1 h2
  ·obtain⟨v,h1,h2⟩:=h
   obtain⟨s1,s2,s3⟩:=amin_eval (P:=P) h1 types.toList.toArray ty
   have:=step_min (P:=P) (w0:=w0.w) (ty:=ty) (pos:=pos) (af:=af) (gd:=gd) (xs:=args.toList) (ts:=types.toList) hd (by simpa [Op.operands,Call.operands] using hx) s1 s2 s3 h2
   simpa using this
  ·obtain⟨v,h1,h2⟩:=h
   obtain⟨s1,s2,s3⟩:=amax_eval (P:=P) h1 types.toList.toArray ty
   have:=step_max (P:=P) (w0:=w0.w) (ty:=ty) (pos:=pos) (af:=af) (gd:=gd) (xs:=args.toList) (ts:=types.toList) hd (by simpa [Op.operands,Call.operands] using hx) s1 s2 s3 h2
   simpa using this
  ·rename_i x y t u e2 e3
   obtain⟨e,e2',i,z,ys,h1,h2,h3,h4,h5,h6⟩:=h
   have ea:args=#[x,y]:=by apply Array.ext';simpa using e2
   have et:types=#[t,u]:=by apply Array.ext';simpa using e3
   subst ea;subst et
   simp at hs
   obtain⟨q1,q2,q3⟩:=elemOk_spec hs h1 h3 h4
   simp [Op.operands,Call.operands] at hx
   rcases h6 with ⟨h7,h8,h9,h10⟩ |⟨h',b,len,ob,h7,h8,h9,h10,h11,h12,h13,h14⟩ |⟨h',b,len,ob,h7,h8,h9,h10,h11,h12,h13,h14,h15⟩
   ·exact step_append_nil hd hx.1 hx.2 h1 h2 h3 h4 q2 q1 h7 h5 ⟨h8,h9⟩ h10
   ·exact step_append hd hx.1 hx.2 h1 h2 h3 h4 q2 q1 h7 h8 h9 h10 h11 h5 ⟨h12,h13⟩ h14
   ·exact step_append_both hd hx.1 hx.2 h1 h2 h3 h4 q2 q1 h7 h8 h9 h10 h11 h5 ⟨h12,h13⟩ h14 h15
  ·rename_i x y t u e2 e3
   obtain⟨e,i,ys,h',b,len,σ',h1,h2,h3,h4,h5,h6,h7⟩:=h
   have ea:args=#[x,y]:=by apply Array.ext';simpa using e2
   have et:types=#[t,u]:=by apply Array.ext';simpa using e3
   subst ea;subst et
   simp at hs
   have hz:∃z,i.zero=some z:=by
    unfold elemOk at hs
    simp only[h1,h2] at hs
    split at hs
    ·rename_i z hz;exact⟨z,hz⟩
    ·cases hs
   obtain⟨z,hz⟩:=hz
   obtain⟨q1,q2,q3⟩:=elemOk_spec hs h1 h2 hz
   simp [Op.operands,Call.operands] at hx
   exact step_copy hd hx.1 hx.2 h1 h2 q1 h3 h4 h5 h6 h7
  ·rename_i x t e2 e3
   obtain⟨e,i,z,h',b,len,σ',h1,h2,h3,h4,h5,h6⟩:=h
   have ea:args=#[x]:=by apply Array.ext';simpa using e2
   have et:types=#[t]:=by apply Array.ext';simpa using e3
   subst ea;subst et
   simp at hs
   obtain⟨q1,q2,q3⟩:=elemOk_spec hs h1 h2 h3
   exact step_clear hd (by simpa [Op.operands,Call.operands] using hx) h1 h2 h3 q3 h4 (h5.imp id fun h=>⟨h.1,q2,h.2⟩) h6
  ·simp [Op.operands,Call.operands] at hx
   rcases h with ⟨g,caps,h1,h2⟩ |⟨l,h1,h2⟩
   ·have:=step_call (P:=P) (w0:=w0.w) (ty:=ty) (pos:=pos) (af:=af) (gd:=gd) (xs:=args.toList) (ts:=types) hd hx.1 (by simpa using hx.2) h1 h2
    simpa using this
   ·rw[←hpr] at h2
    have:=step_yield (P:=P) (w0:=w0.w) (ty:=ty) (pos:=pos) (af:=af) (gd:=gd) (xs:=args.toList) (ts:=types) hd hx.1 (by simpa using hx.2) h1 h2
    simpa using this
  ·exact h.elim
 all_goals exact h.elim
end Go.Abs
namespace Go.Abs
open Go.RowKit
variable {P:Program} {w0:Base} {n:NR}
def aOp (P:Program) (w0:Base) (ops:Array Oper) (i:Nat) (K:AK) (a:AFrame) (σ:AHeap):Prop :=
 match ops[i]? with
 | none=>K a σ
 | some o=>(Region.wanted o (gval ops.toList a)=true→vcOp P w0 o a σ K)∧(Region.wanted o (gval ops.toList a)=false→K (aput a o.dst undef) σ)
theorem vcV_mono {o:Oper} {ρ:Operand→Value} {σ:AHeap} {K K':Value→AHeap→Prop} (h:∀v σ',K v σ'→K' v σ') (hh:vcV P w0 o ρ σ K):vcV P w0 o ρ σ K':=by
 obtain⟨d,op,ty,pos,af,gd⟩:=o
 unfold vcV at *
 dsimp only at *
 cases op
 case move=>exact h _ _ hh
 case assign=>exact h _ _ hh
 case pick=>obtain⟨b,h1,h2⟩:=hh;exact⟨b,h1,h _ _ h2⟩
 case binOp op t x y u =>
  cases hn:nilOp y with
  | true =>
   simp only[hn] at hh ⊢
   rcases hh with ⟨e0,b,l,z,e1,e2,e3,hk⟩ |⟨e0,e1,e2,hk⟩
   ·exact .inl ⟨e0,b,l,z,e1,e2,e3,fun c c1 c2=>h _ _ (hk c c1 c2)⟩
   ·exact .inr ⟨e0,e1,e2,hk.imp (fun⟨q1,q2⟩=>⟨q1,h _ _ q2⟩) fun⟨q1,q2⟩=>⟨q1,h _ _ q2⟩⟩
  | false =>
   simp only[hn] at hh ⊢
   obtain⟨b,h1,h2⟩:=hh;exact⟨b,h1,h _ _ h2⟩
 case unOp=>obtain⟨b,h1,h2⟩:=hh;exact⟨b,h1,h _ _ h2⟩
 case convert=>obtain⟨b,h1,h2⟩:=hh;exact⟨b,h1,h _ _ h2⟩
 case nilCheck=>exact⟨hh.1,h _ _ hh.2⟩
 case indexAddr=>obtain⟨a1,a2,a3,a4,h1,h2,h3,h4⟩:=hh;exact⟨a1,a2,a3,a4,h1,h2,h3,h _ _ h4⟩
 case load =>
  obtain⟨a1,a2,h1,h2⟩:=hh
  refine⟨a1,a2,h1,?_⟩
  split at h2
  ·rename_i hc;rw[if_pos hc];obtain⟨vs,h3,h4⟩:=h2;exact⟨vs,h3,h _ _ h4⟩
  ·rename_i hc;rw[if_neg hc];obtain⟨vs,h3,h4⟩:=h2;exact⟨vs,h3,h _ _ h4⟩
 case store=>obtain⟨a1,a2,h1,h2,h3,σ',h4,h5⟩:=hh;exact⟨a1,a2,h1,h2,h3,σ',h4,h _ _ h5⟩
 case alloc=>obtain⟨z,h1,h2⟩:=hh;exact⟨z,h1,fun x hx=>h _ _ (h2 x hx)⟩
 case box=>exact fun x hx=>h _ _ (hh x hx)
 case build=>obtain⟨z,out,h1,h2,h3⟩:=hh;exact⟨z,out,h1,h2,h _ _ h3⟩
 case buildSlice=>obtain⟨e,z,out,h1,h2,h3,h4,h5⟩:=hh;exact⟨e,z,out,h1,h2,h3,h4,fun x hx=>h _ _ (h5 x hx)⟩
 case slice t x lo hi mx =>
  cases mx with
  | none=>obtain⟨p,v,h1,h2,h3⟩:=hh;exact⟨p,v,h1,h2,h _ _ h3⟩
  | some m =>
   obtain⟨e,kl,ku,km,l,u,m',h1,h2,h3,h4,h5,h6,h7⟩:=hh
   refine⟨e,kl,ku,km,l,u,m',h1,h2,h3,h4,h5,h6,?_⟩
   rcases h7 with ⟨c1,c2,c3⟩ |⟨x1,x2,x3,x4,c1,c2,c3,c4⟩ |⟨x1,x2,x3,x4,x5,c1,c2,c3,c5,c6,c7,c4⟩ |⟨x1,x2,x3,x4,c1,c2,c3,c4,c5⟩
   ·exact .inl ⟨c1,c2,h _ _ c3⟩
   ·exact .inr (.inl ⟨x1,x2,x3,x4,c1,c2,c3,fun g hg=>h _ _ (c4 g hg)⟩)
   ·exact .inr (.inr (.inl ⟨x1,x2,x3,x4,x5,c1,c2,c3,c5,c6,c7,fun g hg=>h _ _ (c4 g hg)⟩))
   ·exact .inr (.inr (.inr ⟨x1,x2,x3,x4,c1,c2,c3,c4,h _ _ c5⟩))
 case makeSlice=>obtain⟨a1,a2,a3,a4,a5,a6,a7,h1,h2,h3,h4,h5,h6,h7,h8,h9,h10⟩:=hh;exact⟨a1,a2,a3,a4,a5,a6,a7,h1,h2,h3,h4,h5,h6,h7,h8,h9,fun x hx=>h _ _ (h10 x hx)⟩
 case fieldAddr=>obtain⟨a1,a2,a3,a4,h1,h2,h3,h4⟩:=hh;exact⟨a1,a2,a3,a4,h1,h2,h3,h _ _ h4⟩
 case field=>obtain⟨a1,a2,a3,a4,h1,h2,h3,h4,h5⟩:=hh;exact⟨a1,a2,a3,a4,h1,h2,h3,h4,h _ _ h5⟩
 case extract=>obtain⟨a1,a2,h1,h2,h3⟩:=hh;exact⟨a1,a2,h1,h2,h _ _ h3⟩
 case index=>obtain⟨h0,a1,a2,a3,h1,h2,h3,h4,h5⟩:=hh;exact⟨h0,a1,a2,a3,h1,h2,h3,h4,h _ _ h5⟩
 case makeFunc=>exact⟨hh.1,h _ _ hh.2⟩
 case call c =>
  obtain⟨callee,args,types⟩:=c
  dsimp only at hh ⊢
  split at hh
  ·obtain⟨m,h1,h2⟩:=hh;exact⟨m,h1,h _ _ h2⟩
  ·obtain⟨m,h1,h2⟩:=hh;exact⟨m,h1,h _ _ h2⟩
  ·obtain⟨m,h1,h2⟩:=hh;exact⟨m,h1,h _ _ h2⟩
  ·obtain⟨e,e2,i,z,ys,h1,h2,h3,h4,h5,h6⟩:=hh
   refine⟨e,e2,i,z,ys,h1,h2,h3,h4,h5,?_⟩
   rcases h6 with ⟨h7,h8,h9,h10⟩ |⟨h',b,len,ob,h7,h8,h9,h10,h11,h12,h13,h14⟩ |⟨h',b,len,ob,h7,h8,h9,h10,h11,h12,h13,h14,h15⟩
   ·exact .inl ⟨h7,h8,h9,fun x hx=>h _ _ (h10 x hx)⟩
   ·exact .inr (.inl ⟨h',b,len,ob,h7,h8,h9,h10,h11,h12,h13,fun x hx=>h _ _ (h14 x hx)⟩)
   ·exact .inr (.inr ⟨h',b,len,ob,h7,h8,h9,h10,h11,h12,h13,h _ _ h14,fun x hx=>h _ _ (h15 x hx)⟩)
  ·obtain⟨e,i,ys,h',b,len,σ',h1,h2,h3,h4,h5,h6,h7⟩:=hh
   exact⟨e,i,ys,h',b,len,σ',h1,h2,h3,h4,h5,h6,h _ _ h7⟩
  ·obtain⟨e,i,z,h',b,len,σ',h1,h2,h3,h4,h5,h6⟩:=hh
   exact⟨e,i,z,h',b,len,σ',h1,h2,h3,h4,h5,h _ _ h6⟩
  ·rcases hh with ⟨g,caps,h1,h2⟩ |⟨l,h1,h2⟩
   ·exact .inl ⟨g,caps,h1,h2.mono h⟩
   ·exact .inr ⟨l,h1,h2.mono h⟩
  ·exact hh.elim
 all_goals exact hh.elim
theorem vcV_congr {o:Oper} {ρ ρ':Operand→Value} {σ:AHeap} {K:Value→AHeap→Prop} (h:∀x∈o.op.operands,ρ x=ρ' x) (hh:vcV P w0 o ρ σ K):vcV P w0 o ρ' σ K:=by
 obtain⟨d,op,ty,pos,af,gd⟩:=o
 have pairs:∀ps:Array (Nat × Operand),(∀x∈(ps.toList.map (·.2)).toArray,ρ x=ρ' x) →
   (ps.toList.map fun p=>(p.1,ρ p.2))=(ps.toList.map fun p=>(p.1,ρ' p.2)):=fun ps hp =>
  List.map_congr_left fun p hm=>by
   have:=hp p.2 (by simp only[List.mem_toArray,List.mem_map];exact⟨p,hm,rfl⟩)
   simp only[this]
 unfold vcV at *
 dsimp only at *
 cases op<;>simp only[Op.operands] at h
 case build t ps=>have e:=pairs ps h;dsimp only at hh ⊢;rw[←e];exact hh
 case buildSlice t k ps=>have e:=pairs ps h;dsimp only at hh ⊢;rw[←e];exact hh
 case slice t x lo hi mx =>
  have h0:ρ x=ρ' x:=h x (by simp)
  have h1:lo.map ρ=lo.map ρ':=by cases lo with|none=>rfl|some l=>simp [h l (by simp)]
  have h2:hi.map ρ=hi.map ρ':=by cases hi with|none=>rfl|some l=>simp [h l (by simp)]
  cases mx with
  | none=>dsimp only at hh ⊢;rw[←h0,←h1,←h2];exact hh
  | some m=>have h3:ρ m=ρ' m:=h m (by simp);dsimp only at hh ⊢;rw[←h0,←h1,←h2,←h3];exact hh
 case makeFunc fn first cs =>
  have:cs.toList.map ρ=cs.toList.map ρ':=List.map_congr_left fun x hx=>h x (by simp at hx;simp [hx])
  dsimp only at hh ⊢;rw[←this];exact hh
 case call c =>
  obtain⟨callee,args,types⟩:=c
  have hargs:args.toList.map ρ=args.toList.map ρ':=List.map_congr_left fun x hx=>h x (by simp at hx;simp [Call.operands,hx])
  dsimp only at hh ⊢
  split at hh
  ·rename_i e1 _
   rw[e1] at hargs
   simp only[List.map_cons,List.map_nil,List.cons.injEq,and_true] at hargs
   rw[←hargs];exact hh
  ·rw[←hargs];exact hh
  ·rw[←hargs];exact hh
  ·rename_i e1 _
   rw[e1] at hargs
   simp only[List.map_cons,List.map_nil,List.cons.injEq,and_true] at hargs
   rw[←hargs.1,←hargs.2];exact hh
  ·rename_i e1 _
   rw[e1] at hargs
   simp only[List.map_cons,List.map_nil,List.cons.injEq,and_true] at hargs
   rw[←hargs.1,←hargs.2];exact hh
  ·rename_i e1 _
   rw[e1] at hargs
   simp only[List.map_cons,List.map_nil,List.cons.injEq,and_true] at hargs
   rw[←hargs];exact hh
  ·rename_i f
   have hf:ρ f=ρ' f:=h f (by simp [Call.operands])
   rw[←hargs,←hf];exact hh
  ·exact hh.elim
 case move x=>have h0:ρ x=ρ' x:=h x (by simp);dsimp only at hh ⊢;rw[←h0];exact hh
 case assign x=>have h0:ρ x=ρ' x:=h x (by simp);dsimp only at hh ⊢;rw[←h0];exact hh
 case unOp op t x=>have h0:ρ x=ρ' x:=h x (by simp);dsimp only at hh ⊢;rw[←h0];exact hh
 case convert s t x=>have h0:ρ x=ρ' x:=h x (by simp);dsimp only at hh ⊢;rw[←h0];exact hh
 case nilCheck x=>have h0:ρ x=ρ' x:=h x (by simp);dsimp only at hh ⊢;rw[←h0];exact hh
 case load t x=>have h0:ρ x=ρ' x:=h x (by simp);dsimp only at hh ⊢;rw[←h0];exact hh
 case box t x=>have h0:ρ x=ρ' x:=h x (by simp);dsimp only at hh ⊢;rw[←h0];exact hh
 case fieldAddr s x f=>have h0:ρ x=ρ' x:=h x (by simp);dsimp only at hh ⊢;rw[←h0];exact hh
 case field s x f=>have h0:ρ x=ρ' x:=h x (by simp);dsimp only at hh ⊢;rw[←h0];exact hh
 case extract x k=>have h0:ρ x=ρ' x:=h x (by simp);dsimp only at hh ⊢;rw[←h0];exact hh
 case binOp op t x y u=>have h0:ρ x=ρ' x:=h x (by simp);have h1:ρ y=ρ' y:=h y (by simp);dsimp only at hh ⊢;rw[←h0,←h1];exact hh
 case indexAddr t x y=>have h0:ρ x=ρ' x:=h x (by simp);have h1:ρ y=ρ' y:=h y (by simp);dsimp only at hh ⊢;rw[←h0,←h1];exact hh
 case store t x y=>have h0:ρ x=ρ' x:=h x (by simp);have h1:ρ y=ρ' y:=h y (by simp);dsimp only at hh ⊢;rw[←h0,←h1];exact hh
 case makeSlice t x y=>have h0:ρ x=ρ' x:=h x (by simp);have h1:ρ y=ρ' y:=h y (by simp);dsimp only at hh ⊢;rw[←h0,←h1];exact hh
 case index t x y=>have h0:ρ x=ρ' x:=h x (by simp);have h1:ρ y=ρ' y:=h y (by simp);dsimp only at hh ⊢;rw[←h0,←h1];exact hh
 case pick c x y=>have h0:ρ x=ρ' x:=h x (by simp);have h1:ρ y=ρ' y:=h y (by simp);have h2:ρ c=ρ' c:=h c (by simp);dsimp only at hh ⊢;rw[←h0,←h1,←h2];exact hh
 case alloc t=>exact hh
 all_goals exact hh.elim
theorem vcOp_mono {o:Oper} {a:AFrame} {σ:AHeap} {K K':AK} (h:∀a σ,K a σ→K' a σ) (hh:vcOp P w0 o a σ K):vcOp P w0 o a σ K' :=
 vcV_mono (fun _ _=>h _ _) hh
theorem aOp_mono {ops:Array Oper} {i:Nat} {a:AFrame} {σ:AHeap} {K K':AK} (h:∀a σ,K a σ→K' a σ) (hh:aOp P w0 ops i K a σ):aOp P w0 ops i K' a σ:=by
 unfold aOp at *
 split
 ·exact h _ _ (by simpa [*] using hh)
 ·rename_i o ho
  simp only[ho] at hh
  exact⟨fun hw=>vcOp_mono h (hh.1 hw),fun hw=>h _ _ (hh.2 hw)⟩
def hangs (md:Region.Mode) (o:Oper) (q:Nat):Bool:=o.after.any fun e=>Region.binds md e && e.on == q
def Keep (md:Region.Mode) (ops:Array Oper) (Sf:Nat→AHeap→Prop) (i:Nat) (σ σ':AHeap):Prop :=
 σ'=σ∨∀q,q≠i→(∀o,ops[i]?=some o→hangs md o q=false)→Sf q σ'
def aAny (P:Program) (w0:Base) (md:Region.Mode) (ops:Array Oper) (Sf:Nat→AHeap→Prop) (K:AK):Nat→Array Bool→AFrame→AHeap→Prop
 | 0,listed,a,σ=>Region.ready md ops listed=[]∧K a σ
 | fuel+1,listed,a,σ =>
  (Region.ready md ops listed=[]→K a σ) ∧
  ∀i∈Region.ready md ops listed,aOp P w0 ops i (fun a' σ'=>Keep md ops Sf i σ σ'∧aAny P w0 md ops Sf K fuel (listed.setIfInBounds i true) a' σ') a σ
def goodOps (P:Program) (n:Nat) (ops:Array Oper):Bool:=ops.toList.all fun o=>goodOp n ops.toList o && statOk P o
theorem goodOps_spec {ops:Array Oper} (h:goodOps P n.n ops=true) {i:Nat} {o:Oper} (ho:ops[i]?=some o):goodOp n.n ops.toList o=true∧statOk P o=true:=by
 unfold goodOps at h
 rw[List.all_eq_true] at h
 have:=h o (List.mem_of_getElem? (by simpa using ho))
 rwa [Bool.and_eq_true] at this
theorem goodOp_dst {ops:List Oper} {o:Oper} (h:goodOp n.n ops o=true):∀t,o.dst=some t→t < n.n:=by
 intro t ht;unfold goodOp at h;rw[Bool.and_eq_true,ht] at h;simpa using h.1
theorem wanted_rel {ops:Array Oper} {o:Oper} {β:Beta} {a:AFrame} {act:Act} (h:goodOp n.n ops.toList o=true) (hF:RelF n β a act):Region.wanted o (yielded ops act.tmps)=Region.wanted o (gval ops.toList a):=by
 unfold Region.wanted
 cases hg:o.guard with
 | none=>rfl
 | some jw =>
  obtain⟨j,want⟩:=jw
  have hj:∀t,gslot ops.toList j=some t→t < n.n:=by
   intro t ht;unfold goodOp at h;rw[Bool.and_eq_true,hg] at h;have:=h.2;simp only[ht] at this;simpa using this
  simp only[gval_rel hF ops j hj]
theorem aOp_sound {ops:Array Oper} (hpr:n.pr=w0.pr) (hg:goodOps P n.n ops=true) {i:Nat} {a:AFrame} {σ:AHeap} {K:AK} (h:aOp P w0 ops i K a σ) {β:Beta} {w:World} {act:Act} (hH:RelH w0.w n.pr β σ w) (hF:RelF n β a act)
  {Kc:Act→World→Prop} {Q:Exit→Act→World→Prop} (hK:∀β' a' σ' act' w',Le β β'→RelH w0.w n.pr β' σ' w'→RelF n β' a' act'→K a' σ'→Kc act' w'):wpOpIn (fz n.r) 0 P ops Q i Kc act w:=by
 unfold aOp at h
 unfold wpOpIn
 cases ho:ops[i]? with
 | none=>rw[ho] at h;exact hK β a σ act w (.refl _) hH hF h
 | some o =>
  rw[ho] at h
  obtain⟨h1,h2⟩:=h
  obtain⟨g1,g2⟩:=goodOps_spec hg ho
  dsimp only
  rw[wanted_rel g1 hF]
  split
  ·rename_i hw
   exact (vcOp_sound hpr g2 (goodOp_dst g1) (h1 hw) β w act hH hF _ _ hK)
  ·rename_i hw
   exact⟨fun _ _=>trivial,hK β _ σ _ w (.refl _) hH (hF.put (goodOp_dst g1) (RelV.undef _)) (h2 (by simpa using hw))⟩
theorem aAny_sound {md:Region.Mode} {ops:Array Oper} (hpr:n.pr=w0.pr) (hg:goodOps P n.n ops=true) {S:Nat→AHeap→Prop} {K:AK} {Q:Exit→Act→World→Prop} {β0:Beta} (hK:∀β' a' σ' act' w',Le β0 β'→RelH w0.w n.pr β' σ' w'→RelF n β' a' act'→K a' σ'→Q .normal act' w') :
  ∀(fuel:Nat) (listed:Array Bool) (a:AFrame) (σ:AHeap) (β:Beta) (w:World) (act:Act),aAny P w0 md ops S K fuel listed a σ→Le β0 β→RelH w0.w n.pr β σ w→RelF n β a act→wpAnyIn (fz n.r) 0 P md ops Q fuel listed act w
 | 0,_,a,σ,β,w,act,h,hl,hH,hF=>⟨h.1,hK β a σ act w hl hH hF h.2⟩
 | fuel+1,_,a,σ,β,w,act,h,hl,hH,hF=>⟨fun h0=>hK β a σ act w hl hH hF (h.1 h0),fun i hi=>aOp_sound hpr hg (h.2 i hi) hH hF
   (fun β' a' σ' act' w' c1 c2 c3 c4=>aAny_sound hpr hg hK fuel _ a' σ' β' w' act' c4.2 (hl.trans c1) c2 c3)⟩
def AYields (P:Program) (w0:Base) (ops:Array Oper) (S:AHeap→Prop) (o:Oper) (v:Value) (a:AFrame):Prop :=
 (Region.wanted o (gval ops.toList a)=true∧∀σ,S σ→vcV P w0 o (ev a) σ fun v' σ'=>v'=v∧σ'=σ) ∨
 (Region.wanted o (gval ops.toList a)=false∧v=undef)
theorem ev_aput {a:AFrame} {dst:Option Tmp} {v:Value} {x:Operand} (h:∀d,dst=some d→x≠.tmp d):ev (aput a dst v) x=ev a x:=by
 cases dst with
 | none=>rfl
 | some d =>
  cases x with
  | tmp t =>
   have hne:t≠d:=fun e=>h d rfl (e ▸ rfl)
   simp [ev,aput,fset,hne]
  | _=>rfl
theorem aput_comm (a:AFrame) {x y:Option Tmp} (v u:Value) (h:∀d,x=some d→y≠some d):aput (aput a x v) y u=aput (aput a y u) x v:=by
 cases x with
 | none=>rfl
 | some d =>
  cases y with
  | none=>rfl
  | some e =>
   have hne:d≠e:=fun he=>h d rfl (he ▸ rfl)
   funext k
   simp only[aput,fset]
   by_cases h1:k=e
   ·subst h1;simp;intro he;exact absurd he.symm hne
   ·by_cases h2:k=d
    ·subst h2;simp;intro he;exact absurd he hne
    ·simp [h1,h2]
theorem wanted_aput {ops:Array Oper} (o:Oper) (a:AFrame) (dst:Option Tmp) (v:Value) (h:∀d,dst=some d→d ∉ o.looksAt ops) :
  Region.wanted o (gval ops.toList (aput a dst v))=Region.wanted o (gval ops.toList a):=by
 cases dst with
 | none=>rfl
 | some d =>
  unfold Region.wanted
  cases hg:o.guard with
  | none=>rfl
  | some gw =>
   obtain⟨g,want⟩:=gw
   have hy:gval ops.toList (aput a (some d) v) g=gval ops.toList a g:=by
    unfold gval
    cases ht:gslot ops.toList g with
    | none=>rfl
    | some t =>
     have ht':(ops[g]?).bind (·.dst)=some t:=by rw[←ht];simp [gslot]
     have hne:t≠d:=fun e=>h d rfl (by subst e;simp [Oper.looksAt,hg,ht'])
     simp [aput,fset,hne]
   simp only[hy]
theorem operands_aput {ops:Array Oper} (o:Oper) (a:AFrame) (dst:Option Tmp) (v:Value) (h:∀d,dst=some d→d ∉ o.looksAt ops):∀x∈o.op.operands,ev (aput a dst v) x=ev a x :=
 fun x hx=>ev_aput fun d hd hxd=>h d hd (by
  subst hxd
  exact List.mem_append_left _ (List.mem_filterMap.2 ⟨.tmp d,by simpa using hx,rfl⟩))
theorem AYields.keep {ops:Array Oper} {S:AHeap→Prop} {o:Oper} {v:Value} {a:AFrame} (hy:AYields P w0 ops S o v a) {dst:Option Tmp} {u:Value} (h:∀d,dst=some d→d ∉ o.looksAt ops) :
  AYields P w0 ops S o v (aput a dst u):=by
 unfold AYields at *
 rw[wanted_aput o a dst u h]
 exact hy.imp (fun h1=>⟨h1.1,fun σ hσ=>vcV_congr (fun x hx=>(operands_aput o a dst u h x hx).symm) (h1.2 σ hσ)⟩) id
theorem AYields.aOp {ops:Array Oper} {S:AHeap→Prop} {i:Nat} {o:Oper} {v:Value} {a:AFrame} {σ:AHeap} (hi:ops[i]?=some o) (hy:AYields P w0 ops S o v a) (hσ:S σ) {K:AK} (h:K (aput a o.dst v) σ):aOp P w0 ops i K a σ:=by
 unfold Abs.aOp
 simp only[hi]
 rcases hy with ⟨hw,hv⟩ |⟨hw,rfl⟩
 ·exact⟨fun _=>vcV_mono (fun v' σ' hh=>by obtain⟨rfl,rfl⟩:=hh;exact h) (hv σ hσ),fun h0=>by rw[hw] at h0;cases h0⟩
 ·exact⟨fun h0=>(by rw[hw] at h0;cases h0),fun _=>h⟩
theorem aOp_put {ops:Array Oper} {S:AHeap→Prop} {j:Nat} {oi oj:Oper} {v:Value} (hj:ops[j]?=some oj) (hap:oi.apart ops oj=true) {K:AK} {a:AFrame} {σ:AHeap}
  (hy:AYields P w0 ops S oi v a) (h:aOp P w0 ops j K (aput a oi.dst v) σ):aOp P w0 ops j (fun a' σ'=>AYields P w0 ops S oi v a'∧K (aput a' oi.dst v) σ') a σ:=by
 obtain⟨h1,h2,h3⟩:=Oper.apart_spec hap
 unfold aOp at *
 simp only[hj] at *
 rw[wanted_aput oj a oi.dst v h1] at h
 refine⟨fun hw=>?_,fun hw=>?_⟩
 ·have:=vcV_congr (operands_aput oj a oi.dst v h1) (h.1 hw)
  refine vcV_mono (fun v' σ' hk=>⟨hy.keep h3,?_⟩) this
  rw[←aput_comm a v v' h2];exact hk
 ·refine⟨hy.keep h3,?_⟩
  rw[←aput_comm a v undef h2];exact h.2 hw
def Known (Sf:Nat→AHeap→Prop) (listed:Array Bool) (σ:AHeap):Prop:=∀q,listed.getD q true=false→Sf q σ
theorem Known.next {md:Region.Mode} {ops:Array Oper} {Sf:Nat→AHeap→Prop} {listed:Array Bool} {j:Nat} {σ σ':AHeap} (hS:Known Sf listed σ) (hj:j∈Region.ready md ops listed) (hk:Keep md ops Sf j σ σ') :
  Known Sf (listed.setIfInBounds j true) σ':=by
 obtain⟨hjun,oj,hoj,hall⟩:=mem_ready.1 hj
 intro q hq
 have hne:q≠j:=by
  rintro rfl
  have hlt:q < listed.size:=by
   rcases Nat.lt_or_ge q listed.size with h|h
   ·exact h
   ·simp [Array.getElem?_eq_none h] at hjun
  simp [hlt] at hq
 rw[getD_set_ne true hne.symm] at hq
 rcases hk with rfl|hk
 ·exact hS q hq
 ·refine hk q hne fun o ho=>?_
  rw[hoj] at ho;cases ho
  cases hh:hangs md oj q with
  | false=>rfl
  | true =>
   unfold hangs at hh
   obtain⟨e,he,hb⟩:=Array.any_eq_true'.1 hh
   simp only[Bool.and_eq_true,beq_iff_eq] at hb
   have h1:=hall e he hb.1
   rw[hb.2] at h1
   rcases Nat.lt_or_ge q listed.size with h'|h'
   ·simp [h'] at h1 hq;rw[h1] at hq;cases hq
   ·simp [Array.getElem?_eq_none h'] at h1
theorem aAny_first {md:Region.Mode} {ops:Array Oper} {Sf:Nat→AHeap→Prop} {K:AK} {i:Nat} {oi:Oper} {v:Value} (hi:ops[i]?=some oi) :
  ∀(fuel:Nat) (listed:Array Bool) (a:AFrame) (σ:AHeap),Known Sf listed σ →
   (∀j oj,ops[j]?=some oj→j≠i→listed.getD j true=false→(∀e∈oj.after,Region.binds md e=true→e.on≠i)→oi.apart ops oj=true) →
   i∈Region.ready md ops listed→AYields P w0 ops (Sf i) oi v a →
   aAny P w0 md ops Sf K fuel (listed.setIfInBounds i true) (aput a oi.dst v) σ→aAny P w0 md ops Sf K (fuel+1) listed a σ:=by
 intro fuel
 induction fuel with
 | zero =>
  intro listed a σ hS _ hr hy H
  refine⟨fun h=>(by rw[h] at hr;cases hr),fun j hj=>?_⟩
  by_cases hji:j=i
  ·subst hji;exact hy.aOp hi (hS _ (mem_ready.1 hr).1) ⟨.inl rfl,H⟩
  ·have:=ready_mono hj hji
   rw[H.1] at this
   cases this
 | succ fuel ih =>
  intro listed a σ hS hfree hr hy H
  refine⟨fun h=>(by rw[h] at hr;cases hr),fun j hj=>?_⟩
  by_cases hji:j=i
  ·subst hji;exact hy.aOp hi (hS _ (mem_ready.1 hr).1) ⟨.inl rfl,H⟩
  ·have h1:=H.2 j (ready_mono hj hji)
   obtain⟨hjun,oj,hoj,hall⟩:=mem_ready.1 hj
   have hnot:∀e∈oj.after,Region.binds md e=true→e.on≠i:=fun e he hb heq=>by
    have h1:=hall e he hb
    have h0:=(mem_ready.1 hr).1
    rw[heq] at h1
    rcases Nat.lt_or_ge i listed.size with h'|h'
    ·simp [h'] at h0 h1;rw[h0] at h1;cases h1
    ·simp [Array.getElem?_eq_none h'] at h1
   have h2:=aOp_put hoj (hfree j oj hoj hji hjun hnot) hy h1
   have hfree':∀k ok,ops[k]?=some ok→k≠i→(listed.setIfInBounds j true).getD k true=false →
     (∀e∈ok.after,Region.binds md e=true→e.on≠i)→oi.apart ops ok=true:=fun k ok hk hki hun hno=>by
    refine hfree k ok hk hki ?_ hno
    by_cases hjk:j=k
    ·subst hjk;exact hjun
    ·rw[getD_set_ne true hjk] at hun;exact hun
   refine aOp_mono (fun a' σ' h3=>⟨h3.2.1,ih (listed.setIfInBounds j true) a' σ' (hS.next hj h3.2.1) hfree' (ready_mono hr (Ne.symm hji)) h3.1 ?_⟩) h2
   rw[Array.setIfInBounds_comm _ _ hji]
   exact h3.2.2
inductive Way where
 | stop
 | quiet (i:Nat) (w:Way)
 | one (i:Nat) (w:Way)
 | two (i:Nat) (w:Way) (j:Nat) (u:Way)
 | three (i:Nat) (w:Way) (j:Nat) (u:Way) (k:Nat) (x:Way)
def wayB (md:Region.Mode) (ops:Array Oper):Way→Nat→Array Bool→Bool
 | .stop,m,listed=>m == 0 && (Region.ready md ops listed).isEmpty
 | .quiet i w,m+1,listed=>(Region.ready md ops listed).contains i && Region.free md ops listed i && wayB md ops w m (listed.setIfInBounds i true)
 | .one i w,m+1,listed=>(Region.ready md ops listed == [i]) && wayB md ops w m (listed.setIfInBounds i true)
 | .two i w j u,m+1,listed=>(Region.ready md ops listed == [i,j]) && wayB md ops w m (listed.setIfInBounds i true) && wayB md ops u m (listed.setIfInBounds j true)
 | .three i w j u k x,m+1,listed=>(Region.ready md ops listed == [i,j,k]) && wayB md ops w m (listed.setIfInBounds i true) && wayB md ops u m (listed.setIfInBounds j true) && wayB md ops x m (listed.setIfInBounds k true)
 | _,_,_=>false
def aTree (P:Program) (w0:Base) (md:Region.Mode) (ops:Array Oper) (Sf:Nat→AHeap→Prop) (K:AK):Way→AFrame→AHeap→Prop
 | .stop,a,σ=>K a σ
 | .quiet i w,a,σ=>∃o v,ops[i]?=some o∧AYields P w0 ops (Sf i) o v a∧aTree P w0 md ops Sf K w (aput a o.dst v) σ
 | .one i w,a,σ=>aOp P w0 ops i (fun a' σ'=>Keep md ops Sf i σ σ'∧aTree P w0 md ops Sf K w a' σ') a σ
 | .two i w j u,a,σ=>aOp P w0 ops i (fun a' σ'=>Keep md ops Sf i σ σ'∧aTree P w0 md ops Sf K w a' σ') a σ∧aOp P w0 ops j (fun a' σ'=>Keep md ops Sf j σ σ'∧aTree P w0 md ops Sf K u a' σ') a σ
 | .three i w j u k x,a,σ=>aOp P w0 ops i (fun a' σ'=>Keep md ops Sf i σ σ'∧aTree P w0 md ops Sf K w a' σ') a σ∧aOp P w0 ops j (fun a' σ'=>Keep md ops Sf j σ σ'∧aTree P w0 md ops Sf K u a' σ') a σ ∧
   aOp P w0 ops k (fun a' σ'=>Keep md ops Sf k σ σ'∧aTree P w0 md ops Sf K x a' σ') a σ
theorem aAny_tree {md:Region.Mode} {ops:Array Oper} {Sf:Nat→AHeap→Prop} {K:AK}:∀(w:Way) (m:Nat) (listed:Array Bool) (a:AFrame) (σ:AHeap),Known Sf listed σ→wayB md ops w m listed=true→aTree P w0 md ops Sf K w a σ →
  aAny P w0 md ops Sf K m listed a σ
 | .stop,m,listed,a,σ,_,hB,h=>by
  simp only[wayB,Bool.and_eq_true,beq_iff_eq] at hB
  obtain⟨rfl,hB⟩:=hB
  exact⟨by simpa using hB,h⟩
 | .quiet i w,0,listed,a,σ,_,hB,_=>by simp [wayB] at hB
 | .quiet i w,m+1,listed,a,σ,hS,hB,h=>by
  simp only[wayB,Bool.and_eq_true] at hB
  obtain⟨⟨hr,hf⟩,hB'⟩:=hB
  obtain⟨o,v,ho,hy,hw⟩:=h
  have hr':i∈Region.ready md ops listed:=by simpa using hr
  exact aAny_first ho m listed a σ hS (Region.free_spec ho hf) hr' hy (aAny_tree w m _ _ σ (hS.next hr' (.inl rfl)) hB' hw)
 | .one i w,0,listed,a,σ,_,hB,_=>by simp [wayB] at hB
 | .one i w,m+1,listed,a,σ,hS,hB,h=>by
  simp only[wayB,Bool.and_eq_true,beq_iff_eq] at hB
  obtain⟨hr,hB'⟩:=hB
  refine⟨fun h0=>(by rw[hr] at h0;cases h0),fun j hj=>?_⟩
  have hj':=hj
  rw[hr] at hj
  simp only[List.mem_singleton] at hj
  subst hj
  exact aOp_mono (fun a' σ' hh=>⟨hh.1,aAny_tree w m _ a' σ' (hS.next hj' hh.1) hB' hh.2⟩) h
 | .two i w j u,0,listed,a,σ,_,hB,_=>by simp [wayB] at hB
 | .two i w j u,m+1,listed,a,σ,hS,hB,h=>by
  simp only[wayB,Bool.and_eq_true,beq_iff_eq] at hB
  obtain⟨⟨hr,hB1⟩,hB2⟩:=hB
  refine⟨fun h0=>(by rw[hr] at h0;cases h0),fun q hq=>?_⟩
  have hq':=hq
  rw[hr] at hq
  simp only[List.mem_cons,List.not_mem_nil,or_false] at hq
  rcases hq with rfl|rfl
  ·exact aOp_mono (fun a' σ' hh=>⟨hh.1,aAny_tree w m _ a' σ' (hS.next hq' hh.1) hB1 hh.2⟩) h.1
  ·exact aOp_mono (fun a' σ' hh=>⟨hh.1,aAny_tree u m _ a' σ' (hS.next hq' hh.1) hB2 hh.2⟩) h.2
 | .three i w j u k x,0,listed,a,σ,_,hB,_=>by simp [wayB] at hB
 | .three i w j u k x,m+1,listed,a,σ,hS,hB,h=>by
  simp only[wayB,Bool.and_eq_true,beq_iff_eq] at hB
  obtain⟨⟨⟨hr,hB1⟩,hB2⟩,hB3⟩:=hB
  refine⟨fun h0=>(by rw[hr] at h0;cases h0),fun q hq=>?_⟩
  have hq':=hq
  rw[hr] at hq
  simp only[List.mem_cons,List.not_mem_nil,or_false] at hq
  rcases hq with rfl|rfl|rfl
  ·exact aOp_mono (fun a' σ' hh=>⟨hh.1,aAny_tree w m _ a' σ' (hS.next hq' hh.1) hB1 hh.2⟩) h.1
  ·exact aOp_mono (fun a' σ' hh=>⟨hh.1,aAny_tree u m _ a' σ' (hS.next hq' hh.1) hB2 hh.2⟩) h.2.1
  ·exact aOp_mono (fun a' σ' hh=>⟨hh.1,aAny_tree x m _ a' σ' (hS.next hq' hh.1) hB3 hh.2⟩) h.2.2
theorem acode_region_tree {id:Nat} {ops:Array Oper} {a:AFrame} {σ:AHeap} {Q:AQ} (hpr:n.pr=w0.pr) (hm:P.follows .mixedOrders=true) (hg:goodOps P n.n ops=true) (way:Way) (Sf:Nat→AHeap→Prop)
  (hB:wayB .any ops way ops.size (Array.replicate ops.size false)=true) (hS:∀q,Sf q σ) (h:aTree P w0 .any ops Sf (Q .normal) way a σ):ACode P w0.w n (.region id ops true) a σ Q:=by
 intro β w act hH hF
 refine wpIn_region_any hm ?_
 have h1:=aAny_tree way ops.size _ a σ (fun q _=>hS q) hB h
 exact aAny_sound (β0:=β) hpr hg (fun β' a' σ' act' w' c1 c2 c3 c4=>⟨β',a',σ',c1,c2,c3,c4⟩) _ _ a σ β _ act h1 (.refl _) (hH.grow (w':={ w with drawn:=w.drawn+1 }) hH.below.drew (Nat.le_refl _) (fun _ _=>rfl)) hF
end Go.Abs
