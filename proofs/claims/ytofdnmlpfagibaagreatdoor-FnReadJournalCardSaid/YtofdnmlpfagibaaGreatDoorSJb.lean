/- Parts. -/
import Derived.Test.YtofdnmlpfagibaaGreatDoorSJa
import Derived.IntWalk
import Derived.ProofKit
import Derived.Carry
import Derived.RangeFuncLeaves
import Derived.RangeFuncRecord
set_option linter.unusedSimpArgs false
set_option linter.unusedVariables false
set_option linter.unusedSectionVars false
namespace Go.Abs
open Go.RowKit
variable (P:Program) (w0:Base) (n:NR)
def vcR (q:Bool) (all:List Oper):List Oper→AFrame→AHeap→AK→Prop
 | [],a,σ,K=>K a σ
 | o :: os,a,σ,K =>
  match o.guard with
  | none=>(match q with
   | false=>vcOp P w0 o a σ fun a' σ'=>vcR q all os a' σ' K
   | true=>∃v,vcV P w0 o (ev a) σ (fun v' σ'=>v'=v∧σ'=σ)∧vcR q all os (aput a o.dst v) σ K)
  | some (j,want) =>
   (gval all a j=some want→(match q with
    | false=>vcOp P w0 o a σ fun a' σ'=>vcR q all os a' σ' K
    | true=>∃v,vcV P w0 o (ev a) σ (fun v' σ'=>v'=v∧σ'=σ)∧vcR q all os (aput a o.dst v) σ K)) ∧
   (gval all a j≠some want→vcR q all os (aput a o.dst undef) σ K)
def isPtr (P:Program) (t:TypeId):Bool:=match P.underlying t with|some (.pointer _)=>true|some (.slice _)=>P.underlyingId t != t|_=>false
def noisyF (P:Program) (f:FuncId):Bool:=match P.funcs[f]? with|some fn=>fn.params.toList.any (isPtr P)|none=>false
def noisyOp (P:Program):Op→Bool
 | .alloc _ | .box _ _ | .buildSlice _ _ _ | .makeSlice _ _ _ | .store _ _ _=>true
 | .slice _ _ _ _ (some _)=>true
 | .call c=>match c.callee with | .builtin .append | .builtin .copy | .builtin .clear=>true | .value (.func f)=>noisyF P f || c.argTypes.toList.any (isPtr P) | .value _=>true|_=>false
 | _=>false
def isSl1 (P:Program) (t:TypeId):Bool:=match P.underlying t with|some (.slice _)=>true|_=>false
def isSl2 (P:Program) (t:TypeId):Bool:=match P.underlying t with|some (.slice _)=>true|some (.struct fs)=>fs.toList.any (fun f=>isSl1 P f.type)|_=>false
def isSlc (P:Program) (t:TypeId):Bool:=match P.underlying t with|some (.slice _)=>true|some (.struct fs)=>fs.toList.any (fun f=>isSl1 P f.type)|some (.tuple ts)=>ts.toList.any (isSl2 P)|_=>false
def loudRes (P:Program) (ty:TypeId):Op→Bool
 | .call c=>match c.callee with | .value (.func _)=>isSlc P ty|_=>false
 | _=>false
def noisy (P:Program):List Oper→Bool
 | []=>false
 | o :: os=>noisyOp P o.op || loudRes P o.type o.op || noisy P os
def ACodeB (P:Program) (b:Base) (n:NR) (c:Code) (a:AFrame) (σ:AHeap) (Q:AQ):Prop:=ACode P b.w n c a σ Q
def vc:Code→AFrame→AHeap→AQ→Prop
 | .skip,a,σ,Q=>Q .normal a σ
 | .label _,a,σ,Q=>Q .normal a σ
 | .exit id,a,σ,Q=>Q (.exit id) a σ
 | .goto l,a,σ,Q=>Q (.goto l) a σ
 | .ret,a,σ,Q=>Q .ret a σ
 | .seq x y,a,σ,Q=>vc x a σ (seqK (fun a σ=>vc y a σ Q) Q)
 | .cond c x y,a,σ,Q=>∃b,ev a c=.bool b∧(b=true→vc x a σ Q)∧(b=false→vc y a σ Q)
 | .block id x,a,σ,Q=>vc x a σ (blockK id Q)
 | .region id ops d,a,σ,Q=>bif d && noisy P ops.toList then ACodeB P w0 n (.region id ops d) a σ Q else vcR P w0 d ops.toList ops.toList a σ (Q .normal)
 | c,a,σ,Q=>ACodeB P w0 n c a σ Q
def goodC (P:Program) (n:Nat):Code→Bool
 | .seq x y=>goodC P n x && goodC P n y
 | .cond c x y=>okx c && goodC P n x && goodC P n y
 | .block _ x=>goodC P n x
 | .loop x=>goodC P n x
 | .region _ ops d=>goodOps P n ops && (!d || noisy P ops.toList || Region.lexB .any ops)
 | _=>true
variable {P w0 n}
theorem vcR_false {ops:Array Oper} (hpr:n.pr=w0.pr) (hg:goodOps P n.n ops=true):∀(l:List Oper) (k:Nat) (a:AFrame) (σ:AHeap) (K:AK),(∀j:Nat,l[j]?=ops[k+j]?)→vcR P w0 false ops.toList l a σ K →
  AOps P w0.w n ops ((List.range l.length).map (k+·)) a σ K
 | [],_,_,_,_,_,h=>AOps.nil h
 | o :: l,k,a,σ,K,hl,h=>by
  have ho:ops[k]?=some o:=by simpa using (hl 0).symm
  obtain⟨g1,g2⟩:=goodOps_spec hg ho
  have e:((List.range (o :: l).length).map (k+·))=k :: ((List.range l.length).map (k+1+·)):=by
   simp [List.range_succ_eq_map,Function.comp_def,Nat.add_assoc,Nat.add_comm 1]
  rw[e]
  have hl':∀j:Nat,l[j]?=ops[k+1+j]?:=fun j=>by have:=hl (j+1);simpa [Nat.add_assoc,Nat.add_comm 1 j] using this
  unfold vcR at h
  refine AOps.cons ho g1 (fun hgu=>?_) (fun⟨j,want,hj,hv⟩=>?_)
  ·refine vcOp_sound hpr g2 (goodOp_dst g1) (vcOp_mono (K:=fun a' σ'=>vcR P w0 false ops.toList l a' σ' K) (fun a' σ' hh=>vcR_false hpr hg l (k+1) a' σ' K hl' hh) ?_)
   split at h
   ·exact h
   ·rename_i j want hj;exact h.1 (hgu j want hj)
  ·rw[hj] at h
   exact vcR_false hpr hg l (k+1) _ σ K hl' (h.2 hv)
def quiets (l:List Nat) (w:Way):Way:=l.foldr Way.quiet w
theorem vcR_true {ops:Array Oper}:∀(l:List Oper) (k:Nat) (a:AFrame) (σ:AHeap) (K:AK),(∀j:Nat,l[j]?=ops[k+j]?)→vcR P w0 true ops.toList l a σ K →
  aTree P w0 .any ops (fun _ τ=>τ=σ) K (quiets ((List.range l.length).map fun j=>k+j) .stop) a σ
 | [],_,_,_,_,_,h=>h
 | o :: l,k,a,σ,K,hl,h=>by
  have ho:ops[k]?=some o:=by simpa using (hl 0).symm
  have e:((List.range (o :: l).length).map fun j=>k+j)=k :: ((List.range l.length).map fun j=>k+1+j):=by
   simp [List.range_succ_eq_map,Function.comp_def,Nat.add_assoc,Nat.add_comm 1]
  rw[e]
  have hl':∀j:Nat,l[j]?=ops[k+1+j]?:=fun j=>by have:=hl (j+1);simpa [Nat.add_assoc,Nat.add_comm 1 j] using this
  unfold vcR at h
  show ∃o v,_
  cases hgu:o.guard with
  | none =>
   rw[hgu] at h
   obtain⟨v,h1,h2⟩:=h
   refine⟨o,v,ho,.inl ⟨by simp [Region.wanted,hgu],?_⟩,vcR_true l (k+1) _ σ K hl' h2⟩
   rintro σ' rfl;exact h1
  | some jw =>
   obtain⟨j,want⟩:=jw
   rw[hgu] at h
   by_cases hv:gval ops.toList a j=some want
   ·obtain⟨v,h1,h2⟩:=h.1 hv
    refine⟨o,v,ho,.inl ⟨by simp [Region.wanted,hgu,hv],?_⟩,vcR_true l (k+1) _ σ K hl' h2⟩
    rintro σ' rfl;exact h1
   ·exact⟨o,undef,ho,.inr ⟨by simp [Region.wanted,hgu,hv],rfl⟩,vcR_true l (k+1) _ σ K hl' (h.2 hv)⟩
theorem wayB_lex {ops:Array Oper}:∀(m k:Nat) (listed:Array Bool),Region.lexFrom .any ops m k listed=true→wayB .any ops (quiets ((List.range m).map fun j=>k+j) .stop) m listed=true
 | 0,_,_,h=>by simpa [wayB,Region.lexFrom,quiets] using h
 | m+1,k,listed,h=>by
  have e:((List.range (m+1)).map fun j=>k+j)=k :: ((List.range m).map fun j=>k+1+j):=by
   simp [List.range_succ_eq_map,Function.comp_def,Nat.add_assoc,Nat.add_comm 1]
  rw[e]
  simp only[Region.lexFrom,Bool.and_eq_true] at h
  show (_ && wayB .any ops (quiets _ .stop) m _)=true
  rw[Bool.and_eq_true,Bool.and_eq_true]
  exact⟨h.1,wayB_lex m (k+1) _ h.2⟩
theorem vc_sound (hpr:n.pr=w0.pr) (hm:P.follows .mixedOrders=true):∀(c:Code) (a:AFrame) (σ:AHeap) (Q:AQ),goodC P n.n c=true→vc P w0 n c a σ Q→ACode P w0.w n c a σ Q
 | .skip,_,_,_,_,h=>acode_skip h
 | .label _,_,_,_,_,h=>acode_label h
 | .exit _,_,_,_,_,h=>acode_exit h
 | .goto _,_,_,_,_,h=>acode_goto h
 | .ret,_,_,_,_,h=>acode_ret h
 | .seq x y,a,σ,Q,hg,h=>by
  simp only[goodC,Bool.and_eq_true] at hg
  refine acode_seq (ACode.mono (vc_sound hpr hm x a σ _ hg.1 h) fun e a' σ' hh=>?_)
  cases e<;>simp only[seqK] at hh ⊢
  case normal=>exact vc_sound hpr hm y a' σ' Q hg.2 hh
  all_goals exact hh
 | .cond c x y,a,σ,Q,hg,h=>by
  simp only[goodC,Bool.and_eq_true] at hg
  obtain⟨b,hb,h1,h2⟩:=h
  exact acode_cond hg.1.1 hb (fun e=>vc_sound hpr hm x a σ Q hg.1.2 (h1 e)) (fun e=>vc_sound hpr hm y a σ Q hg.2 (h2 e))
 | .block id x,a,σ,Q,hg,h=>acode_block (vc_sound hpr hm x a σ _ hg h)
 | .region id ops false,a,σ,Q,hg,h=>by
  simp only[goodC,Bool.and_eq_true] at hg
  refine acode_region ?_
  have h':vcR P w0 false ops.toList ops.toList a σ (Q .normal):=h
  have:=vcR_false (P:=P) (w0:=w0) hpr hg.1 ops.toList 0 a σ _ (by simp) h'
  simpa using this
 | .region id ops true,a,σ,Q,hg,h=>by
  simp only[goodC,Bool.and_eq_true,Bool.not_true,Bool.false_or] at hg
  unfold vc at h
  cases hn:noisy P ops.toList with
  | true=>rw[hn] at h;exact h
  | false =>
   rw[hn] at h hg
   simp only[Bool.true_and,Bool.false_or] at h hg
   have hB:=hg.2
   simp only[Region.lexB,Bool.and_eq_true] at hB
   have hw:=wayB_lex (ops:=ops) _ _ _ hB.2
   refine acode_region_tree hpr hm hg.1 (quiets ((List.range ops.toList.length).map fun j=>0+j) .stop) (fun _ τ=>τ=σ) (by simpa using hw) (fun _=>rfl) ?_
   exact vcR_true (P:=P) (w0:=w0) (ops:=ops) ops.toList 0 a σ _ (by simp) h
 | .loop _,_,_,_,_,h=>h
 | .rangeFunc ..,_,_,_,_,h=>h
 | .scope _,_,_,_,_,h=>h
 | .refuse _,_,_,_,_,h=>h
theorem acall_vc {w:World} (hm:P.follows .mixedOrders=true) {f:FuncId} {fn:Func} {c:Code} {args:List Value} {σ:AHeap} {R:Value→AHeap→Prop} (hf:P.funcs[f]?=some fn) (hb:fn.body=some c) (hc:(callable P f && tmpsOnly fn && decide (args.length≤fn.ntmps) && goodC P fn.ntmps c)=true)
  (h:∀pr,vc P ⟨w,pr⟩ ⟨fn.ntmps,none,[],pr⟩ c (aenter args) σ fun e a' σ'=>(e=.normal∨e=.ret)∧∃σ'',Sub σ'' σ'∧R (aresults fn a') σ''):ACall P w f args σ R:=by
 simp only[Bool.and_eq_true,decide_eq_true_eq] at hc
 exact acall_of_code hf hb hc.1.1.1 hc.1.1.2 hc.1.2 fun pr=>vc_sound (w0:=⟨w,pr⟩) rfl hm c _ σ _ hc.2 (h pr)
theorem vc_loop (hm:P.follows .mixedOrders=true) {x:Code} {a:AFrame} {σ:AHeap} {Q:AQ} (hg:goodC P n.n x=true) (I:Nat→AFrame→AHeap→Prop) (m:Nat) (h0:I m a σ)
  (round:∀m a σ,I m a σ→vc P w0 n x a σ (seqK (fun a' σ'=>∃m',m' < m∧I m' a' σ') Q)) (hpr:n.pr=w0.pr:=by rfl):ACodeB P w0 n (.loop x) a σ Q :=
 acode_loop I m h0 fun m a σ hI=>vc_sound hpr hm x a σ _ hg (round m a σ hI)
end Go.Abs
namespace Go.Abs
open Go.RowKit
variable {P:Program} {w0:Base} {n:NR} {a:AFrame} {σ:AHeap} {K:AK} {Q:AQ} {q:Bool} {all os:List Oper}
variable {d:Nat} {dd:Option Tmp} {ty:TypeId} {pos:String} {af:Array Edge} {op:Op}
def seqC (P:Program) (w0:Base) (n:NR) (y:Code) (Q:AQ):AQ:=seqK (fun a σ=>vc P w0 n y a σ Q) Q
theorem vc_seq {x y:Code}:vc P w0 n (.seq x y) a σ Q=vc P w0 n x a σ (seqC P w0 n y Q):=rfl
theorem seqC_normal {y:Code}:seqC P w0 n y Q .normal a σ=vc P w0 n y a σ Q:=rfl
theorem seqC_ret {y:Code}:seqC P w0 n y Q .ret a σ=Q .ret a σ:=rfl
theorem seqC_exit {y:Code} {i:Nat}:seqC P w0 n y Q (.exit i) a σ=Q (.exit i) a σ:=rfl
theorem seqK_normal {y:AFrame→AHeap→Prop}:seqK y Q .normal a σ=y a σ:=rfl
theorem seqK_ret {y:AFrame→AHeap→Prop}:seqK y Q .ret a σ=Q .ret a σ:=rfl
theorem seqK_exit {y:AFrame→AHeap→Prop} {i:Nat}:seqK y Q (.exit i) a σ=Q (.exit i) a σ:=rfl
theorem not_not_p {p:Prop}:(¬¬p)=p:=by simp
theorem blockK_normal {i:Nat}:blockK i Q .normal a σ=Q .normal a σ:=rfl
theorem blockK_ret {i:Nat}:blockK i Q .ret a σ=Q .ret a σ:=rfl
theorem blockK_exit {i j:Nat}:blockK i Q (.exit j) a σ=if j=i then Q .normal a σ else Q (.exit j) a σ:=rfl
theorem vc_skip:vc P w0 n .skip a σ Q=Q .normal a σ:=rfl
theorem vc_exit {l:Nat}:vc P w0 n (.exit l) a σ Q=Q (.exit l) a σ:=rfl
theorem vc_ret:vc P w0 n .ret a σ Q=Q .ret a σ:=rfl
theorem vc_block {i:Nat} {x:Code}:vc P w0 n (.block i x) a σ Q=vc P w0 n x a σ (blockK i Q):=rfl
theorem vc_loop_eq {x:Code}:vc P w0 n (.loop x) a σ Q=ACodeB P w0 n (.loop x) a σ Q:=rfl
theorem vc_region {i:Nat} {ops:List Oper}:vc P w0 n (.region i ops.toArray false) a σ Q=vcR P w0 false ops ops a σ (Q .normal):=rfl
def vcD (P:Program) (w0:Base) (n:NR) (b:Bool) (i:Nat) (ops:List Oper) (a:AFrame) (σ:AHeap) (Q:AQ):Prop:=bif b then ACodeB P w0 n (.region i ops.toArray true) a σ Q else vcR P w0 true ops ops a σ (Q .normal)
theorem vc_regionD {i:Nat} {ops:List Oper}:vc P w0 n (.region i ops.toArray true) a σ Q=vcD P w0 n (noisy P ops) i ops a σ Q:=by
 unfold vcD;rw[vc];rfl
theorem vcD_false {i:Nat} {ops:List Oper}:vcD P w0 n false i ops a σ Q=vcR P w0 true ops ops a σ (Q .normal):=rfl
theorem vcD_true {i:Nat} {ops:List Oper}:vcD P w0 n true i ops a σ Q=ACodeB P w0 n (.region i ops.toArray true) a σ Q:=rfl
theorem noisy_nil:noisy P []=false:=rfl
theorem noisy_quiet {o:Oper} {os:List Oper} (h:noisyOp P o.op=false) (h2:loudRes P o.type o.op=false:=by rfl):noisy P (o :: os)=noisy P os:=by simp [noisy,h,h2]
theorem noisy_loud {o:Oper} {os:List Oper} (h:noisyOp P o.op=true):noisy P (o :: os)=true:=by simp [noisy,h]
section
variable {gd:Option (Nat × Bool)} {x y z g:Operand} {t u:TypeId} {bo:BinOp} {uo:UnOp} {k m:Nat} {lo hi:Option Operand} {as:Array Operand} {ts:Array TypeId} {fn:Fn} {fs cs:Array Operand} {ps:Array (Nat × Operand)}
theorem nq_move:noisy P (⟨dd,.move x,ty,pos,af,gd⟩ :: os)=noisy P os:=noisy_quiet rfl
theorem nq_assign:noisy P (⟨dd,.assign x,ty,pos,af,gd⟩ :: os)=noisy P os:=noisy_quiet rfl
theorem nq_pick:noisy P (⟨dd,.pick x y z,ty,pos,af,gd⟩ :: os)=noisy P os:=noisy_quiet rfl
theorem nq_binOp:noisy P (⟨dd,.binOp bo t x y u,ty,pos,af,gd⟩ :: os)=noisy P os:=noisy_quiet rfl
theorem nq_unOp:noisy P (⟨dd,.unOp uo t x,ty,pos,af,gd⟩ :: os)=noisy P os:=noisy_quiet rfl
theorem nq_convert:noisy P (⟨dd,.convert t u x,ty,pos,af,gd⟩ :: os)=noisy P os:=noisy_quiet rfl
theorem nq_nilCheck:noisy P (⟨dd,.nilCheck x,ty,pos,af,gd⟩ :: os)=noisy P os:=noisy_quiet rfl
theorem nq_indexAddr:noisy P (⟨dd,.indexAddr t x y,ty,pos,af,gd⟩ :: os)=noisy P os:=noisy_quiet rfl
theorem nq_index:noisy P (⟨dd,.index t x y,ty,pos,af,gd⟩ :: os)=noisy P os:=noisy_quiet rfl
theorem nq_load:noisy P (⟨dd,.load t x,ty,pos,af,gd⟩ :: os)=noisy P os:=noisy_quiet rfl
theorem nq_field:noisy P (⟨dd,.field t x k,ty,pos,af,gd⟩ :: os)=noisy P os:=noisy_quiet rfl
theorem nq_fieldAddr:noisy P (⟨dd,.fieldAddr t x k,ty,pos,af,gd⟩ :: os)=noisy P os:=noisy_quiet rfl
theorem nq_extract:noisy P (⟨dd,.extract x k,ty,pos,af,gd⟩ :: os)=noisy P os:=noisy_quiet rfl
theorem nq_build:noisy P (⟨dd,.build t ps,ty,pos,af,gd⟩ :: os)=noisy P os:=noisy_quiet rfl
theorem nq_makeFunc:noisy P (⟨dd,.makeFunc fn fs cs,ty,pos,af,gd⟩ :: os)=noisy P os:=noisy_quiet rfl
theorem nq_slice:noisy P (⟨dd,.slice t x lo hi none,ty,pos,af,gd⟩ :: os)=noisy P os:=noisy_quiet rfl
theorem nq_len:noisy P (⟨dd,.call ⟨.builtin .len,as,ts⟩,ty,pos,af,gd⟩ :: os)=noisy P os:=noisy_quiet rfl
theorem nq_min:noisy P (⟨dd,.call ⟨.builtin .min,as,ts⟩,ty,pos,af,gd⟩ :: os)=noisy P os:=noisy_quiet rfl
theorem nq_max:noisy P (⟨dd,.call ⟨.builtin .max,as,ts⟩,ty,pos,af,gd⟩ :: os)=noisy P os:=noisy_quiet rfl
theorem nq_call {f:FuncId} {ts:List TypeId}:noisy P (⟨dd,.call ⟨.value (.func f),as,ts.toArray⟩,ty,pos,af,gd⟩ :: os)=(noisyF P f || ts.any (isPtr P) || isSlc P ty || noisy P os):=by simp [noisy,noisyOp,loudRes]
theorem nl_callv {t:Tmp} {ts:Array TypeId}:noisy P (⟨dd,.call ⟨.value (.tmp t),as,ts⟩,ty,pos,af,gd⟩ :: os)=true:=noisy_loud rfl
theorem nl_append:noisy P (⟨dd,.call ⟨.builtin .append,as,ts⟩,ty,pos,af,gd⟩ :: os)=true:=noisy_loud rfl
theorem nl_copy:noisy P (⟨dd,.call ⟨.builtin .copy,as,ts⟩,ty,pos,af,gd⟩ :: os)=true:=noisy_loud rfl
theorem nl_clear:noisy P (⟨dd,.call ⟨.builtin .clear,as,ts⟩,ty,pos,af,gd⟩ :: os)=true:=noisy_loud rfl
theorem nl_alloc:noisy P (⟨dd,.alloc t,ty,pos,af,gd⟩ :: os)=true:=noisy_loud rfl
theorem nl_box:noisy P (⟨dd,.box t x,ty,pos,af,gd⟩ :: os)=true:=noisy_loud rfl
theorem nl_store:noisy P (⟨dd,.store t x y,ty,pos,af,gd⟩ :: os)=true:=noisy_loud rfl
theorem nl_makeSlice:noisy P (⟨dd,.makeSlice t x y,ty,pos,af,gd⟩ :: os)=true:=noisy_loud rfl
theorem nl_buildSlice:noisy P (⟨dd,.buildSlice t k ps,ty,pos,af,gd⟩ :: os)=true:=noisy_loud rfl
theorem nl_slice3:noisy P (⟨dd,.slice t x lo hi (some y),ty,pos,af,gd⟩ :: os)=true:=noisy_loud rfl
end
def vcH (P:Program) (w0:Base) (n:NR) (c:Code) (a:AFrame) (σ:AHeap) (Q:AQ):Prop:=vc P w0 n c a σ Q
theorem vcH_eq {c:Code}:vcH P w0 n c a σ Q=vc P w0 n c a σ Q:=rfl
def condR (v:Value) (X Y:Prop):Prop:=∃b,v=.bool b∧(b=true→X)∧(b=false→Y)
theorem vc_cond {c:Operand} {x y:Code}:vc P w0 n (.cond c x y) a σ Q=condR (ev a c) (vcH P w0 n x a σ Q) (vcH P w0 n y a σ Q):=rfl
theorem condR_dec {p:Prop} [Decidable p] {X Y:Prop}:condR (.bool (decide p)) X Y=((p→X)∧(¬p→Y)):=by simp [condR]
theorem condR_true {x:Code} {Y:Prop}:condR (.bool true) (vcH P w0 n x a σ Q) Y=vc P w0 n x a σ Q:=by simp [condR,vcH]
theorem condR_false {y:Code} {X:Prop}:condR (.bool false) X (vcH P w0 n y a σ Q)=vc P w0 n y a σ Q:=by simp [condR,vcH]
theorem condR_yes {p:Prop} [Decidable p] (h:p) {x:Code} {Y:Prop}:condR (.bool (decide p)) (vcH P w0 n x a σ Q) Y=vc P w0 n x a σ Q:=by simp [condR,vcH,h]
theorem condR_no {p:Prop} [Decidable p] (h:¬p) {y:Code} {X:Prop}:condR (.bool (decide p)) X (vcH P w0 n y a σ Q)=vc P w0 n y a σ Q:=by simp [condR,vcH,h]
theorem condR_not {b:Bool} {x y:Code}:condR (.bool (!b)) (vcH P w0 n x a σ Q) (vcH P w0 n y a σ Q)=condR (.bool b) (vcH P w0 n y a σ Q) (vcH P w0 n x a σ Q):=by
 cases b<;>simp [condR]
def retK (fn:Func) (R:Value→AHeap→Prop):AQ:=fun e a' σ'=>(e=.normal∨e=.ret)∧∃σ'',Sub σ'' σ'∧R (aresults fn a') σ''
def fin (fn:Func) (R:Value→AHeap→Prop) (a:AFrame) (σ:AHeap):Prop:=∃σ'',Sub σ'' σ∧R (aresults fn a) σ''
theorem retK_normal {fn:Func} {R:Value→AHeap→Prop}:retK fn R .normal a σ=fin fn R a σ:=by simp [retK,fin]
theorem retK_ret {fn:Func} {R:Value→AHeap→Prop}:retK fn R .ret a σ=fin fn R a σ:=by simp [retK,fin]
theorem fin_of {fn:Func} {R:Value→AHeap→Prop} {v:Value} (hv:aresults fn a=v) (σ'':AHeap) (hs:Sub σ'' σ) (hr:R v σ''):fin fn R a σ:=⟨σ'',hs,hv ▸ hr⟩
theorem fin_same {fn:Func} {R:Value→AHeap→Prop} {v:Value} (hv:aresults fn a=v) (hr:R v σ):fin fn R a σ:=⟨σ,Sub.refl _,hv ▸ hr⟩
theorem aresults_one {fn:Func} {t:Nat} (h:fn.results=#[.tmp t]):aresults fn a=a t:=by simp [aresults,h,rtv]
theorem aresults_two {fn:Func} {s t:Nat} (h:fn.results=#[.tmp s,.tmp t]):aresults fn a=.tuple #[a s,a t]:=by simp [aresults,h,rtv]
theorem acall_go {w:World} (hm:P.follows .mixedOrders=true) {f:FuncId} {fn:Func} {c:Code} {args:List Value} {R:Value→AHeap→Prop} (hf:P.funcs[f]?=some fn) (hb:fn.body=some c) (hc:(callable P f && tmpsOnly fn && decide (args.length≤fn.ntmps) && goodC P fn.ntmps c)=true)
  (h:∀pr,vc P ⟨w,pr⟩ ⟨fn.ntmps,none,[],pr⟩ c (aenter args) σ (retK fn R)):ACall P w f args σ R:=acall_vc hm hf hb hc h
theorem fin_one {fn:Func} {R:Value→AHeap→Prop} {t:Nat} (h:fn.results=#[.tmp t]) (hr:R (a t) σ):fin fn R a σ:=fin_same (aresults_one h) hr
theorem fin_drop {fn:Func} {R:Value→AHeap→Prop} {t:Nat} (h:fn.results=#[.tmp t]) (σ'':AHeap) (hs:Sub σ'' σ) (hr:R (a t) σ''):fin fn R a σ:=fin_of (aresults_one h) σ'' hs hr
theorem fin_two {fn:Func} {R:Value→AHeap→Prop} {s t:Nat} (h:fn.results=#[.tmp s,.tmp t]) (hr:R (.tuple #[a s,a t]) σ):fin fn R a σ:=fin_same (aresults_two h) hr
theorem aenter_zero {v:Value} {vs:List Value}:aenter (v :: vs) 0=v:=rfl
theorem aenter_succ {v:Value} {vs:List Value} {k:Nat}:aenter (v :: vs) (k+1)=aenter vs k:=rfl
theorem ev_tmp {t:Nat}:ev a (.tmp t)=a t:=rfl
theorem ev_const {v:Value}:ev a (.const v)=v:=rfl
theorem ev_func {f:Nat}:ev a (.func f)=.func (.func f) #[] #[]:=rfl
def vcRH (P:Program) (w0:Base) (q:Bool) (all:List Oper) (os:List Oper) (a:AFrame) (σ:AHeap) (K:AK):Prop:=vcR P w0 q all os a σ K
theorem vcRH_eq:vcRH P w0 q all os a σ K=vcR P w0 q all os a σ K:=rfl
theorem r_nil:vcR P w0 q all [] a σ K=K a σ:=by unfold vcR;rfl
theorem r_pure {o : Oper} (hg : o.guard = none) {v : Value} {p : Prop} (h : ∀ K : Value → AHeap → Prop, vcV P w0 o (ev a) σ K = (p ∧ K v σ)) :
    vcR P w0 q all (o :: os) a σ K = (p ∧ vcR P w0 q all os (aput a o.dst v) σ K) := by
  conv => lhs; unfold vcR
  rw [hg]
  cases q with
  | false => simp only [vcOp]; rw [h]
  | true => simp only [h]; apply propext; constructor
            · rintro ⟨v', ⟨hp, rfl, _⟩, hk⟩; exact ⟨hp, hk⟩
            · rintro ⟨hp, hk⟩; exact ⟨v, ⟨hp, rfl, trivial⟩, hk⟩
theorem r_pureE {o : Oper} (hg : o.guard = none) {α : Type} {v : α → Value} {p : α → Prop} (h : ∀ K : Value → AHeap → Prop, vcV P w0 o (ev a) σ K = ∃ x, p x ∧ K (v x) σ) :
    vcR P w0 q all (o :: os) a σ K = ∃ x, p x ∧ vcR P w0 q all os (aput a o.dst (v x)) σ K := by
  conv => lhs; unfold vcR
  rw [hg]
  cases q with
  | false => simp only [vcOp]; rw [h]
  | true => simp only [h]; apply propext; constructor
            · rintro ⟨v', ⟨x, hp, rfl, _⟩, hk⟩; exact ⟨x, hp, hk⟩
            · rintro ⟨x, hp, hk⟩; exact ⟨v x, ⟨x, hp, rfl, trivial⟩, hk⟩
theorem r_move {x:Operand}:vcR P w0 q all (⟨some d,.move x,ty,pos,af,none⟩ :: os) a σ K=vcR P w0 q all os (fset a d (ev a x)) σ K:=by
 rw[r_pure (v:=ev a x) (p:=True) rfl (fun K=>by simp [vcV])];simp [aput]
theorem r_assign {x:Operand}:vcR P w0 q all (⟨some d,.assign x,ty,pos,af,none⟩ :: os) a σ K=vcR P w0 q all os (fset a d (ev a x)) σ K:=by
 rw[r_pure (v:=ev a x) (p:=True) rfl (fun K=>by simp [vcV])];simp [aput]
def stepK (P:Program) (w0:Base) (q:Bool) (all os:List Oper) (a:AFrame) (d:Nat) (σ:AHeap) (K:AK):Value→Prop:=fun v=>vcR P w0 q all os (fset a d v) σ K
def bindO (o:Option Value) (k:Value→Prop):Prop:=∃v,o=some v∧k v
theorem bindO_some {v:Value}:bindO (some v) (stepK P w0 q all os a d σ K)=vcR P w0 q all os (fset a d v) σ K:=by simp [bindO,stepK]
def bindI (o:Option (Nat × Nat × Int × Nat)) (z:Nat) (k:Value→Prop):Prop:=∃h b i len,o=some (h,b,i,len)∧0≤i∧i < len∧k (.pointer (some ⟨h,b+i.toNat * z,none⟩))
theorem bindI_some {h b len z:Nat} {i:Int} (hi:0≤i∧i < len):bindI (some (h,b,i,len)) z (stepK P w0 q all os a d σ K)=vcR P w0 q all os (fset a d (.pointer (some ⟨h,b+i.toNat * z,none⟩))) σ K:=by
 apply propext;constructor
 ·rintro ⟨h',b',i',len',e,_,_,hk⟩;cases e;exact hk
 ·intro hk;exact⟨h,b,i,len,rfl,hi.1,hi.2,hk⟩
def bindS (o:Option (Prop × Value)) (b:Prop) (k:Value→Prop):Prop:=∃p v,o=some (p,v)∧(p∨b)∧k v
theorem bindS_some {p b:Prop} {v:Value} (hp:p):bindS (some (p,v)) b (stepK P w0 q all os a d σ K)=vcR P w0 q all os (fset a d v) σ K:=by
 apply propext;constructor
 ·rintro ⟨p',v',e,_,hk⟩;cases e;exact hk
 ·intro hk;exact⟨p,v,rfl,.inl hp,hk⟩
def pickR (v x y:Value) (k:Value→Prop):Prop:=∃b,v=.bool b∧k (bif b then x else y)
theorem pickR_yes {p:Prop} [Decidable p] (h:p) {x y:Value}:pickR (.bool (decide p)) x y (stepK P w0 q all os a d σ K)=vcR P w0 q all os (fset a d x) σ K:=by simp [pickR,stepK,h]
theorem pickR_no {p:Prop} [Decidable p] (h:¬p) {x y:Value}:pickR (.bool (decide p)) x y (stepK P w0 q all os a d σ K)=vcR P w0 q all os (fset a d y) σ K:=by simp [pickR,stepK,h]
theorem r_pick {c x y:Operand}:vcR P w0 q all (⟨some d,.pick c x y,ty,pos,af,none⟩ :: os) a σ K=pickR (ev a c) (ev a x) (ev a y) (stepK P w0 q all os a d σ K) :=
 r_pureE (α:=Bool) rfl fun _=>rfl
theorem r_binOpT {bo:BinOp} {t u:TypeId} {x:Operand} {s:Nat}:vcR P w0 q all (⟨some d,.binOp bo t x (.tmp s) u,ty,pos,af,none⟩ :: os) a σ K=bindO (abin P t bo (ev a x) (ev a (.tmp s))) (stepK P w0 q all os a d σ K) :=
 r_pureE (α:=Value) (v:=id) rfl fun _=>rfl
theorem r_binOpI {bo:BinOp} {t u:TypeId} {x:Operand} {k:IntKind} {n:Int}:vcR P w0 q all (⟨some d,.binOp bo t x (.const (.int k n)) u,ty,pos,af,none⟩ :: os) a σ K=bindO (abin P t bo (ev a x) (ev a (.const (.int k n)))) (stepK P w0 q all os a d σ K) :=
 r_pureE (α:=Value) (v:=id) rfl fun _=>rfl
theorem r_binOpB {bo:BinOp} {t u:TypeId} {x:Operand} {b:Bool}:vcR P w0 q all (⟨some d,.binOp bo t x (.const (.bool b)) u,ty,pos,af,none⟩ :: os) a σ K=bindO (abin P t bo (ev a x) (ev a (.const (.bool b)))) (stepK P w0 q all os a d σ K) :=
 r_pureE (α:=Value) (v:=id) rfl fun _=>rfl
theorem r_binOpS {bo:BinOp} {t u:TypeId} {x:Operand} {b:ByteArray}:vcR P w0 q all (⟨some d,.binOp bo t x (.const (.string b)) u,ty,pos,af,none⟩ :: os) a σ K=bindO (abin P t bo (ev a x) (ev a (.const (.string b)))) (stepK P w0 q all os a d σ K) :=
 r_pureE (α:=Value) (v:=id) rfl fun _=>rfl
theorem r_nilEq {t u e:TypeId} {x:Operand} {b:Option Addr} {l z:Nat} (he:P.underlying t=some (.slice e)) (hx:ev a x=.slice b l z) (hk:∀c,(b=none→c=true)→(0 < l→c=false)→vcR P w0 false all os (fset a d (.bool c)) σ K) :
  vcR P w0 false all (⟨some d,.binOp .eql t x (.const (.slice none 0 0)) u,ty,pos,af,none⟩ :: os) a σ K:=by
 conv=>unfold vcR
 have:nilEq P (.const (.slice none 0 0)) .eql t (ev a x) (fun v=>vcR P w0 false all os (fset a d v) σ K):=.inl ⟨rfl,b,l,z,rfl,⟨e,he⟩,hx,hk⟩
 exact this
theorem r_nilIf {t u:TypeId} {ms:Array (String × TypeId)} {x:Operand} (he:P.underlying t=some (.interface ms)) (hk:(ev a x=.nilIface∧vcR P w0 false all os (fset a d (.bool false)) σ K)∨((∃u v,ev a x=.iface u v)∧vcR P w0 false all os (fset a d (.bool true)) σ K)) :
  vcR P w0 false all (⟨some d,.binOp .neq t x (.const .nilIface) u,ty,pos,af,none⟩ :: os) a σ K:=by
 conv=>unfold vcR
 have:nilEq P (.const .nilIface) .neq t (ev a x) (fun v=>vcR P w0 false all os (fset a d v) σ K):=.inr ⟨rfl,rfl,⟨ms,he⟩,hk⟩
 exact this
theorem r_unOp {uo:UnOp} {t:TypeId} {x:Operand}:vcR P w0 q all (⟨some d,.unOp uo t x,ty,pos,af,none⟩ :: os) a σ K=bindO (aun uo (ev a x)) (stepK P w0 q all os a d σ K) :=
 r_pureE (α:=Value) (v:=id) rfl fun _=>rfl
theorem r_convert {s t:TypeId} {x:Operand}:vcR P w0 q all (⟨some d,.convert s t x,ty,pos,af,none⟩ :: os) a σ K=bindO (aconvH P σ s t (ev a x)) (stepK P w0 q all os a d σ K) :=
 r_pureE (α:=Value) (v:=id) rfl fun _=>rfl
def anil (v:Value):Option Value:=match v with | .pointer (some p)=>some (.pointer (some p))|_=>none
theorem anil_ptr {p:Addr}:anil (.pointer (some p))=some (.pointer (some p)):=rfl
theorem r_nilCheck {x:Operand}:vcR P w0 q all (⟨some d,.nilCheck x,ty,pos,af,none⟩ :: os) a σ K=bindO (anil (ev a x)) (stepK P w0 q all os a d σ K) :=
 r_pureE (α:=Value) (v:=id) rfl fun K=>by
  apply propext;constructor
  ·rintro ⟨⟨p,hp⟩,hk⟩;exact⟨ev a x,by rw[hp];rfl,hk⟩
  ·rintro ⟨v,hv,hk⟩
   unfold anil at hv
   split at hv
   ·rename_i p hp;cases hv;exact⟨⟨p,hp⟩,by rw[hp];exact hk⟩
   ·cases hv
theorem r_indexAddr {t:TypeId} {x y:Operand}:vcR P w0 q all (⟨some d,.indexAddr t x y,ty,pos,af,none⟩ :: os) a σ K=bindI (aidx P t (ev a x) (ev a y)) (aesz P t) (stepK P w0 q all os a d σ K):=by
 rw[r_pureE (α:=Nat × Nat × Int × Nat) (p:=fun z=>aidx P t (ev a x) (ev a y)=some z∧0≤z.2.2.1∧z.2.2.1 < z.2.2.2) (v:=fun z=>.pointer (some ⟨z.1,z.2.1+z.2.2.1.toNat * aesz P t,none⟩)) rfl fun K=>by
  apply propext;constructor
  ·rintro ⟨h,b,i,len,h1,h2,h3,h4⟩;exact⟨(h,b,i,len),⟨h1,h2,h3⟩,h4⟩
  ·rintro ⟨⟨h,b,i,len⟩,⟨h1,h2,h3⟩,h4⟩;exact⟨h,b,i,len,h1,h2,h3,h4⟩]
 apply propext;constructor
 ·rintro ⟨⟨h,b,i,len⟩,⟨h1,h2,h3⟩,h4⟩;exact⟨h,b,i,len,h1,h2,h3,h4⟩
 ·rintro ⟨h,b,i,len,h1,h2,h3,h4⟩;exact⟨(h,b,i,len),⟨h1,h2,h3⟩,h4⟩
def aload (P:Program) (σ:AHeap) (t:TypeId) (x:Value):Option Value :=
 match x with
 | .pointer (some ⟨h,i,none⟩)=>if aisAgg P t then (lds σ h i (P.cellsOf t)).map fun vs=>.agg vs.toArray else ld σ h i
 | _=>none
theorem r_load {t:TypeId} {x:Operand}:vcR P w0 q all (⟨some d,.load t x,ty,pos,af,none⟩ :: os) a σ K=bindO (aload P σ t (ev a x)) (stepK P w0 q all os a d σ K) :=
 r_pureE (α:=Value) (v:=id) rfl fun K=>by
  apply propext;constructor
  ·rintro ⟨h,i,h1,h2⟩
   rw[h1]
   unfold aload
   split at h2
   ·rename_i hc;obtain⟨vs,h3,h4⟩:=h2;exact⟨_,by simp [hc,h3],h4⟩
   ·rename_i hc;obtain⟨v,h3,h4⟩:=h2;exact⟨v,by simp [hc,h3],h4⟩
  ·rintro ⟨v,h1,h2⟩
   unfold aload at h1
   split at h1
   ·rename_i h i hx
    refine⟨h,i,hx,?_⟩
    split at h1
    ·rename_i hc;rw[if_pos hc];obtain⟨vs,h3,rfl⟩:=Option.map_eq_some_iff.1 h1;exact⟨vs,h3,h2⟩
    ·rename_i hc;rw[if_neg hc];exact⟨v,h1,h2⟩
   ·cases h1
def alenV (P:Program) (t:TypeId) (v:Value):Option Value:=(alen P t v).map (.int .i64)
theorem r_len {t:TypeId} {x:Operand}:vcR P w0 q all (⟨some d,.call ⟨.builtin .len,#[x],#[t]⟩,ty,pos,af,none⟩ :: os) a σ K=bindO (alenV P t (ev a x)) (stepK P w0 q all os a d σ K):=by
 rw[r_pureE (α:=Int) (p:=fun m=>alen P t (ev a x)=some m) (v:=fun m=>.int .i64 m) rfl fun _=>rfl]
 apply propext;constructor
 ·rintro ⟨m,h1,h2⟩;exact⟨_,by simp [alenV,h1],h2⟩
 ·rintro ⟨v,h1,h2⟩;obtain⟨m,h3,rfl⟩:=Option.map_eq_some_iff.1 h1;exact⟨m,h3,h2⟩
theorem r_min {xs:List Operand} {ts:Array TypeId}:vcR P w0 q all (⟨some d,.call ⟨.builtin .min,xs.toArray,ts⟩,ty,pos,af,none⟩ :: os) a σ K=bindO (amin (xs.map (ev a))) (stepK P w0 q all os a d σ K) :=
 r_pureE (α:=Value) (v:=id) rfl fun _=>rfl
theorem r_max {xs:List Operand} {ts:Array TypeId}:vcR P w0 q all (⟨some d,.call ⟨.builtin .max,xs.toArray,ts⟩,ty,pos,af,none⟩ :: os) a σ K=bindO (amax (xs.map (ev a))) (stepK P w0 q all os a d σ K) :=
 r_pureE (α:=Value) (v:=id) rfl fun _=>rfl
theorem r_slice {t:TypeId} {x:Operand} {lo hi:Option Operand}:vcR P w0 q all (⟨some d,.slice t x lo hi none,ty,pos,af,none⟩ :: os) a σ K=bindS (aslice P t (ev a x) (lo.map (ev a)) (hi.map (ev a))) (bey P σ t (ev a x) (lo.map (ev a)) (hi.map (ev a))) (stepK P w0 q all os a d σ K):=by
 rw[r_pureE (α:=Prop × Value) (p:=fun z=>aslice P t (ev a x) (lo.map (ev a)) (hi.map (ev a))=some z∧(z.1∨bey P σ t (ev a x) (lo.map (ev a)) (hi.map (ev a)))) (v:=fun z=>z.2) rfl fun K=>by
  apply propext;constructor
  ·rintro ⟨p,v,h1,h2,h3⟩;exact⟨(p,v),⟨h1,h2⟩,h3⟩
  ·rintro ⟨⟨p,v⟩,⟨h1,h2⟩,h3⟩;exact⟨p,v,h1,h2,h3⟩]
 apply propext;constructor
 ·rintro ⟨⟨p,v⟩,⟨h1,h2⟩,h3⟩;exact⟨p,v,h1,h2,h3⟩
 ·rintro ⟨p,v,h1,h2,h3⟩;exact⟨(p,v),⟨h1,h2⟩,h3⟩
theorem r_clear_at {t e:TypeId} {x:Operand} {i:TypeInfo} {z:Value} {h b len:Nat} {σ':AHeap} (h1:P.underlying t=some (.slice e)) (h2:P.info? e=some i) (h3:i.zero=some z) (h4:ev a x=.slice (some ⟨h,b,none⟩) len i.size)
  (h5:(len=0∧σ'=σ)∨((azeros z (len * i.size)).all Value.oneCell'=true∧sts σ h b (azeros z (len * i.size))=some σ')) (hk:vcR P w0 false all os (aput a dd undef) σ' K) :
  vcR P w0 false all (⟨dd,.call ⟨.builtin .clear,#[x],#[t]⟩,ty,pos,af,none⟩ :: os) a σ K:=by
 unfold vcR;exact⟨e,i,z,h,b,len,σ',h1,h2,h3,h4,h5,hk⟩
def afield (P:Program) (s:TypeId) (f:Nat) (x:Value):Option Value :=
 match P.underlying s,x with
 | some (.struct fs),.pointer (some ⟨h,b,none⟩)=>(fs[f]?).map fun fl=>.pointer (some ⟨h,b+fl.offset,none⟩)
 | _,_=>none
theorem r_fieldAddr {s:TypeId} {x:Operand} {f:Nat}:vcR P w0 q all (⟨some d,.fieldAddr s x f,ty,pos,af,none⟩ :: os) a σ K=bindO (afield P s f (ev a x)) (stepK P w0 q all os a d σ K) :=
 r_pureE (α:=Value) (v:=id) rfl fun K=>by
  apply propext;constructor
  ·rintro ⟨fs,fl,h,b,h1,h2,h3,h4⟩;exact⟨_,by unfold afield;rw[h1,h3];simp only[h2,Option.map_some],h4⟩
  ·rintro ⟨v,h1,h2⟩
   unfold afield at h1
   split at h1
   ·rename_i fs h b e1 e2
    obtain⟨fl,h3,rfl⟩:=Option.map_eq_some_iff.1 h1
    exact⟨fs,fl,h,b,e1,h3,e2,h2⟩
   ·cases h1
def afieldV (P:Program) (s:TypeId) (f:Nat) (x:Value):Option Value :=
 match P.underlying s,x with
 | some (.struct fs),.agg cs=>(fs[f]?).bind fun fl=>apart P fl.type cs fl.offset
 | _,_=>none
theorem r_field {s:TypeId} {x:Operand} {f:Nat}:vcR P w0 q all (⟨some d,.field s x f,ty,pos,af,none⟩ :: os) a σ K=bindO (afieldV P s f (ev a x)) (stepK P w0 q all os a d σ K) :=
 r_pureE (α:=Value) (v:=id) rfl fun K=>by
  apply propext;constructor
  ·rintro ⟨fs,fl,cs,v,h1,h2,h3,h4,h5⟩;exact⟨v,by unfold afieldV;rw[h1,h3];simp only[h2,Option.bind_some];exact h4,h5⟩
  ·rintro ⟨v,h1,h2⟩
   unfold afieldV at h1
   split at h1
   ·rename_i fs cs e1 e2
    obtain⟨fl,h3,h4⟩:=Option.bind_eq_some_iff.1 h1
    exact⟨fs,fl,cs,v,e1,h3,e2,h4,h2⟩
   ·cases h1
def aextract (v:Value) (k:Nat):Option Value:=match v with | .tuple vs=>vs[k]?|_=>none
theorem aextract_tuple {vs:Array Value} {k:Nat}:aextract (.tuple vs) k=vs[k]?:=rfl
theorem r_extract {x:Operand} {k:Nat}:vcR P w0 q all (⟨some d,.extract x k,ty,pos,af,none⟩ :: os) a σ K=bindO (aextract (ev a x) k) (stepK P w0 q all os a d σ K) :=
 r_pureE (α:=Value) (v:=id) rfl fun K=>by
  apply propext;constructor
  ·rintro ⟨vs,v,h1,h2,h3⟩;exact⟨v,by rw[h1];exact h2,h3⟩
  ·rintro ⟨v,h1,h2⟩
   unfold aextract at h1
   split at h1
   ·rename_i vs e;exact⟨vs,v,e,h1,h2⟩
   ·cases h1
theorem r_build {t:TypeId} {ps:List (Nat × Operand)}:vcR P w0 q all (⟨some d,.build t ps.toArray,ty,pos,af,none⟩ :: os) a σ K =
  ∃z:Value × Array Value,(azero P t=some z.1∧Instr.fill (aplaces P t) z.1.cells (ps.map fun p=>(p.1,ev a p.2))=some z.2)∧vcR P w0 q all os (fset a d (.agg z.2)) σ K :=
 r_pureE (α:=Value × Array Value) rfl fun K=>by
  apply propext;constructor
  ·rintro ⟨z,out,h1,h2,h3⟩;exact⟨(z,out),⟨h1,h2⟩,h3⟩
  ·rintro ⟨⟨z,out⟩,⟨h1,h2⟩,h3⟩;exact⟨z,out,h1,h2,h3⟩
theorem r_makeFunc {fn:Fn} {cs:List Operand}:vcR P w0 q all (⟨some d,.makeFunc fn #[] cs.toArray,ty,pos,af,none⟩ :: os) a σ K=vcR P w0 q all os (fset a d (.func fn #[] (cs.map (ev a)).toArray)) σ K:=by
 rw[r_pure (v:=.func fn #[] (cs.map (ev a)).toArray) (p:=True) rfl (fun K=>by simp [vcV])];simp [aput]
def guardR (g:Option Bool) (want:Bool) (X Y:Prop):Prop:=(g=some want→X)∧(g≠some want→Y)
def vb:Value→Option Bool
 | .bool b=>some b
 | _=>none
def gvb (t:Option Tmp) (a:AFrame):Option Bool:=t.bind fun t=>vb (a t)
theorem gvb_some {t:Nat}:gvb (some t) a=vb (a t):=rfl
theorem vb_bool {b:Bool}:vb (.bool b)=some b:=rfl
theorem vb_undef:vb undef=none:=rfl
theorem gslot_zero {o:Oper} {l:List Oper}:gslot (o :: l) 0=o.dst:=rfl
theorem gslot_succ {o:Oper} {l:List Oper} {j:Nat}:gslot (o :: l) (j+1)=gslot l j:=by simp [gslot]
theorem gval_eq {j:Nat}:gval all a j=gvb (gslot all j) a:=by
 unfold gval gvb
 cases gslot all j with
 | none=>rfl
 | some t=>simp only[Option.bind_some];cases a t<;>rfl
theorem r_guard {j:Nat} {want:Bool}:vcR P w0 q all (⟨dd,op,ty,pos,af,some (j,want)⟩ :: os) a σ K =
  guardR (gvb (gslot all j) a) want (vcRH P w0 q all (⟨dd,op,ty,pos,af,none⟩ :: os) a σ K) (vcRH P w0 q all os (aput a dd undef) σ K):=by
 rw[←gval_eq]
 conv=>lhs;unfold vcR
 unfold guardR vcRH
 conv=>rhs;lhs;rhs;unfold vcR
 rfl
theorem guardR_tt {all' os':List Oper} {a':AFrame} {Y:Prop}:guardR (some true) true (vcRH P w0 q all' os' a' σ K) Y=vcR P w0 q all' os' a' σ K:=by simp [guardR,vcRH]
theorem guardR_ff {all' os':List Oper} {a':AFrame} {Y:Prop}:guardR (some false) false (vcRH P w0 q all' os' a' σ K) Y=vcR P w0 q all' os' a' σ K:=by simp [guardR,vcRH]
theorem guardR_tf {all' os':List Oper} {a':AFrame} {X:Prop}:guardR (some true) false X (vcRH P w0 q all' os' a' σ K)=vcR P w0 q all' os' a' σ K:=by simp [guardR,vcRH]
theorem guardR_ft {all' os':List Oper} {a':AFrame} {X:Prop}:guardR (some false) true X (vcRH P w0 q all' os' a' σ K)=vcR P w0 q all' os' a' σ K:=by simp [guardR,vcRH]
theorem guardR_nt {w:Bool} {all' os':List Oper} {a':AFrame} {X:Prop}:guardR none w X (vcRH P w0 q all' os' a' σ K)=vcR P w0 q all' os' a' σ K:=by simp [guardR,vcRH]
theorem guardR_pt {p:Prop} [Decidable p] (h:p) {all' os':List Oper} {a':AFrame} {Y:Prop}:guardR (some (decide p)) true (vcRH P w0 q all' os' a' σ K) Y=vcR P w0 q all' os' a' σ K:=by simp [guardR,vcRH,h]
theorem guardR_pf {p:Prop} [Decidable p] (h:p) {all' os':List Oper} {a':AFrame} {X:Prop}:guardR (some (decide p)) false X (vcRH P w0 q all' os' a' σ K)=vcR P w0 q all' os' a' σ K:=by simp [guardR,vcRH,h]
theorem guardR_nT {p:Prop} [Decidable p] (h:¬p) {all' os':List Oper} {a':AFrame} {X:Prop}:guardR (some (decide p)) true X (vcRH P w0 q all' os' a' σ K)=vcR P w0 q all' os' a' σ K:=by simp [guardR,vcRH,h]
theorem guardR_nF {p:Prop} [Decidable p] (h:¬p) {all' os':List Oper} {a':AFrame} {Y:Prop}:guardR (some (decide p)) false (vcRH P w0 q all' os' a' σ K) Y=vcR P w0 q all' os' a' σ K:=by simp [guardR,vcRH,h]
theorem aput_some {v:Value}:aput a (some d) v=fset a d v:=rfl
theorem aput_none {v:Value}:aput a none v=a:=rfl
theorem pickR_tt {x y:Value}:pickR (.bool true) x y (stepK P w0 q all os a d σ K)=vcR P w0 q all os (fset a d x) σ K:=by simp [pickR,stepK]
theorem pickR_ff {x y:Value}:pickR (.bool false) x y (stepK P w0 q all os a d σ K)=vcR P w0 q all os (fset a d y) σ K:=by simp [pickR,stepK]
def opK (P:Program) (w0:Base) (q:Bool) (all os:List Oper) (a:AFrame) (d:Option Tmp) (K:AK):Value→AHeap→Prop:=fun r σ'=>vcR P w0 q all os (aput a d r) σ' K
theorem opK_some {r:Value}:opK P w0 q all os a (some d) K r σ=vcR P w0 q all os (fset a d r) σ K:=rfl
theorem r_call {f:Nat} {xs:List Operand} {ts:Array TypeId}:vcR P w0 false all (⟨dd,.call ⟨.value (.func f),xs.toArray,ts⟩,ty,pos,af,none⟩ :: os) a σ K=ACall P w0.w f (xs.map (ev a)) σ (opK P w0 false all os a dd K):=by
 conv=>lhs;unfold vcR
 apply propext;constructor
 ·rintro (⟨g,caps,h1,h2⟩ |⟨l,h1,-⟩)
  case inr=>cases h1
  cases h1
  have e:xs.map (ev a)++(#[]:Array Value).toList=xs.map (ev a):=List.append_nil _
  rw[e] at h2;exact h2
 ·intro h
  refine .inl ⟨f,#[],rfl,?_⟩
  have e:xs.map (ev a)++(#[]:Array Value).toList=xs.map (ev a):=List.append_nil _
  rw[e];exact h
theorem r_callv {g:Operand} {xs:List Operand} {ts:Array TypeId} (h:∃z:FuncId × Array Value,ev a g=.func (.func z.1) #[] z.2∧ACall P w0.w z.1 (xs.map (ev a)++z.2.toList) σ (opK P w0 false all os a dd K)) :
  vcR P w0 false all (⟨dd,.call ⟨.value g,xs.toArray,ts⟩,ty,pos,af,none⟩ :: os) a σ K:=by
 unfold vcR
 obtain⟨⟨f,caps⟩,h1,h2⟩:=h
 exact .inl ⟨f,caps,h1,h2⟩
theorem r_callq {f:Nat} {xs:List Operand} {ts:Array TypeId}:vcR P w0 true all (⟨some d,.call ⟨.value (.func f),xs.toArray,ts⟩,ty,pos,af,none⟩ :: os) a σ K =
  ∃v,ACall P w0.w f (xs.map (ev a)) σ (fun r σ'=>r=v∧σ'=σ)∧vcR P w0 true all os (fset a d v) σ K:=by
 conv=>lhs;unfold vcR
 apply propext;constructor
 ·rintro ⟨v,⟨g,caps,h1,h2⟩ |⟨l,h1,-⟩,h3⟩
  ·cases h1;exact⟨v,by simpa using h2,h3⟩
  ·cases h1
 ·rintro ⟨v,h2,h3⟩;exact⟨v,.inl ⟨f,#[],rfl,by simpa using h2⟩,h3⟩
theorem r_store {t:TypeId} {x y:Operand}:vcR P w0 false all (⟨none,.store t x y,ty,pos,af,none⟩ :: os) a σ K =
  ∃h i,ev a x=.pointer (some ⟨h,i,none⟩)∧(ev a y).cells.size=P.cellsOf t∧(ev a y).cells.toList.all Value.oneCell'=true∧∃σ',sts σ h i (ev a y).cells.toList=some σ'∧vcR P w0 false all os a σ' K:=by
 conv=>lhs;unfold vcR
 rfl
theorem r_alloc {t:TypeId}:vcR P w0 false all (⟨some d,.alloc t,ty,pos,af,none⟩ :: os) a σ K=∃z,azero P t=some z∧∀h,σ h=none→vcRH P w0 false all os (fset a d (.pointer (some ⟨h,0,none⟩))) (σ.upd h (some ⟨z.cells.toList,false⟩)) K:=by
 conv=>lhs;unfold vcR
 rfl
theorem r_box {t:TypeId} {x:Operand}:vcR P w0 false all (⟨some d,.box t x,ty,pos,af,none⟩ :: os) a σ K=∀h,σ h=none→vcRH P w0 false all os (fset a d (.pointer (some ⟨h,0,none⟩))) (σ.upd h (some ⟨(ev a x).cells.toList,false⟩)) K:=by
 conv=>lhs;unfold vcR
 rfl
theorem r_store_at {t:TypeId} {x y:Operand} {h i:Nat} {σ':AHeap} (h1:ev a x=.pointer (some ⟨h,i,none⟩)) (h2:(ev a y).cells.size=P.cellsOf t) (h3:(ev a y).cells.toList.all Value.oneCell'=true)
  (h4:sts σ h i (ev a y).cells.toList=some σ') (hk:vcR P w0 false all os a σ' K):vcR P w0 false all (⟨none,.store t x y,ty,pos,af,none⟩ :: os) a σ K:=by
 rw[r_store];exact⟨h,i,h1,h2,h3,σ',h4,hk⟩
theorem r_alloc_at {t:TypeId} {z:Value} (hz:azero P t=some z) (hk:∀h,σ h=none→vcR P w0 false all os (fset a d (.pointer (some ⟨h,0,none⟩))) (σ.upd h (some ⟨z.cells.toList,false⟩)) K) :
  vcR P w0 false all (⟨some d,.alloc t,ty,pos,af,none⟩ :: os) a σ K:=by
 rw[r_alloc];exact⟨z,hz,hk⟩
theorem r_make_at {t e:TypeId} {x y:Operand} {kx ky:IntKind} {l c:Int} {i:TypeInfo} {z:Value} (h1:P.underlying t=some (.slice e)) (h2:P.info? e=some i) (h3:i.zero=some z) (h4:ev a x=.int kx l) (h5:ev a y=.int ky c)
  (h6:0≤l∧l≤c∧(i.bytes:Int) * c≤1099511627776∧c≤1099511627776)
  (hk:∀h,σ h=none→vcR P w0 false all os (fset a d (.slice (some ⟨h,0,none⟩) l.toNat i.size)) (σ.upd h (some ⟨azeros z (l.toNat * i.size),false⟩)) K) :
  vcR P w0 false all (⟨some d,.makeSlice t x y,ty,pos,af,none⟩ :: os) a σ K:=by
 unfold vcR;exact⟨kx,l,ky,c,e,i,z,h1,h2,h3,h4,h5,h6.1,h6.2.1,h6.2.2.1,h6.2.2.2,hk⟩
theorem r_lit_at {t e:TypeId} {len:Nat} {ps:List (Nat × Operand)} {z:Value} {out:Array Value} (h1:P.underlying t=some (.slice e)) (h2:azero P e=some z)
  (h3:Instr.fill (fun i=>some (i * P.cellsOf e,P.cellsOf e)) ((Array.range (len * P.cellsOf e)).map (z.cells[· % z.cells.size]!)) (ps.map fun p=>(p.1,ev a p.2))=some out) (h4:out.size=len * P.cellsOf e)
  (hk:∀h,σ h=none→vcR P w0 false all os (fset a d (.slice (some ⟨h,0,none⟩) len (P.cellsOf e))) (σ.upd h (some ⟨out.toList,false⟩)) K) :
  vcR P w0 false all (⟨some d,.buildSlice t len ps.toArray,ty,pos,af,none⟩ :: os) a σ K:=by
 unfold vcR;exact⟨e,z,out,h1,h2,h3,h4,hk⟩
theorem r_append_nil_at {t u e e2:TypeId} {x y:Operand} {i:TypeInfo} {z:Value} {ys:List Value} (h1:P.underlying t=some (.slice e)) (h2:P.underlying u=some (.slice e2)) (h3:P.info? e=some i) (h4:i.zero=some z)
  (h5:acells i.size σ (ev a y)=some ys) (h6:ev a x=.slice none 0 0) (h7:ys.length * i.bytes≤1099511627776∧ys.length≤1099511627776)
  (hk:∀h,σ h=none→vcR P w0 false all os (fset a d (.slice (some ⟨h,0,none⟩) (ys.length / i.size) i.size)) (σ.upd h (some ⟨ys,false⟩)) K) :
  vcR P w0 false all (⟨some d,.call ⟨.builtin .append,#[x,y],#[t,u]⟩,ty,pos,af,none⟩ :: os) a σ K:=by
 unfold vcR;exact⟨e,e2,i,z,ys,h1,h2,h3,h4,h5,.inl ⟨h6,h7.1,h7.2,hk⟩⟩
theorem r_append_at {t u e e2:TypeId} {x y:Operand} {i:TypeInfo} {z:Value} {ys:List Value} {h b len:Nat} {ob:AObj} (h1:P.underlying t=some (.slice e)) (h2:P.underlying u=some (.slice e2)) (h3:P.info? e=some i) (h4:i.zero=some z)
  (h5:acells i.size σ (ev a y)=some ys) (h6:ev a x=.slice (some ⟨h,b,none⟩) len i.size) (h7:σ h=some ob) (h8:ob.ro=false) (h9:b+len * i.size≤ob.cells.length) (h10:ys.all Value.oneCell'=true)
  (h11:(len * i.size+ys.length) * i.bytes≤1099511627776∧len * i.size+ys.length≤1099511627776)
  (hk:∀h',σ h'=none→vcR P w0 false all os (fset a d (.slice (some ⟨h',0,none⟩) (len+ys.length / i.size) i.size)) ((σ.upd h none).upd h' (some ⟨appd (ob.cells.drop b) (len * i.size) ys,false⟩)) K) :
  vcR P w0 false all (⟨some d,.call ⟨.builtin .append,#[x,y],#[t,u]⟩,ty,pos,af,none⟩ :: os) a σ K:=by
 unfold vcR;exact⟨e,e2,i,z,ys,h1,h2,h3,h4,h5,.inr (.inl ⟨h,b,len,ob,h6,h7,h8,h9,h10,h11.1,h11.2,hk⟩)⟩
end Go.Abs
namespace Go.Abs
open Go.RowKit
variable {P:Program} {w0:World} {σ:AHeap}
theorem abin_add {t:TypeId} {a b:Int} (h:-9223372036854775808≤a+b∧a+b≤9223372036854775807):abin P t .add (.int .i64 a) (.int .i64 b)=some (.int .i64 (a+b)):=by
 simp only[abin,if_true];rw[IntKind.wrap_i64];congr 2;omega
theorem abin_sub {t:TypeId} {a b:Int} (h:-9223372036854775808≤a - b∧a - b≤9223372036854775807):abin P t .sub (.int .i64 a) (.int .i64 b)=some (.int .i64 (a - b)):=by
 simp only[abin,if_true];rw[IntKind.wrap_i64];congr 2;omega
theorem wrap_i64_ok {x:Int} (h:-9223372036854775808≤x∧x≤9223372036854775807):IntKind.i64.wrap x=x:=by rw[IntKind.wrap_i64];omega
theorem abin_mul {t:TypeId} {a b:Int} (h:-9223372036854775808≤a * b∧a * b≤9223372036854775807):abin P t .mul (.int .i64 a) (.int .i64 b)=some (.int .i64 (a * b)):=by
 simp only[abin,if_true];rw[wrap_i64_ok h]
theorem abin_quo {t:TypeId} {a b:Int} (h:0≤a∧0 < b∧a≤9223372036854775807):abin P t .quo (.int .i64 a) (.int .i64 b)=some (.int .i64 (a / b)):=by
 obtain⟨h1,h2,h3⟩:=h
 have hd:a.tdiv b=a / b:=Int.tdiv_eq_ediv_of_nonneg h1
 have h4:0≤a / b:=Int.ediv_nonneg h1 (by omega)
 have h5:a / b≤a:=Int.ediv_le_self _ h1
 simp only[abin];rw[if_pos ⟨trivial,by omega⟩,hd,wrap_i64_ok ⟨by omega,by omega⟩]
theorem abin_rem {t:TypeId} {a b:Int} (h:0≤a∧0 < b):abin P t .rem (.int .i64 a) (.int .i64 b)=some (.int .i64 (a % b)):=by
 simp only[abin];rw[if_pos ⟨trivial,by omega⟩,Int.tmod_eq_emod_of_nonneg h.1]
theorem abin_eql {t:TypeId} {k:IntKind} {a b:Int}:abin P t .eql (.int k a) (.int k b)=some (.bool (decide (a=b))):=by
 simp only[abin,if_true];congr 2
theorem abin_neq {t:TypeId} {k:IntKind} {a b:Int}:abin P t .neq (.int k a) (.int k b)=some (.bool (decide (a≠b))):=by
 simp only[abin,if_true,bne,decide_not];congr 2
theorem abin_lss {t:TypeId} {k:IntKind} {a b:Int}:abin P t .lss (.int k a) (.int k b)=some (.bool (decide (a < b))):=by simp [abin]
theorem abin_leq {t:TypeId} {k:IntKind} {a b:Int}:abin P t .leq (.int k a) (.int k b)=some (.bool (decide (a≤b))):=by simp [abin]
theorem abin_gtr {t:TypeId} {k:IntKind} {a b:Int}:abin P t .gtr (.int k a) (.int k b)=some (.bool (decide (b < a))):=by simp [abin]
theorem abin_geq {t:TypeId} {k:IntKind} {a b:Int}:abin P t .geq (.int k a) (.int k b)=some (.bool (decide (b≤a))):=by simp [abin]
theorem abin_beql {t:TypeId} {a b:Bool} (h:isBool P t=true):abin P t .eql (.bool a) (.bool b)=some (.bool (a == b)):=by simp [abin,h]
theorem abin_bneq {t:TypeId} {a b:Bool} (h:isBool P t=true):abin P t .neq (.bool a) (.bool b)=some (.bool (!(a == b))):=by simp [abin,h]
theorem aun_not {b:Bool}:aun .not (.bool b)=some (.bool !b):=rfl
theorem aun_neg {x:Int} (h:-9223372036854775807≤x∧x≤9223372036854775807):aun .neg (.int .i64 x)=some (.int .i64 (-x)):=by
 simp only[aun];rw[wrap_i64_ok (by omega)];congr 2;omega
theorem amin_two {k k':IntKind} {x y:Int}:amin [.int k x,.int k' y]=some (.int k (min x y)):=by
 simp only[amin];congr 2;omega
theorem amax_two {k k':IntKind} {x y:Int}:amax [.int k x,.int k' y]=some (.int k (max x y)):=by
 simp only[amax];congr 2;omega
theorem alenV_slice {t e:TypeId} (h:P.underlying t=some (.slice e)) {ad:Option Addr} {m z:Nat}:alenV P t (.slice ad m z)=some (.int .i64 (m:Int)):=by simp [alenV,alen,h]
theorem alenV_string {t:TypeId} (h:P.underlying t=some .string) {s:ByteArray}:alenV P t (.string s)=some (.int .i64 (s.size:Int)):=by simp [alenV,alen,h]
theorem aidx_slice {t e:TypeId} (h:P.underlying t=some (.slice e)) {x b len z:Nat} (hz:P.cellsOf e=z) {k:IntKind} {i:Int}:aidx P t (.slice (some ⟨x,b,none⟩) len z) (.int k i)=some (x,b,i,len):=by simp [aidx,h,hz]
theorem aidx_array {t e:TypeId} {m:Nat} (h:P.underlying t=some (.array m e)) {x b:Nat} (hz:P.cellsOf e=1) {k:IntKind} {i:Int}:aidx P t (.pointer (some ⟨x,b,none⟩)) (.int k i)=some (x,b,i,m):=by simp [aidx,h,hz]
theorem aload_cell {t:TypeId} (h:aisAgg P t=false) {x i:Nat}:aload P σ t (.pointer (some ⟨x,i,none⟩))=ld σ x i:=by simp [aload,h]
theorem aload_agg {t:TypeId} (h:aisAgg P t=true) {x i:Nat}:aload P σ t (.pointer (some ⟨x,i,none⟩))=(lds σ x i (P.cellsOf t)).map fun vs=>.agg vs.toArray:=by simp [aload,h]
theorem dec_true {p:Prop} [Decidable p]:(decide p=true)=p:=by simp
theorem dec_false {p:Prop} [Decidable p]:(decide p=false)=¬p:=by simp
theorem ld_upd_same {h i:Nat} {o:AObj}:ld (σ.upd h (some o)) h i=o.cells[i]?:=by simp [ld,AHeap.upd_same]
theorem sub_upd {h:Nat} {o:Option AObj} (hn:σ h=none):Sub σ (σ.upd h o):=fun k x hx=>by
 have hk:k≠h:=by intro e;subst e;rw[hn] at hx;cases hx
 rw[AHeap.upd_ne _ _ hk];exact hx
theorem ld_sub {σ':AHeap} (hs:Sub σ σ') {h i:Nat} {v:Value} (hl:ld σ h i=some v):ld σ' h i=some v:=by
 unfold ld at *
 cases ho:σ h with
 | none=>rw[ho] at hl;cases hl
 | some o=>rw[ho] at hl;rw[hs h o ho];exact hl
end Go.Abs
namespace Go.Abs
open Go.RowKit Go.ChangeShapes Go.WideShapes Go.ChangeAt
variable {P:Program}
section
variable {H:Type} {enc:TypeId × Value→H}
theorem trodAll_stays (hl:laidOutB P=true) {W W':World} (hb:Below W.heap.size W W') {sp:Nat→Bool}:∀(ts:List TypeId) (vs:List Value) (ds:List (DataW H)) (ps:List MemPlace),
  (∀t∈ts,P.readableRec t=true∧t < P.types.size)→DataW.TrodAll enc P W 0 (fun _=>true) true ts vs ds ps→(∀x∈ps,x.block < W.heap.size)→(∀x∈ps,sp x.block=true)→DataW.TrodAll enc P W' 0 sp true ts vs ds ps
 | [],[],[],_,_,h,_,_=>h
 | t :: ts,v :: vs,d :: ds,ps,hr,h,hlt,hsp=>by
  obtain⟨p,q,h1,h2,rfl⟩:=h
  obtain⟨r1,r2⟩:=hr t (by simp)
  refine⟨p,q,WideElems.Trod_stays hl r1 r2 h1 (fun x hx=>hb.same (hlt x (by simp [hx]))) (fun x hx=>hsp x (by simp [hx])),?_,rfl⟩
  exact trodAll_stays hl hb ts vs ds q (fun u hu=>hr u (by simp [hu])) h2 (fun x hx=>hlt x (by simp [hx])) (fun x hx=>hsp x (by simp [hx]))
 | [],[],_ :: _,_,_,h,_,_=>h.elim
 | [],_ :: _,_,_,_,h,_,_=>h.elim
 | _ :: _,[],_,_,_,h,_,_=>h.elim
 | _ :: _,_ :: _,[],_,_,h,_,_=>h.elim
theorem law_post {f:Func} {s:ChangeSpec} {W W':World} {args:Array Value} {ds gs:List (DataW H)} {before:List MemPlace} {tb:TypeId} (hl:laidOutB P=true)
  (hW:DataW.Whole enc P f.params.toList s.vars false W args.toList ds gs before) (hv:s.vars=[]) (hs:s.fn H (ds++gs)={ results:=[.lit (.bool true)],args:=ds })
  (hr:∀t∈f.params.toList,P.readableRec t=true∧t < P.types.size) (hrt:f.resultTypes=#[tb]) (htb:P.underlying tb=some .bool) (hb:Below W.heap.size W W') :
  s.post enc P f false true false false W args (.bool true) W':=by
 have hW':=hW
 obtain⟨p,q,hA,hV,rfl,_,_⟩:=hW
 rw[hv] at hV
 obtain⟨rfl,rfl⟩:=trodVars_none hV
 have hlt:∀x∈p,x.block < W.heap.size:=fun x hx=>by have:=hW'.lt x (by simpa using hx);simpa using this
 refine⟨ds,[],p++[],[],p,[],hW',?_,?_,?_,?_,fun h=>by cases h⟩
 ·rw[hs,hrt];exact trodAll_mk1 (shut_bool htb _)
 ·rw[hs];exact trodAll_stays hl hb _ _ _ _ hr hA hlt (fun x hx=>by simpa using hlt x hx)
 ·rw[hs,hv];exact rfl
 ·exact hb.frame _
theorem RelH.addRo {w0:World} {β:Beta} {σ:AHeap} {w:World} (hH:RelH w0 noProt β σ w) (hro:∀h o,σ h=some o→o.ro=true) (a:Addr) (len cap z:Nat) (xs:List Value) (ha:a.spot=none) (hx:xs.length≤cap * z) (hl:len≤cap)
  (hc:∀(i:Nat),i < cap * z→∃v',w.cell? ⟨a.block,a.off+i,none⟩=some v'∧∀v,xs[i]?=some v→RelV β v v') :
  ∃h β',σ h=none∧Le β β'∧RelV β' (.slice (some ⟨h,0,none⟩) len z) (.slice (some a) len cap)∧RelH w0 noProt β' (σ.upd h (some ⟨xs,true⟩)) w∧∀k o,(σ.upd h (some ⟨xs,true⟩)) k=some o→o.ro=true:=by
 obtain⟨N,hN⟩:=hH.fin
 obtain⟨hβ,hσ⟩:=hN N (Nat.le_refl _)
 have hle:=le_bset hβ ⟨a.block,a.off,a.off+cap * z⟩
 have hblk:a.off < a.off+cap * z→∃cs elem fr,w.heap[a.block]?=some (.cells cs elem fr)∧a.off+cap * z≤cs.size∧∀i v,w.cell? ⟨a.block,a.off+i,none⟩=some v→cs[a.off+i]?=some v:=by
  intro hpos
  have get:∀i v,w.cell? ⟨a.block,a.off+i,none⟩=some v→∃cs elem fr,w.heap[a.block]?=some (.cells cs elem fr)∧cs[a.off+i]?=some v:=by
   intro i v hv
   unfold World.cell? at hv
   dsimp only at hv
   split at hv
   ·rename_i cs elem fr hb
    exact⟨cs,elem,fr,hb,by simpa using hv⟩
   ·cases hv
  obtain⟨v',h1,_⟩:=hc (cap * z - 1) (by omega)
  obtain⟨cs,elem,fr,h2,h3⟩:=get _ _ h1
  refine⟨cs,elem,fr,h2,?_,fun i v hv=>?_⟩
  ·rcases Nat.lt_or_ge (a.off+(cap * z - 1)) cs.size with h|h
   ·omega
   ·rw[Array.getElem?_eq_none h] at h3;cases h3
  ·obtain⟨cs2,_,_,h4,h5⟩:=get i v hv
   rw[h2] at h4;cases h4;exact h5
 have hro':∀k o,(σ.upd N (some ⟨xs,true⟩)) k=some o→o.ro=true:=by
  intro k o hk
  by_cases e:k=N
  ·subst e;rw[AHeap.upd_same] at hk;cases hk;rfl
  ·rw[AHeap.upd_ne _ _ e] at hk;exact hro k o hk
 refine⟨N,bset β N ⟨a.block,a.off,a.off+cap * z⟩,hσ,hle,?_,⟨hH.below,⟨N+1,fun x hx'=>?_⟩,?_,?_,fun x y ox oy px py _ hx' _ _ _ h=>by (rw[hro' x ox hx'] at h;cases h),fun _ _ _ h=>(by cases h),fun _ _ _ h=>(by cases h)⟩,hro'⟩
 ·obtain⟨ab,ao,asp⟩:=a
  dsimp only at ha
  subst ha
  exact .slc (o:=0) (bset_same β N _) (by simp) hl
 ·rw[bset_ne _ _ (by omega),AHeap.upd_ne _ _ (by omega)];exact hN x (by omega)
 ·intro x q hq hqs
  by_cases e:x=N
  ·subst e;rw[bset_same] at hq;cases hq
   obtain⟨cs,elem,fr,h2,_,_⟩:=hblk hqs
   rcases Nat.lt_or_ge a.block w.heap.size with h|h
   ·exact h
   ·rw[Array.getElem?_eq_none h] at h2;cases h2
  ·rw[bset_ne _ _ e] at hq;exact hH.dom x q hq hqs
 ·intro x ox hx'
  by_cases e:x=N
  ·subst e;rw[AHeap.upd_same] at hx';cases hx'
   refine⟨_,bset_same _ _ _,fun h0=>?_,fun hp=>?_⟩
   ·dsimp only at h0
    show xs=[]
    exact List.eq_nil_of_length_eq_zero (by omega)
   ·obtain⟨cs,elem,⟨lo,hi⟩,h2,h3,h4⟩:=hblk hp
    refine⟨cs,elem,lo,hi,h2,h3,by dsimp only;omega,fun i v hv=>?_,fun h=>by cases h⟩
    have hi':i < xs.length:=by
     rcases Nat.lt_or_ge i xs.length with h|h
     ·exact h
     ·rw[List.getElem?_eq_none h] at hv;cases hv
    obtain⟨v',e1,e2⟩:=hc i (by omega)
    exact⟨v',h4 i v' e1,(e2 v hv).mono hle⟩
  ·rw[AHeap.upd_ne _ _ e] at hx'
   obtain⟨q,hq,a1,a2⟩:=hH.obj x ox hx'
   exact⟨q,by rw[bset_ne _ _ e];exact hq,a1,fun h=>(a2 h).mono hle⟩
theorem RelH.start (W:World):RelH W noProt (fun _=>none) (fun _=>none) W :=
 ⟨Below.refl _ _,⟨0,fun _ _=>⟨rfl,rfl⟩⟩,fun _ _ h=>(by cases h),fun _ _ h=>(by cases h),fun _ _ _ _ _ _ _ h=>(by cases h),fun _ _ _ h=>(by cases h),fun _ _ _ h=>(by cases h)⟩
def IntsAt (k:IntKind) (σ:AHeap) (h o:Nat) (xs:List Int):Prop:=∀i,i < xs.length→ld σ h (o+i)=some (.int k (xs.getD i 0))
def Ints (k:IntKind) (σ:AHeap) (v:Value) (xs:List Int):Prop:=(v=.slice none 0 0∧xs=[])∨∃h o,v=.slice (some ⟨h,o,none⟩) xs.length 1∧IntsAt k σ h o xs
theorem IntsAt.sub {k:IntKind} {σ σ':AHeap} {h o:Nat} {xs:List Int} (hs:Sub σ σ') (hi:IntsAt k σ h o xs):IntsAt k σ' h o xs:=fun i hlt=>ld_sub hs (hi i hlt)
theorem Ints.sub {k:IntKind} {σ σ':AHeap} {v:Value} {xs:List Int} (hs:Sub σ σ') (hi:Ints k σ v xs):Ints k σ' v xs :=
 hi.imp id fun⟨h,o,e,hh⟩=>⟨h,o,e,hh.sub hs⟩
structure Start (W:World) (β:Beta) (σ:AHeap):Prop where
 rel:RelH W noProt β σ W
 ro:∀h o,σ h=some o→o.ro=true
theorem Start.start (W:World):Start W (fun _=>none) (fun _=>none):=⟨RelH.start W,fun _ _ h=>(by cases h)⟩
theorem start_ints {H:Type} {enc:TypeId × Value→H} {t e:TypeId} {k:IntKind} (ht:P.underlying t=some (.slice e)) (he:P.underlying e=some (.int k)) (hc:P.cellsOf e=1) {W:World} {β:Beta} {σ:AHeap} (hS:Start W β σ)
  {v:Value} {d:DataW H} {p:List MemPlace} {b:Nat} (hok:Value.okWide P W .any b t v) (h:DataW.Trod enc P W 0 (fun _=>true) true t v d p) :
  ∃β' σ' av zs,Le β β'∧Sub σ σ'∧Start W β' σ'∧RelV β' av v∧Ints k σ' av zs∧(∀z∈zs,(Lit.int k z).wf=true)∧zs.length≤maxLen:=by
 obtain⟨a0,len0,cap0,rfl⟩:=okWide_slice ht hok
 obtain⟨fuel,hf⟩:=h
 rcases open_ints ht he hc hf with ⟨hcs,hx⟩ |⟨a,len,cap,zs,hcs,_,hl,hm,hz,hx,hcell,hwz⟩
 ·simp [Value.cells] at hcs
  obtain⟨rfl,rfl,rfl⟩:=hcs
  exact⟨β,σ,.slice none 0 0,[],Le.refl _,Sub.refl _,hS,.slcNil,.inl ⟨rfl,rfl⟩,fun _ h=>(by cases h),by simp⟩
 ·simp [Value.cells] at hcs
  obtain⟨rfl,rfl,rfl⟩:=hcs
  simp only[if_true] at hz
  by_cases h0:cap0=0
  ·have hl0:len0=0:=by omega
   subst h0;subst hl0
   obtain⟨h',β',a1,a2,a3,a4,a5⟩:=hS.rel.addRo hS.ro ⟨0,0,none⟩ 0 0 1 [] rfl (by simp) (Nat.le_refl _) (fun i hi=>absurd hi (by omega))
   refine⟨β',_,.slice (some ⟨h',0,none⟩) 0 1,[],a2,sub_upd a1,⟨a4,a5⟩,?_,.inr ⟨h',0,rfl,fun i hi=>absurd hi (by simp)⟩,fun _ h=>(by cases h),by simp⟩
   rcases relv_slc a3 with ⟨p,cap,hp,hc2,hl2,he2⟩ |⟨_,p,x,hp,hz2,he2⟩
   ·have hcap:cap=0:=by injection he2 with _ _ h;exact h.symm
    subst hcap;exact .slcE hp (by omega) _
   ·exact .slcE hp hz2 _
  ·have hsp:a.spot=none:=by
    have:=hcell 0 (by omega)
    have e0:a.add 0=a:=by simp [Addr.add]
    rw[e0] at this
    unfold World.cell? at this
    split at this
    ·split at this
     ·cases this
     ·rename_i hh;cases hs:a.spot with
      | none=>rfl
      | some x=>rw[hs] at hh;exact absurd rfl hh
    ·cases this
   obtain⟨ab,ao,asp⟩:=a
   dsimp only at hsp
   subst hsp
   obtain⟨h',β',a1,a2,a3,a4,a5⟩:=hS.rel.addRo hS.ro ⟨ab,ao,none⟩ len0 cap0 1 ((zs.take len0).map (Value.int k)) rfl (by simp;omega) hl (fun i hi=>by
    have:=hcell i (by omega)
    rw[add_addr] at this
    refine⟨_,this,fun v hv=>?_⟩
    rw[List.getElem?_map,List.getElem?_take] at hv
    split at hv
    ·have hzl:i < zs.length:=by omega
     simp [hzl] at hv
     subst hv
     simp [List.getD,hzl]
     exact .int _ _
    ·simp at hv)
   have hlen:(zs.take len0).length=len0:=by simp;omega
   refine⟨β',_,.slice (some ⟨h',0,none⟩) len0 1,zs.take len0,a2,sub_upd a1,⟨a4,a5⟩,a3,.inr ⟨h',0,by rw[hlen],fun i hi=>?_⟩,fun z hz=>hwz z (List.mem_of_mem_take hz),by rw[hlen];omega⟩
   rw[ld_upd_same]
   dsimp only
   rw[hlen] at hi
   have hzl:i < zs.length:=by omega
   simp [hi,hzl,List.getD]
end
end Go.Abs
namespace Go.Abs
open Go.RowKit
variable {P:Program} {w0:World} {σ:AHeap}
theorem RelL.split {β:Beta}:∀{pre:List Value} {v:Value} {post ys:List Value},RelL β (pre++v :: post) ys→∃pre' v' post',ys=pre'++v' :: post'∧RelL β pre pre'∧RelV β v v'∧RelL β post post'
 | [],v,post,ys,h=>by
  obtain⟨y,ys',rfl,h1,h2⟩:=RelL.cons_inv h
  exact⟨[],y,ys',rfl,RelL.nil β,h1,h2⟩
 | x :: pre,v,post,ys,h=>by
  obtain⟨y,ys',rfl,h1,h2⟩:=RelL.cons_inv h
  obtain⟨pre',v',post',rfl,a1,a2,a3⟩:=RelL.split h2
  exact⟨y :: pre',v',post',rfl,RelL.cons h1 a1,a2,a3⟩
theorem ACall.nil_arg {f:FuncId} {pre post:List Value} {z:Nat} {R:Value→AHeap→Prop} (hc:callable P f=true)
  (h:∀g,σ g=none→ACall P w0 f (pre++.slice (some ⟨g,0,none⟩) 0 z :: post) (σ.upd g (some ⟨[],false⟩)) R):ACall P w0 f (pre++.slice none 0 0 :: post) σ R:=by
 refine⟨hc,fun pr β w args' hH hA=>?_⟩
 obtain⟨g,a1,a2,a3⟩:=hH.name ⟨0,0,0⟩ [] (fun h=>absurd h (by simp)) (fun _=>rfl) (fun _ _ h=>absurd h (by simp)) (fun h=>absurd h (by simp))
 obtain⟨pre',v',post',rfl,b1,b2,b3⟩:=RelL.split hA
 have hl:=le_bset a2 ⟨0,0,0⟩
 have hv:v'=.slice none 0 0:=by cases b2;rfl
 subst hv
 refine ((h g a1).2 pr _ w _ a3 (RelL.app (b1.mono hl) (RelL.cons (.slcE (bset_same _ _ _) (by simp) none) (b3.mono hl)))).mono ?_
 rintro e w' ⟨β',r,r',σ',c1,c2,c3,c4,c5⟩
 exact⟨β',r,r',σ',hl.trans c1,c2,c3,c4,c5⟩
theorem ACall.ints_arg {k:IntKind} {f:FuncId} {pre post:List Value} {v:Value} {xs:List Int} {R:Value→AHeap→Prop} (hc:callable P f=true) (hv:Ints k σ v xs)
  (h:∀σ1 g o,Sub σ σ1→IntsAt k σ1 g o xs→ACall P w0 f (pre++.slice (some ⟨g,o,none⟩) xs.length 1 :: post) σ1 R):ACall P w0 f (pre++v :: post) σ R:=by
 rcases hv with ⟨rfl,rfl⟩ |⟨g,o,rfl,hg⟩
 ·exact ACall.nil_arg hc fun g hg=>h _ g 0 (sub_upd hg) (fun i hi=>absurd hi (by simp))
 ·exact h σ g o (Sub.refl _) hg
theorem ACall.ints_quiet {k:IntKind} {f:FuncId} {pre post:List Value} {v F:Value} {xs:List Int} (hc:callable P f=true) (hv:Ints k σ v xs)
  (h:∀σ1 g o,Sub σ σ1→IntsAt k σ1 g o xs→ACall P w0 f (pre++.slice (some ⟨g,o,none⟩) xs.length 1 :: post) σ1 fun r σ'=>r=F∧σ'=σ1):ACall P w0 f (pre++v :: post) σ fun r σ'=>r=F∧σ'=σ :=
 ACall.ints_arg hc hv fun σ1 g o hs hg=>(h σ1 g o hs hg).drop fun _ _ ⟨h1,h2⟩=>⟨σ,h2 ▸ hs,h1,rfl⟩
section
variable {t e:TypeId} (ht:P.underlying t=some (.slice e)) {z:Nat} (hz:P.cellsOf e=z) {h o len:Nat} {k k':IntKind} {l u:Int}
include ht hz
theorem aslice_hi:aslice P t (.slice (some ⟨h,o,none⟩) len z) none (some (.int k u))=some (0≤u∧u≤len,.slice (some ⟨h,o,none⟩) u.toNat z):=by simp [aslice,ht,hz]
theorem aslice_lo:aslice P t (.slice (some ⟨h,o,none⟩) len z) (some (.int k l)) none=some (0≤l∧l≤len,.slice (some ⟨h,o+l.toNat * z,none⟩) (len - l.toNat) z):=by simp [aslice,ht,hz]
theorem aslice_lohi:aslice P t (.slice (some ⟨h,o,none⟩) len z) (some (.int k l)) (some (.int k' u))=some (0≤l∧l≤u∧u≤len,.slice (some ⟨h,o+l.toNat * z,none⟩) (u.toNat - l.toNat) z):=by simp [aslice,ht,hz]
end
section
variable {t e:TypeId} (ht:P.underlying t=some (.slice e)) {k k':IntKind} {l u:Int}
include ht
end
theorem IntsAt.take {k:IntKind} {h o:Nat} {xs:List Int} (hi:IntsAt k σ h o xs) (m:Nat):IntsAt k σ h o (xs.take m):=by
 intro i hlt
 simp at hlt
 have:=hi i (by omega)
 rw[this]
 have h1:i < m:=by omega
 simp [List.getD,List.getElem?_take,h1]
theorem IntsAt.drop {k:IntKind} {h o:Nat} {xs:List Int} (hi:IntsAt k σ h o xs) (m:Nat):IntsAt k σ h (o+m) (xs.drop m):=by
 intro i hlt
 simp at hlt
 have:=hi (m+i) (by omega)
 rw[Nat.add_assoc,this]
 simp [List.getD]
def ints (k:IntKind) (xs:List Int):List Value:=xs.map (Value.int k)
theorem ints_length (k:IntKind) (xs:List Int):(ints k xs).length=xs.length:=by simp [ints]
theorem ints_get {k:IntKind} {xs:List Int} {i:Nat} (h:i < xs.length):(ints k xs)[i]?=some (.int k (xs.getD i 0)):=by simp [ints,h,List.getD]
theorem intsAt_own {k:IntKind} {h:Nat} {xs:List Int} {ro:Bool} (hσ:σ h=some ⟨ints k xs,ro⟩):IntsAt k σ h 0 xs:=by
 intro i hi
 unfold ld
 rw[hσ]
 simp only[Option.bind_some,Nat.zero_add]
 exact ints_get hi
theorem ints_one (k:IntKind) (xs:List Int):(ints k xs).all Value.oneCell'=true:=by
 rw[List.all_eq_true];intro v hv;simp only[ints,List.mem_map] at hv;obtain⟨i,_,rfl⟩:=hv;rfl
theorem ints_append (k:IntKind) (xs ys:List Int):ints k xs++ints k ys=ints k (xs++ys):=by simp [ints]
theorem sts_one {h i:Nat} {cs:List Value} {v:Value} (hσ:σ h=some ⟨cs,false⟩) (hi:i < cs.length):sts σ h i [v]=some (σ.upd h (some ⟨cs.set i v,false⟩)):=by
 unfold sts
 rw[hσ]
 simp only[Option.bind_some,List.length_singleton]
 rw[if_pos ⟨trivial,by omega,by omega⟩,lwrite_one _ _ _ hi]
theorem acells_at {k:IntKind} {h o:Nat} {xs:List Int} (hi:IntsAt k σ h o xs) (hl:∃ob,σ h=some ob∧o+xs.length≤ob.cells.length):acells 1 σ (.slice (some ⟨h,o,none⟩) xs.length 1)=some (ints k xs):=by
 unfold acells
 simp only[if_true]
 by_cases h0:xs.length=0
 ·have:=List.eq_nil_of_length_eq_zero h0
  subst this
  simp [ints]
 ·rw[if_neg h0]
  obtain⟨ob,hσ,hle⟩:=hl
  unfold lds
  rw[hσ]
  simp only[Option.bind_some,Nat.mul_one]
  rw[if_pos hle]
  congr 1
  apply List.ext_getElem?
  intro i
  by_cases hlt:i < xs.length
  ·rw[ints_get hlt,List.getElem?_take,if_pos hlt,List.getElem?_drop]
   have:=hi i hlt
   unfold ld at this
   rw[hσ] at this
   simpa using this
  ·rw[List.getElem?_eq_none (by simp;omega),List.getElem?_eq_none (by simp [ints];omega)]
end Go.Abs
namespace Go.Abs
open Go.RowKit
open Go.ChangeShapes Go.WideShapes Go.ChangeAt
def cutW:List Char:=[Char.ofNat 99,Char.ofNat 117,Char.ofNat 116]
theorem mk_of {P:Program} {r:List (List Char)} (h:behindMainWord (wordsSigns P.initOrder.toList)=cutW :: r):P.make=some .cut:=by
 unfold Program.make;rw[h];simp [cutW]
theorem strip_of (r:List (List Char)):stripLifts liftWords (cutW :: r)=([],cutW :: r):=by
 simp [stripLifts,liftWords,cutW]
theorem lifts_of {P:Program} {r:List (List Char)} (h:behindMainWord (wordsSigns P.initOrder.toList)=cutW :: r):P.liftsFinal=false:=by
 unfold Program.liftsFinal Program.headLifts;rw[h,strip_of];simp [cutW]
theorem may_of {P:Program} {r:List (List Char)} (h:behindMainWord (wordsSigns P.initOrder.toList)=cutW :: r) (h1:P.laysLater=false) (h2:P.bearsReflect=false) (h3:P.doorFits []=true):P.mayEnter=true:=by
 unfold Program.mayEnter;rw[h];dsimp only;rw[strip_of,h1,h2,h3];simp [cutW]
end Go.Abs
namespace Go.Abs
open Go.RowKit
variable {P:Program} {w0:Base} {n:NR} {a:AFrame} {σ:AHeap} {K:AK} {Q:AQ} {q:Bool} {all os:List Oper}
variable {d:Nat} {dd:Option Tmp} {ty:TypeId} {pos:String} {af:Array Edge}
def Kept (g:Nat) (σ τ:AHeap):Prop:=∀k ob,k≠g→σ k=some ob→τ k=some ob
theorem Kept.refl (g:Nat) (σ:AHeap):Kept g σ σ:=fun _ _ _ h=>h
theorem Kept.trans {g:Nat} {σ τ υ:AHeap} (h1:Kept g σ τ) (h2:Kept g τ υ):Kept g σ υ:=fun k ob hk h=>h2 k ob hk (h1 k ob hk h)
theorem Kept.put (g:Nat) (σ:AHeap) (o:Option AObj):Kept g σ (σ.upd g o):=fun k ob hk h=>by rw[AHeap.upd_ne _ _ hk];exact h
theorem Sub.kept {g:Nat} {σ τ:AHeap} (h:Sub σ τ):Kept g σ τ:=fun k ob _ e=>h k ob e
theorem Kept.sub {g:Nat} {β σ τ:AHeap} (h:Kept g σ τ) (hs:Sub β σ) (hn:β g=none):Sub β τ:=fun k ob e=>h k ob (by rintro rfl;rw[hn] at e;cases e) (hs k ob e)
theorem Kept.step {g g':Nat} {β σ τ:AHeap} (h1:Kept g β σ) (h2:Kept g' σ τ) (hn:β g'=none∨g'=g):Kept g β τ:=fun k ob hk e=>h2 k ob (by
 rintro rfl
 rcases hn with hn|hn
 ·rw[hn] at e;cases e
 ·exact hk hn) (h1 k ob hk e)
theorem Kept.at {g k:Nat} {σ τ:AHeap} {ob:AObj} (h:Kept g σ τ) (e:σ k=some ob) (hk:k≠g):τ k=some ob:=h k ob hk e
theorem sub_put {σ τ:AHeap} {g:Nat} {o:Option AObj} (hs:Sub σ τ) (hn:σ g=none):Sub σ (τ.upd g o):=fun k ob hk=>by
 by_cases e:k=g
 ·subst e;rw[hn] at hk;cases hk
 ·rw[AHeap.upd_ne _ _ e];exact hs k ob hk
theorem free_sub {σ τ:AHeap} {g:Nat} (hs:Sub σ τ) (h:τ g=none):σ g=none:=by
 cases e:σ g with
 | none=>rfl
 | some ob=>have:=hs g ob e;rw[h] at this;cases this
theorem ne_of {σ:AHeap} {g h:Nat} {ob:AObj} (hg:σ g=none) (hh:σ h=some ob):g≠h:=by rintro rfl;rw[hg] at hh;cases hh
theorem ne_of' {σ:AHeap} {g h:Nat} {ob:AObj} (hg:σ g=none) (hh:σ h=some ob):h≠g:=(ne_of hg hh).symm
theorem put_other {τ:AHeap} {g t:Nat} {ob:AObj} {o:Option AObj} (h:τ g=some ob) (ht:τ t=none):(τ.upd t o) g=some ob:=by
 rw[AHeap.upd_ne _ _ (by rintro rfl;rw[h] at ht;cases ht)];exact h
structure Elems (P:Program) (t:TypeId) (z:Nat) (zv:Value) (b:Nat):Prop where
 ex:∃e i,P.underlying t=some (.slice e)∧P.info? e=some i∧i.zero=some zv∧i.size=z∧i.bytes=b
 co:∃e,P.underlying t=some (.slice e)∧P.cellsOf e=z∧azero P e=some zv
theorem appd_own {C D:List Value} {k:Nat} (h:C.length=k):appd (C.drop 0) k D=C++D:=by
 subst h
 unfold appd
 rw[List.drop_zero]
 split
 ·have:D=[]:=List.eq_nil_of_length_eq_zero (by omega)
  subst this
  simp [lwrite]
 ·rw[List.take_of_length_le (Nat.le_refl _)]
theorem r_lit {t:TypeId} {len z:Nat} {zv:Value} {b:Nat} {ps:List (Nat × Operand)} {out:Array Value} (hE:Elems P t z zv b)
  (h3:Instr.fill (fun i=>some (i * z,z)) ((Array.range (len * z)).map (zv.cells[· % zv.cells.size]!)) (ps.map fun p=>(p.1,ev a p.2))=some out) (h4:out.size=len * z)
  (hk:∀h τ,σ h=none→Sub σ τ→τ h=some ⟨out.toList,false⟩→vcR P w0 false all os (fset a d (.slice (some ⟨h,0,none⟩) len z)) τ K) :
  vcR P w0 false all (⟨some d,.buildSlice t len ps.toArray,ty,pos,af,none⟩ :: os) a σ K:=by
 obtain⟨e,h1,hc,h2⟩:=hE.co
 subst hc
 exact r_lit_at h1 h2 h3 h4 fun h hh=>hk h _ hh (sub_upd hh) (AHeap.upd_same _ _ _)
theorem r_push {t u:TypeId} {z:Nat} {zv:Value} {b:Nat} {x y:Operand} {g len:Nat} {C D:List Value} (hE:Elems P t z zv b) (hu:∃e2,P.underlying u=some (.slice e2))
  (hx:ev a x=.slice (some ⟨g,0,none⟩) len z) (hg:σ g=some ⟨C,false⟩) (hC:C.length=len * z) (hy:acells z σ (ev a y)=some D) (h1:D.all Value.oneCell'=true)
  (hb:(len * z+D.length) * b≤1099511627776∧len * z+D.length≤1099511627776)
  (hk:∀g' τ,σ g'=none→Kept g σ τ→τ g'=some ⟨C++D,false⟩→vcR P w0 false all os (fset a d (.slice (some ⟨g',0,none⟩) (len+D.length / z) z)) τ K) :
  vcR P w0 false all (⟨some d,.call ⟨.builtin .append,#[x,y],#[t,u]⟩,ty,pos,af,none⟩ :: os) a σ K:=by
 obtain⟨e,i,a1,a2,a3,a4,a5⟩:=hE.ex
 obtain⟨e2,hu⟩:=hu
 subst a4;subst a5
 refine r_append_at a1 hu a2 a3 hy hx hg rfl (by show 0+len * i.size≤C.length;omega) h1 hb fun g' hg'=>?_
 rw[appd_own hC]
 exact hk g' _ hg' (fun k ob hk e=>by
  rw[AHeap.upd_ne _ _ (by rintro rfl;rw[hg'] at e;cases e),AHeap.upd_ne _ _ hk];exact e) (AHeap.upd_same _ _ _)
theorem r_push_nil {t u:TypeId} {z:Nat} {zv:Value} {b:Nat} {x y:Operand} {D:List Value} (hE:Elems P t z zv b) (hu:∃e2,P.underlying u=some (.slice e2))
  (hx:ev a x=.slice none 0 0) (hy:acells z σ (ev a y)=some D) (hb:D.length * b≤1099511627776∧D.length≤1099511627776)
  (hk:∀g' τ,σ g'=none→Sub σ τ→τ g'=some ⟨D,false⟩→vcR P w0 false all os (fset a d (.slice (some ⟨g',0,none⟩) (D.length / z) z)) τ K) :
  vcR P w0 false all (⟨some d,.call ⟨.builtin .append,#[x,y],#[t,u]⟩,ty,pos,af,none⟩ :: os) a σ K:=by
 obtain⟨e,i,a1,a2,a3,a4,a5⟩:=hE.ex
 obtain⟨e2,hu⟩:=hu
 subst a4;subst a5
 exact r_append_nil_at a1 hu a2 a3 hy hx hb fun g' hg'=>hk g' _ hg' (sub_upd hg') (AHeap.upd_same _ _ _)
theorem acells_ints {k:IntKind} {h o:Nat} {xs:List Int} (hi:IntsAt k σ h o xs):acells 1 σ (.slice (some ⟨h,o,none⟩) xs.length 1)=some (ints k xs):=by
 by_cases h0:xs.length=0
 ·have:=List.eq_nil_of_length_eq_zero h0
  subst this
  simp [acells,ints]
 ·refine acells_at hi ?_
  have:=hi (xs.length - 1) (by omega)
  unfold ld at this
  cases hσ:σ h with
  | none=>rw[hσ] at this;cases this
  | some ob =>
   rw[hσ] at this
   simp only[Option.bind_some] at this
   refine⟨ob,rfl,?_⟩
   rcases Nat.lt_or_ge (o+(xs.length - 1)) ob.cells.length with h|h
   ·omega
   ·rw[List.getElem?_eq_none h] at this;cases this
theorem r_pushI {t u:TypeId} {zv:Value} {b:Nat} {x y:Operand} {g e o len m:Nat} {k:IntKind} {xs ys:List Int} (hE:Elems P t 1 zv b) (hb:b≤64) (hu:∃e2,P.underlying u=some (.slice e2))
  (hx:ev a x=.slice (some ⟨g,0,none⟩) len 1) (hg:σ g=some ⟨ints k xs,false⟩) (hn:xs.length=len) (hy:ev a y=.slice (some ⟨e,o,none⟩) m 1) (he:IntsAt k σ e o ys) (hm:ys.length=m) (hl:len+m≤4294967296)
  (hk:∀g' τ,σ g'=none→Kept g σ τ→τ g'=some ⟨ints k (xs++ys),false⟩→vcR P w0 false all os (fset a d (.slice (some ⟨g',0,none⟩) (len+m) 1)) τ K) :
  vcR P w0 false all (⟨some d,.call ⟨.builtin .append,#[x,y],#[t,u]⟩,ty,pos,af,none⟩ :: os) a σ K:=by
 subst hn;subst hm
 refine r_push hE hu hx hg (by rw[ints_length];omega) (by rw[hy];exact acells_ints he) (ints_one k ys) ?_ fun g' τ h1 h2 h3=>?_
 ·rw[ints_length]
  have:(xs.length * 1+ys.length) * b≤4294967296 * 64:=Nat.mul_le_mul (by omega) hb
  omega
 ·rw[ints_append] at h3
  rw[ints_length,Nat.div_one]
  exact hk g' τ h1 h2 h3
theorem r_pushI_nil {t u:TypeId} {zv:Value} {b:Nat} {x y:Operand} {e o m:Nat} {k:IntKind} {ys:List Int} (hE:Elems P t 1 zv b) (hb:b≤64) (hu:∃e2,P.underlying u=some (.slice e2))
  (hx:ev a x=.slice none 0 0) (hy:ev a y=.slice (some ⟨e,o,none⟩) m 1) (he:IntsAt k σ e o ys) (hm:ys.length=m) (hl:m≤4294967296)
  (hk:∀g' τ,σ g'=none→Sub σ τ→τ g'=some ⟨ints k ys,false⟩→vcR P w0 false all os (fset a d (.slice (some ⟨g',0,none⟩) m 1)) τ K) :
  vcR P w0 false all (⟨some d,.call ⟨.builtin .append,#[x,y],#[t,u]⟩,ty,pos,af,none⟩ :: os) a σ K:=by
 subst hm
 refine r_push_nil hE hu hx (by rw[hy];exact acells_ints he) ?_ fun g' τ h1 h2 h3=>?_
 ·rw[ints_length]
  have:ys.length * b≤4294967296 * 64:=Nat.mul_le_mul hl hb
  omega
 ·rw[ints_length,Nat.div_one]
  exact hk g' τ h1 h2 h3
theorem r_set {t:TypeId} {x y:Operand} {g i:Nat} {C:List Value} (h1:ev a x=.pointer (some ⟨g,i,none⟩)) (h2:(ev a y).cells=#[ev a y]) (hc:P.cellsOf t=1) (h3:Value.oneCell' (ev a y)=true)
  (hg:σ g=some ⟨C,false⟩) (hi:i < C.length) (hk:∀τ,Kept g σ τ→τ g=some ⟨C.set i (ev a y),false⟩→vcR P w0 false all os a τ K):vcR P w0 false all (⟨none,.store t x y,ty,pos,af,none⟩ :: os) a σ K :=
 r_store_at h1 (by rw[h2,hc];rfl) (by rw[h2];simp [h3]) (by rw[h2];exact sts_one hg hi) (hk _ (Kept.put _ _ _) (AHeap.upd_same _ _ _))
theorem r_sets {t:TypeId} {x y:Operand} {g i:Nat} {C:List Value} (h1:ev a x=.pointer (some ⟨g,i,none⟩)) (hc:(ev a y).cells.size=P.cellsOf t) (h3:(ev a y).cells.toList.all Value.oneCell'=true) (h0:0 < (ev a y).cells.size)
  (hg:σ g=some ⟨C,false⟩) (hi:i+(ev a y).cells.size≤C.length) (hk:∀τ,Kept g σ τ→τ g=some ⟨lwrite C i (ev a y).cells.toList,false⟩→vcR P w0 false all os a τ K):vcR P w0 false all (⟨none,.store t x y,ty,pos,af,none⟩ :: os) a σ K :=
 r_store_at h1 hc h3 (by unfold sts;rw[hg];simp only[Option.bind_some];rw[if_pos ⟨trivial,by simpa using hi,by simpa using h0⟩]) (hk _ (Kept.put _ _ _) (AHeap.upd_same _ _ _))
theorem r_new {t:TypeId} {z:Value} (hz:azero P t=some z) (hk:∀h τ,σ h=none→Sub σ τ→τ h=some ⟨z.cells.toList,false⟩→vcR P w0 false all os (fset a d (.pointer (some ⟨h,0,none⟩))) τ K) :
  vcR P w0 false all (⟨some d,.alloc t,ty,pos,af,none⟩ :: os) a σ K :=
 r_alloc_at hz fun h hh=>hk h _ hh (sub_upd hh) (AHeap.upd_same _ _ _)
theorem r_boxed {t:TypeId} {x:Operand} (hk:∀h τ,σ h=none→Sub σ τ→τ h=some ⟨(ev a x).cells.toList,false⟩→vcR P w0 false all os (fset a d (.pointer (some ⟨h,0,none⟩))) τ K) :
  vcR P w0 false all (⟨some d,.box t x,ty,pos,af,none⟩ :: os) a σ K:=by
 rw[r_box];intro h hh;rw[vcRH_eq];exact hk h _ hh (sub_upd hh) (AHeap.upd_same _ _ _)
theorem r_make {t:TypeId} {z:Nat} {zv:Value} {b:Nat} {x y:Operand} {kx ky:IntKind} {l c:Nat} (hE:Elems P t z zv b) (h4:ev a x=.int kx l) (h5:ev a y=.int ky c)
  (h6:l≤c∧b * c≤1099511627776∧c≤1099511627776)
  (hk:∀h τ,σ h=none→Sub σ τ→τ h=some ⟨azeros zv (l * z),false⟩→vcR P w0 false all os (fset a d (.slice (some ⟨h,0,none⟩) l z)) τ K) :
  vcR P w0 false all (⟨some d,.makeSlice t x y,ty,pos,af,none⟩ :: os) a σ K:=by
 obtain⟨e,i,a1,a2,a3,a4,a5⟩:=hE.ex
 subst a4;subst a5
 refine r_make_at a1 a2 a3 h4 h5 ⟨by omega,by omega,?_,by omega⟩ fun h hh=>?_
 ·have:((i.bytes * c:Nat):Int)≤1099511627776:=by omega
  simpa using this
 ·have:=hk h _ hh (sub_upd hh) (AHeap.upd_same _ _ _)
  simpa using this
theorem vc_loop_c (hm:P.follows .mixedOrders=true) {x:Code} {a0:AFrame} {σ0:AHeap} (hg:goodC P n.n x=true) (cs:List Nat) (I:Nat→AFrame→AHeap→Prop) (m:Nat) (h0:I m a0 σ0)
  (round:∀m a σ,(∀t∈cs,a t=a0 t)→I m a σ→vc P w0 n x a σ (seqK (fun a' σ'=>(∀t∈cs,a' t=a0 t)∧∃m',m' < m∧I m' a' σ') Q)) (hpr:n.pr=w0.pr:=by rfl):ACodeB P w0 n (.loop x) a0 σ0 Q:=by
 refine vc_loop (hpr:=hpr) hm hg (fun m a σ=>(∀t∈cs,a t=a0 t)∧I m a σ) m ⟨fun _ _=>rfl,h0⟩ ?_
 rintro m a σ ⟨hc,hI⟩
 have:=round m a σ hc hI
 have e:(fun a' σ'=>(∀t∈cs,a' t=a0 t)∧∃m',m' < m∧I m' a' σ')=(fun a' σ'=>∃m',m' < m∧(∀t∈cs,a' t=a0 t)∧I m' a' σ'):=by
  funext a' σ'
  apply propext;constructor
  ·rintro ⟨h1,m',h2,h3⟩;exact⟨m',h2,h1,h3⟩
  ·rintro ⟨m',h2,h1,h3⟩;exact⟨h1,m',h2,h3⟩
 rw[e] at this
 exact this
theorem cs_cons {f g:AFrame} {t:Nat} {ts:List Nat}:(∀k∈t :: ts,f k=g k)=(f t=g t∧∀k∈ts,f k=g k):=by simp
theorem cs_nil {f g:AFrame}:(∀k∈([]:List Nat),f k=g k)=True:=by simp
theorem own_at {k:IntKind} {g:Nat} {xs:List Int} (h:σ g=some ⟨ints k xs,false⟩) {i:Nat} (hi:i < xs.length):ld σ g (0+i)=some (.int k (xs.getD i 0)):=intsAt_own h i hi
theorem load_run {β:Beta} {w:World} (hH:RelH w0.w n.pr β σ w) {x x' v:Value} {t:TypeId} {ds:TypeDesc} (rx:RelV β x x') (ht:P.underlying t=some ds) (hz:aisAgg P t=false∨0 < P.cellsOf t)
  (hl:aload P σ t x=some v):∃v',(do loadVar t (←asAddr x'):Sem Value).run P w=.ok v' w∧RelV β v v':=by
 unfold aload at hl
 split at hl
 ·rename_i h i
  obtain⟨p,hq,hvx⟩:=relv_ptr rx
  cases ha:aisAgg P t with
  | true =>
   rw[ha] at hl
   simp only[if_true] at hl
   obtain⟨vs,hl2,rfl⟩:=Option.map_eq_some_iff.1 hl
   have hz':0 < P.cellsOf t:=by
    rcases hz with h|h
    ·rw[ha] at h;cases h
    ·exact h
   obtain⟨inf,hin,hsz⟩:=info_of_cells hz'
   obtain⟨hlen,vs',h1,h2⟩:=hH.cells hq hl2
   obtain⟨r1,r2⟩:=RelL.to_arr (xs:=vs.toArray) (ys:=vs'.toArray) (by simpa using h1)
   refine⟨.agg vs'.toArray,?_,.agg _ _ r1 r2⟩
   have h3:=run_loadCells_list (P:=P) w ⟨p.block,p.shift+i,none⟩ vs' h2
   rw[←h1.1,hlen] at h3
   simp [hvx,asAddr,loadVar,aisAgg_run ht,ha,Go.sizeOf,run_of_info hin,hsz,h3]
  | false =>
   rw[ha] at hl
   simp only[Bool.false_eq_true,if_false] at hl
   obtain⟨o,hσ,hc⟩:=ld_some hl
   obtain⟨v',h1,h2⟩:=hH.cell hσ hc hq
   refine⟨v',?_,h2⟩
   simp [hvx,asAddr,loadVar,aisAgg_run ht,ha,h1]
 ·cases hl
def rvals (P:Program) (σ:AHeap) (a:AFrame):List ResultVar→Option (List Value)
 | []=>some []
 | .tmp t :: rs=>(rvals P σ a rs).map (a t :: ·)
 | .cell t ty :: rs=>(aload P σ ty (a t)).bind fun v=>(rvals P σ a rs).map (v :: ·)
def rpack:List Value→Value
 | [v]=>v
 | vs=>.tuple vs.toArray
def rok (P:Program):ResultVar→Bool
 | .tmp _=>true
 | .cell _ ty=>(P.underlying ty).isSome && (!aisAgg P ty || decide (0 < P.cellsOf ty))
theorem rvals_run {β:Beta} {w:World} {act:Act} (hH:RelH w0.w n.pr β σ w) (hF:RelF n β a act) (g:ResultVar→Sem Value) (hg:∀t,g (.tmp t)=pure (act.tmps.getD t undef))
  (hg2:∀t ty,g (.cell t ty)=(do loadVar ty (←asAddr (act.tmps.getD t undef)))) :
  ∀(rs:List ResultVar) (vs:List Value),rs.all (rok P)=true→rvals P σ a rs=some vs→∃vs',(rs.mapM g).run P w=.ok vs' w∧RelL β vs vs'
 | [],vs,_,h=>by simp [rvals] at h;subst h;exact⟨[],by simp,RelL.nil β⟩
 | .tmp t :: rs,vs,ho,h=>by
  simp only[rvals,Option.map_eq_some_iff] at h
  obtain⟨vs0,h1,rfl⟩:=h
  obtain⟨vs',r1,r2⟩:=rvals_run hH hF g hg hg2 rs vs0 (by simp only[List.all_cons,Bool.and_eq_true] at ho;exact ho.2) h1
  exact⟨_ :: vs',by simp [List.mapM_cons,hg,r1],RelL.cons (hF.tmp t) r2⟩
 | .cell t ty :: rs,vs,ho,h=>by
  simp only[rvals,Option.bind_eq_some_iff,Option.map_eq_some_iff] at h
  obtain⟨v,hv,vs0,h1,rfl⟩:=h
  simp only[List.all_cons,Bool.and_eq_true,rok,Bool.or_eq_true,Bool.not_eq_true',decide_eq_true_eq] at ho
  obtain⟨ds,hds⟩:=Option.isSome_iff_exists.1 ho.1.1
  obtain⟨vs',r1,r2⟩:=rvals_run hH hF g hg hg2 rs vs0 ho.2 h1
  obtain⟨v',s1,s2⟩:=load_run hH (hF.tmp t) hds ho.1.2 hv
  exact⟨v' :: vs',by rw[List.mapM_cons,Sem.run_bind,hg2,s1];simp [r1],RelL.cons s2 r2⟩
theorem rpack_rel {β:Beta} {vs vs':List Value} (h:RelL β vs vs'):RelV β (rpack vs) (if h:vs'.toArray.size=1 then vs'.toArray[0] else .tuple vs'.toArray):=by
 match vs,vs',h with
 | [],[],_=>simp [rpack];exact .tuple _ _ rfl (fun i hi=>by simp at hi)
 | [v],[v'],h=>simpa [rpack] using h.tail.1
 | v :: v2 :: vs,[],h=>exact absurd h.1 (by simp)
 | v :: v2 :: vs,[_],h=>exact absurd h.1 (by simp)
 | [],_ :: _,h=>exact absurd h.1 (by simp)
 | [v],[],h=>exact absurd h.1 (by simp)
 | [v],_ :: _ :: _,h=>exact absurd h.1 (by simp)
 | v :: v2 :: vs,u :: u2 :: us,h =>
  rw[dif_neg (by simp)]
  obtain⟨e1,e2⟩:=RelL.to_arr (xs:=(v :: v2 :: vs).toArray) (ys:=(u :: u2 :: us).toArray) (by simpa using h)
  exact .tuple _ _ e1 e2
def retC (P:Program) (fn:Func) (R:Value→AHeap→Prop):AQ:=fun e a' σ'=>(e=.normal∨e=.ret)∧∃vs σ'',rvals P σ' a' fn.results.toList=some vs∧Sub σ'' σ'∧R (rpack vs) σ''
theorem acall_goc {w:World} (hm:P.follows .mixedOrders=true) {f:FuncId} {fn:Func} {c:Code} {args:List Value} {R:Value→AHeap→Prop} (hf:P.funcs[f]?=some fn) (hb:fn.body=some c)
  (hc:(callable P f && fn.results.toList.all (rok P) && decide (args.length≤fn.ntmps) && goodC P fn.ntmps c)=true)
  (h:∀pr,vc P ⟨w,pr⟩ ⟨fn.ntmps,none,[],pr⟩ c (aenter args) σ (retC P fn R)):ACall P w f args σ R:=by
 simp only[Bool.and_eq_true,decide_eq_true_eq] at hc
 obtain⟨⟨⟨hcl,hr⟩,hn⟩,hgc⟩:=hc
 refine⟨hcl,fun pr β v args' hH hA=>?_⟩
 have h':=vc_sound (w0:=⟨w,pr⟩) rfl hm c _ σ _ hgc (h pr)
 refine calls_of_wp hf hb (wp_mono (wpIn_wide.1 (h' β v _ hH ⟨?_,rfl,fun t=>?_⟩)) ?_)
 ·simp;rw[←hA.1];omega
 ·unfold aenter
  by_cases hlt:t < args.length
  ·obtain⟨y,e1,e2⟩:=hA.2 t args[t] (by simp [hlt])
   have hlt':t < args'.length:=by rw[←hA.1];exact hlt
   have:args'[t]=y:=by simpa [hlt'] using e1
   simp [List.getD,hlt,Array.getElem?_append_left,hlt',this]
   exact e2
  ·have hlt':¬ t < args'.length:=by rw[←hA.1];exact hlt
   have e1:args.getD t undef=undef:=by simp [List.getD,List.getElem?_eq_none (Nat.le_of_not_lt hlt)]
   rw[e1]
   have e2:(args'.toArray++Array.replicate (fn.ntmps - args'.toArray.size) undef).getD t undef=undef:=by
    rw[Array.getD_eq_getD_getElem?,Array.getElem?_append_right (by simpa using Nat.le_of_not_lt hlt'),Array.getElem?_replicate]
    split<;>rfl
   rw[e2]
   exact RelV.undef β
 ·rintro e act' w' ⟨β',a',σ',c1,c2,c3,c4,vs,σ'',s0,s1,s2⟩
  have key:∃v',(results fn act'.tmps).run P w'=.ok v' w'∧RelV β' (rpack vs) v':=by
   have gen:∀g:ResultVar→Sem Value,(∀t,g (.tmp t)=pure (act'.tmps.getD t undef))→(∀t ty,g (.cell t ty)=(do loadVar ty (←asAddr (act'.tmps.getD t undef)))) →
     ∃v',((do let vs ←fn.results.mapM g;pure (if h:vs.size=1 then vs[0] else .tuple vs)):Sem Value).run P w'=.ok v' w'∧RelV β' (rpack vs) v':=by
    intro g h1 h2
    obtain⟨vs',r1,r2⟩:=rvals_run c2 c3 g h1 h2 fn.results.toList vs hr s0
    rw[Sem.run_bind,Array.mapM_eq_mapM_toList,Sem.run_map,r1]
    exact⟨_,rfl,rpack_rel r2⟩
   unfold results
   exact gen _ (fun t=>rfl) (fun t ty=>rfl)
  obtain⟨v',r1,r2⟩:=key
  rcases c4 with rfl|rfl
  ·exact⟨c3.defers,v',r1,β',_,v',σ'',c1,rfl,r2,c2.sub s1,s2⟩
  ·exact⟨c3.defers,v',r1,β',_,v',σ'',c1,rfl,r2,c2.sub s1,s2⟩
def finC (P:Program) (fn:Func) (R:Value→AHeap→Prop) (a:AFrame) (σ:AHeap):Prop:=∃vs σ'',rvals P σ a fn.results.toList=some vs∧Sub σ'' σ∧R (rpack vs) σ''
theorem retC_normal {fn:Func} {R:Value→AHeap→Prop}:retC P fn R .normal a σ=finC P fn R a σ:=by simp [retC,finC]
theorem retC_ret {fn:Func} {R:Value→AHeap→Prop}:retC P fn R .ret a σ=finC P fn R a σ:=by simp [retC,finC]
theorem fin_cell {fn:Func} {R:Value→AHeap→Prop} {t:Nat} {ty:TypeId} {v:Value} (h:fn.results=#[.cell t ty]) (σ'':AHeap) (hs:Sub σ'' σ) (hv:aload P σ ty (a t)=some v) (hr:R v σ''):finC P fn R a σ :=
 ⟨[v],σ'',by simp [h,rvals,hv],hs,hr⟩
theorem r_local {t:TypeId} {k:Nat} {cs:Array Value} {zv:Value} {ty2:TypeId} {pos2:String} {af2:Array Edge} (hz:azero P t=some zv) (hne:k≠d) (hv:a k=.agg cs) (hsz:cs.size=P.cellsOf t) (hzc:zv.cells.size=cs.size)
  (h1:cs.toList.all Value.oneCell'=true) (h0:0 < cs.size)
  (hk:∀h τ,σ h=none→Sub σ τ→τ h=some ⟨cs.toList,false⟩→vcR P w0 false all os (fset a d (.pointer (some ⟨h,0,none⟩))) τ K) :
  vcR P w0 false all (⟨some d,.alloc t,ty,pos,af,none⟩ :: ⟨none,.store t (.tmp d) (.tmp k),ty2,pos2,af2,none⟩ :: os) a σ K:=by
 refine r_alloc_at hz fun h hh=>?_
 have hev:ev (fset a d (.pointer (some ⟨h,0,none⟩))) (.tmp k)=.agg cs:=by rw[ev_tmp,fset_app,if_neg hne];exact hv
 refine r_sets (g:=h) (i:=0) (C:=zv.cells.toList) (by simp [ev,fset]) (by rw[hev];exact hsz) (by rw[hev];exact h1) (by rw[hev];exact h0) (AHeap.upd_same _ _ _) (by rw[hev];show 0+cs.size≤zv.cells.toList.length;rw[Array.length_toList,hzc];omega) fun τ hk1 hk2=>?_
 refine hk h τ hh (hk1.sub (sub_upd hh) hh) ?_
 rw[hk2,hev]
 have e:lwrite zv.cells.toList 0 cs.toList=cs.toList:=by unfold lwrite;simp [hzc]
 show some (AObj.mk (lwrite zv.cells.toList 0 cs.toList) false)=_
 rw[e]
theorem ld_of {h i:Nat} {ob:AObj} {v:Value} (h1:σ h=some ob) (h2:ob.cells[i]?=some v):ld σ h i=some v:=by unfold ld;rw[h1];exact h2
theorem lds_of {h i m:Nat} {ob:AObj} (h1:σ h=some ob) (h2:i+m≤ob.cells.length):lds σ h i m=some ((ob.cells.drop i).take m):=by unfold lds;rw[h1];simp [h2]
end Go.Abs
namespace Go.Abs
open Go.RowKit Go.ChangeShapes Go.WideShapes Go.ChangeAt
variable {P:Program}
section
variable {H:Type} {enc:TypeId × Value→H}
end
end Go.Abs
namespace Go.Abs
open Go.RowKit Go.ChangeShapes Go.WideShapes Go.ChangeAt
variable {P:Program} {w0:World} {σ:AHeap}
def pairs (cs:List (Int × Int)):List Value:=cs.flatMap fun c=>[.int .i64 c.1,.int .i64 c.2]
end Go.Abs
namespace Go.Abs
open Go.RowKit
variable {P:Program} {w0:Base} {n:NR} {a:AFrame} {σ:AHeap} {K:AK} {Q:AQ} {all:List Oper}
theorem lds_sub {σ':AHeap} (hs:Sub σ σ') {h i m:Nat} {vs:List Value} (hl:lds σ h i m=some vs):lds σ' h i m=some vs:=by
 unfold lds at *
 cases ho:σ h with
 | none=>rw[ho] at hl;cases hl
 | some o=>rw[ho] at hl;rw[hs h o ho];exact hl
theorem aconvH_sub {P:Program} {σ σ':AHeap} (hs:Sub σ σ') {s t:TypeId} {x v:Value} (h:aconvH P σ s t x=some v):aconvH P σ' s t x=some v:=by
 unfold aconvH at h ⊢
 split at h
 ·rename_i h' o' l' z'
  split at h
  ·rename_i e hs' ht'
   split at h
   ·rename_i he'
    cases hl:lds σ h' o' l' with
    | none=>rw[hl] at h;cases h
    | some vs =>
     rw[hl] at h
     simp only[lds_sub hs hl,hs',ht',he']
     exact h
   ·cases h
  ·cases h
 ·exact h
def readOp:Op→Bool
 | .move _ | .assign _ | .pick _ _ _ | .binOp _ _ _ _ _ | .unOp _ _ _ | .convert _ _ _ | .nilCheck _ | .indexAddr _ _ _ | .index _ _ _ | .load _ _ | .field _ _ _ | .fieldAddr _ _ _ | .extract _ _ | .build _ _ | .makeFunc _ _ _=>true
 | .slice _ _ _ _ none=>true
 | .call c=>match c.callee with | .builtin .len | .builtin .min | .builtin .max=>true|_=>false
 | _=>false
theorem read_mono {o:Oper} (hr:readOp o.op=true) {ρ:Operand→Value} {σ τ:AHeap} (hs:Sub σ τ) {v:Value} (h:vcV P w0 o ρ σ fun v' σ'=>v'=v∧σ'=σ):vcV P w0 o ρ τ fun v' σ'=>v'=v∧σ'=τ:=by
 obtain⟨d,op,ty,pos,af,gd⟩:=o
 dsimp only at hr
 unfold vcV at *
 dsimp only at *
 cases op
 case move=>exact⟨h.1,rfl⟩
 case assign=>exact⟨h.1,rfl⟩
 case pick=>obtain⟨b,h1,h2⟩:=h;exact⟨b,h1,h2.1,rfl⟩
 case binOp op t x y u =>
  cases hn:nilOp y with
  | true =>
   simp only[hn] at h ⊢
   rcases h with ⟨e0,b,l,z,e1,e2,e3,hk⟩ |⟨e0,e1,e2,hk⟩
   ·exact .inl ⟨e0,b,l,z,e1,e2,e3,fun c c1 c2=>⟨(hk c c1 c2).1,trivial⟩⟩
   ·exact .inr ⟨e0,e1,e2,hk.imp (fun⟨q1,q2⟩=>⟨q1,q2.1,trivial⟩) fun⟨q1,q2⟩=>⟨q1,q2.1,trivial⟩⟩
  | false =>
   simp only[hn] at h ⊢
   obtain⟨b,h1,h2⟩:=h;exact⟨b,h1,h2.1,trivial⟩
 case unOp=>obtain⟨b,h1,h2⟩:=h;exact⟨b,h1,h2.1,rfl⟩
 case convert=>obtain⟨b,h1,h2⟩:=h;exact⟨b,aconvH_sub hs h1,h2.1,rfl⟩
 case nilCheck=>exact⟨h.1,h.2.1,rfl⟩
 case indexAddr=>obtain⟨a1,a2,a3,a4,h1,h2,h3,h4⟩:=h;exact⟨a1,a2,a3,a4,h1,h2,h3,h4.1,rfl⟩
 case load =>
  obtain⟨a1,a2,h1,h2⟩:=h
  refine⟨a1,a2,h1,?_⟩
  split at h2
  ·rename_i hc;rw[if_pos hc];obtain⟨vs,h3,h4⟩:=h2;exact⟨vs,lds_sub hs h3,h4.1,rfl⟩
  ·rename_i hc;rw[if_neg hc];obtain⟨vs,h3,h4⟩:=h2;exact⟨vs,ld_sub hs h3,h4.1,rfl⟩
 case build=>obtain⟨z,out,h1,h2,h3⟩:=h;exact⟨z,out,h1,h2,h3.1,rfl⟩
 case slice t x lo hi mx =>
  cases mx with
  | some m=>simp [readOp] at hr
  | none =>
   obtain⟨p,v,h1,h2,h3⟩:=h
   refine⟨p,v,h1,h2.imp id ?_,h3.1,rfl⟩
   rintro ⟨e,h,o,len,z,ob,k,u,c1,c2,c3,c4,c5,c6,c7⟩
   exact⟨e,h,o,len,z,ob,k,u,c1,c2,c3,hs _ _ c4,c5,c6,c7⟩
 case fieldAddr=>obtain⟨a1,a2,a3,a4,h1,h2,h3,h4⟩:=h;exact⟨a1,a2,a3,a4,h1,h2,h3,h4.1,rfl⟩
 case field=>obtain⟨a1,a2,a3,a4,h1,h2,h3,h4,h5⟩:=h;exact⟨a1,a2,a3,a4,h1,h2,h3,h4,h5.1,rfl⟩
 case extract=>obtain⟨a1,a2,h1,h2,h3⟩:=h;exact⟨a1,a2,h1,h2,h3.1,rfl⟩
 case index=>obtain⟨h0,a1,a2,a3,h1,h2,h3,h4,h5⟩:=h;exact⟨h0,a1,a2,a3,h1,h2,h3,h4,h5.1,rfl⟩
 case makeFunc=>exact⟨h.1,h.2.1,rfl⟩
 case call c =>
  obtain⟨callee,args,types⟩:=c
  dsimp only at h hr ⊢
  split at h
  ·obtain⟨m,h1,h2⟩:=h;exact⟨m,h1,h2.1,rfl⟩
  ·obtain⟨m,h1,h2⟩:=h;exact⟨m,h1,h2.1,rfl⟩
  ·obtain⟨m,h1,h2⟩:=h;exact⟨m,h1,h2.1,rfl⟩
  ·simp [readOp] at hr
  ·simp [readOp] at hr
  ·simp [readOp] at hr
  ·simp [readOp] at hr
  ·exact h.elim
 all_goals simp [readOp] at hr
def pickOps (all:List Oper):List Nat→List Oper
 | []=>[]
 | i :: l=>match all[i]? with
  | some o=>o :: pickOps all l
  | none=>pickOps all l
theorem pickOps_nil:pickOps all []=[]:=rfl
def pickO (x:Option Oper) (r:List Oper):List Oper:=match x with|some o=>o :: r|none=>r
theorem pickOps_cons {i:Nat} {l:List Nat}:pickOps all (i :: l)=pickO (all[i]?) (pickOps all l):=by
 unfold pickO;rw[pickOps]
theorem pickO_some {o:Oper} {r:List Oper}:pickO (some o) r=o :: r:=rfl
def sfOf:List (List Nat × (AHeap→Prop))→Nat→AHeap→Prop
 | [],_,_=>True
 | (l,S) :: r,q,τ=>if q∈l then S τ else sfOf r q τ
theorem sfOf_all {L:List (List Nat × (AHeap→Prop))} {τ:AHeap} (h:∀p∈L,p.2 τ) (q:Nat):sfOf L q τ:=by
 induction L with
 | nil=>trivial
 | cons p L ih =>
  obtain⟨l,S⟩:=p
  unfold sfOf
  split
  ·exact h (l,S) (by simp)
  ·exact ih fun p hp=>h p (by simp [hp])
theorem keep_of {md:Region.Mode} {ops:Array Oper} {L:List (List Nat × (AHeap→Prop))} {i:Nat} {o:Oper} {σ σ':AHeap} (ho:ops[i]?=some o)
  (h:∀p∈L,(p.1.all fun q=>q == i || hangs md o q)=true∨p.2 σ'):Keep md ops (sfOf L) i σ σ':=by
 refine .inr fun q hq hh=>?_
 have hh':=hh o ho
 clear hh ho
 induction L with
 | nil=>trivial
 | cons p L ih =>
  obtain⟨l,S⟩:=p
  unfold sfOf
  split
  ·rename_i hm
   rcases h (l,S) (by simp) with h1|h1
   ·have:=List.all_eq_true.1 h1 q hm
    simp [hq,hh'] at this
   ·exact h1
  ·exact ih fun p hp=>h p (by simp [hp])
theorem tree_quiets {md:Region.Mode} {Sf:Nat→AHeap→Prop} (σ0:AHeap):∀(l:List Nat) (w:Way) (a:AFrame),(∀i∈l,∀τ,Sf i τ→Sub σ0 τ)→((pickOps all l).all fun o=>readOp o.op)=true→(l.all fun i=>decide (i < all.length))=true →
  vcR P w0 true all (pickOps all l) a σ0 (fun a' _=>aTree P w0 md all.toArray Sf K w a' σ)→aTree P w0 md all.toArray Sf K (quiets l w) a σ
 | [],w,a,_,_,_,h=>h
 | i :: l,w,a,hS,hr,hlt,h=>by
  simp only[List.all_cons,Bool.and_eq_true,decide_eq_true_eq] at hlt
  have ho:all[i]?=some all[i]:=List.getElem?_eq_getElem hlt.1
  have ho':all.toArray[i]?=some all[i]:=by simp [hlt.1]
  have e:pickOps all (i :: l)=all[i] :: pickOps all l:=by rw[pickOps_cons,ho];rfl
  rw[e] at h hr
  simp only[List.all_cons,Bool.and_eq_true] at hr
  generalize all[i]=o at *
  have ih:=fun a=>tree_quiets (md:=md) (Sf:=Sf) σ0 l w a (fun i hi=>hS i (by simp [hi])) hr.2 hlt.2
  unfold vcR at h
  cases hgu:o.guard with
  | none =>
   rw[hgu] at h
   obtain⟨v,h1,h2⟩:=h
   exact⟨o,v,ho',.inl ⟨by simp [Region.wanted,hgu],fun τ hτ=>read_mono hr.1 (hS i (by simp) τ hτ) h1⟩,ih _ h2⟩
  | some jw =>
   obtain⟨j,want⟩:=jw
   rw[hgu] at h
   by_cases hv:gval all a j=some want
   ·obtain⟨v,h1,h2⟩:=h.1 hv
    exact⟨o,v,ho',.inl ⟨by simp [Region.wanted,hgu,hv],fun τ hτ=>read_mono hr.1 (hS i (by simp) τ hτ) h1⟩,ih _ h2⟩
   ·exact⟨o,undef,ho',.inr ⟨by simp [Region.wanted,hgu,hv],rfl⟩,ih _ (h.2 hv)⟩
theorem op_one {i:Nat} {o:Oper} {K':AK} (ho:all[i]?=some o) (h:vcR P w0 false all [o] a σ K'):aOp P w0 all.toArray i K' a σ:=by
 have ho':all.toArray[i]?=some o:=by simpa using ho
 unfold aOp
 rw[ho']
 dsimp only
 unfold vcR at h
 cases hgu:o.guard with
 | none =>
  rw[hgu] at h
  exact⟨fun _=>h,fun hw=>by simp [Region.wanted,hgu] at hw⟩
 | some jw =>
  obtain⟨j,want⟩:=jw
  rw[hgu] at h
  refine⟨fun hw=>h.1 ?_,fun hw=>h.2 ?_⟩
  ·simpa [Region.wanted,hgu] using hw
  ·simpa [Region.wanted,hgu] using hw
theorem region_tree (hm:P.follows .mixedOrders=true) {id:Nat} (way:Way) (L:List (List Nat × (AHeap→Prop))) (hg:goodOps P n.n all.toArray=true) (hB:wayB .any all.toArray way all.toArray.size (Array.replicate all.toArray.size false)=true)
  (hS:∀p∈L,p.2 σ) (h:aTree P w0 .any all.toArray (sfOf L) (Q .normal) way a σ) (hpr:n.pr=w0.pr:=by rfl):ACodeB P w0 n (.region id all.toArray true) a σ Q :=
 acode_region_tree hpr hm hg way (sfOf L) hB (sfOf_all hS) h
section
variable {md:Region.Mode} {Sf:Nat→AHeap→Prop} {i j k:Nat} {w u x:Way} {o o2 o3:Oper}
theorem tree_stop (h:K a σ):aTree P w0 md all.toArray Sf K .stop a σ:=h
theorem tree_one (ho:all[i]?=some o) (h:vcR P w0 false all [o] a σ (fun a' σ'=>Keep md all.toArray Sf i σ σ'∧aTree P w0 md all.toArray Sf K w a' σ')):aTree P w0 md all.toArray Sf K (.one i w) a σ:=op_one ho h
theorem tree_two (ho:all[i]?=some o) (ho2:all[j]?=some o2) (h:vcR P w0 false all [o] a σ (fun a' σ'=>Keep md all.toArray Sf i σ σ'∧aTree P w0 md all.toArray Sf K w a' σ'))
  (h2:vcR P w0 false all [o2] a σ (fun a' σ'=>Keep md all.toArray Sf j σ σ'∧aTree P w0 md all.toArray Sf K u a' σ')):aTree P w0 md all.toArray Sf K (.two i w j u) a σ:=⟨op_one ho h,op_one ho2 h2⟩
theorem tree_three (ho:all[i]?=some o) (ho2:all[j]?=some o2) (ho3:all[k]?=some o3) (h:vcR P w0 false all [o] a σ (fun a' σ'=>Keep md all.toArray Sf i σ σ'∧aTree P w0 md all.toArray Sf K w a' σ'))
  (h2:vcR P w0 false all [o2] a σ (fun a' σ'=>Keep md all.toArray Sf j σ σ'∧aTree P w0 md all.toArray Sf K u a' σ')) (h3:vcR P w0 false all [o3] a σ (fun a' σ'=>Keep md all.toArray Sf k σ σ'∧aTree P w0 md all.toArray Sf K x a' σ')) :
  aTree P w0 md all.toArray Sf K (.three i w j u k x) a σ:=⟨op_one ho h,op_one ho2 h2,op_one ho3 h3⟩
end
theorem sf1 {l:List Nat} {S:AHeap→Prop} {r:List (List Nat × (AHeap→Prop))}:∀i∈l,∀τ,sfOf ((l,S) :: r) i τ→S τ:=fun i hi τ h=>by
 unfold sfOf at h;rwa [if_pos hi] at h
theorem sf2 {l1 l:List Nat} {S1 S:AHeap→Prop} {r:List (List Nat × (AHeap→Prop))} (hd:(l.all fun i=>!l1.contains i)=true):∀i∈l,∀τ,sfOf ((l1,S1) :: (l,S) :: r) i τ→S τ:=fun i hi τ h=>by
 have h1:=List.all_eq_true.1 hd i hi
 unfold sfOf at h
 rw[if_neg (by simpa using h1)] at h
 exact sf1 i hi τ h
def only (σ:AHeap) (h:Nat):AHeap:=fun k=>if k=h then σ h else none
theorem sf0 {Sf:Nat→AHeap→Prop} {l:List Nat}:∀i∈l,∀τ,Sf i τ→Sub (fun _=>none) τ:=fun _ _ τ _ _ _ e=>by cases e
end Go.Abs
namespace Go.Abs
open Go.RowKit
variable {P:Program} {t e:TypeId} {z:Nat}
theorem alenV_slice' (h:P.underlying t=some (.slice e)):∀(ad:Option Addr) (m z:Nat),alenV P t (.slice ad m z)=some (.int .i64 (m:Int)):=fun _ _ _=>alenV_slice h
theorem aidx_slice' (h:P.underlying t=some (.slice e)) (hz:P.cellsOf e=z):∀(x b len:Nat) (k:IntKind) (i:Int),aidx P t (.slice (some ⟨x,b,none⟩) len z) (.int k i)=some (x,b,i,len):=fun _ _ _ _ _=>aidx_slice h hz
theorem aidx_array' {m:Nat} (h:P.underlying t=some (.array m e)) (hz:P.cellsOf e=1):∀(x b:Nat) (k:IntKind) (i:Int),aidx P t (.pointer (some ⟨x,b,none⟩)) (.int k i)=some (x,b,i,m):=fun _ _ _ _=>aidx_array h hz
theorem aslice_hi' (ht:P.underlying t=some (.slice e)) (hz:P.cellsOf e=z):∀(h o len:Nat) (k:IntKind) (u:Int),aslice P t (.slice (some ⟨h,o,none⟩) len z) none (some (.int k u))=some (0≤u∧u≤len,.slice (some ⟨h,o,none⟩) u.toNat z):=fun _ _ _ _ _=>aslice_hi ht hz
theorem aslice_lo' (ht:P.underlying t=some (.slice e)) (hz:P.cellsOf e=z):∀(h o len:Nat) (k:IntKind) (l:Int),aslice P t (.slice (some ⟨h,o,none⟩) len z) (some (.int k l)) none=some (0≤l∧l≤len,.slice (some ⟨h,o+l.toNat * z,none⟩) (len - l.toNat) z):=fun _ _ _ _ _=>aslice_lo ht hz
theorem aslice_lohi' (ht:P.underlying t=some (.slice e)) (hz:P.cellsOf e=z):∀(h o len:Nat) (k k':IntKind) (l u:Int),aslice P t (.slice (some ⟨h,o,none⟩) len z) (some (.int k l)) (some (.int k' u))=some (0≤l∧l≤u∧u≤len,.slice (some ⟨h,o+l.toNat * z,none⟩) (u.toNat - l.toNat) z):=fun _ _ _ _ _ _ _=>aslice_lohi ht hz
theorem aslice_nhi' (ht:P.underlying t=some (.slice e)):∀(k:IntKind) (u:Int),aslice P t (.slice none 0 0) none (some (.int k u))=some (u=0,.slice none 0 0):=fun _ _=>by simp [aslice,ht]
theorem aslice_nlo' (ht:P.underlying t=some (.slice e)):∀(k:IntKind) (l:Int),aslice P t (.slice none 0 0) (some (.int k l)) none=some (l=0,.slice none 0 0):=fun _ _=>by simp [aslice,ht]
theorem aslice_nlohi' (ht:P.underlying t=some (.slice e)):∀(k k':IntKind) (l u:Int),aslice P t (.slice none 0 0) (some (.int k l)) (some (.int k' u))=some (l=0∧u=0,.slice none 0 0):=fun _ _ _ _=>by simp [aslice,ht]
theorem abin_beql' (h:isBool P t=true):∀(a b:Bool),abin P t .eql (.bool a) (.bool b)=some (.bool (a == b)):=fun _ _=>abin_beql h
theorem abin_bneq' (h:isBool P t=true):∀(a b:Bool),abin P t .neq (.bool a) (.bool b)=some (.bool (!(a == b))):=fun _ _=>abin_bneq h
theorem aload_cell' (h:aisAgg P t=false):∀(σ:AHeap) (x i:Nat),aload P σ t (.pointer (some ⟨x,i,none⟩))=ld σ x i:=fun _ _ _=>aload_cell h
theorem aload_agg' (h:aisAgg P t=true):∀(σ:AHeap) (x i:Nat),aload P σ t (.pointer (some ⟨x,i,none⟩))=(lds σ x i (P.cellsOf t)).map fun vs=>.agg vs.toArray:=fun _ _ _=>aload_agg h
end Go.Abs
namespace Go.Abs
open Go.RowKit
variable {P:Program} {w0:World} {n:NR} {a:AFrame} {σ:AHeap}
end Go.Abs
namespace Go.Abs
open Go.RowKit
variable {P:Program} {w0:World} {n:NR} {a:AFrame} {σ:AHeap} {Q:AQ}
abbrev on:Option AObj:=some ⟨[],true⟩
abbrev off:Option AObj:=some ⟨[],false⟩
end Go.Abs
namespace Go.Abs
open Go.RowKit
variable {P:Program} {w0:World} {n:NR} {a:AFrame} {σ:AHeap} {K:AFrame→AHeap→Prop}
variable {d:Option Tmp} {ty:TypeId} {pos:String} {af:Array Edge} {gd:Option (Nat × Bool)}
end Go.Abs
namespace Go.Abs
open Go.RowKit
section
variable {P:Program} {w0:World} {σ:AHeap}
end
section
variable {P:Program} {w0:Base} {n:NR} {a:AFrame} {σ:AHeap} {K:AK} {Q:AQ} {q:Bool} {all os:List Oper}
variable {d:Nat} {dd:Option Tmp} {ty:TypeId} {pos:String} {af:Array Edge}
end
end Go.Abs
namespace Go.Abs
open Go.RowKit
section moves
variable {P:Program} {b:Frame} {a:Act} {k:List Item} {cs:List Frame} {w:World}
end moves
variable {P:Program} {w0:World} {n:NR} {a:AFrame} {σ:AHeap} {Q:AQ}
end Go.Abs
