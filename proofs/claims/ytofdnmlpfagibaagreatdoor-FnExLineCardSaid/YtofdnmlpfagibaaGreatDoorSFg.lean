/- Parts. -/
import Derived.Test.YtofdnmlpfagibaaGreatDoorSFf
set_option linter.unusedSimpArgs false
set_option linter.unusedVariables false
set_option linter.unusedSectionVars false
set_option maxHeartbeats 6400000
namespace Go.Proofs.YtofdnmlpfagibaaGreatDoor
open Go Go.Abs Go.RowKit Go.Dial Go.Clos
variable {w0:World}
theorem part_n {z n:Int} (h0:0≤z) (h1:z < 40) (n1:1≤n) (n2:n≤11):0≤z / 39 * n∧z / 39 * n≤11:=by
 have h:z / 39=0∨z / 39=1:=by omega
 rcases h with h|h<;>rw[h]<;>omega
theorem lit7 {τ:AHeap} {q:Nat} {z:Int} (h:τ q=some ⟨ints .i64 [0,0,0,0,1,1,2],false⟩) (h0:0≤z) (h1:z < 7):∃kx:Int,ld τ q (0+z.toNat)=some (.int .i64 kx)∧0≤kx∧kx≤2:=by
 refine⟨_,lit_int h h0 (by simpa using h1),?_⟩
 have:z=0∨z=1∨z=2∨z=3∨z=4∨z=5∨z=6:=by omega
 rcases this with rfl|rfl|rfl|rfl|rfl|rfl|rfl<;>decide
theorem sfIn {l0 l:List Nat} {S:AHeap→Prop} {r:List (List Nat × (AHeap→Prop))} (hd:(l.all fun i=>l0.contains i)=true):∀i∈l,∀τ,Abs.sfOf ((l0,S) :: r) i τ→S τ:=fun i hi τ h=>by
 have h1:=List.all_eq_true.1 hd i hi
 unfold Abs.sfOf at h
 rw[if_pos (by simpa using h1)] at h
 exact h
theorem kept_less {g:Nat} {σ τ:AHeap} (h:Kept g σ τ):Sub (σ.upd g none) (τ.upd g none):=fun k ob e=>by
 by_cases hk:k=g
 ·subst hk;rw[AHeap.upd_same] at e;cases e
 ·rw[AHeap.upd_ne _ _ hk] at e ⊢;exact h k ob hk e
def w8_larbcdun:Abs.Way:=.one 21 .stop
def w8_larbcdu:Abs.Way:=.one 20 w8_larbcdun
def w8_larbcdn:Abs.Way:=.one 19 w8_larbcdun
def w8_larbcd:Abs.Way:=.two 19 w8_larbcdu 20 w8_larbcdn
def w8_larbcn:Abs.Way:=.one 14 (quiets [15,17,18] w8_larbcdn)
def w8_larbc:Abs.Way:=.two 14 (quiets [15,17,18] w8_larbcd) 20 w8_larbcn
def w8_larbn:Abs.Way:=.one 12 w8_larbcn
def w8_larb:Abs.Way:=.two 12 w8_larbc 20 w8_larbn
def w8_larn:Abs.Way:=.one 6 (quiets [7,8,9] w8_larbn)
def w8_lar:Abs.Way:=.two 6 (quiets [7,8,9] w8_larb) 20 w8_larn
def w8_labcdn:Abs.Way:=.one 4 (quiets [9] w8_larbcdn)
def w8_labcd:Abs.Way:=.two 4 (quiets [9] w8_larbcd) 20 w8_labcdn
def w8_labcn:Abs.Way:=.two 4 (quiets [9] w8_larbcn) 14 (quiets [15,17,18] w8_labcdn)
def w8_labc:Abs.Way:=.three 4 (quiets [9] w8_larbc) 14 (quiets [15,17,18] w8_labcd) 20 w8_labcn
def w8_labn:Abs.Way:=.two 4 (quiets [9] w8_larbn) 12 w8_labcn
def w8_lab:Abs.Way:=.three 4 (quiets [9] w8_larb) 12 w8_labc 20 w8_labn
def w8_lan:Abs.Way:=.two 4 w8_larn 6 (quiets [7,8] w8_labn)
def w8_la:Abs.Way:=.three 4 w8_lar 6 (quiets [7,8] w8_lab) 20 w8_lan
def w8_ln:Abs.Way:=.one 2 (quiets [3] w8_lan)
def w8_l:Abs.Way:=.two 2 (quiets [3] w8_la) 20 w8_ln
def w8_abcdn:Abs.Way:=.one 0 (quiets [3] w8_labcdn)
def w8_abcd:Abs.Way:=.two 0 (quiets [3] w8_labcd) 20 w8_abcdn
def w8_abcn:Abs.Way:=.two 0 (quiets [3] w8_labcn) 14 (quiets [15,17,18] w8_abcdn)
def w8_abc:Abs.Way:=.three 0 (quiets [3] w8_labc) 14 (quiets [15,17,18] w8_abcd) 20 w8_abcn
def w8_abn:Abs.Way:=.two 0 (quiets [3] w8_labn) 12 w8_abcn
def w8_ab:Abs.Way:=.three 0 (quiets [3] w8_lab) 12 w8_abc 20 w8_abn
def w8_an:Abs.Way:=.two 0 (quiets [3] w8_lan) 6 (quiets [7,8] w8_abn)
def w8_a:Abs.Way:=.three 0 (quiets [3] w8_la) 6 (quiets [7,8] w8_ab) 20 w8_an
def w8_n:Abs.Way:=.two 0 w8_ln 2 w8_an
def w8_z:Abs.Way:=.three 0 w8_l 2 w8_a 20 w8_n
theorem tree_via {P:Program} {b:Base} {md:Region.Mode} {ops:Array Oper} {Sf:Nat→AHeap→Prop} {K:AK} {way:Abs.Way} {a:AFrame} {σ:AHeap} (h:∀G:Abs.Way→AFrame→AHeap→Prop,G=aTree P b md ops Sf K→G way a σ):aTree P b md ops Sf K way a σ:=h _ rfl
set_option maxRecDepth 16000 in
theorem deed_draw (β σ:AHeap) (g h o:Nat) (bs:List Int) (p:Int) (v1 v2:Value) (e:Ex) (hr:Rd β σ g h o bs p) (hp:0≤p∧p≤9000) (ht:Texts (σ.upd g none) v1 e.ps) (hl:e.ps.length≤11) (hx:∀t∈e.ps,t.length≤5) :
  ACall Tryz.prog w0 73 [.pointer (some ⟨g,0,none⟩),exV v1 v2 e] σ fun r σ'=>∃(d:Dd) (p':Int),r=ddA d∧d.t.length≤5∧p≤p'∧p'≤p+10∧DS β σ σ' g h o bs p':=by
 obtain⟨n,hn,n1,n2,n3⟩:∃n:Int,max (e.ps.length:Int) 1=n∧1≤n∧n≤11∧(0 < e.ps.length→n=e.ps.length):=⟨_,rfl,by omega,by omega,by omega⟩
 obtain⟨⟨O,E,M⟩,ps,cs⟩:=e
 dsimp only at ht hl hx hn n3
 unfold exV
 refine acall_goc mixed Tryz.func73 rfl goodc73 fun pr=>?_
 simp -implicitDefEqProofs(disch:=omega)only[Nat.reduceEqDiff,↓reduceIte,vcu,↓vcd]
 refine r_boxed fun hb τ1 nb s1 eb=>?_
 replace eb:τ1 hb=some ⟨[.int .i64 O,.int .i64 E,.int .i64 M,v1,v2],false⟩:=eb
 refine r_new ze41 fun c4 τ2 n4 s2 e4=>?_
 replace e4:τ2 c4=some ⟨[.int .i64 0,.int .i64 0,.string (tx [])],false⟩:=e4
 have d1:=(DS.start hr).new s1
 have gb:=((DS.start hr).fresh nb)
 have g4:=d1.fresh n4
 have d2:=d1.new s2
 replace eb:=s2 _ _ eb
 have x3:ld τ2 hb (0+3)=some v1:=ld_of eb rfl
 have l1:=lenT ht
 simp -implicitDefEqProofs(disch:=omega)only[Nat.reduceEqDiff,↓reduceIte,vcu,↓vcd,x3,l1,hn]
 have D0:=DS.start d2.rd
 refine acodeB_monoY (Q':=fun en a' T=>en=.normal∧(a' 0=.pointer (some ⟨g,0,none⟩)∧a' 3=.pointer (some ⟨hb,0,none⟩)∧a' 4=.pointer (some ⟨c4,0,none⟩)∧a' 5=.int .i64 n)∧∃(c:Nat) (k l p':Int),a' 6=.pointer (some ⟨c,0,none⟩)∧T c=some ⟨[.int .i64 k,.int .i64 l,.string (tx [])],false⟩∧τ2 c=none∧c≠g∧p≤p'∧p'≤p+4∧DS β τ2 T g h o bs p')
  (region_tree mixed (quiets [1,5,10,11,13,16] w8_z) [] kr9 kr9 (fun p hp=>by cases hp) ?_) ?_
 ·clear eb e4 x3 l1 d2 g4 gb d1 s1 s2 nb n4 n3 ht hx hn hr
  refine tree_quiets (fun _=>none) _ _ _ sf0 kr9 kr9 ?_
  simp -implicitDefEqProofs(disch:=omega)only[Nat.reduceEqDiff,↓reduceIte,vcu,↓vcd,vcp]
  refine tree_via fun G hG=>?_
  have N_larbcdun:∀(a:AFrame) (T:AHeap) (c:Nat) (K0:Int) (L0:Int),(a 0=.pointer (some ⟨g,0,none⟩)∧a 3=.pointer (some ⟨hb,0,none⟩)∧a 4=.pointer (some ⟨c4,0,none⟩)∧a 5=.int .i64 n∧a 6=.pointer (some ⟨c,0,none⟩)∧a 30=.agg #[.int .i64 K0,.int .i64 L0,.string (tx [])])→DS β τ2 T g h o bs (p+1+1+1+1)→T c=some ⟨[.int .i64 0,.int .i64 0,.string (tx [])],false⟩→τ2 c=none∧c≠g→G w8_larbcdun a T:=by
   rintro a T c K0 L0 ⟨h0,h3,h4,h5,h6,h30⟩ d ec fc
   rw[hG]
   refine tree_one rfl ?_
   refine r_sets (g:=c) (i:=0) (C:=[.int .i64 0,.int .i64 0,.string (tx [])]) (by simp -implicitDefEqProofs(disch:=omega)only[Nat.reduceEqDiff,↓reduceIte,vcu,↓vcd,h0,h3,h4,h5,h6,h30]) (by simp -implicitDefEqProofs(disch:=omega)only[Nat.reduceEqDiff,↓reduceIte,vcu,↓vcd,h0,h3,h4,h5,h6,h30,co41];rfl) (by simp -implicitDefEqProofs(disch:=omega)only[Nat.reduceEqDiff,↓reduceIte,vcu,↓vcd,h0,h3,h4,h5,h6,h30];rfl) (by simp -implicitDefEqProofs(disch:=omega)only[Nat.reduceEqDiff,↓reduceIte,vcu,↓vcd,h0,h3,h4,h5,h6,h30];exact Nat.zero_lt_succ _) ec (by simp -implicitDefEqProofs(disch:=omega)only[Nat.reduceEqDiff,↓reduceIte,vcu,↓vcd,h0,h3,h4,h5,h6,h30];exact Nat.le_refl _) fun T' k' e'=>?_
   replace e':T' c=some ⟨[.int .i64 K0,.int .i64 L0,.string (tx [])],false⟩:=by rw[e'];simp -implicitDefEqProofs(disch:=omega)only[Nat.reduceEqDiff,↓reduceIte,vcu,↓vcd,h0,h3,h4,h5,h6,h30];rfl
   replace d:=d.put k' fc.2 fc.1
   try simp -implicitDefEqProofs(disch:=omega)only[Nat.reduceEqDiff,↓reduceIte,vcu,↓vcd,h0,h3,h4,h5,h6,h30]
   refine⟨keep_of rfl (fun p hp=>by cases hp),tree_stop ?_⟩
   exact⟨by first|trivial|rfl,⟨by simp -implicitDefEqProofs(disch:=omega)only[Nat.reduceEqDiff,↓reduceIte,vcu,↓vcd,h0],by simp -implicitDefEqProofs(disch:=omega)only[Nat.reduceEqDiff,↓reduceIte,vcu,↓vcd,h3],by simp -implicitDefEqProofs(disch:=omega)only[Nat.reduceEqDiff,↓reduceIte,vcu,↓vcd,h4],by simp -implicitDefEqProofs(disch:=omega)only[Nat.reduceEqDiff,↓reduceIte,vcu,↓vcd,h5]⟩,c,_,_,_,by simp -implicitDefEqProofs(disch:=omega)only[Nat.reduceEqDiff,↓reduceIte,vcu,↓vcd,h6],e',fc.1,fc.2,by omega,by omega,d⟩
  have N_larbcdu:∀(a:AFrame) (T:AHeap) (K0:Int) (L0:Int),(a 0=.pointer (some ⟨g,0,none⟩)∧a 3=.pointer (some ⟨hb,0,none⟩)∧a 4=.pointer (some ⟨c4,0,none⟩)∧a 5=.int .i64 n∧a 30=.agg #[.int .i64 K0,.int .i64 L0,.string (tx [])])→DS β τ2 T g h o bs (p+1+1+1+1)→G w8_larbcdu a T:=by
   rintro a T K0 L0 ⟨h0,h3,h4,h5,h30⟩ d
   rw[hG]
   refine tree_one rfl ?_
   refine r_new ze41 fun c T' nc sc ec=>?_
   replace ec:T' c=some ⟨[.int .i64 0,.int .i64 0,.string (tx [])],false⟩:=ec
   have fc:=d.fresh nc
   replace d:=d.new sc
   simp -implicitDefEqProofs(disch:=omega)only[Nat.reduceEqDiff,↓reduceIte,vcu,↓vcd]
   refine⟨keep_of rfl (fun p hp=>by cases hp),?_⟩
   rw[←hG]
   exact N_larbcdun _ _ c K0 L0 (by refine⟨?_,?_,?_,?_,?_,?_⟩<;>first|rfl|simp -implicitDefEqProofs(disch:=omega)only[Nat.reduceEqDiff,↓reduceIte,vcu,↓vcd,h0,h3,h4,h5,h30]) d ec fc
  have N_larbcdn:∀(a:AFrame) (T:AHeap) (c:Nat) (K0:Int) (L0:Int),(a 0=.pointer (some ⟨g,0,none⟩)∧a 3=.pointer (some ⟨hb,0,none⟩)∧a 4=.pointer (some ⟨c4,0,none⟩)∧a 5=.int .i64 n∧a 6=.pointer (some ⟨c,0,none⟩)∧a 20=.int .i64 K0∧a 29=.int .i64 L0)→DS β τ2 T g h o bs (p+1+1+1+1)→T c=some ⟨[.int .i64 0,.int .i64 0,.string (tx [])],false⟩→τ2 c=none∧c≠g→G w8_larbcdn a T:=by
   rintro a T c K0 L0 ⟨h0,h3,h4,h5,h6,h20,h29⟩ d ec fc
   rw[hG]
   refine tree_one rfl ?_
   rw[r_build]
   refine⟨(_,#[.int .i64 K0,.int .i64 L0,.string (tx [])]),⟨ze41,by simp -implicitDefEqProofs(disch:=omega)only[Nat.reduceEqDiff,↓reduceIte,vcu,↓vcd,h0,h3,h4,h5,h6,h20,h29];kernel_rfl⟩,?_⟩
   simp -implicitDefEqProofs(disch:=omega)only[Nat.reduceEqDiff,↓reduceIte,vcu,↓vcd]
   refine⟨keep_of rfl (fun p hp=>by cases hp),?_⟩
   rw[←hG]
   exact N_larbcdun _ _ c K0 L0 (by refine⟨?_,?_,?_,?_,?_,?_⟩<;>first|rfl|simp -implicitDefEqProofs(disch:=omega)only[Nat.reduceEqDiff,↓reduceIte,vcu,↓vcd,h0,h3,h4,h5,h6,h20,h29]) d ec fc
  have N_larbcd:∀(a:AFrame) (T:AHeap) (K0:Int) (L0:Int),(a 0=.pointer (some ⟨g,0,none⟩)∧a 3=.pointer (some ⟨hb,0,none⟩)∧a 4=.pointer (some ⟨c4,0,none⟩)∧a 5=.int .i64 n∧a 20=.int .i64 K0∧a 29=.int .i64 L0)→DS β τ2 T g h o bs (p+1+1+1+1)→G w8_larbcd a T:=by
   rintro a T K0 L0 ⟨h0,h3,h4,h5,h20,h29⟩ d
   rw[hG]
   refine tree_two rfl rfl ?_ ?_
   ·skip
    rw[r_build]
    refine⟨(_,#[.int .i64 K0,.int .i64 L0,.string (tx [])]),⟨ze41,by simp -implicitDefEqProofs(disch:=omega)only[Nat.reduceEqDiff,↓reduceIte,vcu,↓vcd,h0,h3,h4,h5,h20,h29];kernel_rfl⟩,?_⟩
    simp -implicitDefEqProofs(disch:=omega)only[Nat.reduceEqDiff,↓reduceIte,vcu,↓vcd]
    refine⟨keep_of rfl (fun p hp=>by cases hp),?_⟩
    rw[←hG]
    exact N_larbcdu _ _ K0 L0 (by refine⟨?_,?_,?_,?_,?_⟩<;>first|rfl|simp -implicitDefEqProofs(disch:=omega)only[Nat.reduceEqDiff,↓reduceIte,vcu,↓vcd,h0,h3,h4,h5,h20,h29]) d
   ·skip
    refine r_new ze41 fun c T' nc sc ec=>?_
    replace ec:T' c=some ⟨[.int .i64 0,.int .i64 0,.string (tx [])],false⟩:=ec
    have fc:=d.fresh nc
    replace d:=d.new sc
    simp -implicitDefEqProofs(disch:=omega)only[Nat.reduceEqDiff,↓reduceIte,vcu,↓vcd]
    refine⟨keep_of rfl (fun p hp=>by cases hp),?_⟩
    rw[←hG]
    exact N_larbcdn _ _ c K0 L0 (by refine⟨?_,?_,?_,?_,?_,?_,?_⟩<;>first|rfl|simp -implicitDefEqProofs(disch:=omega)only[Nat.reduceEqDiff,↓reduceIte,vcu,↓vcd,h0,h3,h4,h5,h20,h29]) d ec fc
  have N_larbcn:∀(a:AFrame) (T:AHeap) (c:Nat) (K0:Int) (z3:Int),(a 0=.pointer (some ⟨g,0,none⟩)∧a 3=.pointer (some ⟨hb,0,none⟩)∧a 4=.pointer (some ⟨c4,0,none⟩)∧a 5=.int .i64 n∧a 6=.pointer (some ⟨c,0,none⟩)∧a 20=.int .i64 K0∧a 23=.int .i64 z3∧a 24=.pointer (some ⟨g,0,none⟩)∧a 27=.int .i64 n)→0≤z3→z3 < n→DS β τ2 T g h o bs (p+1+1+1)→T c=some ⟨[.int .i64 0,.int .i64 0,.string (tx [])],false⟩→τ2 c=none∧c≠g→G w8_larbcn a T:=by
   rintro a T c K0 z3 ⟨h0,h3,h4,h5,h6,h20,h23,h24,h27⟩ z3a z3b d ec fc
   rw[hG]
   refine tree_one rfl ?_
   try simp -implicitDefEqProofs(disch:=omega)only[Nat.reduceEqDiff,↓reduceIte,vcu,↓vcd,h0,h3,h4,h5,h6,h20,h23,h24,h27]
   refine (pick_at β T g h o bs (p+1+1+1) 40 d.rd om9 om9).mono ?_
   rintro _ T' ⟨z4,rfl,z4a,z4b,hR,hK⟩
   replace d:=d.step hR hK
   replace ec:=hK.at ec fc.2
   simp -implicitDefEqProofs(disch:=omega)only[Nat.reduceEqDiff,↓reduceIte,vcu,↓vcd,opK_some,h0,h3,h4,h5,h6,h20,h23,h24,h27]
   refine⟨keep_of rfl (fun p hp=>by cases hp),?_⟩
   have hw:=part_n z4a z4b n1 n2
   refine tree_quiets (fun _=>none) _ _ _ sf0 kr9 kr9 ?_
   simp -implicitDefEqProofs(disch:=omega)only[Nat.reduceEqDiff,↓reduceIte,vcu,↓vcd,vcp,h0,h3,h4,h5,h6,h20,h23,h24,h27]
   rw[←hG]
   exact N_larbcdn _ _ c K0 (z3+z4 / 39 * n) (by refine⟨?_,?_,?_,?_,?_,?_,?_⟩<;>first|rfl|simp -implicitDefEqProofs(disch:=omega)only[Nat.reduceEqDiff,↓reduceIte,vcu,↓vcd,h0,h3,h4,h5,h6,h20,h23,h24,h27]) d ec fc
  have N_larbc:∀(a:AFrame) (T:AHeap) (K0:Int) (z3:Int),(a 0=.pointer (some ⟨g,0,none⟩)∧a 3=.pointer (some ⟨hb,0,none⟩)∧a 4=.pointer (some ⟨c4,0,none⟩)∧a 5=.int .i64 n∧a 20=.int .i64 K0∧a 23=.int .i64 z3∧a 24=.pointer (some ⟨g,0,none⟩)∧a 27=.int .i64 n)→0≤z3→z3 < n→DS β τ2 T g h o bs (p+1+1+1)→G w8_larbc a T:=by
   rintro a T K0 z3 ⟨h0,h3,h4,h5,h20,h23,h24,h27⟩ z3a z3b d
   rw[hG]
   refine tree_two rfl rfl ?_ ?_
   ·skip
    try simp -implicitDefEqProofs(disch:=omega)only[Nat.reduceEqDiff,↓reduceIte,vcu,↓vcd,h0,h3,h4,h5,h20,h23,h24,h27]
    refine (pick_at β T g h o bs (p+1+1+1) 40 d.rd om9 om9).mono ?_
    rintro _ T' ⟨z4,rfl,z4a,z4b,hR,hK⟩
    replace d:=d.step hR hK
    simp -implicitDefEqProofs(disch:=omega)only[Nat.reduceEqDiff,↓reduceIte,vcu,↓vcd,opK_some,h0,h3,h4,h5,h20,h23,h24,h27]
    refine⟨keep_of rfl (fun p hp=>by cases hp),?_⟩
    have hw:=part_n z4a z4b n1 n2
    refine tree_quiets (fun _=>none) _ _ _ sf0 kr9 kr9 ?_
    simp -implicitDefEqProofs(disch:=omega)only[Nat.reduceEqDiff,↓reduceIte,vcu,↓vcd,vcp,h0,h3,h4,h5,h20,h23,h24,h27]
    rw[←hG]
    exact N_larbcd _ _ K0 (z3+z4 / 39 * n) (by refine⟨?_,?_,?_,?_,?_,?_⟩<;>first|rfl|simp -implicitDefEqProofs(disch:=omega)only[Nat.reduceEqDiff,↓reduceIte,vcu,↓vcd,h0,h3,h4,h5,h20,h23,h24,h27]) d
   ·skip
    refine r_new ze41 fun c T' nc sc ec=>?_
    replace ec:T' c=some ⟨[.int .i64 0,.int .i64 0,.string (tx [])],false⟩:=ec
    have fc:=d.fresh nc
    replace d:=d.new sc
    simp -implicitDefEqProofs(disch:=omega)only[Nat.reduceEqDiff,↓reduceIte,vcu,↓vcd]
    refine⟨keep_of rfl (fun p hp=>by cases hp),?_⟩
    rw[←hG]
    exact N_larbcn _ _ c K0 z3 (by refine⟨?_,?_,?_,?_,?_,?_,?_,?_,?_⟩<;>first|rfl|simp -implicitDefEqProofs(disch:=omega)only[Nat.reduceEqDiff,↓reduceIte,vcu,↓vcd,h0,h3,h4,h5,h20,h23,h24,h27]) z3a z3b d ec fc
  have N_larbn:∀(a:AFrame) (T:AHeap) (c:Nat) (K0:Int),(a 0=.pointer (some ⟨g,0,none⟩)∧a 3=.pointer (some ⟨hb,0,none⟩)∧a 4=.pointer (some ⟨c4,0,none⟩)∧a 5=.int .i64 n∧a 6=.pointer (some ⟨c,0,none⟩)∧a 20=.int .i64 K0∧a 21=.pointer (some ⟨g,0,none⟩)∧a 22=.int .i64 n∧a 24=.pointer (some ⟨g,0,none⟩)∧a 27=.int .i64 n)→DS β τ2 T g h o bs (p+1+1)→T c=some ⟨[.int .i64 0,.int .i64 0,.string (tx [])],false⟩→τ2 c=none∧c≠g→G w8_larbn a T:=by
   rintro a T c K0 ⟨h0,h3,h4,h5,h6,h20,h21,h22,h24,h27⟩ d ec fc
   rw[hG]
   refine tree_one rfl ?_
   try simp -implicitDefEqProofs(disch:=omega)only[Nat.reduceEqDiff,↓reduceIte,vcu,↓vcd,h0,h3,h4,h5,h6,h20,h21,h22,h24,h27]
   refine (pick_at β T g h o bs (p+1+1) n d.rd om9 om9).mono ?_
   rintro _ T' ⟨z3,rfl,z3a,z3b,hR,hK⟩
   replace d:=d.step hR hK
   replace ec:=hK.at ec fc.2
   simp -implicitDefEqProofs(disch:=omega)only[Nat.reduceEqDiff,↓reduceIte,vcu,↓vcd,opK_some,h0,h3,h4,h5,h6,h20,h21,h22,h24,h27]
   refine⟨keep_of rfl (fun p hp=>by cases hp),?_⟩
   rw[←hG]
   exact N_larbcn _ _ c K0 z3 (by refine⟨?_,?_,?_,?_,?_,?_,?_,?_,?_⟩<;>first|rfl|simp -implicitDefEqProofs(disch:=omega)only[Nat.reduceEqDiff,↓reduceIte,vcu,↓vcd,h0,h3,h4,h5,h6,h20,h21,h22,h24,h27]) z3a z3b d ec fc
  have N_larb:∀(a:AFrame) (T:AHeap) (K0:Int),(a 0=.pointer (some ⟨g,0,none⟩)∧a 3=.pointer (some ⟨hb,0,none⟩)∧a 4=.pointer (some ⟨c4,0,none⟩)∧a 5=.int .i64 n∧a 20=.int .i64 K0∧a 21=.pointer (some ⟨g,0,none⟩)∧a 22=.int .i64 n∧a 24=.pointer (some ⟨g,0,none⟩)∧a 27=.int .i64 n)→DS β τ2 T g h o bs (p+1+1)→G w8_larb a T:=by
   rintro a T K0 ⟨h0,h3,h4,h5,h20,h21,h22,h24,h27⟩ d
   rw[hG]
   refine tree_two rfl rfl ?_ ?_
   ·skip
    try simp -implicitDefEqProofs(disch:=omega)only[Nat.reduceEqDiff,↓reduceIte,vcu,↓vcd,h0,h3,h4,h5,h20,h21,h22,h24,h27]
    refine (pick_at β T g h o bs (p+1+1) n d.rd om9 om9).mono ?_
    rintro _ T' ⟨z3,rfl,z3a,z3b,hR,hK⟩
    replace d:=d.step hR hK
    simp -implicitDefEqProofs(disch:=omega)only[Nat.reduceEqDiff,↓reduceIte,vcu,↓vcd,opK_some,h0,h3,h4,h5,h20,h21,h22,h24,h27]
    refine⟨keep_of rfl (fun p hp=>by cases hp),?_⟩
    rw[←hG]
    exact N_larbc _ _ K0 z3 (by refine⟨?_,?_,?_,?_,?_,?_,?_,?_⟩<;>first|rfl|simp -implicitDefEqProofs(disch:=omega)only[Nat.reduceEqDiff,↓reduceIte,vcu,↓vcd,h0,h3,h4,h5,h20,h21,h22,h24,h27]) z3a z3b d
   ·skip
    refine r_new ze41 fun c T' nc sc ec=>?_
    replace ec:T' c=some ⟨[.int .i64 0,.int .i64 0,.string (tx [])],false⟩:=ec
    have fc:=d.fresh nc
    replace d:=d.new sc
    simp -implicitDefEqProofs(disch:=omega)only[Nat.reduceEqDiff,↓reduceIte,vcu,↓vcd]
    refine⟨keep_of rfl (fun p hp=>by cases hp),?_⟩
    rw[←hG]
    exact N_larbn _ _ c K0 (by refine⟨?_,?_,?_,?_,?_,?_,?_,?_,?_,?_⟩<;>first|rfl|simp -implicitDefEqProofs(disch:=omega)only[Nat.reduceEqDiff,↓reduceIte,vcu,↓vcd,h0,h3,h4,h5,h20,h21,h22,h24,h27]) d ec fc
  have N_larn:∀(a:AFrame) (T:AHeap) (c:Nat) (kx:Int),(a 0=.pointer (some ⟨g,0,none⟩)∧a 3=.pointer (some ⟨hb,0,none⟩)∧a 4=.pointer (some ⟨c4,0,none⟩)∧a 5=.int .i64 n∧a 6=.pointer (some ⟨c,0,none⟩)∧a 15=.int .i64 kx∧a 16=.pointer (some ⟨g,0,none⟩)∧a 21=.pointer (some ⟨g,0,none⟩)∧a 22=.int .i64 n∧a 24=.pointer (some ⟨g,0,none⟩)∧a 27=.int .i64 n)→0≤kx→kx≤2→DS β τ2 T g h o bs (p+1)→T c=some ⟨[.int .i64 0,.int .i64 0,.string (tx [])],false⟩→τ2 c=none∧c≠g→G w8_larn a T:=by
   rintro a T c kx ⟨h0,h3,h4,h5,h6,h15,h16,h21,h22,h24,h27⟩ kxa kxb d ec fc
   rw[hG]
   refine tree_one rfl ?_
   try simp -implicitDefEqProofs(disch:=omega)only[Nat.reduceEqDiff,↓reduceIte,vcu,↓vcd,h0,h3,h4,h5,h6,h15,h16,h21,h22,h24,h27]
   refine (pick_at β T g h o bs (p+1) 60 d.rd om9 om9).mono ?_
   rintro _ T' ⟨z2,rfl,z2a,z2b,hR,hK⟩
   replace d:=d.step hR hK
   replace ec:=hK.at ec fc.2
   simp -implicitDefEqProofs(disch:=omega)only[Nat.reduceEqDiff,↓reduceIte,vcu,↓vcd,opK_some,h0,h3,h4,h5,h6,h15,h16,h21,h22,h24,h27]
   refine⟨keep_of rfl (fun p hp=>by cases hp),?_⟩
   refine tree_quiets (fun _=>none) _ _ _ sf0 kr9 kr9 ?_
   simp -implicitDefEqProofs(disch:=omega)only[Nat.reduceEqDiff,↓reduceIte,vcu,↓vcd,vcp,h0,h3,h4,h5,h6,h15,h16,h21,h22,h24,h27]
   rw[←hG]
   exact N_larbn _ _ c (kx+z2 / 59 * 3) (by refine⟨?_,?_,?_,?_,?_,?_,?_,?_,?_,?_⟩<;>first|rfl|simp -implicitDefEqProofs(disch:=omega)only[Nat.reduceEqDiff,↓reduceIte,vcu,↓vcd,h0,h3,h4,h5,h6,h15,h16,h21,h22,h24,h27]) d ec fc
  have N_lar:∀(a:AFrame) (T:AHeap) (kx:Int),(a 0=.pointer (some ⟨g,0,none⟩)∧a 3=.pointer (some ⟨hb,0,none⟩)∧a 4=.pointer (some ⟨c4,0,none⟩)∧a 5=.int .i64 n∧a 15=.int .i64 kx∧a 16=.pointer (some ⟨g,0,none⟩)∧a 21=.pointer (some ⟨g,0,none⟩)∧a 22=.int .i64 n∧a 24=.pointer (some ⟨g,0,none⟩)∧a 27=.int .i64 n)→0≤kx→kx≤2→DS β τ2 T g h o bs (p+1)→G w8_lar a T:=by
   rintro a T kx ⟨h0,h3,h4,h5,h15,h16,h21,h22,h24,h27⟩ kxa kxb d
   rw[hG]
   refine tree_two rfl rfl ?_ ?_
   ·skip
    try simp -implicitDefEqProofs(disch:=omega)only[Nat.reduceEqDiff,↓reduceIte,vcu,↓vcd,h0,h3,h4,h5,h15,h16,h21,h22,h24,h27]
    refine (pick_at β T g h o bs (p+1) 60 d.rd om9 om9).mono ?_
    rintro _ T' ⟨z2,rfl,z2a,z2b,hR,hK⟩
    replace d:=d.step hR hK
    simp -implicitDefEqProofs(disch:=omega)only[Nat.reduceEqDiff,↓reduceIte,vcu,↓vcd,opK_some,h0,h3,h4,h5,h15,h16,h21,h22,h24,h27]
    refine⟨keep_of rfl (fun p hp=>by cases hp),?_⟩
    refine tree_quiets (fun _=>none) _ _ _ sf0 kr9 kr9 ?_
    simp -implicitDefEqProofs(disch:=omega)only[Nat.reduceEqDiff,↓reduceIte,vcu,↓vcd,vcp,h0,h3,h4,h5,h15,h16,h21,h22,h24,h27]
    rw[←hG]
    exact N_larb _ _ (kx+z2 / 59 * 3) (by refine⟨?_,?_,?_,?_,?_,?_,?_,?_,?_⟩<;>first|rfl|simp -implicitDefEqProofs(disch:=omega)only[Nat.reduceEqDiff,↓reduceIte,vcu,↓vcd,h0,h3,h4,h5,h15,h16,h21,h22,h24,h27]) d
   ·skip
    refine r_new ze41 fun c T' nc sc ec=>?_
    replace ec:T' c=some ⟨[.int .i64 0,.int .i64 0,.string (tx [])],false⟩:=ec
    have fc:=d.fresh nc
    replace d:=d.new sc
    simp -implicitDefEqProofs(disch:=omega)only[Nat.reduceEqDiff,↓reduceIte,vcu,↓vcd]
    refine⟨keep_of rfl (fun p hp=>by cases hp),?_⟩
    rw[←hG]
    exact N_larn _ _ c kx (by refine⟨?_,?_,?_,?_,?_,?_,?_,?_,?_,?_,?_⟩<;>first|rfl|simp -implicitDefEqProofs(disch:=omega)only[Nat.reduceEqDiff,↓reduceIte,vcu,↓vcd,h0,h3,h4,h5,h15,h16,h21,h22,h24,h27]) kxa kxb d ec fc
  have N_labcdn:∀(a:AFrame) (T:AHeap) (q:Nat) (c:Nat) (z1:Int) (xb:Int) (L0:Int),(a 0=.pointer (some ⟨g,0,none⟩)∧a 3=.pointer (some ⟨hb,0,none⟩)∧a 4=.pointer (some ⟨c4,0,none⟩)∧a 5=.int .i64 n∧a 6=.pointer (some ⟨c,0,none⟩)∧a 14=.pointer (some ⟨q,0+z1.toNat,none⟩)∧a 19=.int .i64 xb∧a 29=.int .i64 L0)→0≤z1→z1 < 7→0≤xb→xb≤3→DS β τ2 T g h o bs (p+1+1+1+1)→T q=some ⟨ints .i64 [0,0,0,0,1,1,2],false⟩→τ2 q=none∧q≠g→T c=some ⟨[.int .i64 0,.int .i64 0,.string (tx [])],false⟩→τ2 c=none∧c≠g→G w8_labcdn a T:=by
   rintro a T q c z1 xb L0 ⟨h0,h3,h4,h5,h6,h14,h19,h29⟩ z1a z1b xba xbb d eq fq ec fc
   rw[hG]
   refine tree_one rfl ?_
   obtain⟨kx,hx,kxa,kxb⟩:=lit7 eq z1a z1b
   simp -implicitDefEqProofs(disch:=omega)only[Nat.reduceEqDiff,↓reduceIte,vcu,↓vcd,h0,h3,h4,h5,h6,h14,h19,h29,hx]
   refine⟨keep_of rfl (fun p hp=>by cases hp),?_⟩
   refine tree_quiets (fun _=>none) _ _ _ sf0 kr9 kr9 ?_
   simp -implicitDefEqProofs(disch:=omega)only[Nat.reduceEqDiff,↓reduceIte,vcu,↓vcd,vcp,h0,h3,h4,h5,h6,h14,h19,h29]
   rw[←hG]
   exact N_larbcdn _ _ c (kx+xb) L0 (by refine⟨?_,?_,?_,?_,?_,?_,?_⟩<;>first|rfl|simp -implicitDefEqProofs(disch:=omega)only[Nat.reduceEqDiff,↓reduceIte,vcu,↓vcd,h0,h3,h4,h5,h6,h14,h19,h29]) d ec fc
  have N_labcd:∀(a:AFrame) (T:AHeap) (q:Nat) (z1:Int) (xb:Int) (L0:Int),(a 0=.pointer (some ⟨g,0,none⟩)∧a 3=.pointer (some ⟨hb,0,none⟩)∧a 4=.pointer (some ⟨c4,0,none⟩)∧a 5=.int .i64 n∧a 14=.pointer (some ⟨q,0+z1.toNat,none⟩)∧a 19=.int .i64 xb∧a 29=.int .i64 L0)→0≤z1→z1 < 7→0≤xb→xb≤3→DS β τ2 T g h o bs (p+1+1+1+1)→T q=some ⟨ints .i64 [0,0,0,0,1,1,2],false⟩→τ2 q=none∧q≠g→G w8_labcd a T:=by
   rintro a T q z1 xb L0 ⟨h0,h3,h4,h5,h14,h19,h29⟩ z1a z1b xba xbb d eq fq
   rw[hG]
   refine tree_two rfl rfl ?_ ?_
   ·skip
    obtain⟨kx,hx,kxa,kxb⟩:=lit7 eq z1a z1b
    simp -implicitDefEqProofs(disch:=omega)only[Nat.reduceEqDiff,↓reduceIte,vcu,↓vcd,h0,h3,h4,h5,h14,h19,h29,hx]
    refine⟨keep_of rfl (fun p hp=>by cases hp),?_⟩
    refine tree_quiets (fun _=>none) _ _ _ sf0 kr9 kr9 ?_
    simp -implicitDefEqProofs(disch:=omega)only[Nat.reduceEqDiff,↓reduceIte,vcu,↓vcd,vcp,h0,h3,h4,h5,h14,h19,h29]
    rw[←hG]
    exact N_larbcd _ _ (kx+xb) L0 (by refine⟨?_,?_,?_,?_,?_,?_⟩<;>first|rfl|simp -implicitDefEqProofs(disch:=omega)only[Nat.reduceEqDiff,↓reduceIte,vcu,↓vcd,h0,h3,h4,h5,h14,h19,h29]) d
   ·skip
    refine r_new ze41 fun c T' nc sc ec=>?_
    replace ec:T' c=some ⟨[.int .i64 0,.int .i64 0,.string (tx [])],false⟩:=ec
    have fc:=d.fresh nc
    replace d:=d.new sc
    replace eq:=sc _ _ eq
    simp -implicitDefEqProofs(disch:=omega)only[Nat.reduceEqDiff,↓reduceIte,vcu,↓vcd]
    refine⟨keep_of rfl (fun p hp=>by cases hp),?_⟩
    rw[←hG]
    exact N_labcdn _ _ q c z1 xb L0 (by refine⟨?_,?_,?_,?_,?_,?_,?_,?_⟩<;>first|rfl|simp -implicitDefEqProofs(disch:=omega)only[Nat.reduceEqDiff,↓reduceIte,vcu,↓vcd,h0,h3,h4,h5,h14,h19,h29]) z1a z1b xba xbb d eq fq ec fc
  have N_labcn:∀(a:AFrame) (T:AHeap) (q:Nat) (c:Nat) (z1:Int) (xb:Int) (z3:Int),(a 0=.pointer (some ⟨g,0,none⟩)∧a 3=.pointer (some ⟨hb,0,none⟩)∧a 4=.pointer (some ⟨c4,0,none⟩)∧a 5=.int .i64 n∧a 6=.pointer (some ⟨c,0,none⟩)∧a 14=.pointer (some ⟨q,0+z1.toNat,none⟩)∧a 19=.int .i64 xb∧a 23=.int .i64 z3∧a 24=.pointer (some ⟨g,0,none⟩)∧a 27=.int .i64 n)→0≤z1→z1 < 7→0≤xb→xb≤3→0≤z3→z3 < n→DS β τ2 T g h o bs (p+1+1+1)→T q=some ⟨ints .i64 [0,0,0,0,1,1,2],false⟩→τ2 q=none∧q≠g→T c=some ⟨[.int .i64 0,.int .i64 0,.string (tx [])],false⟩→τ2 c=none∧c≠g→G w8_labcn a T:=by
   rintro a T q c z1 xb z3 ⟨h0,h3,h4,h5,h6,h14,h19,h23,h24,h27⟩ z1a z1b xba xbb z3a z3b d eq fq ec fc
   rw[hG]
   refine tree_two rfl rfl ?_ ?_
   ·skip
    obtain⟨kx,hx,kxa,kxb⟩:=lit7 eq z1a z1b
    simp -implicitDefEqProofs(disch:=omega)only[Nat.reduceEqDiff,↓reduceIte,vcu,↓vcd,h0,h3,h4,h5,h6,h14,h19,h23,h24,h27,hx]
    refine⟨keep_of rfl (fun p hp=>by cases hp),?_⟩
    refine tree_quiets (fun _=>none) _ _ _ sf0 kr9 kr9 ?_
    simp -implicitDefEqProofs(disch:=omega)only[Nat.reduceEqDiff,↓reduceIte,vcu,↓vcd,vcp,h0,h3,h4,h5,h6,h14,h19,h23,h24,h27]
    rw[←hG]
    exact N_larbcn _ _ c (kx+xb) z3 (by refine⟨?_,?_,?_,?_,?_,?_,?_,?_,?_⟩<;>first|rfl|simp -implicitDefEqProofs(disch:=omega)only[Nat.reduceEqDiff,↓reduceIte,vcu,↓vcd,h0,h3,h4,h5,h6,h14,h19,h23,h24,h27]) z3a z3b d ec fc
   ·skip
    try simp -implicitDefEqProofs(disch:=omega)only[Nat.reduceEqDiff,↓reduceIte,vcu,↓vcd,h0,h3,h4,h5,h6,h14,h19,h23,h24,h27]
    refine (pick_at β T g h o bs (p+1+1+1) 40 d.rd om9 om9).mono ?_
    rintro _ T' ⟨z4,rfl,z4a,z4b,hR,hK⟩
    replace d:=d.step hR hK
    replace eq:=hK.at eq fq.2
    replace ec:=hK.at ec fc.2
    simp -implicitDefEqProofs(disch:=omega)only[Nat.reduceEqDiff,↓reduceIte,vcu,↓vcd,opK_some,h0,h3,h4,h5,h6,h14,h19,h23,h24,h27]
    refine⟨keep_of rfl (fun p hp=>by cases hp),?_⟩
    have hw:=part_n z4a z4b n1 n2
    refine tree_quiets (fun _=>none) _ _ _ sf0 kr9 kr9 ?_
    simp -implicitDefEqProofs(disch:=omega)only[Nat.reduceEqDiff,↓reduceIte,vcu,↓vcd,vcp,h0,h3,h4,h5,h6,h14,h19,h23,h24,h27]
    rw[←hG]
    exact N_labcdn _ _ q c z1 xb (z3+z4 / 39 * n) (by refine⟨?_,?_,?_,?_,?_,?_,?_,?_⟩<;>first|rfl|simp -implicitDefEqProofs(disch:=omega)only[Nat.reduceEqDiff,↓reduceIte,vcu,↓vcd,h0,h3,h4,h5,h6,h14,h19,h23,h24,h27]) z1a z1b xba xbb d eq fq ec fc
  have N_labc:∀(a:AFrame) (T:AHeap) (q:Nat) (z1:Int) (xb:Int) (z3:Int),(a 0=.pointer (some ⟨g,0,none⟩)∧a 3=.pointer (some ⟨hb,0,none⟩)∧a 4=.pointer (some ⟨c4,0,none⟩)∧a 5=.int .i64 n∧a 14=.pointer (some ⟨q,0+z1.toNat,none⟩)∧a 19=.int .i64 xb∧a 23=.int .i64 z3∧a 24=.pointer (some ⟨g,0,none⟩)∧a 27=.int .i64 n)→0≤z1→z1 < 7→0≤xb→xb≤3→0≤z3→z3 < n→DS β τ2 T g h o bs (p+1+1+1)→T q=some ⟨ints .i64 [0,0,0,0,1,1,2],false⟩→τ2 q=none∧q≠g→G w8_labc a T:=by
   rintro a T q z1 xb z3 ⟨h0,h3,h4,h5,h14,h19,h23,h24,h27⟩ z1a z1b xba xbb z3a z3b d eq fq
   rw[hG]
   refine tree_three rfl rfl rfl ?_ ?_ ?_
   ·skip
    obtain⟨kx,hx,kxa,kxb⟩:=lit7 eq z1a z1b
    simp -implicitDefEqProofs(disch:=omega)only[Nat.reduceEqDiff,↓reduceIte,vcu,↓vcd,h0,h3,h4,h5,h14,h19,h23,h24,h27,hx]
    refine⟨keep_of rfl (fun p hp=>by cases hp),?_⟩
    refine tree_quiets (fun _=>none) _ _ _ sf0 kr9 kr9 ?_
    simp -implicitDefEqProofs(disch:=omega)only[Nat.reduceEqDiff,↓reduceIte,vcu,↓vcd,vcp,h0,h3,h4,h5,h14,h19,h23,h24,h27]
    rw[←hG]
    exact N_larbc _ _ (kx+xb) z3 (by refine⟨?_,?_,?_,?_,?_,?_,?_,?_⟩<;>first|rfl|simp -implicitDefEqProofs(disch:=omega)only[Nat.reduceEqDiff,↓reduceIte,vcu,↓vcd,h0,h3,h4,h5,h14,h19,h23,h24,h27]) z3a z3b d
   ·skip
    try simp -implicitDefEqProofs(disch:=omega)only[Nat.reduceEqDiff,↓reduceIte,vcu,↓vcd,h0,h3,h4,h5,h14,h19,h23,h24,h27]
    refine (pick_at β T g h o bs (p+1+1+1) 40 d.rd om9 om9).mono ?_
    rintro _ T' ⟨z4,rfl,z4a,z4b,hR,hK⟩
    replace d:=d.step hR hK
    replace eq:=hK.at eq fq.2
    simp -implicitDefEqProofs(disch:=omega)only[Nat.reduceEqDiff,↓reduceIte,vcu,↓vcd,opK_some,h0,h3,h4,h5,h14,h19,h23,h24,h27]
    refine⟨keep_of rfl (fun p hp=>by cases hp),?_⟩
    have hw:=part_n z4a z4b n1 n2
    refine tree_quiets (fun _=>none) _ _ _ sf0 kr9 kr9 ?_
    simp -implicitDefEqProofs(disch:=omega)only[Nat.reduceEqDiff,↓reduceIte,vcu,↓vcd,vcp,h0,h3,h4,h5,h14,h19,h23,h24,h27]
    rw[←hG]
    exact N_labcd _ _ q z1 xb (z3+z4 / 39 * n) (by refine⟨?_,?_,?_,?_,?_,?_,?_⟩<;>first|rfl|simp -implicitDefEqProofs(disch:=omega)only[Nat.reduceEqDiff,↓reduceIte,vcu,↓vcd,h0,h3,h4,h5,h14,h19,h23,h24,h27]) z1a z1b xba xbb d eq fq
   ·skip
    refine r_new ze41 fun c T' nc sc ec=>?_
    replace ec:T' c=some ⟨[.int .i64 0,.int .i64 0,.string (tx [])],false⟩:=ec
    have fc:=d.fresh nc
    replace d:=d.new sc
    replace eq:=sc _ _ eq
    simp -implicitDefEqProofs(disch:=omega)only[Nat.reduceEqDiff,↓reduceIte,vcu,↓vcd]
    refine⟨keep_of rfl (fun p hp=>by cases hp),?_⟩
    rw[←hG]
    exact N_labcn _ _ q c z1 xb z3 (by refine⟨?_,?_,?_,?_,?_,?_,?_,?_,?_,?_⟩<;>first|rfl|simp -implicitDefEqProofs(disch:=omega)only[Nat.reduceEqDiff,↓reduceIte,vcu,↓vcd,h0,h3,h4,h5,h14,h19,h23,h24,h27]) z1a z1b xba xbb z3a z3b d eq fq ec fc
  have N_labn:∀(a:AFrame) (T:AHeap) (q:Nat) (c:Nat) (z1:Int) (xb:Int),(a 0=.pointer (some ⟨g,0,none⟩)∧a 3=.pointer (some ⟨hb,0,none⟩)∧a 4=.pointer (some ⟨c4,0,none⟩)∧a 5=.int .i64 n∧a 6=.pointer (some ⟨c,0,none⟩)∧a 14=.pointer (some ⟨q,0+z1.toNat,none⟩)∧a 19=.int .i64 xb∧a 21=.pointer (some ⟨g,0,none⟩)∧a 22=.int .i64 n∧a 24=.pointer (some ⟨g,0,none⟩)∧a 27=.int .i64 n)→0≤z1→z1 < 7→0≤xb→xb≤3→DS β τ2 T g h o bs (p+1+1)→T q=some ⟨ints .i64 [0,0,0,0,1,1,2],false⟩→τ2 q=none∧q≠g→T c=some ⟨[.int .i64 0,.int .i64 0,.string (tx [])],false⟩→τ2 c=none∧c≠g→G w8_labn a T:=by
   rintro a T q c z1 xb ⟨h0,h3,h4,h5,h6,h14,h19,h21,h22,h24,h27⟩ z1a z1b xba xbb d eq fq ec fc
   rw[hG]
   refine tree_two rfl rfl ?_ ?_
   ·skip
    obtain⟨kx,hx,kxa,kxb⟩:=lit7 eq z1a z1b
    simp -implicitDefEqProofs(disch:=omega)only[Nat.reduceEqDiff,↓reduceIte,vcu,↓vcd,h0,h3,h4,h5,h6,h14,h19,h21,h22,h24,h27,hx]
    refine⟨keep_of rfl (fun p hp=>by cases hp),?_⟩
    refine tree_quiets (fun _=>none) _ _ _ sf0 kr9 kr9 ?_
    simp -implicitDefEqProofs(disch:=omega)only[Nat.reduceEqDiff,↓reduceIte,vcu,↓vcd,vcp,h0,h3,h4,h5,h6,h14,h19,h21,h22,h24,h27]
    rw[←hG]
    exact N_larbn _ _ c (kx+xb) (by refine⟨?_,?_,?_,?_,?_,?_,?_,?_,?_,?_⟩<;>first|rfl|simp -implicitDefEqProofs(disch:=omega)only[Nat.reduceEqDiff,↓reduceIte,vcu,↓vcd,h0,h3,h4,h5,h6,h14,h19,h21,h22,h24,h27]) d ec fc
   ·skip
    try simp -implicitDefEqProofs(disch:=omega)only[Nat.reduceEqDiff,↓reduceIte,vcu,↓vcd,h0,h3,h4,h5,h6,h14,h19,h21,h22,h24,h27]
    refine (pick_at β T g h o bs (p+1+1) n d.rd om9 om9).mono ?_
    rintro _ T' ⟨z3,rfl,z3a,z3b,hR,hK⟩
    replace d:=d.step hR hK
    replace eq:=hK.at eq fq.2
    replace ec:=hK.at ec fc.2
    simp -implicitDefEqProofs(disch:=omega)only[Nat.reduceEqDiff,↓reduceIte,vcu,↓vcd,opK_some,h0,h3,h4,h5,h6,h14,h19,h21,h22,h24,h27]
    refine⟨keep_of rfl (fun p hp=>by cases hp),?_⟩
    rw[←hG]
    exact N_labcn _ _ q c z1 xb z3 (by refine⟨?_,?_,?_,?_,?_,?_,?_,?_,?_,?_⟩<;>first|rfl|simp -implicitDefEqProofs(disch:=omega)only[Nat.reduceEqDiff,↓reduceIte,vcu,↓vcd,h0,h3,h4,h5,h6,h14,h19,h21,h22,h24,h27]) z1a z1b xba xbb z3a z3b d eq fq ec fc
  have N_lab:∀(a:AFrame) (T:AHeap) (q:Nat) (z1:Int) (xb:Int),(a 0=.pointer (some ⟨g,0,none⟩)∧a 3=.pointer (some ⟨hb,0,none⟩)∧a 4=.pointer (some ⟨c4,0,none⟩)∧a 5=.int .i64 n∧a 14=.pointer (some ⟨q,0+z1.toNat,none⟩)∧a 19=.int .i64 xb∧a 21=.pointer (some ⟨g,0,none⟩)∧a 22=.int .i64 n∧a 24=.pointer (some ⟨g,0,none⟩)∧a 27=.int .i64 n)→0≤z1→z1 < 7→0≤xb→xb≤3→DS β τ2 T g h o bs (p+1+1)→T q=some ⟨ints .i64 [0,0,0,0,1,1,2],false⟩→τ2 q=none∧q≠g→G w8_lab a T:=by
   rintro a T q z1 xb ⟨h0,h3,h4,h5,h14,h19,h21,h22,h24,h27⟩ z1a z1b xba xbb d eq fq
   rw[hG]
   refine tree_three rfl rfl rfl ?_ ?_ ?_
   ·skip
    obtain⟨kx,hx,kxa,kxb⟩:=lit7 eq z1a z1b
    simp -implicitDefEqProofs(disch:=omega)only[Nat.reduceEqDiff,↓reduceIte,vcu,↓vcd,h0,h3,h4,h5,h14,h19,h21,h22,h24,h27,hx]
    refine⟨keep_of rfl (fun p hp=>by cases hp),?_⟩
    refine tree_quiets (fun _=>none) _ _ _ sf0 kr9 kr9 ?_
    simp -implicitDefEqProofs(disch:=omega)only[Nat.reduceEqDiff,↓reduceIte,vcu,↓vcd,vcp,h0,h3,h4,h5,h14,h19,h21,h22,h24,h27]
    rw[←hG]
    exact N_larb _ _ (kx+xb) (by refine⟨?_,?_,?_,?_,?_,?_,?_,?_,?_⟩<;>first|rfl|simp -implicitDefEqProofs(disch:=omega)only[Nat.reduceEqDiff,↓reduceIte,vcu,↓vcd,h0,h3,h4,h5,h14,h19,h21,h22,h24,h27]) d
   ·skip
    try simp -implicitDefEqProofs(disch:=omega)only[Nat.reduceEqDiff,↓reduceIte,vcu,↓vcd,h0,h3,h4,h5,h14,h19,h21,h22,h24,h27]
    refine (pick_at β T g h o bs (p+1+1) n d.rd om9 om9).mono ?_
    rintro _ T' ⟨z3,rfl,z3a,z3b,hR,hK⟩
    replace d:=d.step hR hK
    replace eq:=hK.at eq fq.2
    simp -implicitDefEqProofs(disch:=omega)only[Nat.reduceEqDiff,↓reduceIte,vcu,↓vcd,opK_some,h0,h3,h4,h5,h14,h19,h21,h22,h24,h27]
    refine⟨keep_of rfl (fun p hp=>by cases hp),?_⟩
    rw[←hG]
    exact N_labc _ _ q z1 xb z3 (by refine⟨?_,?_,?_,?_,?_,?_,?_,?_,?_⟩<;>first|rfl|simp -implicitDefEqProofs(disch:=omega)only[Nat.reduceEqDiff,↓reduceIte,vcu,↓vcd,h0,h3,h4,h5,h14,h19,h21,h22,h24,h27]) z1a z1b xba xbb z3a z3b d eq fq
   ·skip
    refine r_new ze41 fun c T' nc sc ec=>?_
    replace ec:T' c=some ⟨[.int .i64 0,.int .i64 0,.string (tx [])],false⟩:=ec
    have fc:=d.fresh nc
    replace d:=d.new sc
    replace eq:=sc _ _ eq
    simp -implicitDefEqProofs(disch:=omega)only[Nat.reduceEqDiff,↓reduceIte,vcu,↓vcd]
    refine⟨keep_of rfl (fun p hp=>by cases hp),?_⟩
    rw[←hG]
    exact N_labn _ _ q c z1 xb (by refine⟨?_,?_,?_,?_,?_,?_,?_,?_,?_,?_,?_⟩<;>first|rfl|simp -implicitDefEqProofs(disch:=omega)only[Nat.reduceEqDiff,↓reduceIte,vcu,↓vcd,h0,h3,h4,h5,h14,h19,h21,h22,h24,h27]) z1a z1b xba xbb d eq fq ec fc
  have N_lan:∀(a:AFrame) (T:AHeap) (q:Nat) (c:Nat) (z1:Int),(a 0=.pointer (some ⟨g,0,none⟩)∧a 3=.pointer (some ⟨hb,0,none⟩)∧a 4=.pointer (some ⟨c4,0,none⟩)∧a 5=.int .i64 n∧a 6=.pointer (some ⟨c,0,none⟩)∧a 14=.pointer (some ⟨q,0+z1.toNat,none⟩)∧a 16=.pointer (some ⟨g,0,none⟩)∧a 21=.pointer (some ⟨g,0,none⟩)∧a 22=.int .i64 n∧a 24=.pointer (some ⟨g,0,none⟩)∧a 27=.int .i64 n)→0≤z1→z1 < 7→DS β τ2 T g h o bs (p+1)→T q=some ⟨ints .i64 [0,0,0,0,1,1,2],false⟩→τ2 q=none∧q≠g→T c=some ⟨[.int .i64 0,.int .i64 0,.string (tx [])],false⟩→τ2 c=none∧c≠g→G w8_lan a T:=by
   rintro a T q c z1 ⟨h0,h3,h4,h5,h6,h14,h16,h21,h22,h24,h27⟩ z1a z1b d eq fq ec fc
   rw[hG]
   refine tree_two rfl rfl ?_ ?_
   ·skip
    obtain⟨kx,hx,kxa,kxb⟩:=lit7 eq z1a z1b
    simp -implicitDefEqProofs(disch:=omega)only[Nat.reduceEqDiff,↓reduceIte,vcu,↓vcd,h0,h3,h4,h5,h6,h14,h16,h21,h22,h24,h27,hx]
    refine⟨keep_of rfl (fun p hp=>by cases hp),?_⟩
    rw[←hG]
    exact N_larn _ _ c kx (by refine⟨?_,?_,?_,?_,?_,?_,?_,?_,?_,?_,?_⟩<;>first|rfl|simp -implicitDefEqProofs(disch:=omega)only[Nat.reduceEqDiff,↓reduceIte,vcu,↓vcd,h0,h3,h4,h5,h6,h14,h16,h21,h22,h24,h27]) kxa kxb d ec fc
   ·skip
    try simp -implicitDefEqProofs(disch:=omega)only[Nat.reduceEqDiff,↓reduceIte,vcu,↓vcd,h0,h3,h4,h5,h6,h14,h16,h21,h22,h24,h27]
    refine (pick_at β T g h o bs (p+1) 60 d.rd om9 om9).mono ?_
    rintro _ T' ⟨z2,rfl,z2a,z2b,hR,hK⟩
    replace d:=d.step hR hK
    replace eq:=hK.at eq fq.2
    replace ec:=hK.at ec fc.2
    simp -implicitDefEqProofs(disch:=omega)only[Nat.reduceEqDiff,↓reduceIte,vcu,↓vcd,opK_some,h0,h3,h4,h5,h6,h14,h16,h21,h22,h24,h27]
    refine⟨keep_of rfl (fun p hp=>by cases hp),?_⟩
    refine tree_quiets (fun _=>none) _ _ _ sf0 kr9 kr9 ?_
    simp -implicitDefEqProofs(disch:=omega)only[Nat.reduceEqDiff,↓reduceIte,vcu,↓vcd,vcp,h0,h3,h4,h5,h6,h14,h16,h21,h22,h24,h27]
    rw[←hG]
    exact N_labn _ _ q c z1 (z2 / 59 * 3) (by refine⟨?_,?_,?_,?_,?_,?_,?_,?_,?_,?_,?_⟩<;>first|rfl|simp -implicitDefEqProofs(disch:=omega)only[Nat.reduceEqDiff,↓reduceIte,vcu,↓vcd,h0,h3,h4,h5,h6,h14,h16,h21,h22,h24,h27]) z1a z1b om9 om9 d eq fq ec fc
  have N_la:∀(a:AFrame) (T:AHeap) (q:Nat) (z1:Int),(a 0=.pointer (some ⟨g,0,none⟩)∧a 3=.pointer (some ⟨hb,0,none⟩)∧a 4=.pointer (some ⟨c4,0,none⟩)∧a 5=.int .i64 n∧a 14=.pointer (some ⟨q,0+z1.toNat,none⟩)∧a 16=.pointer (some ⟨g,0,none⟩)∧a 21=.pointer (some ⟨g,0,none⟩)∧a 22=.int .i64 n∧a 24=.pointer (some ⟨g,0,none⟩)∧a 27=.int .i64 n)→0≤z1→z1 < 7→DS β τ2 T g h o bs (p+1)→T q=some ⟨ints .i64 [0,0,0,0,1,1,2],false⟩→τ2 q=none∧q≠g→G w8_la a T:=by
   rintro a T q z1 ⟨h0,h3,h4,h5,h14,h16,h21,h22,h24,h27⟩ z1a z1b d eq fq
   rw[hG]
   refine tree_three rfl rfl rfl ?_ ?_ ?_
   ·skip
    obtain⟨kx,hx,kxa,kxb⟩:=lit7 eq z1a z1b
    simp -implicitDefEqProofs(disch:=omega)only[Nat.reduceEqDiff,↓reduceIte,vcu,↓vcd,h0,h3,h4,h5,h14,h16,h21,h22,h24,h27,hx]
    refine⟨keep_of rfl (fun p hp=>by cases hp),?_⟩
    rw[←hG]
    exact N_lar _ _ kx (by refine⟨?_,?_,?_,?_,?_,?_,?_,?_,?_,?_⟩<;>first|rfl|simp -implicitDefEqProofs(disch:=omega)only[Nat.reduceEqDiff,↓reduceIte,vcu,↓vcd,h0,h3,h4,h5,h14,h16,h21,h22,h24,h27]) kxa kxb d
   ·skip
    try simp -implicitDefEqProofs(disch:=omega)only[Nat.reduceEqDiff,↓reduceIte,vcu,↓vcd,h0,h3,h4,h5,h14,h16,h21,h22,h24,h27]
    refine (pick_at β T g h o bs (p+1) 60 d.rd om9 om9).mono ?_
    rintro _ T' ⟨z2,rfl,z2a,z2b,hR,hK⟩
    replace d:=d.step hR hK
    replace eq:=hK.at eq fq.2
    simp -implicitDefEqProofs(disch:=omega)only[Nat.reduceEqDiff,↓reduceIte,vcu,↓vcd,opK_some,h0,h3,h4,h5,h14,h16,h21,h22,h24,h27]
    refine⟨keep_of rfl (fun p hp=>by cases hp),?_⟩
    refine tree_quiets (fun _=>none) _ _ _ sf0 kr9 kr9 ?_
    simp -implicitDefEqProofs(disch:=omega)only[Nat.reduceEqDiff,↓reduceIte,vcu,↓vcd,vcp,h0,h3,h4,h5,h14,h16,h21,h22,h24,h27]
    rw[←hG]
    exact N_lab _ _ q z1 (z2 / 59 * 3) (by refine⟨?_,?_,?_,?_,?_,?_,?_,?_,?_,?_⟩<;>first|rfl|simp -implicitDefEqProofs(disch:=omega)only[Nat.reduceEqDiff,↓reduceIte,vcu,↓vcd,h0,h3,h4,h5,h14,h16,h21,h22,h24,h27]) z1a z1b om9 om9 d eq fq
   ·skip
    refine r_new ze41 fun c T' nc sc ec=>?_
    replace ec:T' c=some ⟨[.int .i64 0,.int .i64 0,.string (tx [])],false⟩:=ec
    have fc:=d.fresh nc
    replace d:=d.new sc
    replace eq:=sc _ _ eq
    simp -implicitDefEqProofs(disch:=omega)only[Nat.reduceEqDiff,↓reduceIte,vcu,↓vcd]
    refine⟨keep_of rfl (fun p hp=>by cases hp),?_⟩
    rw[←hG]
    exact N_lan _ _ q c z1 (by refine⟨?_,?_,?_,?_,?_,?_,?_,?_,?_,?_,?_⟩<;>first|rfl|simp -implicitDefEqProofs(disch:=omega)only[Nat.reduceEqDiff,↓reduceIte,vcu,↓vcd,h0,h3,h4,h5,h14,h16,h21,h22,h24,h27]) z1a z1b d eq fq ec fc
  have N_ln:∀(a:AFrame) (T:AHeap) (q:Nat) (c:Nat),(a 0=.pointer (some ⟨g,0,none⟩)∧a 3=.pointer (some ⟨hb,0,none⟩)∧a 4=.pointer (some ⟨c4,0,none⟩)∧a 5=.int .i64 n∧a 6=.pointer (some ⟨c,0,none⟩)∧a 11=.slice (some ⟨q,0,none⟩) 7 1∧a 12=.pointer (some ⟨g,0,none⟩)∧a 16=.pointer (some ⟨g,0,none⟩)∧a 21=.pointer (some ⟨g,0,none⟩)∧a 22=.int .i64 n∧a 24=.pointer (some ⟨g,0,none⟩)∧a 27=.int .i64 n)→DS β τ2 T g h o bs (p)→T q=some ⟨ints .i64 [0,0,0,0,1,1,2],false⟩→τ2 q=none∧q≠g→T c=some ⟨[.int .i64 0,.int .i64 0,.string (tx [])],false⟩→τ2 c=none∧c≠g→G w8_ln a T:=by
   rintro a T q c ⟨h0,h3,h4,h5,h6,h11,h12,h16,h21,h22,h24,h27⟩ d eq fq ec fc
   rw[hG]
   refine tree_one rfl ?_
   try simp -implicitDefEqProofs(disch:=omega)only[Nat.reduceEqDiff,↓reduceIte,vcu,↓vcd,h0,h3,h4,h5,h6,h11,h12,h16,h21,h22,h24,h27]
   refine (pick_at β T g h o bs (p) 7 d.rd om9 om9).mono ?_
   rintro _ T' ⟨z1,rfl,z1a,z1b,hR,hK⟩
   replace d:=d.step hR hK
   replace eq:=hK.at eq fq.2
   replace ec:=hK.at ec fc.2
   simp -implicitDefEqProofs(disch:=omega)only[Nat.reduceEqDiff,↓reduceIte,vcu,↓vcd,opK_some,h0,h3,h4,h5,h6,h11,h12,h16,h21,h22,h24,h27]
   refine⟨keep_of rfl (fun p hp=>by cases hp),?_⟩
   refine tree_quiets (fun _=>none) _ _ _ sf0 kr9 kr9 ?_
   simp -implicitDefEqProofs(disch:=omega)only[Nat.reduceEqDiff,↓reduceIte,vcu,↓vcd,vcp,h0,h3,h4,h5,h6,h11,h12,h16,h21,h22,h24,h27]
   rw[←hG]
   exact N_lan _ _ q c z1 (by refine⟨?_,?_,?_,?_,?_,?_,?_,?_,?_,?_,?_⟩<;>first|rfl|simp -implicitDefEqProofs(disch:=omega)only[Nat.reduceEqDiff,↓reduceIte,vcu,↓vcd,h0,h3,h4,h5,h6,h11,h12,h16,h21,h22,h24,h27]) z1a z1b d eq fq ec fc
  have N_l:∀(a:AFrame) (T:AHeap) (q:Nat),(a 0=.pointer (some ⟨g,0,none⟩)∧a 3=.pointer (some ⟨hb,0,none⟩)∧a 4=.pointer (some ⟨c4,0,none⟩)∧a 5=.int .i64 n∧a 11=.slice (some ⟨q,0,none⟩) 7 1∧a 12=.pointer (some ⟨g,0,none⟩)∧a 16=.pointer (some ⟨g,0,none⟩)∧a 21=.pointer (some ⟨g,0,none⟩)∧a 22=.int .i64 n∧a 24=.pointer (some ⟨g,0,none⟩)∧a 27=.int .i64 n)→DS β τ2 T g h o bs (p)→T q=some ⟨ints .i64 [0,0,0,0,1,1,2],false⟩→τ2 q=none∧q≠g→G w8_l a T:=by
   rintro a T q ⟨h0,h3,h4,h5,h11,h12,h16,h21,h22,h24,h27⟩ d eq fq
   rw[hG]
   refine tree_two rfl rfl ?_ ?_
   ·skip
    try simp -implicitDefEqProofs(disch:=omega)only[Nat.reduceEqDiff,↓reduceIte,vcu,↓vcd,h0,h3,h4,h5,h11,h12,h16,h21,h22,h24,h27]
    refine (pick_at β T g h o bs (p) 7 d.rd om9 om9).mono ?_
    rintro _ T' ⟨z1,rfl,z1a,z1b,hR,hK⟩
    replace d:=d.step hR hK
    replace eq:=hK.at eq fq.2
    simp -implicitDefEqProofs(disch:=omega)only[Nat.reduceEqDiff,↓reduceIte,vcu,↓vcd,opK_some,h0,h3,h4,h5,h11,h12,h16,h21,h22,h24,h27]
    refine⟨keep_of rfl (fun p hp=>by cases hp),?_⟩
    refine tree_quiets (fun _=>none) _ _ _ sf0 kr9 kr9 ?_
    simp -implicitDefEqProofs(disch:=omega)only[Nat.reduceEqDiff,↓reduceIte,vcu,↓vcd,vcp,h0,h3,h4,h5,h11,h12,h16,h21,h22,h24,h27]
    rw[←hG]
    exact N_la _ _ q z1 (by refine⟨?_,?_,?_,?_,?_,?_,?_,?_,?_,?_⟩<;>first|rfl|simp -implicitDefEqProofs(disch:=omega)only[Nat.reduceEqDiff,↓reduceIte,vcu,↓vcd,h0,h3,h4,h5,h11,h12,h16,h21,h22,h24,h27]) z1a z1b d eq fq
   ·skip
    refine r_new ze41 fun c T' nc sc ec=>?_
    replace ec:T' c=some ⟨[.int .i64 0,.int .i64 0,.string (tx [])],false⟩:=ec
    have fc:=d.fresh nc
    replace d:=d.new sc
    replace eq:=sc _ _ eq
    simp -implicitDefEqProofs(disch:=omega)only[Nat.reduceEqDiff,↓reduceIte,vcu,↓vcd]
    refine⟨keep_of rfl (fun p hp=>by cases hp),?_⟩
    rw[←hG]
    exact N_ln _ _ q c (by refine⟨?_,?_,?_,?_,?_,?_,?_,?_,?_,?_,?_,?_⟩<;>first|rfl|simp -implicitDefEqProofs(disch:=omega)only[Nat.reduceEqDiff,↓reduceIte,vcu,↓vcd,h0,h3,h4,h5,h11,h12,h16,h21,h22,h24,h27]) d eq fq ec fc
  have N_abcdn:∀(a:AFrame) (T:AHeap) (c:Nat) (z1:Int) (xb:Int) (L0:Int),(a 0=.pointer (some ⟨g,0,none⟩)∧a 3=.pointer (some ⟨hb,0,none⟩)∧a 4=.pointer (some ⟨c4,0,none⟩)∧a 5=.int .i64 n∧a 6=.pointer (some ⟨c,0,none⟩)∧a 13=.int .i64 z1∧a 19=.int .i64 xb∧a 29=.int .i64 L0)→0≤z1→z1 < 7→0≤xb→xb≤3→DS β τ2 T g h o bs (p+1+1+1+1)→T c=some ⟨[.int .i64 0,.int .i64 0,.string (tx [])],false⟩→τ2 c=none∧c≠g→G w8_abcdn a T:=by
   rintro a T c z1 xb L0 ⟨h0,h3,h4,h5,h6,h13,h19,h29⟩ z1a z1b xba xbb d ec fc
   rw[hG]
   refine tree_one rfl ?_
   refine r_lit el88 (out:=(ints .i64 [0,0,0,0,1,1,2]).toArray) (by first|kernel_rfl | (simp -implicitDefEqProofs(disch:=omega)only[Nat.reduceEqDiff,↓reduceIte,vcu,↓vcd];kernel_rfl)) kr9 fun q T' nq sq eq=>?_
   replace eq:T' q=some ⟨ints .i64 [0,0,0,0,1,1,2],false⟩:=eq
   have fq:=d.fresh nq
   replace d:=d.new sq
   replace ec:=sq _ _ ec
   simp -implicitDefEqProofs(disch:=omega)only[Nat.reduceEqDiff,↓reduceIte,vcu,↓vcd]
   refine⟨keep_of rfl (fun p hp=>by cases hp),?_⟩
   refine tree_quiets (fun _=>none) _ _ _ sf0 kr9 kr9 ?_
   simp -implicitDefEqProofs(disch:=omega)only[Nat.reduceEqDiff,↓reduceIte,vcu,↓vcd,vcp,h0,h3,h4,h5,h6,h13,h19,h29]
   rw[←hG]
   exact N_labcdn _ _ q c z1 xb L0 (by refine⟨?_,?_,?_,?_,?_,?_,?_,?_⟩<;>first|rfl|simp -implicitDefEqProofs(disch:=omega)only[Nat.reduceEqDiff,↓reduceIte,vcu,↓vcd,h0,h3,h4,h5,h6,h13,h19,h29]) z1a z1b xba xbb d eq fq ec fc
  have N_abcd:∀(a:AFrame) (T:AHeap) (z1:Int) (xb:Int) (L0:Int),(a 0=.pointer (some ⟨g,0,none⟩)∧a 3=.pointer (some ⟨hb,0,none⟩)∧a 4=.pointer (some ⟨c4,0,none⟩)∧a 5=.int .i64 n∧a 13=.int .i64 z1∧a 19=.int .i64 xb∧a 29=.int .i64 L0)→0≤z1→z1 < 7→0≤xb→xb≤3→DS β τ2 T g h o bs (p+1+1+1+1)→G w8_abcd a T:=by
   rintro a T z1 xb L0 ⟨h0,h3,h4,h5,h13,h19,h29⟩ z1a z1b xba xbb d
   rw[hG]
   refine tree_two rfl rfl ?_ ?_
   ·skip
    refine r_lit el88 (out:=(ints .i64 [0,0,0,0,1,1,2]).toArray) (by first|kernel_rfl | (simp -implicitDefEqProofs(disch:=omega)only[Nat.reduceEqDiff,↓reduceIte,vcu,↓vcd];kernel_rfl)) kr9 fun q T' nq sq eq=>?_
    replace eq:T' q=some ⟨ints .i64 [0,0,0,0,1,1,2],false⟩:=eq
    have fq:=d.fresh nq
    replace d:=d.new sq
    simp -implicitDefEqProofs(disch:=omega)only[Nat.reduceEqDiff,↓reduceIte,vcu,↓vcd]
    refine⟨keep_of rfl (fun p hp=>by cases hp),?_⟩
    refine tree_quiets (fun _=>none) _ _ _ sf0 kr9 kr9 ?_
    simp -implicitDefEqProofs(disch:=omega)only[Nat.reduceEqDiff,↓reduceIte,vcu,↓vcd,vcp,h0,h3,h4,h5,h13,h19,h29]
    rw[←hG]
    exact N_labcd _ _ q z1 xb L0 (by refine⟨?_,?_,?_,?_,?_,?_,?_⟩<;>first|rfl|simp -implicitDefEqProofs(disch:=omega)only[Nat.reduceEqDiff,↓reduceIte,vcu,↓vcd,h0,h3,h4,h5,h13,h19,h29]) z1a z1b xba xbb d eq fq
   ·skip
    refine r_new ze41 fun c T' nc sc ec=>?_
    replace ec:T' c=some ⟨[.int .i64 0,.int .i64 0,.string (tx [])],false⟩:=ec
    have fc:=d.fresh nc
    replace d:=d.new sc
    simp -implicitDefEqProofs(disch:=omega)only[Nat.reduceEqDiff,↓reduceIte,vcu,↓vcd]
    refine⟨keep_of rfl (fun p hp=>by cases hp),?_⟩
    rw[←hG]
    exact N_abcdn _ _ c z1 xb L0 (by refine⟨?_,?_,?_,?_,?_,?_,?_,?_⟩<;>first|rfl|simp -implicitDefEqProofs(disch:=omega)only[Nat.reduceEqDiff,↓reduceIte,vcu,↓vcd,h0,h3,h4,h5,h13,h19,h29]) z1a z1b xba xbb d ec fc
  have N_abcn:∀(a:AFrame) (T:AHeap) (c:Nat) (z1:Int) (xb:Int) (z3:Int),(a 0=.pointer (some ⟨g,0,none⟩)∧a 3=.pointer (some ⟨hb,0,none⟩)∧a 4=.pointer (some ⟨c4,0,none⟩)∧a 5=.int .i64 n∧a 6=.pointer (some ⟨c,0,none⟩)∧a 13=.int .i64 z1∧a 19=.int .i64 xb∧a 23=.int .i64 z3∧a 24=.pointer (some ⟨g,0,none⟩)∧a 27=.int .i64 n)→0≤z1→z1 < 7→0≤xb→xb≤3→0≤z3→z3 < n→DS β τ2 T g h o bs (p+1+1+1)→T c=some ⟨[.int .i64 0,.int .i64 0,.string (tx [])],false⟩→τ2 c=none∧c≠g→G w8_abcn a T:=by
   rintro a T c z1 xb z3 ⟨h0,h3,h4,h5,h6,h13,h19,h23,h24,h27⟩ z1a z1b xba xbb z3a z3b d ec fc
   rw[hG]
   refine tree_two rfl rfl ?_ ?_
   ·skip
    refine r_lit el88 (out:=(ints .i64 [0,0,0,0,1,1,2]).toArray) (by first|kernel_rfl | (simp -implicitDefEqProofs(disch:=omega)only[Nat.reduceEqDiff,↓reduceIte,vcu,↓vcd];kernel_rfl)) kr9 fun q T' nq sq eq=>?_
    replace eq:T' q=some ⟨ints .i64 [0,0,0,0,1,1,2],false⟩:=eq
    have fq:=d.fresh nq
    replace d:=d.new sq
    replace ec:=sq _ _ ec
    simp -implicitDefEqProofs(disch:=omega)only[Nat.reduceEqDiff,↓reduceIte,vcu,↓vcd]
    refine⟨keep_of rfl (fun p hp=>by cases hp),?_⟩
    refine tree_quiets (fun _=>none) _ _ _ sf0 kr9 kr9 ?_
    simp -implicitDefEqProofs(disch:=omega)only[Nat.reduceEqDiff,↓reduceIte,vcu,↓vcd,vcp,h0,h3,h4,h5,h6,h13,h19,h23,h24,h27]
    rw[←hG]
    exact N_labcn _ _ q c z1 xb z3 (by refine⟨?_,?_,?_,?_,?_,?_,?_,?_,?_,?_⟩<;>first|rfl|simp -implicitDefEqProofs(disch:=omega)only[Nat.reduceEqDiff,↓reduceIte,vcu,↓vcd,h0,h3,h4,h5,h6,h13,h19,h23,h24,h27]) z1a z1b xba xbb z3a z3b d eq fq ec fc
   ·skip
    try simp -implicitDefEqProofs(disch:=omega)only[Nat.reduceEqDiff,↓reduceIte,vcu,↓vcd,h0,h3,h4,h5,h6,h13,h19,h23,h24,h27]
    refine (pick_at β T g h o bs (p+1+1+1) 40 d.rd om9 om9).mono ?_
    rintro _ T' ⟨z4,rfl,z4a,z4b,hR,hK⟩
    replace d:=d.step hR hK
    replace ec:=hK.at ec fc.2
    simp -implicitDefEqProofs(disch:=omega)only[Nat.reduceEqDiff,↓reduceIte,vcu,↓vcd,opK_some,h0,h3,h4,h5,h6,h13,h19,h23,h24,h27]
    refine⟨keep_of rfl (fun p hp=>by cases hp),?_⟩
    have hw:=part_n z4a z4b n1 n2
    refine tree_quiets (fun _=>none) _ _ _ sf0 kr9 kr9 ?_
    simp -implicitDefEqProofs(disch:=omega)only[Nat.reduceEqDiff,↓reduceIte,vcu,↓vcd,vcp,h0,h3,h4,h5,h6,h13,h19,h23,h24,h27]
    rw[←hG]
    exact N_abcdn _ _ c z1 xb (z3+z4 / 39 * n) (by refine⟨?_,?_,?_,?_,?_,?_,?_,?_⟩<;>first|rfl|simp -implicitDefEqProofs(disch:=omega)only[Nat.reduceEqDiff,↓reduceIte,vcu,↓vcd,h0,h3,h4,h5,h6,h13,h19,h23,h24,h27]) z1a z1b xba xbb d ec fc
  have N_abc:∀(a:AFrame) (T:AHeap) (z1:Int) (xb:Int) (z3:Int),(a 0=.pointer (some ⟨g,0,none⟩)∧a 3=.pointer (some ⟨hb,0,none⟩)∧a 4=.pointer (some ⟨c4,0,none⟩)∧a 5=.int .i64 n∧a 13=.int .i64 z1∧a 19=.int .i64 xb∧a 23=.int .i64 z3∧a 24=.pointer (some ⟨g,0,none⟩)∧a 27=.int .i64 n)→0≤z1→z1 < 7→0≤xb→xb≤3→0≤z3→z3 < n→DS β τ2 T g h o bs (p+1+1+1)→G w8_abc a T:=by
   rintro a T z1 xb z3 ⟨h0,h3,h4,h5,h13,h19,h23,h24,h27⟩ z1a z1b xba xbb z3a z3b d
   rw[hG]
   refine tree_three rfl rfl rfl ?_ ?_ ?_
   ·skip
    refine r_lit el88 (out:=(ints .i64 [0,0,0,0,1,1,2]).toArray) (by first|kernel_rfl | (simp -implicitDefEqProofs(disch:=omega)only[Nat.reduceEqDiff,↓reduceIte,vcu,↓vcd];kernel_rfl)) kr9 fun q T' nq sq eq=>?_
    replace eq:T' q=some ⟨ints .i64 [0,0,0,0,1,1,2],false⟩:=eq
    have fq:=d.fresh nq
    replace d:=d.new sq
    simp -implicitDefEqProofs(disch:=omega)only[Nat.reduceEqDiff,↓reduceIte,vcu,↓vcd]
    refine⟨keep_of rfl (fun p hp=>by cases hp),?_⟩
    refine tree_quiets (fun _=>none) _ _ _ sf0 kr9 kr9 ?_
    simp -implicitDefEqProofs(disch:=omega)only[Nat.reduceEqDiff,↓reduceIte,vcu,↓vcd,vcp,h0,h3,h4,h5,h13,h19,h23,h24,h27]
    rw[←hG]
    exact N_labc _ _ q z1 xb z3 (by refine⟨?_,?_,?_,?_,?_,?_,?_,?_,?_⟩<;>first|rfl|simp -implicitDefEqProofs(disch:=omega)only[Nat.reduceEqDiff,↓reduceIte,vcu,↓vcd,h0,h3,h4,h5,h13,h19,h23,h24,h27]) z1a z1b xba xbb z3a z3b d eq fq
   ·skip
    try simp -implicitDefEqProofs(disch:=omega)only[Nat.reduceEqDiff,↓reduceIte,vcu,↓vcd,h0,h3,h4,h5,h13,h19,h23,h24,h27]
    refine (pick_at β T g h o bs (p+1+1+1) 40 d.rd om9 om9).mono ?_
    rintro _ T' ⟨z4,rfl,z4a,z4b,hR,hK⟩
    replace d:=d.step hR hK
    simp -implicitDefEqProofs(disch:=omega)only[Nat.reduceEqDiff,↓reduceIte,vcu,↓vcd,opK_some,h0,h3,h4,h5,h13,h19,h23,h24,h27]
    refine⟨keep_of rfl (fun p hp=>by cases hp),?_⟩
    have hw:=part_n z4a z4b n1 n2
    refine tree_quiets (fun _=>none) _ _ _ sf0 kr9 kr9 ?_
    simp -implicitDefEqProofs(disch:=omega)only[Nat.reduceEqDiff,↓reduceIte,vcu,↓vcd,vcp,h0,h3,h4,h5,h13,h19,h23,h24,h27]
    rw[←hG]
    exact N_abcd _ _ z1 xb (z3+z4 / 39 * n) (by refine⟨?_,?_,?_,?_,?_,?_,?_⟩<;>first|rfl|simp -implicitDefEqProofs(disch:=omega)only[Nat.reduceEqDiff,↓reduceIte,vcu,↓vcd,h0,h3,h4,h5,h13,h19,h23,h24,h27]) z1a z1b xba xbb d
   ·skip
    refine r_new ze41 fun c T' nc sc ec=>?_
    replace ec:T' c=some ⟨[.int .i64 0,.int .i64 0,.string (tx [])],false⟩:=ec
    have fc:=d.fresh nc
    replace d:=d.new sc
    simp -implicitDefEqProofs(disch:=omega)only[Nat.reduceEqDiff,↓reduceIte,vcu,↓vcd]
    refine⟨keep_of rfl (fun p hp=>by cases hp),?_⟩
    rw[←hG]
    exact N_abcn _ _ c z1 xb z3 (by refine⟨?_,?_,?_,?_,?_,?_,?_,?_,?_,?_⟩<;>first|rfl|simp -implicitDefEqProofs(disch:=omega)only[Nat.reduceEqDiff,↓reduceIte,vcu,↓vcd,h0,h3,h4,h5,h13,h19,h23,h24,h27]) z1a z1b xba xbb z3a z3b d ec fc
  have N_abn:∀(a:AFrame) (T:AHeap) (c:Nat) (z1:Int) (xb:Int),(a 0=.pointer (some ⟨g,0,none⟩)∧a 3=.pointer (some ⟨hb,0,none⟩)∧a 4=.pointer (some ⟨c4,0,none⟩)∧a 5=.int .i64 n∧a 6=.pointer (some ⟨c,0,none⟩)∧a 13=.int .i64 z1∧a 19=.int .i64 xb∧a 21=.pointer (some ⟨g,0,none⟩)∧a 22=.int .i64 n∧a 24=.pointer (some ⟨g,0,none⟩)∧a 27=.int .i64 n)→0≤z1→z1 < 7→0≤xb→xb≤3→DS β τ2 T g h o bs (p+1+1)→T c=some ⟨[.int .i64 0,.int .i64 0,.string (tx [])],false⟩→τ2 c=none∧c≠g→G w8_abn a T:=by
   rintro a T c z1 xb ⟨h0,h3,h4,h5,h6,h13,h19,h21,h22,h24,h27⟩ z1a z1b xba xbb d ec fc
   rw[hG]
   refine tree_two rfl rfl ?_ ?_
   ·skip
    refine r_lit el88 (out:=(ints .i64 [0,0,0,0,1,1,2]).toArray) (by first|kernel_rfl | (simp -implicitDefEqProofs(disch:=omega)only[Nat.reduceEqDiff,↓reduceIte,vcu,↓vcd];kernel_rfl)) kr9 fun q T' nq sq eq=>?_
    replace eq:T' q=some ⟨ints .i64 [0,0,0,0,1,1,2],false⟩:=eq
    have fq:=d.fresh nq
    replace d:=d.new sq
    replace ec:=sq _ _ ec
    simp -implicitDefEqProofs(disch:=omega)only[Nat.reduceEqDiff,↓reduceIte,vcu,↓vcd]
    refine⟨keep_of rfl (fun p hp=>by cases hp),?_⟩
    refine tree_quiets (fun _=>none) _ _ _ sf0 kr9 kr9 ?_
    simp -implicitDefEqProofs(disch:=omega)only[Nat.reduceEqDiff,↓reduceIte,vcu,↓vcd,vcp,h0,h3,h4,h5,h6,h13,h19,h21,h22,h24,h27]
    rw[←hG]
    exact N_labn _ _ q c z1 xb (by refine⟨?_,?_,?_,?_,?_,?_,?_,?_,?_,?_,?_⟩<;>first|rfl|simp -implicitDefEqProofs(disch:=omega)only[Nat.reduceEqDiff,↓reduceIte,vcu,↓vcd,h0,h3,h4,h5,h6,h13,h19,h21,h22,h24,h27]) z1a z1b xba xbb d eq fq ec fc
   ·skip
    try simp -implicitDefEqProofs(disch:=omega)only[Nat.reduceEqDiff,↓reduceIte,vcu,↓vcd,h0,h3,h4,h5,h6,h13,h19,h21,h22,h24,h27]
    refine (pick_at β T g h o bs (p+1+1) n d.rd om9 om9).mono ?_
    rintro _ T' ⟨z3,rfl,z3a,z3b,hR,hK⟩
    replace d:=d.step hR hK
    replace ec:=hK.at ec fc.2
    simp -implicitDefEqProofs(disch:=omega)only[Nat.reduceEqDiff,↓reduceIte,vcu,↓vcd,opK_some,h0,h3,h4,h5,h6,h13,h19,h21,h22,h24,h27]
    refine⟨keep_of rfl (fun p hp=>by cases hp),?_⟩
    rw[←hG]
    exact N_abcn _ _ c z1 xb z3 (by refine⟨?_,?_,?_,?_,?_,?_,?_,?_,?_,?_⟩<;>first|rfl|simp -implicitDefEqProofs(disch:=omega)only[Nat.reduceEqDiff,↓reduceIte,vcu,↓vcd,h0,h3,h4,h5,h6,h13,h19,h21,h22,h24,h27]) z1a z1b xba xbb z3a z3b d ec fc
  have N_ab:∀(a:AFrame) (T:AHeap) (z1:Int) (xb:Int),(a 0=.pointer (some ⟨g,0,none⟩)∧a 3=.pointer (some ⟨hb,0,none⟩)∧a 4=.pointer (some ⟨c4,0,none⟩)∧a 5=.int .i64 n∧a 13=.int .i64 z1∧a 19=.int .i64 xb∧a 21=.pointer (some ⟨g,0,none⟩)∧a 22=.int .i64 n∧a 24=.pointer (some ⟨g,0,none⟩)∧a 27=.int .i64 n)→0≤z1→z1 < 7→0≤xb→xb≤3→DS β τ2 T g h o bs (p+1+1)→G w8_ab a T:=by
   rintro a T z1 xb ⟨h0,h3,h4,h5,h13,h19,h21,h22,h24,h27⟩ z1a z1b xba xbb d
   rw[hG]
   refine tree_three rfl rfl rfl ?_ ?_ ?_
   ·skip
    refine r_lit el88 (out:=(ints .i64 [0,0,0,0,1,1,2]).toArray) (by first|kernel_rfl | (simp -implicitDefEqProofs(disch:=omega)only[Nat.reduceEqDiff,↓reduceIte,vcu,↓vcd];kernel_rfl)) kr9 fun q T' nq sq eq=>?_
    replace eq:T' q=some ⟨ints .i64 [0,0,0,0,1,1,2],false⟩:=eq
    have fq:=d.fresh nq
    replace d:=d.new sq
    simp -implicitDefEqProofs(disch:=omega)only[Nat.reduceEqDiff,↓reduceIte,vcu,↓vcd]
    refine⟨keep_of rfl (fun p hp=>by cases hp),?_⟩
    refine tree_quiets (fun _=>none) _ _ _ sf0 kr9 kr9 ?_
    simp -implicitDefEqProofs(disch:=omega)only[Nat.reduceEqDiff,↓reduceIte,vcu,↓vcd,vcp,h0,h3,h4,h5,h13,h19,h21,h22,h24,h27]
    rw[←hG]
    exact N_lab _ _ q z1 xb (by refine⟨?_,?_,?_,?_,?_,?_,?_,?_,?_,?_⟩<;>first|rfl|simp -implicitDefEqProofs(disch:=omega)only[Nat.reduceEqDiff,↓reduceIte,vcu,↓vcd,h0,h3,h4,h5,h13,h19,h21,h22,h24,h27]) z1a z1b xba xbb d eq fq
   ·skip
    try simp -implicitDefEqProofs(disch:=omega)only[Nat.reduceEqDiff,↓reduceIte,vcu,↓vcd,h0,h3,h4,h5,h13,h19,h21,h22,h24,h27]
    refine (pick_at β T g h o bs (p+1+1) n d.rd om9 om9).mono ?_
    rintro _ T' ⟨z3,rfl,z3a,z3b,hR,hK⟩
    replace d:=d.step hR hK
    simp -implicitDefEqProofs(disch:=omega)only[Nat.reduceEqDiff,↓reduceIte,vcu,↓vcd,opK_some,h0,h3,h4,h5,h13,h19,h21,h22,h24,h27]
    refine⟨keep_of rfl (fun p hp=>by cases hp),?_⟩
    rw[←hG]
    exact N_abc _ _ z1 xb z3 (by refine⟨?_,?_,?_,?_,?_,?_,?_,?_,?_⟩<;>first|rfl|simp -implicitDefEqProofs(disch:=omega)only[Nat.reduceEqDiff,↓reduceIte,vcu,↓vcd,h0,h3,h4,h5,h13,h19,h21,h22,h24,h27]) z1a z1b xba xbb z3a z3b d
   ·skip
    refine r_new ze41 fun c T' nc sc ec=>?_
    replace ec:T' c=some ⟨[.int .i64 0,.int .i64 0,.string (tx [])],false⟩:=ec
    have fc:=d.fresh nc
    replace d:=d.new sc
    simp -implicitDefEqProofs(disch:=omega)only[Nat.reduceEqDiff,↓reduceIte,vcu,↓vcd]
    refine⟨keep_of rfl (fun p hp=>by cases hp),?_⟩
    rw[←hG]
    exact N_abn _ _ c z1 xb (by refine⟨?_,?_,?_,?_,?_,?_,?_,?_,?_,?_,?_⟩<;>first|rfl|simp -implicitDefEqProofs(disch:=omega)only[Nat.reduceEqDiff,↓reduceIte,vcu,↓vcd,h0,h3,h4,h5,h13,h19,h21,h22,h24,h27]) z1a z1b xba xbb d ec fc
  have N_an:∀(a:AFrame) (T:AHeap) (c:Nat) (z1:Int),(a 0=.pointer (some ⟨g,0,none⟩)∧a 3=.pointer (some ⟨hb,0,none⟩)∧a 4=.pointer (some ⟨c4,0,none⟩)∧a 5=.int .i64 n∧a 6=.pointer (some ⟨c,0,none⟩)∧a 13=.int .i64 z1∧a 16=.pointer (some ⟨g,0,none⟩)∧a 21=.pointer (some ⟨g,0,none⟩)∧a 22=.int .i64 n∧a 24=.pointer (some ⟨g,0,none⟩)∧a 27=.int .i64 n)→0≤z1→z1 < 7→DS β τ2 T g h o bs (p+1)→T c=some ⟨[.int .i64 0,.int .i64 0,.string (tx [])],false⟩→τ2 c=none∧c≠g→G w8_an a T:=by
   rintro a T c z1 ⟨h0,h3,h4,h5,h6,h13,h16,h21,h22,h24,h27⟩ z1a z1b d ec fc
   rw[hG]
   refine tree_two rfl rfl ?_ ?_
   ·skip
    refine r_lit el88 (out:=(ints .i64 [0,0,0,0,1,1,2]).toArray) (by first|kernel_rfl | (simp -implicitDefEqProofs(disch:=omega)only[Nat.reduceEqDiff,↓reduceIte,vcu,↓vcd];kernel_rfl)) kr9 fun q T' nq sq eq=>?_
    replace eq:T' q=some ⟨ints .i64 [0,0,0,0,1,1,2],false⟩:=eq
    have fq:=d.fresh nq
    replace d:=d.new sq
    replace ec:=sq _ _ ec
    simp -implicitDefEqProofs(disch:=omega)only[Nat.reduceEqDiff,↓reduceIte,vcu,↓vcd]
    refine⟨keep_of rfl (fun p hp=>by cases hp),?_⟩
    refine tree_quiets (fun _=>none) _ _ _ sf0 kr9 kr9 ?_
    simp -implicitDefEqProofs(disch:=omega)only[Nat.reduceEqDiff,↓reduceIte,vcu,↓vcd,vcp,h0,h3,h4,h5,h6,h13,h16,h21,h22,h24,h27]
    rw[←hG]
    exact N_lan _ _ q c z1 (by refine⟨?_,?_,?_,?_,?_,?_,?_,?_,?_,?_,?_⟩<;>first|rfl|simp -implicitDefEqProofs(disch:=omega)only[Nat.reduceEqDiff,↓reduceIte,vcu,↓vcd,h0,h3,h4,h5,h6,h13,h16,h21,h22,h24,h27]) z1a z1b d eq fq ec fc
   ·skip
    try simp -implicitDefEqProofs(disch:=omega)only[Nat.reduceEqDiff,↓reduceIte,vcu,↓vcd,h0,h3,h4,h5,h6,h13,h16,h21,h22,h24,h27]
    refine (pick_at β T g h o bs (p+1) 60 d.rd om9 om9).mono ?_
    rintro _ T' ⟨z2,rfl,z2a,z2b,hR,hK⟩
    replace d:=d.step hR hK
    replace ec:=hK.at ec fc.2
    simp -implicitDefEqProofs(disch:=omega)only[Nat.reduceEqDiff,↓reduceIte,vcu,↓vcd,opK_some,h0,h3,h4,h5,h6,h13,h16,h21,h22,h24,h27]
    refine⟨keep_of rfl (fun p hp=>by cases hp),?_⟩
    refine tree_quiets (fun _=>none) _ _ _ sf0 kr9 kr9 ?_
    simp -implicitDefEqProofs(disch:=omega)only[Nat.reduceEqDiff,↓reduceIte,vcu,↓vcd,vcp,h0,h3,h4,h5,h6,h13,h16,h21,h22,h24,h27]
    rw[←hG]
    exact N_abn _ _ c z1 (z2 / 59 * 3) (by refine⟨?_,?_,?_,?_,?_,?_,?_,?_,?_,?_,?_⟩<;>first|rfl|simp -implicitDefEqProofs(disch:=omega)only[Nat.reduceEqDiff,↓reduceIte,vcu,↓vcd,h0,h3,h4,h5,h6,h13,h16,h21,h22,h24,h27]) z1a z1b om9 om9 d ec fc
  have N_a:∀(a:AFrame) (T:AHeap) (z1:Int),(a 0=.pointer (some ⟨g,0,none⟩)∧a 3=.pointer (some ⟨hb,0,none⟩)∧a 4=.pointer (some ⟨c4,0,none⟩)∧a 5=.int .i64 n∧a 13=.int .i64 z1∧a 16=.pointer (some ⟨g,0,none⟩)∧a 21=.pointer (some ⟨g,0,none⟩)∧a 22=.int .i64 n∧a 24=.pointer (some ⟨g,0,none⟩)∧a 27=.int .i64 n)→0≤z1→z1 < 7→DS β τ2 T g h o bs (p+1)→G w8_a a T:=by
   rintro a T z1 ⟨h0,h3,h4,h5,h13,h16,h21,h22,h24,h27⟩ z1a z1b d
   rw[hG]
   refine tree_three rfl rfl rfl ?_ ?_ ?_
   ·skip
    refine r_lit el88 (out:=(ints .i64 [0,0,0,0,1,1,2]).toArray) (by first|kernel_rfl | (simp -implicitDefEqProofs(disch:=omega)only[Nat.reduceEqDiff,↓reduceIte,vcu,↓vcd];kernel_rfl)) kr9 fun q T' nq sq eq=>?_
    replace eq:T' q=some ⟨ints .i64 [0,0,0,0,1,1,2],false⟩:=eq
    have fq:=d.fresh nq
    replace d:=d.new sq
    simp -implicitDefEqProofs(disch:=omega)only[Nat.reduceEqDiff,↓reduceIte,vcu,↓vcd]
    refine⟨keep_of rfl (fun p hp=>by cases hp),?_⟩
    refine tree_quiets (fun _=>none) _ _ _ sf0 kr9 kr9 ?_
    simp -implicitDefEqProofs(disch:=omega)only[Nat.reduceEqDiff,↓reduceIte,vcu,↓vcd,vcp,h0,h3,h4,h5,h13,h16,h21,h22,h24,h27]
    rw[←hG]
    exact N_la _ _ q z1 (by refine⟨?_,?_,?_,?_,?_,?_,?_,?_,?_,?_⟩<;>first|rfl|simp -implicitDefEqProofs(disch:=omega)only[Nat.reduceEqDiff,↓reduceIte,vcu,↓vcd,h0,h3,h4,h5,h13,h16,h21,h22,h24,h27]) z1a z1b d eq fq
   ·skip
    try simp -implicitDefEqProofs(disch:=omega)only[Nat.reduceEqDiff,↓reduceIte,vcu,↓vcd,h0,h3,h4,h5,h13,h16,h21,h22,h24,h27]
    refine (pick_at β T g h o bs (p+1) 60 d.rd om9 om9).mono ?_
    rintro _ T' ⟨z2,rfl,z2a,z2b,hR,hK⟩
    replace d:=d.step hR hK
    simp -implicitDefEqProofs(disch:=omega)only[Nat.reduceEqDiff,↓reduceIte,vcu,↓vcd,opK_some,h0,h3,h4,h5,h13,h16,h21,h22,h24,h27]
    refine⟨keep_of rfl (fun p hp=>by cases hp),?_⟩
    refine tree_quiets (fun _=>none) _ _ _ sf0 kr9 kr9 ?_
    simp -implicitDefEqProofs(disch:=omega)only[Nat.reduceEqDiff,↓reduceIte,vcu,↓vcd,vcp,h0,h3,h4,h5,h13,h16,h21,h22,h24,h27]
    rw[←hG]
    exact N_ab _ _ z1 (z2 / 59 * 3) (by refine⟨?_,?_,?_,?_,?_,?_,?_,?_,?_,?_⟩<;>first|rfl|simp -implicitDefEqProofs(disch:=omega)only[Nat.reduceEqDiff,↓reduceIte,vcu,↓vcd,h0,h3,h4,h5,h13,h16,h21,h22,h24,h27]) z1a z1b om9 om9 d
   ·skip
    refine r_new ze41 fun c T' nc sc ec=>?_
    replace ec:T' c=some ⟨[.int .i64 0,.int .i64 0,.string (tx [])],false⟩:=ec
    have fc:=d.fresh nc
    replace d:=d.new sc
    simp -implicitDefEqProofs(disch:=omega)only[Nat.reduceEqDiff,↓reduceIte,vcu,↓vcd]
    refine⟨keep_of rfl (fun p hp=>by cases hp),?_⟩
    rw[←hG]
    exact N_an _ _ c z1 (by refine⟨?_,?_,?_,?_,?_,?_,?_,?_,?_,?_,?_⟩<;>first|rfl|simp -implicitDefEqProofs(disch:=omega)only[Nat.reduceEqDiff,↓reduceIte,vcu,↓vcd,h0,h3,h4,h5,h13,h16,h21,h22,h24,h27]) z1a z1b d ec fc
  have N_n:∀(a:AFrame) (T:AHeap) (c:Nat),(a 0=.pointer (some ⟨g,0,none⟩)∧a 3=.pointer (some ⟨hb,0,none⟩)∧a 4=.pointer (some ⟨c4,0,none⟩)∧a 5=.int .i64 n∧a 6=.pointer (some ⟨c,0,none⟩)∧a 12=.pointer (some ⟨g,0,none⟩)∧a 16=.pointer (some ⟨g,0,none⟩)∧a 21=.pointer (some ⟨g,0,none⟩)∧a 22=.int .i64 n∧a 24=.pointer (some ⟨g,0,none⟩)∧a 27=.int .i64 n)→DS β τ2 T g h o bs (p)→T c=some ⟨[.int .i64 0,.int .i64 0,.string (tx [])],false⟩→τ2 c=none∧c≠g→G w8_n a T:=by
   rintro a T c ⟨h0,h3,h4,h5,h6,h12,h16,h21,h22,h24,h27⟩ d ec fc
   rw[hG]
   refine tree_two rfl rfl ?_ ?_
   ·skip
    refine r_lit el88 (out:=(ints .i64 [0,0,0,0,1,1,2]).toArray) (by first|kernel_rfl | (simp -implicitDefEqProofs(disch:=omega)only[Nat.reduceEqDiff,↓reduceIte,vcu,↓vcd];kernel_rfl)) kr9 fun q T' nq sq eq=>?_
    replace eq:T' q=some ⟨ints .i64 [0,0,0,0,1,1,2],false⟩:=eq
    have fq:=d.fresh nq
    replace d:=d.new sq
    replace ec:=sq _ _ ec
    simp -implicitDefEqProofs(disch:=omega)only[Nat.reduceEqDiff,↓reduceIte,vcu,↓vcd]
    refine⟨keep_of rfl (fun p hp=>by cases hp),?_⟩
    rw[←hG]
    exact N_ln _ _ q c (by refine⟨?_,?_,?_,?_,?_,?_,?_,?_,?_,?_,?_,?_⟩<;>first|rfl|simp -implicitDefEqProofs(disch:=omega)only[Nat.reduceEqDiff,↓reduceIte,vcu,↓vcd,h0,h3,h4,h5,h6,h12,h16,h21,h22,h24,h27]) d eq fq ec fc
   ·skip
    try simp -implicitDefEqProofs(disch:=omega)only[Nat.reduceEqDiff,↓reduceIte,vcu,↓vcd,h0,h3,h4,h5,h6,h12,h16,h21,h22,h24,h27]
    refine (pick_at β T g h o bs (p) 7 d.rd om9 om9).mono ?_
    rintro _ T' ⟨z1,rfl,z1a,z1b,hR,hK⟩
    replace d:=d.step hR hK
    replace ec:=hK.at ec fc.2
    simp -implicitDefEqProofs(disch:=omega)only[Nat.reduceEqDiff,↓reduceIte,vcu,↓vcd,opK_some,h0,h3,h4,h5,h6,h12,h16,h21,h22,h24,h27]
    refine⟨keep_of rfl (fun p hp=>by cases hp),?_⟩
    rw[←hG]
    exact N_an _ _ c z1 (by refine⟨?_,?_,?_,?_,?_,?_,?_,?_,?_,?_,?_⟩<;>first|rfl|simp -implicitDefEqProofs(disch:=omega)only[Nat.reduceEqDiff,↓reduceIte,vcu,↓vcd,h0,h3,h4,h5,h6,h12,h16,h21,h22,h24,h27]) z1a z1b d ec fc
  have N_z:∀(a:AFrame) (T:AHeap),(a 0=.pointer (some ⟨g,0,none⟩)∧a 3=.pointer (some ⟨hb,0,none⟩)∧a 4=.pointer (some ⟨c4,0,none⟩)∧a 5=.int .i64 n∧a 12=.pointer (some ⟨g,0,none⟩)∧a 16=.pointer (some ⟨g,0,none⟩)∧a 21=.pointer (some ⟨g,0,none⟩)∧a 22=.int .i64 n∧a 24=.pointer (some ⟨g,0,none⟩)∧a 27=.int .i64 n)→DS β τ2 T g h o bs (p)→G w8_z a T:=by
   rintro a T ⟨h0,h3,h4,h5,h12,h16,h21,h22,h24,h27⟩ d
   rw[hG]
   refine tree_three rfl rfl rfl ?_ ?_ ?_
   ·skip
    refine r_lit el88 (out:=(ints .i64 [0,0,0,0,1,1,2]).toArray) (by first|kernel_rfl | (simp -implicitDefEqProofs(disch:=omega)only[Nat.reduceEqDiff,↓reduceIte,vcu,↓vcd];kernel_rfl)) kr9 fun q T' nq sq eq=>?_
    replace eq:T' q=some ⟨ints .i64 [0,0,0,0,1,1,2],false⟩:=eq
    have fq:=d.fresh nq
    replace d:=d.new sq
    simp -implicitDefEqProofs(disch:=omega)only[Nat.reduceEqDiff,↓reduceIte,vcu,↓vcd]
    refine⟨keep_of rfl (fun p hp=>by cases hp),?_⟩
    rw[←hG]
    exact N_l _ _ q (by refine⟨?_,?_,?_,?_,?_,?_,?_,?_,?_,?_,?_⟩<;>first|rfl|simp -implicitDefEqProofs(disch:=omega)only[Nat.reduceEqDiff,↓reduceIte,vcu,↓vcd,h0,h3,h4,h5,h12,h16,h21,h22,h24,h27]) d eq fq
   ·skip
    try simp -implicitDefEqProofs(disch:=omega)only[Nat.reduceEqDiff,↓reduceIte,vcu,↓vcd,h0,h3,h4,h5,h12,h16,h21,h22,h24,h27]
    refine (pick_at β T g h o bs (p) 7 d.rd om9 om9).mono ?_
    rintro _ T' ⟨z1,rfl,z1a,z1b,hR,hK⟩
    replace d:=d.step hR hK
    simp -implicitDefEqProofs(disch:=omega)only[Nat.reduceEqDiff,↓reduceIte,vcu,↓vcd,opK_some,h0,h3,h4,h5,h12,h16,h21,h22,h24,h27]
    refine⟨keep_of rfl (fun p hp=>by cases hp),?_⟩
    rw[←hG]
    exact N_a _ _ z1 (by refine⟨?_,?_,?_,?_,?_,?_,?_,?_,?_,?_⟩<;>first|rfl|simp -implicitDefEqProofs(disch:=omega)only[Nat.reduceEqDiff,↓reduceIte,vcu,↓vcd,h0,h3,h4,h5,h12,h16,h21,h22,h24,h27]) z1a z1b d
   ·skip
    refine r_new ze41 fun c T' nc sc ec=>?_
    replace ec:T' c=some ⟨[.int .i64 0,.int .i64 0,.string (tx [])],false⟩:=ec
    have fc:=d.fresh nc
    replace d:=d.new sc
    simp -implicitDefEqProofs(disch:=omega)only[Nat.reduceEqDiff,↓reduceIte,vcu,↓vcd]
    refine⟨keep_of rfl (fun p hp=>by cases hp),?_⟩
    rw[←hG]
    exact N_n _ _ c (by refine⟨?_,?_,?_,?_,?_,?_,?_,?_,?_,?_,?_⟩<;>first|rfl|simp -implicitDefEqProofs(disch:=omega)only[Nat.reduceEqDiff,↓reduceIte,vcu,↓vcd,h0,h3,h4,h5,h12,h16,h21,h22,h24,h27]) d ec fc
  exact N_z _ _ (by refine⟨?_,?_,?_,?_,?_,?_,?_,?_,?_,?_⟩<;>first|rfl|simp -implicitDefEqProofs(disch:=omega)only[Nat.reduceEqDiff,↓reduceIte,vcu,↓vcd]) D0
 clear D0
 rintro _ a1 T1 ⟨rfl,⟨h0,h3,h4,h5⟩,c,k,l,p1,h6,ec,nc,gc,hp1,hp2,D1⟩
 have d3:=d2.on D1
 have gcc:c4≠c:=ne_of' nc e4
 have hx4:=fun i=>getD_len (M:=5) hx i
 replace eb:=D1.kp hb _ gb.2 eb
 replace e4:=D1.kp c4 _ g4.2 e4
 have fc:=d2.fresh nc
 have t3:Texts T1 v1 ps:=ht.sub (less_keptY d3.kp)
 clear D1 d2 nc gc x3 d1 hr
 have y0:ld T1 c (0+0)=some (.int .i64 k):=ld_of ec rfl
 have x3:ld T1 hb (0+3)=some v1:=ld_of eb rfl
 by_cases hk0:k=0
 case neg =>
  by_cases hk1:k=1
  case neg =>
   simp -implicitDefEqProofs(disch:=omega)only[Nat.reduceEqDiff,↓reduceIte,vcu,↓vcd,h0,h3,h4,h5,h6,y0,hk0,hk1,ne_eq,not_false_eq_true,decide_false,decide_true]
   refine (digits_draw β T1 g h o bs (p1) 3 d3.rd om9 om9).mono ?_
   rintro _ T5 ⟨w,p5,rfl,w1,w2,w3,D⟩
   have d5:=d3.on D
   have ec5:=D.kp c _ fc.2 ec
   have e45:=D.kp c4 _ g4.2 e4
   clear D
   simp -implicitDefEqProofs(disch:=omega)only[Nat.reduceEqDiff,↓reduceIte,vcu,↓vcd,opK_some,h0,h3,h4,h5,h6]
   refine r_set (g:=c) (i:=0+2) (C:=[.int .i64 k,.int .i64 l,.string (tx [])]) (by simp -implicitDefEqProofs(disch:=omega)only[Nat.reduceEqDiff,↓reduceIte,vcu,↓vcd,h6]) z9r co9 z9r ec5 (by simp) fun T6 k6 e6=>?_
   replace e6:T6 c=some ⟨[.int .i64 k,.int .i64 l,.string (tx w)],false⟩:=by rw[e6];simp -implicitDefEqProofs(disch:=omega)only[Nat.reduceEqDiff,↓reduceIte,vcu,↓vcd];rfl
   have d6:=d5.put k6 fc.2 fc.1
   have e46:=k6.at e45 gcc
   have ll:lds T6 c 0 3=some [.int .i64 k,.int .i64 l,.string (tx (w))]:=lds_three (ld_of e6 rfl) (ld_of e6 rfl) (ld_of e6 rfl)
   simp -implicitDefEqProofs(disch:=omega)only[Nat.reduceEqDiff,↓reduceIte,vcu,↓vcd,h0,h3,h4,h5,h6,ll,co41]
   refine r_sets (g:=c4) (i:=0) (C:=[.int .i64 0,.int .i64 0,.string (tx [])]) (by simp -implicitDefEqProofs(disch:=omega)only[Nat.reduceEqDiff,↓reduceIte,vcu,↓vcd,h4]) z9co41 z9r z9z e46 z9l fun T9 k9 e9=>?_
   replace e9:T9 c4=some ⟨[.int .i64 k,.int .i64 l,.string (tx (w))],false⟩:=e9
   have d9:=d6.put k9 g4.2 g4.1
   have l9:lds T9 c4 0 3=some [.int .i64 k,.int .i64 l,.string (tx (w))]:=lds_three (ld_of e9 rfl) (ld_of e9 rfl) (ld_of e9 rfl)
   simp -implicitDefEqProofs(disch:=omega)only[Nat.reduceEqDiff,↓reduceIte,vcu,↓vcd,h0,h3,h4,h5,h6]
   refine fin_cell Tryz.results73 T9 (Sub.refl _) (v:=ddA ⟨k,l,w⟩) (by simp -implicitDefEqProofs(disch:=omega)only[Nat.reduceEqDiff,↓reduceIte,vcu,↓vcd,h0,h3,h4,h5,h6,l9,co41];rfl) ⟨⟨k,l,w⟩,_,rfl,by show w.length≤5;omega,by omega,by omega,d9⟩
  simp -implicitDefEqProofs(disch:=omega)only[Nat.reduceEqDiff,↓reduceIte,vcu,↓vcd,h0,h3,h4,h5,h6,y0,hk1]
  refine (odd_at β T1 g h o bs p1 30 d3.rd om9 om9).mono ?_
  rintro _ T4 ⟨b,rfl,hR,hK⟩
  have d4:=d3.step hR hK
  have ec4:=hK.at ec fc.2
  have e44:=hK.at e4 g4.2
  clear hR hK
  cases b with
  | true =>
   simp -implicitDefEqProofs(disch:=omega)only[Nat.reduceEqDiff,↓reduceIte,vcu,↓vcd,h0,h3,h4,h5,h6,opK_some]
   refine (digits_draw β T4 g h o bs (p1+1) 3 d4.rd om9 om9).mono ?_
   rintro _ T5 ⟨w,p5,rfl,w1,w2,w3,D⟩
   have d5:=d4.on D
   have ec5:=D.kp c _ fc.2 ec4
   have e45:=D.kp c4 _ g4.2 e44
   clear D
   simp -implicitDefEqProofs(disch:=omega)only[Nat.reduceEqDiff,↓reduceIte,vcu,↓vcd,opK_some,h0,h3,h4,h5,h6]
   refine r_set (g:=c) (i:=0+2) (C:=[.int .i64 k,.int .i64 l,.string (tx [])]) (by simp -implicitDefEqProofs(disch:=omega)only[Nat.reduceEqDiff,↓reduceIte,vcu,↓vcd,h6]) z9r co9 z9r ec5 (by simp) fun T6 k6 e6=>?_
   replace e6:T6 c=some ⟨[.int .i64 k,.int .i64 l,.string (tx w)],false⟩:=by rw[e6];simp -implicitDefEqProofs(disch:=omega)only[Nat.reduceEqDiff,↓reduceIte,vcu,↓vcd];rfl
   have d6:=d5.put k6 fc.2 fc.1
   have e46:=k6.at e45 gcc
   have ll:lds T6 c 0 3=some [.int .i64 k,.int .i64 l,.string (tx (w))]:=lds_three (ld_of e6 rfl) (ld_of e6 rfl) (ld_of e6 rfl)
   simp -implicitDefEqProofs(disch:=omega)only[Nat.reduceEqDiff,↓reduceIte,vcu,↓vcd,h0,h3,h4,h5,h6,ll,co41]
   refine r_sets (g:=c4) (i:=0) (C:=[.int .i64 0,.int .i64 0,.string (tx [])]) (by simp -implicitDefEqProofs(disch:=omega)only[Nat.reduceEqDiff,↓reduceIte,vcu,↓vcd,h4]) z9co41 z9r z9z e46 z9l fun T9 k9 e9=>?_
   replace e9:T9 c4=some ⟨[.int .i64 k,.int .i64 l,.string (tx (w))],false⟩:=e9
   have d9:=d6.put k9 g4.2 g4.1
   have l9:lds T9 c4 0 3=some [.int .i64 k,.int .i64 l,.string (tx (w))]:=lds_three (ld_of e9 rfl) (ld_of e9 rfl) (ld_of e9 rfl)
   simp -implicitDefEqProofs(disch:=omega)only[Nat.reduceEqDiff,↓reduceIte,vcu,↓vcd,h0,h3,h4,h5,h6]
   refine fin_cell Tryz.results73 T9 (Sub.refl _) (v:=ddA ⟨k,l,w⟩) (by simp -implicitDefEqProofs(disch:=omega)only[Nat.reduceEqDiff,↓reduceIte,vcu,↓vcd,h0,h3,h4,h5,h6,l9,co41];rfl) ⟨⟨k,l,w⟩,_,rfl,by show w.length≤5;omega,by omega,by omega,d9⟩
  | false =>
   simp -implicitDefEqProofs(disch:=omega)only[Nat.reduceEqDiff,↓reduceIte,vcu,↓vcd,opK_some,h0,h3,h4,h5,h6]
   have ll:lds T4 c 0 3=some [.int .i64 k,.int .i64 l,.string (tx ([]))]:=lds_three (ld_of ec4 rfl) (ld_of ec4 rfl) (ld_of ec4 rfl)
   simp -implicitDefEqProofs(disch:=omega)only[Nat.reduceEqDiff,↓reduceIte,vcu,↓vcd,h0,h3,h4,h5,h6,ll,co41]
   refine r_sets (g:=c4) (i:=0) (C:=[.int .i64 0,.int .i64 0,.string (tx [])]) (by simp -implicitDefEqProofs(disch:=omega)only[Nat.reduceEqDiff,↓reduceIte,vcu,↓vcd,h4]) z9co41 z9r z9z e44 z9l fun T9 k9 e9=>?_
   replace e9:T9 c4=some ⟨[.int .i64 k,.int .i64 l,.string (tx ([]))],false⟩:=e9
   have d9:=d4.put k9 g4.2 g4.1
   have l9:lds T9 c4 0 3=some [.int .i64 k,.int .i64 l,.string (tx ([]))]:=lds_three (ld_of e9 rfl) (ld_of e9 rfl) (ld_of e9 rfl)
   simp -implicitDefEqProofs(disch:=omega)only[Nat.reduceEqDiff,↓reduceIte,vcu,↓vcd,h0,h3,h4,h5,h6]
   refine fin_cell Tryz.results73 T9 (Sub.refl _) (v:=ddA ⟨k,l,[]⟩) (by simp -implicitDefEqProofs(disch:=omega)only[Nat.reduceEqDiff,↓reduceIte,vcu,↓vcd,h0,h3,h4,h5,h6,l9,co41];rfl) ⟨⟨k,l,[]⟩,_,rfl,by simp,by omega,by omega,d9⟩
 by_cases h00:0 < ps.length
 case neg =>
  simp -implicitDefEqProofs(disch:=omega)only[Nat.reduceEqDiff,↓reduceIte,vcu,↓vcd,h0,h3,h4,h5,h6,y0,hk0,x3,l1]
  refine (digits_draw β T1 g h o bs (p1) 3 d3.rd om9 om9).mono ?_
  rintro _ T5 ⟨w,p5,rfl,w1,w2,w3,D⟩
  have d5:=d3.on D
  have ec5:=D.kp c _ fc.2 ec
  have e45:=D.kp c4 _ g4.2 e4
  clear D
  simp -implicitDefEqProofs(disch:=omega)only[Nat.reduceEqDiff,↓reduceIte,vcu,↓vcd,opK_some,h0,h3,h4,h5,h6]
  refine r_set (g:=c) (i:=0+2) (C:=[.int .i64 k,.int .i64 l,.string (tx [])]) (by simp -implicitDefEqProofs(disch:=omega)only[Nat.reduceEqDiff,↓reduceIte,vcu,↓vcd,h6]) z9r co9 z9r ec5 (by simp) fun T6 k6 e6=>?_
  replace e6:T6 c=some ⟨[.int .i64 k,.int .i64 l,.string (tx w)],false⟩:=by rw[e6];simp -implicitDefEqProofs(disch:=omega)only[Nat.reduceEqDiff,↓reduceIte,vcu,↓vcd];rfl
  have d6:=d5.put k6 fc.2 fc.1
  have e46:=k6.at e45 gcc
  have ll:lds T6 c 0 3=some [.int .i64 k,.int .i64 l,.string (tx (w))]:=lds_three (ld_of e6 rfl) (ld_of e6 rfl) (ld_of e6 rfl)
  simp -implicitDefEqProofs(disch:=omega)only[Nat.reduceEqDiff,↓reduceIte,vcu,↓vcd,h0,h3,h4,h5,h6,ll,co41]
  refine r_sets (g:=c4) (i:=0) (C:=[.int .i64 0,.int .i64 0,.string (tx [])]) (by simp -implicitDefEqProofs(disch:=omega)only[Nat.reduceEqDiff,↓reduceIte,vcu,↓vcd,h4]) z9co41 z9r z9z e46 z9l fun T9 k9 e9=>?_
  replace e9:T9 c4=some ⟨[.int .i64 k,.int .i64 l,.string (tx (w))],false⟩:=e9
  have d9:=d6.put k9 g4.2 g4.1
  have l9:lds T9 c4 0 3=some [.int .i64 k,.int .i64 l,.string (tx (w))]:=lds_three (ld_of e9 rfl) (ld_of e9 rfl) (ld_of e9 rfl)
  simp -implicitDefEqProofs(disch:=omega)only[Nat.reduceEqDiff,↓reduceIte,vcu,↓vcd,h0,h3,h4,h5,h6]
  refine fin_cell Tryz.results73 T9 (Sub.refl _) (v:=ddA ⟨k,l,w⟩) (by simp -implicitDefEqProofs(disch:=omega)only[Nat.reduceEqDiff,↓reduceIte,vcu,↓vcd,h0,h3,h4,h5,h6,l9,co41];rfl) ⟨⟨k,l,w⟩,_,rfl,by show w.length≤5;omega,by omega,by omega,d9⟩
 have hn':=n3 h00
 simp -implicitDefEqProofs(disch:=omega)only[Nat.reduceEqDiff,↓reduceIte,vcu,↓vcd,h0,h3,h4,h5,h6,y0,hk0,x3,l1]
 refine (pick_at β T1 g h o bs p1 12 d3.rd om9 om9).mono ?_
 rintro _ T4 ⟨z5,rfl,z50,z51,hR,hK⟩
 have d4:=d3.step hR hK
 have ec4:=hK.at ec fc.2
 have e44:=hK.at e4 g4.2
 have eb4:=hK.at eb gb.2
 have y4:ld T4 c (0+0)=some (.int .i64 k):=ld_of ec4 rfl
 have x4:ld T4 hb (0+3)=some v1:=ld_of eb4 rfl
 clear hR hK
 by_cases hz:0 < z5
 case neg =>
  simp -implicitDefEqProofs(disch:=omega)only[Nat.reduceEqDiff,↓reduceIte,vcu,↓vcd,h0,h3,h4,h5,h6,opK_some,y4,hk0]
  refine (digits_draw β T4 g h o bs (p1+1) 3 d4.rd om9 om9).mono ?_
  rintro _ T5 ⟨w,p5,rfl,w1,w2,w3,D⟩
  have d5:=d4.on D
  have ec5:=D.kp c _ fc.2 ec4
  have e45:=D.kp c4 _ g4.2 e44
  clear D
  simp -implicitDefEqProofs(disch:=omega)only[Nat.reduceEqDiff,↓reduceIte,vcu,↓vcd,opK_some,h0,h3,h4,h5,h6]
  refine r_set (g:=c) (i:=0+2) (C:=[.int .i64 k,.int .i64 l,.string (tx [])]) (by simp -implicitDefEqProofs(disch:=omega)only[Nat.reduceEqDiff,↓reduceIte,vcu,↓vcd,h6]) z9r co9 z9r ec5 (by simp) fun T6 k6 e6=>?_
  replace e6:T6 c=some ⟨[.int .i64 k,.int .i64 l,.string (tx w)],false⟩:=by rw[e6];simp -implicitDefEqProofs(disch:=omega)only[Nat.reduceEqDiff,↓reduceIte,vcu,↓vcd];rfl
  have d6:=d5.put k6 fc.2 fc.1
  have e46:=k6.at e45 gcc
  have ll:lds T6 c 0 3=some [.int .i64 k,.int .i64 l,.string (tx (w))]:=lds_three (ld_of e6 rfl) (ld_of e6 rfl) (ld_of e6 rfl)
  simp -implicitDefEqProofs(disch:=omega)only[Nat.reduceEqDiff,↓reduceIte,vcu,↓vcd,h0,h3,h4,h5,h6,ll,co41]
  refine r_sets (g:=c4) (i:=0) (C:=[.int .i64 0,.int .i64 0,.string (tx [])]) (by simp -implicitDefEqProofs(disch:=omega)only[Nat.reduceEqDiff,↓reduceIte,vcu,↓vcd,h4]) z9co41 z9r z9z e46 z9l fun T9 k9 e9=>?_
  replace e9:T9 c4=some ⟨[.int .i64 k,.int .i64 l,.string (tx (w))],false⟩:=e9
  have d9:=d6.put k9 g4.2 g4.1
  have l9:lds T9 c4 0 3=some [.int .i64 k,.int .i64 l,.string (tx (w))]:=lds_three (ld_of e9 rfl) (ld_of e9 rfl) (ld_of e9 rfl)
  simp -implicitDefEqProofs(disch:=omega)only[Nat.reduceEqDiff,↓reduceIte,vcu,↓vcd,h0,h3,h4,h5,h6]
  refine fin_cell Tryz.results73 T9 (Sub.refl _) (v:=ddA ⟨k,l,w⟩) (by simp -implicitDefEqProofs(disch:=omega)only[Nat.reduceEqDiff,↓reduceIte,vcu,↓vcd,h0,h3,h4,h5,h6,l9,co41];rfl) ⟨⟨k,l,w⟩,_,rfl,by show w.length≤5;omega,by omega,by omega,d9⟩
 obtain⟨gp,op,rfl,tp⟩:=rowT (ht.sub (kept_less d4.kp)) h00
 have x5:ld (T4.upd g none) hb (0+3)=some (.slice (some ⟨gp,op,none⟩) ps.length 1):=ld_of (by rw[AHeap.upd_ne _ _ gb.2];exact eb4) rfl
 have KK:∀τ,Kept g T4 τ→∀p∈[(([0,1,2,3,5,6,7]:List Nat),Sub (T4.upd g none))],p.2 τ:=fun τ hK p hp=>by simp only[List.mem_singleton] at hp;subst hp;exact less_keptY hK
 simp -implicitDefEqProofs(disch:=omega)only[Nat.reduceEqDiff,↓reduceIte,vcu,↓vcd,opK_some,h0,h3,h4,h5,h6]
 refine acodeB_monoY (Q':=fun en a' T=>en=.normal∧(a' 0=.pointer (some ⟨g,0,none⟩)∧a' 3=.pointer (some ⟨hb,0,none⟩)∧a' 4=.pointer (some ⟨c4,0,none⟩)∧a' 5=.int .i64 n∧a' 6=.pointer (some ⟨c,0,none⟩))∧∃w:List UInt8,w.length≤5∧T c=some ⟨[.int .i64 k,.int .i64 l,.string (tx w)],false⟩∧T c4=some ⟨[.int .i64 0,.int .i64 0,.string (tx [])],false⟩∧DS β σ T g h o bs (p1+1+1))
  (region_tree mixed (quiets [0,1,2,3] (.one 4 (quiets [5,6,7] (.one 8 .stop)))) [([0,1,2,3,5,6,7],Sub (T4.upd g none))] kr9 kr9 (KK _ (Kept.refl _ _)) ?_) ?_
 ·refine tree_quiets (T4.upd g none) _ _ _ (sfIn kr9) kr9 kr9 ?_
  simp -implicitDefEqProofs(disch:=omega)only[Nat.reduceEqDiff,↓reduceIte,vcu,↓vcd,vcp,h0,h3,h4,h5,h6,x5]
  refine tree_one rfl ?_
  simp -implicitDefEqProofs(disch:=omega)only[Nat.reduceEqDiff,↓reduceIte,vcu,↓vcd]
  refine (pick_at β T4 g h o bs (p1+1) n d4.rd om9 om9).mono ?_
  rintro _ T5 ⟨z6,rfl,z60,z61,hR,hK⟩
  have d5:=d4.step hR hK
  have ec5:=hK.at ec4 fc.2
  have e45:=hK.at e44 g4.2
  simp -implicitDefEqProofs(disch:=omega)only[Nat.reduceEqDiff,↓reduceIte,vcu,↓vcd,opK_some]
  refine⟨keep_of rfl fun p hp=>.inr (KK _ hK p hp),?_⟩
  have x6:ld (T4.upd g none) gp (op+z6.toNat)=some (.string (tx (ps.getD z6.toNat []))):=tp z6.toNat om9
  refine tree_quiets (T4.upd g none) _ _ _ (sfIn kr9) kr9 kr9 ?_
  simp -implicitDefEqProofs(disch:=omega)only[Nat.reduceEqDiff,↓reduceIte,vcu,↓vcd,vcp,h0,h3,h4,h5,h6,x6]
  refine tree_one rfl ?_
  have hw:=hx4 z6.toNat
  generalize ps.getD z6.toNat []=w at hw
  refine r_set (g:=c) (i:=0+2) (C:=[.int .i64 k,.int .i64 l,.string (tx [])]) (by simp -implicitDefEqProofs(disch:=omega)only[Nat.reduceEqDiff,↓reduceIte,vcu,↓vcd,h6]) z9r co9 z9r ec5 (by simp) fun T6 k6 e6=>?_
  replace e6:T6 c=some ⟨[.int .i64 k,.int .i64 l,.string (tx w)],false⟩:=by rw[e6];simp -implicitDefEqProofs(disch:=omega)only[Nat.reduceEqDiff,↓reduceIte,vcu,↓vcd];rfl
  have d6:=d5.put k6 fc.2 fc.1
  have e46:=k6.at e45 gcc
  try simp -implicitDefEqProofs(disch:=omega)only[Nat.reduceEqDiff,↓reduceIte,vcu,↓vcd]
  refine⟨keep_of rfl (fun p hp=>by simp only[List.mem_singleton] at hp;subst hp;exact .inl kr9),tree_stop ?_⟩
  exact⟨by first|trivial|rfl,⟨by simp -implicitDefEqProofs(disch:=omega)only[Nat.reduceEqDiff,↓reduceIte,vcu,↓vcd,h0],by simp -implicitDefEqProofs(disch:=omega)only[Nat.reduceEqDiff,↓reduceIte,vcu,↓vcd,h3],by simp -implicitDefEqProofs(disch:=omega)only[Nat.reduceEqDiff,↓reduceIte,vcu,↓vcd,h4],by simp -implicitDefEqProofs(disch:=omega)only[Nat.reduceEqDiff,↓reduceIte,vcu,↓vcd,h5],by simp -implicitDefEqProofs(disch:=omega)only[Nat.reduceEqDiff,↓reduceIte,vcu,↓vcd,h6]⟩,w,hw,e6,e46,d6⟩
 rintro _ a2 T7 ⟨rfl,⟨h0,h3,h4,h5,h6⟩,w,w1,e7,e47,d7⟩
 have ll:lds T7 c 0 3=some [.int .i64 k,.int .i64 l,.string (tx (w))]:=lds_three (ld_of e7 rfl) (ld_of e7 rfl) (ld_of e7 rfl)
 simp -implicitDefEqProofs(disch:=omega)only[Nat.reduceEqDiff,↓reduceIte,vcu,↓vcd,h0,h3,h4,h5,h6,ll,co41]
 refine r_sets (g:=c4) (i:=0) (C:=[.int .i64 0,.int .i64 0,.string (tx [])]) (by simp -implicitDefEqProofs(disch:=omega)only[Nat.reduceEqDiff,↓reduceIte,vcu,↓vcd,h4]) z9co41 z9r z9z e47 z9l fun T9 k9 e9=>?_
 replace e9:T9 c4=some ⟨[.int .i64 k,.int .i64 l,.string (tx (w))],false⟩:=e9
 have d9:=d7.put k9 g4.2 g4.1
 have l9:lds T9 c4 0 3=some [.int .i64 k,.int .i64 l,.string (tx (w))]:=lds_three (ld_of e9 rfl) (ld_of e9 rfl) (ld_of e9 rfl)
 simp -implicitDefEqProofs(disch:=omega)only[Nat.reduceEqDiff,↓reduceIte,vcu,↓vcd,h0,h3,h4,h5,h6]
 refine fin_cell Tryz.results73 T9 (Sub.refl _) (v:=ddA ⟨k,l,w⟩) (by simp -implicitDefEqProofs(disch:=omega)only[Nat.reduceEqDiff,↓reduceIte,vcu,↓vcd,h0,h3,h4,h5,h6,l9,co41];rfl) ⟨⟨k,l,w⟩,_,rfl,by show w.length≤5;omega,by omega,by omega,d9⟩
end Go.Proofs.YtofdnmlpfagibaaGreatDoor
namespace Go.Proofs.YtofdnmlpfagibaaGreatDoor
open Go Go.Abs Go.RowKit
variable {w0:World}
theorem appd_gen (A B:List Int) (n:Nat):appd (ints .i64 A) n (ints .i64 B)=ints .i64 (if n+B.length≤A.length then A.take n++B++A.drop (n+B.length) else A.take n++B):=by
 unfold appd
 rw[ints_length,ints_length]
 split
 ·unfold lwrite;rw[ints_length];simp [ints]
 ·simp [ints]
theorem insert_eq (ps:List Int) (z:Nat) (v:Int) (hz:z≤ps.length) :
  appd (appd (ints .i64 ps) z (ints .i64 [v])) (z+1) (ints .i64 (ps.drop z))=ints .i64 (ps.take z++[v]++ps.drop z):=by
 rw[appd_gen,appd_gen]
 congr 1
 have hl:(ps.take z++[v]).length=z+1:=by simp;omega
 by_cases h:z+[v].length≤ps.length
 ·rw[if_pos h,if_neg (by simp at h ⊢;omega),List.take_append_of_le_length om9,List.take_of_length_le om9]
 ·rw[if_neg h]
  have e:z=ps.length:=by simp at h;omega
  subst e
  rw[List.take_of_length_le (Nat.le_refl _),List.take_of_length_le (by simp)]
  simp
theorem Rd.keep {β σ τ:AHeap} {g h o:Nat} {bs:List Int} {p:Int} (hr:Rd β σ g h o bs p) (hs:Sub β τ) (hg:τ g=σ g):Rd β τ g h o bs p :=
 ⟨by rw[hg];exact hr.at_,hs,hr.free,hr.ints,hr.len,hr.byte⟩
theorem ins_range {ps:List Int} {z k:Nat} (h:∀x∈ps,0≤x∧x < (k:Int)):∀x∈ps.take z++[(k:Int)]++ps.drop z,0≤x∧x < ((k+1:Nat):Int):=fun x hx=>by
 rcases List.mem_append.1 hx with hx|hx
 ·rcases List.mem_append.1 hx with hx|hx
  ·have:=h x (List.mem_of_mem_take hx);omega
  ·rw[List.mem_singleton] at hx;subst hx;omega
 ·have:=h x (List.mem_of_mem_drop hx);omega
theorem ins_nodup {ps:List Int} {z k:Nat} (h:∀x∈ps,0≤x∧x < (k:Int)) (hn:ps.Nodup):(ps.take z++[(k:Int)]++ps.drop z).Nodup:=by
 have hp:(ps.take z++[(k:Int)]++ps.drop z).Perm ((k:Int) :: ps):=by
  have h1:(ps.take z++[(k:Int)]++ps.drop z).Perm ((k:Int) :: (ps.take z++ps.drop z)):=by
   rw[List.append_assoc];exact List.perm_middle
  rwa [List.take_append_drop] at h1
 rw[hp.nodup_iff]
 exact List.nodup_cons.2 ⟨fun hm=>by have:=h _ hm;omega,hn⟩
set_option maxRecDepth 8000 in
theorem permR_draw (β σ:AHeap) (g h o:Nat) (bs:List Int) (p:Int) (n:Nat) (hr:Rd β σ g h o bs p) (hp:0≤p∧p≤10000) (hn:n≤100) :
  ACall Tryz.prog w0 71 [.pointer (some ⟨g,0,none⟩),.int .i64 n] σ fun r σ'=>∃(q:Nat) (ps:List Int) (p':Int),r=.slice (some ⟨q,0,none⟩) n 1∧ps.length=n∧(∀x∈ps,0≤x∧x < n)∧ps.Nodup∧σ' q=some ⟨ints .i64 ps,false⟩∧β q=none∧q≠g∧p≤p'∧p'≤p+n∧Rd β σ' g h o bs p':=by
 refine acall_go mixed Tryz.func71 rfl good71 fun pr=>?_
 simp -implicitDefEqProofs(disch:=omega)only[Nat.reduceEqDiff,↓reduceIte,vcu,↓vcd]
 refine r_lit_at Tryz.underlying88 ze3 (out:=#[]) kr9 kr9 fun q hq=>?_
 simp -implicitDefEqProofs(disch:=omega)only[Nat.reduceEqDiff,↓reduceIte,vcu,↓vcd]
 have hqg:q≠g:=by rintro rfl;rw[hr.at_] at hq;cases hq
 refine vc_loop mixed kr9 (fun m a τ=>∃(k q:Nat) (ps:List Int) (p':Int),m+k=n∧a 0=.pointer (some ⟨g,0,none⟩)∧a 1=.int .i64 n∧a 5=.slice (some ⟨q,0,none⟩) k 1∧a 6=.int .i64 k∧ps.length=k∧(∀x∈ps,0≤x∧x < (k:Int))∧ps.Nodup∧τ q=some ⟨ints .i64 ps,false⟩∧β q=none∧q≠g∧p≤p'∧p'≤p+k∧Rd β τ g h o bs p')
  n ⟨0,q,[],p,by simp,rfl,rfl,by simp -implicitDefEqProofs(disch:=omega)only[Nat.reduceEqDiff,↓reduceIte,vcu,↓vcd,co3],rfl,rfl,(fun x (hx:x∈([]:List Int))=>absurd hx (by simp)),List.nodup_nil,AHeap.upd_same _ _ _,free_sub hr.sub hq,hqg,by omega,by omega,hr.keep (sub_put hr.sub (free_sub hr.sub hq)) (AHeap.upd_ne _ _ hqg.symm)⟩ ?_
 clear hq hqg q hr
 rintro m a τ ⟨k,q,ps,p',hk,h0,h1,h5,h6,hpl,hrg,hnd,hqv,hqf,hqg,hp1,hp2,hr⟩
 by_cases hlt:k < n
 ·simp -implicitDefEqProofs(disch:=omega)only[Nat.reduceEqDiff,↓reduceIte,vcu,↓vcd,h0,h1,h5,h6]
  refine (pick_at β _ g h o bs p' ((k:Int)+1) hr om9 om9).mono ?_
  rintro r τ1 ⟨z,rfl,hz0,hz1,hR,hK⟩
  have hqv1:=hK q _ hqg hqv
  obtain⟨zt,rfl⟩:∃zt:Nat,z=zt:=⟨z.toNat,by omega⟩
  have hzk:zt≤k:=by omega
  simp -implicitDefEqProofs(disch:=omega)only[Nat.reduceEqDiff,↓reduceIte,vcu,↓vcd,opK_some,h0,h1,h5,h6,Int.toNat_natCast]
  refine r_lit_at Tryz.underlying88 ze3 (out:=#[]) kr9 kr9 fun e1 he1=>?_
  simp -implicitDefEqProofs(disch:=omega)only[Nat.reduceEqDiff,↓reduceIte,vcu,↓vcd,h5,Int.toNat_natCast]
  have hdl:(ps.drop zt).length=k - zt:=by simp [hpl]
  refine r_append_at Tryz.underlying88 Tryz.underlying88 (i:=Tryz.t3) (z:=.int .i64 0) (ys:=ints .i64 (ps.drop zt)) (h:=e1) (b:=0) (len:=0) (ob:=⟨[],false⟩) rfl rfl ?_ z9co3 (AHeap.upd_same _ _ _) rfl (by simp) ?_ ?_ fun r1 hr1=>?_
  ·simp -implicitDefEqProofs(disch:=omega)only[Nat.reduceEqDiff,↓reduceIte,vcu,↓vcd]
   have hq2:(τ1.upd e1 (some ⟨[],false⟩)) q=some ⟨ints .i64 ps,false⟩:=put_other hqv1 he1
   have hA:=acells_at (k:=.i64) (o:=0+zt) (xs:=ps.drop zt) ((intsAt_own hq2).drop zt) ⟨_,hq2,by rw[ints_length,hdl];omega⟩
   rw[hdl] at hA
   exact hA
  ·exact ints_one _ _
  ·rw[ints_length,hdl]
   show (0 * 1+(k - zt)) * 8≤_∧0 * 1+(k - zt)≤_
   omega
  have ea:appd (List.drop 0 ([]:List Value)) (0 * Tryz.t3.size) (ints .i64 (ps.drop zt))=ints .i64 (ps.drop zt):=by
   have:=appd_gen [] (ps.drop zt) 0
   rw[show (0 * Tryz.t3.size)=0 from Nat.zero_mul _]
   rw[show (List.drop 0 ([]:List Value))=ints .i64 [] from rfl,this]
   congr 1
   split
   ·rename_i hh;have:ps.drop zt=[]:=List.eq_nil_of_length_eq_zero (by simp at hh ⊢;omega)
    simp [this]
   ·simp
  rw[ea]
  have hr1':τ1 r1=none:=free_sub (sub_upd he1) hr1
  have hr1n:r1≠q:=by rintro rfl;rw[hqv1] at hr1';cases hr1'
  have hr1g:r1≠g:=by rintro rfl;rw[hR.at_] at hr1';cases hr1'
  have he1g:e1≠g:=by rintro rfl;rw[hR.at_] at he1;cases he1
  have he1q:e1≠q:=by rintro rfl;rw[hqv1] at he1;cases he1
  generalize hH:((τ1.upd e1 (some ⟨[],false⟩)).upd e1 none).upd r1 (some ⟨ints .i64 (ps.drop zt),false⟩)=H
  have Hs:Sub β H:=by rw[←hH];exact sub_put (sub_put (sub_put hR.sub (free_sub hR.sub he1)) (free_sub hR.sub he1)) (free_sub hR.sub hr1')
  have Hq:H q=some ⟨ints .i64 ps,false⟩:=by rw[←hH,AHeap.upd_ne _ _ hr1n.symm,AHeap.upd_ne _ _ he1q.symm,AHeap.upd_ne _ _ he1q.symm];exact hqv1
  have Hg:H g=τ1 g:=by rw[←hH,AHeap.upd_ne _ _ hr1g.symm,AHeap.upd_ne _ _ he1g.symm,AHeap.upd_ne _ _ he1g.symm]
  have Hr:H r1=some ⟨ints .i64 (ps.drop zt),false⟩:=by rw[←hH];exact AHeap.upd_same _ _ _
  have Hrf:β r1=none:=free_sub hR.sub hr1'
  have HR:=hR.keep Hs Hg
  have hlen1:(ints .i64 (ps.drop zt)).length / Tryz.t3.size=k - zt:=by rw[ints_length,hdl];exact Nat.div_one _
  have hsz:Tryz.t3.size=1:=rfl
  clear hH hr1 hr1' he1g he1q he1 ea
  have hlk:(ints .i64 [(k:Int)]).length / Tryz.t3.size=1:=by rw[hsz,ints_length,Nat.div_one];rfl
  simp -implicitDefEqProofs(disch:=omega)only[Nat.reduceEqDiff,↓reduceIte,vcu,↓vcd,h5,h6,Int.toNat_natCast,hlen1,hsz,Nat.zero_add]
  refine r_lit_at Tryz.underlying88 ze3 (out:=#[.int .i64 k]) (by simp -implicitDefEqProofs(disch:=omega)only[Nat.reduceEqDiff,↓reduceIte,vcu,↓vcd,h6];kernel_rfl) kr9 fun e2 he2=>?_
  simp -implicitDefEqProofs(disch:=omega)only[Nat.reduceEqDiff,↓reduceIte,vcu,↓vcd]
  have Hq2:(H.upd e2 (some ⟨[.int .i64 k],false⟩)) q=some ⟨ints .i64 ps,false⟩:=put_other Hq he2
  refine r_append_at Tryz.underlying88 Tryz.underlying88 (i:=Tryz.t3) (z:=.int .i64 0) (ys:=ints .i64 [(k:Int)]) (h:=q) (b:=0) (len:=zt) (ob:=⟨ints .i64 ps,false⟩) rfl rfl ?_ z9r Hq2 rfl ?_ ?_ ?_ fun q1 hq1=>?_
  ·simp -implicitDefEqProofs(disch:=omega)only[Nat.reduceEqDiff,↓reduceIte,vcu,↓vcd,co3]
   exact acells_at (k:=.i64) (o:=0) (xs:=[(k:Int)]) (intsAt_own (AHeap.upd_same _ _ _)) ⟨_,AHeap.upd_same _ _ _,by simp⟩
  ·show 0+zt * 1≤(ints .i64 ps).length
   rw[ints_length];omega
  ·rfl
  ·show (zt * 1+1) * 8≤_∧zt * 1+1≤_
   omega
  have hq1':H q1=none:=free_sub (sub_upd he2) hq1
  have he2q:e2≠q:=by rintro rfl;rw[Hq] at he2;cases he2
  have he2r:e2≠r1:=by rintro rfl;rw[Hr] at he2;cases he2
  have he2g:e2≠g:=by rintro rfl;rw[HR.at_] at he2;cases he2
  have hq1r:q1≠r1:=by rintro rfl;rw[Hr] at hq1';cases hq1'
  have hq1g:q1≠g:=by rintro rfl;rw[HR.at_] at hq1';cases hq1'
  have hc1:(some ⟨appd (List.drop 0 (ints .i64 ps)) (zt * Tryz.t3.size) (ints .i64 [(k:Int)]),false⟩:Option AObj)=some ⟨appd (ints .i64 ps) zt (ints .i64 [(k:Int)]),false⟩:=by
   rw[List.drop_zero,hsz,Nat.mul_one]
  rw[hc1]
  generalize hJ:((H.upd e2 (some ⟨[.int .i64 k],false⟩)).upd q none).upd q1 (some ⟨appd (ints .i64 ps) zt (ints .i64 [(k:Int)]),false⟩)=J
  have Js:Sub β J:=by rw[←hJ];exact sub_put (sub_put (sub_put Hs (free_sub Hs he2)) hqf) (free_sub Hs hq1')
  have Jg:J g=H g:=by rw[←hJ,AHeap.upd_ne _ _ hq1g.symm,AHeap.upd_ne _ _ hqg.symm,AHeap.upd_ne _ _ he2g.symm]
  have Jr:J r1=some ⟨ints .i64 (ps.drop zt),false⟩:=by rw[←hJ,AHeap.upd_ne _ _ hq1r.symm,AHeap.upd_ne _ _ hr1n,AHeap.upd_ne _ _ he2r.symm];exact Hr
  have Jq:J q1=some ⟨appd (ints .i64 ps) zt (ints .i64 [(k:Int)]),false⟩:=by rw[←hJ];exact AHeap.upd_same _ _ _
  have Jqf:β q1=none:=free_sub Hs hq1'
  have JR:=HR.keep Js Jg
  clear hJ hq1 hq1' he2q he2r he2g he2 Hq2 hc1
  simp -implicitDefEqProofs(disch:=omega)only[Nat.reduceEqDiff,↓reduceIte,vcu,↓vcd]
  refine r_append_at Tryz.underlying88 Tryz.underlying88 (i:=Tryz.t3) (z:=.int .i64 0) (ys:=ints .i64 (ps.drop zt)) (h:=q1) (b:=0) (len:=zt+1) (ob:=⟨appd (ints .i64 ps) zt (ints .i64 [(k:Int)]),false⟩) rfl rfl ?_ (by simp -implicitDefEqProofs(disch:=omega)only[Nat.reduceEqDiff,↓reduceIte,vcu,↓vcd,hlk]) Jq rfl ?_ (ints_one _ _) ?_ fun q2 hq2=>?_
  ·have hA:=acells_at (k:=.i64) (o:=0) (xs:=ps.drop zt) (intsAt_own Jr) ⟨_,Jr,by rw[ints_length];omega⟩
   rw[hdl] at hA
   simp -implicitDefEqProofs(disch:=omega)only[Nat.reduceEqDiff,↓reduceIte,vcu,↓vcd,ints_length,hdl,Nat.div_one]
   exact hA
  ·show 0+(zt+1) * 1≤_
   rw[appd_gen,ints_length]
   split
   ·simp;omega
   ·simp;omega
  ·rw[ints_length,hdl]
   show ((zt+1) * 1+(k - zt)) * 8≤_∧(zt+1) * 1+(k - zt)≤_
   omega
  have eb:appd (List.drop 0 (appd (ints .i64 ps) zt (ints .i64 [(k:Int)]))) ((zt+1) * Tryz.t3.size) (ints .i64 (ps.drop zt))=ints .i64 (ps.take zt++[(k:Int)]++ps.drop zt):=by
   rw[List.drop_zero,hsz,Nat.mul_one];exact insert_eq ps zt k om9
  rw[eb]
  have hq2g:q2≠g:=by rintro rfl;rw[JR.at_] at hq2;cases hq2
  have hq2f:=free_sub Js hq2
  have hlen2:zt+1+(ints .i64 (ps.drop zt)).length / Tryz.t3.size=k+1:=by rw[hlen1];omega
  have hlen3:zt+1+(k - zt)=k+1:=by omega
  simp -implicitDefEqProofs(disch:=omega)only[Nat.reduceEqDiff,↓reduceIte,vcu,↓vcd,h0,h1,h6,hsz,ints_length,hdl,Nat.div_one,hlen3]
  exact⟨m - 1,by omega,k+1,q2,_,p'+1,by omega,trivial,trivial,rfl,by simp,by simp;omega,ins_range hrg,ins_nodup hrg hnd,AHeap.upd_same _ _ _,hq2f,hq2g,by omega,by omega,JR.keep (sub_put (sub_put Js Jqf) hq2f) (by rw[AHeap.upd_ne _ _ hq2g.symm,AHeap.upd_ne _ _ hq1g.symm])⟩
 ·simp -implicitDefEqProofs(disch:=omega)only[Nat.reduceEqDiff,↓reduceIte,vcu,↓vcd,h0,h1,h5,h6]
  have e:k=n:=by omega
  subst e
  refine fin_one Tryz.results71 ⟨q,ps,p',?_,hpl,hrg,hnd,hqv,hqf,hqg,hp1,hp2,hr⟩
  simp -implicitDefEqProofs(disch:=omega)only[Nat.reduceEqDiff,↓reduceIte,vcu,↓vcd,h5]
end Go.Proofs.YtofdnmlpfagibaaGreatDoor
namespace Go.Proofs.YtofdnmlpfagibaaGreatDoor
open Go Go.Abs Go.RowKit
variable {P:Program} {b:Base} {n:NR}
theorem seqK_mono {K:AFrame→AHeap→Prop} {K':AFrame→AHeap→Prop} {Q Q':AQ} (hk:∀a σ,K' a σ→K a σ) (hq:∀e a σ,Q' e a σ→Q e a σ):∀e a σ,seqK K' Q' e a σ→seqK K Q e a σ:=by
 intro e a σ h
 cases e<;>first|exact hk _ _ h|exact hq _ _ _ h
theorem blockK_mono {id:Nat} {Q Q':AQ} (hq:∀e a σ,Q' e a σ→Q e a σ):∀e a σ,blockK id Q' e a σ→blockK id Q e a σ:=by
 intro e a σ h
 cases e with
 | exit j =>
  by_cases hj:j=id
  ·rw[blockK_exit,if_pos hj] at h ⊢;exact hq _ _ _ h
  ·rw[blockK_exit,if_neg hj] at h ⊢;exact hq _ _ _ h
 | _=>exact hq _ _ _ h
theorem vcR_monoG {q:Bool} {all:List Oper} {K K':AK} (h:∀a σ,K' a σ→K a σ):∀(os:List Oper) (a:AFrame) (σ:AHeap),vcR P b q all os a σ K'→vcR P b q all os a σ K
 | [],a,σ,hh=>by unfold vcR at hh ⊢;exact h a σ hh
 | o :: os,a,σ,hh=>by
  have ih:=vcR_monoG (q:=q) (all:=all) h os
  unfold vcR at hh ⊢
  cases q with
  | false =>
   cases hg:o.guard with
   | none =>
    rw[hg] at hh
    exact vcOp_mono (fun a σ=>ih a σ) hh
   | some jw =>
    obtain⟨j,want⟩:=jw
    rw[hg] at hh
    exact⟨fun hv=>vcOp_mono (fun a σ=>ih a σ) (hh.1 hv),fun hv=>ih _ _ (hh.2 hv)⟩
  | true =>
   cases hg:o.guard with
   | none =>
    rw[hg] at hh
    obtain⟨v,h1,h2⟩:=hh
    exact⟨v,h1,ih _ _ h2⟩
   | some jw =>
    obtain⟨j,want⟩:=jw
    rw[hg] at hh
    exact⟨fun hv=>let ⟨v,h1,h2⟩:=hh.1 hv;⟨v,h1,ih _ _ h2⟩,fun hv=>ih _ _ (hh.2 hv)⟩
theorem vc_monoG:∀(c:Code) (a:AFrame) (σ:AHeap) (Q Q':AQ),(∀e a σ,Q' e a σ→Q e a σ)→vc P b n c a σ Q'→vc P b n c a σ Q
 | .seq x y,a,σ,Q,Q',hq,h=>by
  unfold vc at h ⊢
  exact vc_monoG x _ _ _ _ (seqK_mono (fun a σ hh=>vc_monoG y _ _ _ _ hq hh) hq) h
 | .cond c x y,a,σ,Q,Q',hq,h=>by
  unfold vc at h ⊢
  obtain⟨v,h0,h1,h2⟩:=h
  exact⟨v,h0,fun hv=>vc_monoG x _ _ _ _ hq (h1 hv),fun hv=>vc_monoG y _ _ _ _ hq (h2 hv)⟩
 | .block id x,a,σ,Q,Q',hq,h=>by
  unfold vc at h ⊢
  exact vc_monoG x _ _ _ _ (blockK_mono hq) h
 | .region id ops d,a,σ,Q,Q',hq,h=>by
  unfold vc at h ⊢
  cases hb:(d && noisy P ops.toList) with
  | true=>rw[hb] at h;exact ACode.mono h hq
  | false=>rw[hb] at h;exact vcR_monoG (fun a σ hh=>hq _ _ _ hh) _ _ _ h
 | .skip,a,σ,Q,Q',hq,h=>hq _ _ _ h
 | .label _,a,σ,Q,Q',hq,h=>hq _ _ _ h
 | .exit _,a,σ,Q,Q',hq,h=>hq _ _ _ h
 | .goto _,a,σ,Q,Q',hq,h=>hq _ _ _ h
 | .ret,a,σ,Q,Q',hq,h=>hq _ _ _ h
 | .loop _,_,_,_,_,hq,h=>ACode.mono h hq
 | .rangeFunc ..,_,_,_,_,hq,h=>ACode.mono h hq
 | .scope ..,_,_,_,_,hq,h=>ACode.mono h hq
 | .refuse ..,_,_,_,_,hq,h=>ACode.mono h hq
theorem cond_join {v:Value} {x y:Code} {a:AFrame} {σ:AHeap} {Q:AQ} (Q':AQ) (h:condR v (vcH P b n x a σ Q') (vcH P b n y a σ Q')) (hq:∀e a σ,Q' e a σ→Q e a σ):condR v (vcH P b n x a σ Q) (vcH P b n y a σ Q):=by
 obtain⟨c,h0,h1,h2⟩:=h
 exact⟨c,h0,fun hc=>vc_monoG x _ _ _ _ hq (h1 hc),fun hc=>vc_monoG y _ _ _ _ hq (h2 hc)⟩
end Go.Proofs.YtofdnmlpfagibaaGreatDoor
set_option maxHeartbeats 6400000
namespace Go.Proofs.YtofdnmlpfagibaaGreatDoor
open Go Go.Abs Go.RowKit Go.Dial Go.Clos
variable {w0:World}
def OYC (σ0:AHeap) (g:Nat) (τ:AHeap) (v:Value) (cs:List Cl):Prop:=(v=.slice none 0 0∧cs=[])∨∃q,v=.slice (some ⟨q,0,none⟩) cs.length 3∧τ q=some ⟨tris cs,false⟩∧σ0 q=none∧q≠g
theorem OYC.tris {σ0 τ:AHeap} {g:Nat} {v:Value} {cs:List Cl} (w:OYC σ0 g τ v cs):Tris τ v cs:=w.imp id fun⟨q,e,h,_⟩=>⟨q,0,e,trisAt_own h⟩
theorem OYC.sub {σ0 τ τ':AHeap} {g:Nat} {v:Value} {cs:List Cl} (w:OYC σ0 g τ v cs) (hs:Sub τ τ'):OYC σ0 g τ' v cs:=w.imp id fun⟨q,e,h,n⟩=>⟨q,e,hs _ _ h,n⟩
theorem OYC.pick {σ0 τ τ':AHeap} {g:Nat} {v:Value} {cs:List Cl} (w:OYC σ0 g τ v cs) (hk:Kept g τ τ'):OYC σ0 g τ' v cs:=w.imp id fun⟨q,e,h,n1,n2⟩=>⟨q,e,hk.at h n2,n1,n2⟩
def OYX (σ0:AHeap) (g:Nat) (τ:AHeap) (v1 v2:Value) (e:Ex):Prop:=OYS σ0 g τ v1 e.ps∧OYC σ0 g τ v2 e.cs
section
variable {β σ0 σ τ τ':AHeap} {g h o c:Nat} {bs:List Int} {p:Int} {v1 v2:Value} {e:Ex}
theorem OYX.ex (w:OYX σ0 g τ v1 v2 e):ExV τ (exV v1 v2 e) e:=⟨v1,v2,rfl,w.1.texts,w.2.tris⟩
theorem OYX.sub (w:OYX σ0 g τ v1 v2 e) (hs:Sub τ τ'):OYX σ0 g τ' v1 v2 e:=⟨w.1.sub hs,w.2.sub hs⟩
theorem OYX.pick (w:OYX σ0 g τ v1 v2 e) (hk:Kept g τ τ'):OYX σ0 g τ' v1 v2 e:=⟨w.1.pick hk,w.2.pick hk⟩
theorem OYX.kept {ob:AObj} (w:OYX σ0 g τ v1 v2 e) (hk:Kept c τ τ') (hc:σ0 c=some ob):OYX σ0 g τ' v1 v2 e :=
 ⟨w.1.imp id fun⟨q,a,b,n1,n2⟩=>⟨q,a,hk.at b (ne_of n1 hc),n1,n2⟩,w.2.imp id fun⟨q,a,b,n1,n2⟩=>⟨q,a,hk.at b (ne_of n1 hc),n1,n2⟩⟩
theorem OYX.less (w:OYX σ0 g τ v1 v2 e):Texts (τ.upd g none) v1 e.ps:=by
 exact w.1.imp id fun⟨q,a,b,n1,n2⟩=>⟨q,0,a,textsAt_own (by rw[AHeap.upd_ne _ _ n2];exact b)⟩
theorem OYX.of {u1 u2:Value} (w:OwnX σ τ (exV u1 u2 e) e) (hf:∀q,σ q=none→σ0 q=none∧q≠g):OYX σ0 g τ u1 u2 e:=by
 obtain⟨w1,w2,h1,h2,h3⟩:=w
 unfold exV at h1
 cases h1
 exact⟨h2.imp id fun⟨q,a,b,n⟩=>⟨q,a,b,hf q n⟩,h3.imp id fun⟨q,a,b,n⟩=>⟨q,a,b,hf q n⟩⟩
theorem OYX.free (w:OYX σ0 g τ v1 v2 e) (hf:∀q,σ0 q=none→σ q=none):OYX σ g τ v1 v2 e :=
 ⟨w.1.imp id fun⟨q,a,b,n1,n2⟩=>⟨q,a,b,hf q n1,n2⟩,w.2.imp id fun⟨q,a,b,n1,n2⟩=>⟨q,a,b,hf q n1,n2⟩⟩
theorem OYX.aside (w:OYX σ0 g τ v1 v2 e) (hn:τ c=none):OYX (σ0.upd c (some ⟨[],false⟩)) g τ v1 v2 e :=
 ⟨w.1.imp id fun⟨q,a,b,n1,n2⟩=>⟨q,a,b,by rw[AHeap.upd_ne _ _ (by rintro rfl;rw[hn] at b;cases b)];exact n1,n2⟩,w.2.imp id fun⟨q,a,b,n1,n2⟩=>⟨q,a,b,by rw[AHeap.upd_ne _ _ (by rintro rfl;rw[hn] at b;cases b)];exact n1,n2⟩⟩
theorem free_upd {ob:AObj}:∀q,(σ0.upd c (some ob)) q=none→σ0 q=none:=fun q hq=>by
 by_cases hc:q=c
 ·subst hc;rw[AHeap.upd_same] at hq;cases hq
 ·rwa [AHeap.upd_ne _ _ hc] at hq
theorem OYX.one (w:OYX σ0 g τ v1 v2 e):(exC v1 v2 e).all Value.oneCell'=true:=by
 have a:=(texts_cellV w.1.texts).2
 have b:=(tris_cellV w.2.tris).2
 unfold exC
 simp only[List.all_cons,List.all_nil,a,b]
 rfl
end
theorem Rd.less {β σ:AHeap} {g h o:Nat} {bs:List Int} {p:Int} (hr:Rd β σ g h o bs p):Rd (σ.upd g none) σ g h o bs p :=
 ⟨hr.at_,less_keptY (Kept.refl _ _),AHeap.upd_same _ _ _,hr.ints.sub fun k ob e=>by rw[AHeap.upd_ne _ _ (by rintro rfl;rw[hr.free] at e;cases e)];exact hr.sub k ob e,hr.len,hr.byte⟩
theorem Rd.back {β σ τ:AHeap} {g h o:Nat} {bs:List Int} {p p':Int} (hr:Rd β σ g h o bs p) (h2:Rd (σ.upd g none) τ g h o bs p'):Kept g σ τ∧Rd β τ g h o bs p':=by
 have hK:Kept g σ τ:=fun k ob hk e=>h2.sub k ob (by rw[AHeap.upd_ne _ _ hk];exact e)
 exact⟨hK,h2.at_,fun k ob e=>hK k ob (by rintro rfl;rw[hr.free] at e;cases e) (hr.sub k ob e),hr.free,hr.ints,hr.len,hr.byte⟩
theorem exDo_ok {e:Ex} (h:ExOk e) (d:Dd):ExOk (exDo e d).1:=by
 unfold exDo
 rw[if_pos h]
 split
 ·rename_i x hx;exact (doO_did h hx).ok
 ·exact h
theorem sep_rows {τ:AHeap} {q1 q2:Nat} {ps:List (List UInt8)} {cs:List Cl} (h1:τ q1=some ⟨texts ps,false⟩) (h2:τ q2=some ⟨tris cs,false⟩) (hne:ps≠[]):q2≠q1:=by
 rintro rfl
 rw[h1] at h2
 have h3:texts ps=tris cs:=by injection h2 with h2;injection h2
 cases ps with
 | nil=>exact hne rfl
 | cons p ps =>
  cases cs with
  | nil=>cases h3
  | cons c cs=>cases h3
theorem mixed_ok {ps:List (List UInt8)} {os:List Int} (h:PlanOk ps) (hl:os.length=ps.length) (hr:∀x∈os,0≤x∧x < (ps.length:Int)) (hn:os.Nodup):PlanOk (os.map fun i=>ps.getD i.toNat []):=by
 have key:∀k,k < ps.length→∃i:Nat,i < ps.length∧os.getD k 0=i∧(os.map fun i=>ps.getD i.toNat []).getD k []=ps.getD i []:=fun k hk=>by
  have hk':k < os.length:=by omega
  have:=hr (os.getD k 0) (by simp [List.getD,hk'])
  refine⟨(os.getD k 0).toNat,by omega,by omega,?_⟩
  simp [List.getD,hk']
 refine⟨fun k hk=>?_,by rw[List.length_map,hl];exact h.2⟩
 rw[List.length_map,hl] at hk
 obtain⟨i,hi,e1,e2⟩:=key k hk
 have hP:=h.1 i hi
 unfold PRow
 rw[e2]
 refine⟨hP.1,hP.2.1,fun j hj hjk=>?_⟩
 rw[List.length_map,hl] at hj
 obtain⟨i',hi',e1',e2'⟩:=key j hj
 rw[e2']
 refine hP.2.2 i' hi' fun e=>hjk ?_
 subst e
 have hj':j < os.length:=by omega
 have hk':k < os.length:=by omega
 have e3:os[j]=os[k]:=by
  have a:os.getD j 0=os[j]:=by simp [List.getD,hj']
  have b:os.getD k 0=os[k]:=by simp [List.getD,hk']
  rw[←a,←b,e1,e1']
 have hp:=List.pairwise_iff_getElem.1 hn
 rcases Nat.lt_trichotomy j k with hh|hh|hh
 ·exact absurd e3 (hp j k hj' hk' hh)
 ·exact hh
 ·exact absurd e3.symm (hp k j hk' hj' hh)
theorem two_share : ∀ {xs : List Int}, (∀ x ∈ xs, 2 ≤ x ∧ x ≤ 3) → ∀ k, k ≤ xs.length → shS xs k ≤ 4 * k
  | xs, h, 0, _ => by simp [shS]
  | xs, h, k + 1, hk => by
    have h1 := two_share h k om9
    have h2 := h (xs.getD k 0) (by have : k < xs.length := by omega
                                   simp [List.getD, this])
    have h3 : pw (3 - xs.getD k 0).toNat ≤ 4 := by
      have : xs.getD k 0 = 2 ∨ xs.getD k 0 = 3 := by omega
      rcases this with e | e <;> rw [e] <;> decide
    rw [shS]; omega
theorem two_ok {xs:List Int} (h:∀x∈xs,2≤x∧x≤3) (hl:xs.length≤10):pfOk xs:=by
 have hL:LnOk xs:=⟨fun k hk=>by have:=h (xs.getD k 0) (by simp [List.getD,hk]);omega,hl⟩
 refine⟨hL,?_⟩
 rw[shareV,if_pos hL]
 have:=two_share h xs.length (Nat.le_refl _)
 omega
theorem take_map {os:List Int} {ps:List (List UInt8)} {k:Nat} (h:k < os.length):(os.take (k+1)).map (fun i=>ps.getD i.toNat [])=(os.take k).map (fun i=>ps.getD i.toNat [])++[ps.getD (os.getD k 0).toNat []]:=by
 rw[List.take_succ_eq_append_getElem h,List.map_append]
 simp [List.getD,h]
def XS (e:Ex):Prop:=e.ps.length≤11∧(∀t∈e.ps,t.length≤3)∧e.cs.length≤13
theorem XS.b {e:Ex} (h:XS e):ExB e:=⟨by have:=h.1;omega,fun t ht=>by have:=h.2.1 t ht;omega,by have:=h.2.2;omega⟩
def XT (e:Ex):Prop:=e.ps.length≤10∧(∀t∈e.ps,t.length≤3)∧e.cs.length≤12
theorem XT.s {e:Ex} (h:XT e):XS e:=⟨by have:=h.1;omega,h.2.1,by have:=h.2.2;omega⟩
theorem XT.of {e:Ex} (h:ExOk e):XT e:=by
 obtain⟨h1,h2,h3,h4,h5⟩:=h
 refine⟨h2.2,fun x hx=>?_,h4.len⟩
 obtain⟨k,hk,rfl⟩:=List.mem_iff_getElem.1 hx
 have:=(h2.1 k hk).2.1.2
 simpa only[List.getD,List.getElem?_eq_getElem hk,Option.getD_some] using this
theorem XT.ex0:XT ex0:=⟨Nat.zero_le _,fun x hx=>absurd hx (by show x ∉ ([]:List (List UInt8));simp),Nat.zero_le _⟩
theorem oe10 {O E:Int} (O1:1≤O) (O2:O≤4) (E1:1≤E) (E2:E≤3) (h:¬(O=4∧E=3)):1≤O * E∧O * E≤10:=by
 have a:O=1∨O=2∨O=3∨O=4:=by omega
 have b:E=1∨E=2∨E=3:=by omega
 rcases a with rfl|rfl|rfl|rfl<;>rcases b with rfl|rfl|rfl<;>first|omega | (exact absurd ⟨rfl,rfl⟩ h)
theorem oe12 {O E:Int} (O1:1≤O) (O2:O≤4) (E1:1≤E) (E2:E≤3):1≤O * E∧O * E≤12:=by
 have a:O=1∨O=2∨O=3∨O=4:=by omega
 have b:E=1∨E=2∨E=3:=by omega
 rcases a with rfl|rfl|rfl|rfl<;>rcases b with rfl|rfl|rfl<;>omega
set_option maxRecDepth 16000 in
theorem exch_draw (β σ:AHeap) (g h o:Nat) (bs:List Int) (p n:Int) (hr:Rd β σ g h o bs p) (hp:0≤p∧p≤1000) (hn:n=0∨1≤n∧n≤1000) :
  ACall Tryz.prog w0 34 [.pointer (some ⟨g,0,none⟩),.int .i64 n] σ fun r σ'=>∃(e:Ex) (v1 v2:Value) (p':Int),r=exV v1 v2 e∧OYX σ g σ' v1 v2 e∧XS e∧p≤p'∧p'≤p+400∧DS β σ σ' g h o bs p':=by
 refine acall_goc mixed Tryz.func34 rfl goodc34 fun pr=>?_
 simp -implicitDefEqProofs(disch:=omega)only[Nat.reduceEqDiff,↓reduceIte,vcu,↓vcd]
 refine r_new ze33 fun c4 τ1 n4 s1 e4=>?_
 replace e4:τ1 c4=some ⟨[.int .i64 0,.int .i64 0,.int .i64 0,.slice none 0 0,.slice none 0 0],false⟩:=e4
 have d1:=(DS.start hr).new s1
 have g4:=(DS.start hr).fresh n4
 simp -implicitDefEqProofs(disch:=omega)only[Nat.reduceEqDiff,↓reduceIte,vcu,↓vcd]
 refine (pick_at β τ1 g h o bs p 4 d1.rd om9 om9).mono ?_
 rintro _ τ2 ⟨z1,rfl,z10,z11,hR,hK⟩
 have d2:=d1.step hR hK
 replace e4:=hK.at e4 g4.2
 clear hR hK d1
 simp -implicitDefEqProofs(disch:=omega)only[Nat.reduceEqDiff,↓reduceIte,vcu,↓vcd,opK_some]
 refine (pick_at β τ2 g h o bs (p+1) 3 d2.rd om9 om9).mono ?_
 rintro _ τ3 ⟨z2,rfl,z20,z21,hR,hK⟩
 have d3:=d2.step hR hK
 replace e4:=hK.at e4 g4.2
 clear hR hK d2
 obtain⟨O,hO,O1,O2⟩:∃O:Int,1+z1=O∧1≤O∧O≤4:=⟨_,rfl,by omega,by omega⟩
 obtain⟨E,hE,E1,E2⟩:∃E:Int,1+z2=E∧1≤E∧E≤3:=⟨_,rfl,by omega,by omega⟩
 simp -implicitDefEqProofs(disch:=omega)only[Nat.reduceEqDiff,↓reduceIte,vcu,↓vcd,opK_some,hO,hE]
 rw[r_build]
 refine⟨(_,#[.int .i64 O,.int .i64 E,.int .i64 0]),⟨ze29,by first|kernel_rfl | (simp -implicitDefEqProofs(disch:=omega)only[Nat.reduceEqDiff,↓reduceIte,vcu,↓vcd];kernel_rfl)⟩,?_⟩
 simp -implicitDefEqProofs(disch:=omega)only[Nat.reduceEqDiff,↓reduceIte,vcu,↓vcd]
 refine r_local (cs:=#[.int .i64 O,.int .i64 E,.int .i64 0]) ze29 (by decide) z9q (by rw[co29];rfl) rfl rfl (Nat.zero_lt_succ _) fun c5 τ4 n5 s4 e5=>?_
 replace e5:τ4 c5=some ⟨[.int .i64 O,.int .i64 E,.int .i64 0],false⟩:=e5
 have g5:=d3.fresh n5
 have d4:=d3.new s4
 have d45:c4≠c5:=ne_of' n5 e4
 replace e4:=s4 _ _ e4
 clear n5 s4 s1 n4 d3 hO hE z10 z11 z20 z21
 have y0:ld τ4 c5 (0+0)=some (.int .i64 O):=ld_of e5 rfl
 have y1:ld τ4 c5 (0+1)=some (.int .i64 E):=ld_of e5 rfl
 have hq:O * E=if O=4∧E=3 then 12 else O * E:=by split<;>rename_i h<;>first | (rw[h.1,h.2];rfl)|rfl
 have hm:¬(O=4∧E=3)→1≤O * E∧O * E≤10:=oe10 O1 O2 E1 E2
 have d5:=d4
 have F0:τ4 c5=some ⟨[.int .i64 O,.int .i64 E,.int .i64 0],false⟩:=e5
 clear hq
 obtain⟨X,hX,X1,X2,hX3⟩:∃X:Int,O * E=X∧1≤X∧X≤12∧(¬(O=4∧E=3)→X≤10):=⟨_,rfl,(oe12 O1 O2 E1 E2).1,(oe12 O1 O2 E1 E2).2,fun h=>(hm h).2⟩
 simp -implicitDefEqProofs(disch:=omega)only[Nat.reduceEqDiff,↓reduceIte,vcu,↓vcd,y0,y1,hX]
 refine cond_join (fun en a' T=>en=.normal∧(a' 0=.pointer (some ⟨g,0,none⟩)∧a' 1=.int .i64 n∧a' 4=.pointer (some ⟨c4,0,none⟩)∧a' 5=.pointer (some ⟨c5,0,none⟩))∧∃(O':Int) (W:Nat),O' * E=(W:Int)∧(1≤W∧W≤10)∧(1≤O'∧O'≤4)∧T c5=some ⟨[.int .i64 O',.int .i64 E,.int .i64 0],false⟩∧T c4=some ⟨[.int .i64 0,.int .i64 0,.int .i64 0,.slice none 0 0,.slice none 0 0],false⟩∧DS β σ T g h o bs (p+1+1)) ?_ ?_
 ·by_cases hbig:O=4∧E=3
  ·obtain⟨rfl,rfl⟩:=hbig
   have q12:(4:Int) * 3=12:=by decide
   have hX12:X=12:=by omega
   subst hX12
   simp -implicitDefEqProofs(disch:=omega)only[Nat.reduceEqDiff,↓reduceIte,vcu,↓vcd]
   refine r_set (g:=c5) (i:=0+0) (C:=[.int .i64 4,.int .i64 3,.int .i64 0]) z9q z9r co3 z9r e5 (by simp) fun τ5 k5 f5=>?_
   replace f5:τ5 c5=some ⟨[.int .i64 3,.int .i64 3,.int .i64 0],false⟩:=by rw[f5];simp -implicitDefEqProofs(disch:=omega)only[Nat.reduceEqDiff,↓reduceIte,vcu,↓vcd];rfl
   try simp -implicitDefEqProofs(disch:=omega)only[Nat.reduceEqDiff,↓reduceIte,vcu,↓vcd]
   exact⟨by first|trivial|rfl,⟨by first|trivial|rfl,by first|trivial|rfl,by first|trivial|rfl,by first|trivial|rfl⟩,3,9,by decide,by decide,by decide,f5,k5.at e4 d45,d4.put k5 g5.2 g5.1⟩
  ·have hmm:=hm hbig
   have hle:=hX3 hbig
   simp -implicitDefEqProofs(disch:=omega)only[Nat.reduceEqDiff,↓reduceIte,vcu,↓vcd]
   exact⟨by first|trivial|rfl,⟨by first|trivial|rfl,by first|trivial|rfl,by first|trivial|rfl,by first|trivial|rfl⟩,O,(O * E).toNat,by omega,by omega,by omega,e5,e4,d4⟩
 clear e5 y0 y1 d4 hm O1 O2 d5 F0 e4 hX X1 X2 hX3
 rintro _ a0 τ5 ⟨rfl,⟨j0,j1,j4,j5⟩,O,W,hW,hW1,⟨O1,O2⟩,f5,e4,d5⟩
 simp -implicitDefEqProofs(disch:=omega)only[Nat.reduceEqDiff,↓reduceIte,vcu,↓vcd,j0,j1,j4,j5]
 have y1:ld (τ5.upd g none) c5 (0+1)=some (.int .i64 E):=ld_of (by rw[AHeap.upd_ne _ _ g5.2];exact f5) rfl
 have KK:∀τ,Kept g τ5 τ→∀p∈[(([0,1,2,4,5]:List Nat),Sub (τ5.upd g none))],p.2 τ:=fun τ hK p hp=>by simp only[List.mem_singleton] at hp;subst hp;exact less_keptY hK
 try simp -implicitDefEqProofs(disch:=omega)only[Nat.reduceEqDiff,↓reduceIte,vcu,↓vcd]
 refine acodeB_monoY (Q':=fun en a' T=>en=.normal∧(a' 0=.pointer (some ⟨g,0,none⟩)∧a' 1=.int .i64 n∧a' 4=.pointer (some ⟨c4,0,none⟩)∧a' 5=.pointer (some ⟨c5,0,none⟩))∧∃M:Int,(E≤M∧M≤E+1)∧T c5=some ⟨[.int .i64 O,.int .i64 E,.int .i64 M],false⟩∧T c4=some ⟨[.int .i64 0,.int .i64 0,.int .i64 0,.slice none 0 0,.slice none 0 0],false⟩∧DS β σ T g h o bs (p+1+1+1))
  (region_tree mixed (quiets [0,1,2] (.one 3 (quiets [4,5] (.one 6 .stop)))) [([0,1,2,4,5],Sub (τ5.upd g none))] kr9 kr9 (KK _ (Kept.refl _ _)) ?_) ?_
 ·refine tree_quiets (τ5.upd g none) _ _ _ (sfIn kr9) kr9 kr9 ?_
  simp -implicitDefEqProofs(disch:=omega)only[Nat.reduceEqDiff,↓reduceIte,vcu,↓vcd,vcp,j0,j1,j4,j5,y1]
  refine tree_one rfl ?_
  try simp -implicitDefEqProofs(disch:=omega)only[Nat.reduceEqDiff,↓reduceIte,vcu,↓vcd]
  refine (pick_at β τ5 g h o bs (p+1+1) 2 d5.rd om9 om9).mono ?_
  rintro _ T5 ⟨z3,rfl,z30,z31,hR,hK⟩
  have d6:=d5.step hR hK
  have f6:=hK.at f5 g5.2
  have e46:=hK.at e4 g4.2
  simp -implicitDefEqProofs(disch:=omega)only[Nat.reduceEqDiff,↓reduceIte,vcu,↓vcd,opK_some]
  refine⟨keep_of rfl fun p hp=>.inr (KK _ hK p hp),?_⟩
  refine tree_quiets (τ5.upd g none) _ _ _ (sfIn kr9) kr9 kr9 ?_
  simp -implicitDefEqProofs(disch:=omega)only[Nat.reduceEqDiff,↓reduceIte,vcu,↓vcd,vcp,j0,j1,j4,j5]
  refine tree_one rfl ?_
  refine r_set (g:=c5) (i:=0+2) (C:=[.int .i64 O,.int .i64 E,.int .i64 0]) z9q z9r co3 z9r f6 (by simp) fun T6 k6 e6=>?_
  replace e6:T6 c5=some ⟨[.int .i64 O,.int .i64 E,.int .i64 (E+z3)],false⟩:=by rw[e6];simp -implicitDefEqProofs(disch:=omega)only[Nat.reduceEqDiff,↓reduceIte,vcu,↓vcd];rfl
  have d7:=d6.put k6 g5.2 g5.1
  have e47:=k6.at e46 d45
  try simp -implicitDefEqProofs(disch:=omega)only[Nat.reduceEqDiff,↓reduceIte,vcu,↓vcd]
  refine⟨keep_of rfl (fun p hp=>by simp only[List.mem_singleton] at hp;subst hp;exact .inl kr9),tree_stop ?_⟩
  exact⟨by first|trivial|rfl,⟨by simp -implicitDefEqProofs(disch:=omega)only[Nat.reduceEqDiff,↓reduceIte,vcu,↓vcd,j0],by simp -implicitDefEqProofs(disch:=omega)only[Nat.reduceEqDiff,↓reduceIte,vcu,↓vcd,j1],by simp -implicitDefEqProofs(disch:=omega)only[Nat.reduceEqDiff,↓reduceIte,vcu,↓vcd,j4],by simp -implicitDefEqProofs(disch:=omega)only[Nat.reduceEqDiff,↓reduceIte,vcu,↓vcd,j5]⟩,_,⟨by omega,by omega⟩,e6,e47,d7⟩
 clear y1 KK f5 e4 d5
 rintro _ a1 τ6 ⟨rfl,⟨h0,h1,h4,h5⟩,M,hM,f5,e4,d6⟩
 have D6:=DS.start d6.rd
 have k46:=d45
 simp -implicitDefEqProofs(disch:=omega)only[Nat.reduceEqDiff,↓reduceIte,vcu,↓vcd,h0,h1,h4,h5]
 refine r_lit el88 (out:=#[]) (by first|kernel_rfl | (simp -implicitDefEqProofs(disch:=omega)only[Nat.reduceEqDiff,↓reduceIte,vcu,↓vcd];kernel_rfl)) kr9 fun q0 τ7 n0 s0 v0=>?_
 have D7:=D6.new s0
 have w7:OYI τ6 g τ7 (.slice (some ⟨q0,0,none⟩) 0 1) []:=⟨q0,rfl,v0,D6.fresh n0⟩
 clear s0 v0 n0 D6
 simp -implicitDefEqProofs(disch:=omega)only[Nat.reduceEqDiff,↓reduceIte,vcu,↓vcd]
 refine vc_loop_c mixed kr9 [0,1,4,5] (fun m a τ=>∃xs:List Int,m+xs.length=W∧a 7=.int .i64 (xs.length:Int)∧OYI τ6 g τ (a 6) xs∧(∀x∈xs,2≤x∧x≤3)∧DS β τ6 τ g h o bs (p+3+xs.length)) W ⟨[],by simp,rfl,w7,by simp,by simpa [Int.add_assoc] using D7⟩ ?_
 clear w7 D7 τ7
 rintro m a τ7 hc ⟨xs,hm,h7,w7,hxs,D7⟩
 simp -implicitDefEqProofs(disch:=omega)only[Nat.reduceEqDiff,↓reduceIte,vcu,↓vcd,h0,h1,h4,h5] at hc
 obtain⟨h0',h1',h4',h5',-⟩:=hc
 have f7:=D7.kp _ _ g5.2 f5
 have y0:ld τ7 c5 (0+0)=some (.int .i64 O):=ld_of f7 rfl
 have y1:ld τ7 c5 (0+1)=some (.int .i64 E):=ld_of f7 rfl
 by_cases hlt:xs.length < W
 ·obtain⟨q,h6,vq,nq,gq⟩:=w7
  simp -implicitDefEqProofs(disch:=omega)only[Nat.reduceEqDiff,↓reduceIte,vcu,↓vcd,h0',h1',h4',h5',h6,h7,y0,y1,hW]
  refine (pick_at β τ7 g h o bs (p+3+xs.length) 3 D7.rd om9 om9).mono ?_
  rintro _ τ8 ⟨z,rfl,z0,z1',hR,hK⟩
  have D8:=D7.step hR hK
  replace vq:=hK.at vq gq
  clear hR hK D7 y0 y1 f7
  simp -implicitDefEqProofs(disch:=omega)only[Nat.reduceEqDiff,↓reduceIte,vcu,↓vcd,opK_some,h0',h1',h4',h5',h6,h7]
  obtain⟨cc,hcc,cc1⟩:∃cc:Int,2+z / 2=cc∧2≤cc∧cc≤3:=⟨_,rfl,by omega,by omega⟩
  rw[hcc]
  refine r_lit el88 (out:=#[.int .i64 cc]) (by simp -implicitDefEqProofs(disch:=omega)only[Nat.reduceEqDiff,↓reduceIte,vcu,↓vcd];kernel_rfl) kr9 fun e9 τ9 n9 s9 v9=>?_
  replace v9:τ9 e9=some ⟨ints .i64 [cc],false⟩:=v9
  have D9:=D8.new s9
  refine r_pushI (g:=q) (e:=e9) (o:=0) (k:=.i64) (xs:=xs) (ys:=[cc]) (m:=1) (len:=xs.length) el88 om9 sl88 (by simp -implicitDefEqProofs(disch:=omega)only[Nat.reduceEqDiff,↓reduceIte,vcu,↓vcd,h6]) (s9 _ _ vq) rfl z9q (intsAt_own v9) rfl om9 fun qA τA nA kA vA=>?_
  have DA:=D9.put kA gq nq
  simp -implicitDefEqProofs(disch:=omega)only[Nat.reduceEqDiff,↓reduceIte,vcu,↓vcd,h0',h1',h4',h5',h7]
  refine⟨by simp [h0',h1',h4',h5',h0,h1,h4,h5],m - 1,by omega,xs++[cc],by simp;omega,by simp,⟨qA,by simp,vA,D9.fresh nA⟩,fun x hx=>?_,?_⟩
  ·rcases List.mem_append.1 hx with hh|hh
   ·exact hxs x hh
   ·rw[List.mem_singleton.1 hh];exact cc1
  have:p+3+((xs++[cc]).length:Int)=p+3+(xs.length:Int)+1:=by simp;omega
  rw[this];exact DA
 have hxl:xs.length=W:=by omega
 have wi:=w7.ints
 simp -implicitDefEqProofs(disch:=omega)only[Nat.reduceEqDiff,↓reduceIte,vcu,↓vcd,h0',h1',h4',h5',h7,y0,y1,hW]
 refine (planFor_calls τ7 (a 6) xs wi om9).mono ?_
 rintro _ τ8 ⟨v8,rfl,s8,wS⟩
 have D8:=D7.new s8
 have hsm:=planV_small xs
 have hpo:=planV_ok (two_ok hxs om9)
 rw[hxl] at hpo
 have w8:OYS τ6 g τ8 v8 (planV xs):=wS.imp id fun⟨q,e,h,n⟩=>⟨q,e,h,D7.fresh n⟩
 clear wS s8 D7 wi w7 y0 y1 f7
 generalize planV xs=ps at hsm w8 hpo
 obtain⟨hpo,hpl,-⟩:=hpo
 have lp:=lenT w8.texts
 simp -implicitDefEqProofs(disch:=omega)only[Nat.reduceEqDiff,↓reduceIte,vcu,↓vcd,opK_some,List.getElem?_toArray,List.getElem?_cons_zero,List.getElem?_cons_succ,lp,h0',h1',h4',h5']
 refine (permR_draw (τ8.upd g none) τ8 g h o bs _ ps.length D8.rd.less om9 om9).mono ?_
 rintro _ τ9 ⟨q,os,p9,rfl,hol,hor,hon,vq,fq,gq,hp9,hp9',hR'⟩
 obtain⟨hK,hR⟩:=D8.rd.back hR'
 have D9:=D8.step hR hK
 have w9:=w8.pick hK
 clear hR hK hR' D8 w8 fq
 have D:=DS.start D9.rd
 simp -implicitDefEqProofs(disch:=omega)only[Nat.reduceEqDiff,↓reduceIte,vcu,↓vcd,opK_some,h0',h1',h4',h5']
 refine r_lit el30 (out:=#[]) (by first|kernel_rfl | (simp -implicitDefEqProofs(disch:=omega)only[Nat.reduceEqDiff,↓reduceIte,vcu,↓vcd];kernel_rfl)) kr9 fun qm τA nm sm vm=>?_
 replace vm:τA qm=some ⟨texts [],false⟩:=vm
 have DA:=D.new sm
 have fm:=D.fresh nm
 clear sm nm D
 simp -implicitDefEqProofs(disch:=omega)only[Nat.reduceEqDiff,↓reduceIte,vcu,↓vcd,h0',h1',h4',h5']
 refine vc_loop_c mixed kr9 [0,1,4,5,8,10] (fun m a τ=>∃(ys:List (List UInt8)) (qm:Nat),m+ys.length=ps.length∧a 12=.int .i64 (ys.length:Int)∧a 11=.slice (some ⟨qm,0,none⟩) ys.length 1∧τ qm=some ⟨texts ys,false⟩∧τ9 qm=none∧qm≠g∧ys=(os.take ys.length).map (fun i=>ps.getD i.toNat [])∧DS β τ9 τ g h o bs p9) ps.length ⟨[],qm,by simp,rfl,rfl,vm,fm.1,fm.2,rfl,DA⟩ ?_
 clear DA vm fm
 rintro m2 a2 τA hc2 ⟨ys,qm,hm2,h12,h11,vm,fm,gm,hys,DA⟩
 simp -implicitDefEqProofs(disch:=omega)only[Nat.reduceEqDiff,↓reduceIte,vcu,↓vcd,h0',h1',h4',h5'] at hc2
 obtain⟨c0,c1,c4',c5',c8,c10,-⟩:=hc2
 by_cases hlt2:ys.length < ps.length
 ·obtain⟨gp,op,rfl,tp⟩:=rowT (w9.pick DA.kp).texts om9
  have vqA:=DA.kp.at vq gq
  have xo:=own_at vqA (i:=ys.length) om9
  have hr1:=hor (os.getD ys.length 0) (by simp [List.getD,hol,hlt2])
  have hst:=take_map (ps:=ps) (show ys.length < os.length by omega)
  generalize os.getD ys.length 0=k at xo hr1 hst
  have xt:=tp k.toNat om9
  have hw:=getD_len hsm.2 k.toNat
  generalize ps.getD k.toNat []=tt at xt hw hst
  simp -implicitDefEqProofs(disch:=omega)only[Nat.reduceEqDiff,↓reduceIte,vcu,↓vcd,c0,c1,c4',c5',c8,c10,h11,h12,xo,xt,hol]
  refine r_lit el30 (out:=#[.string (tx tt)]) (by simp -implicitDefEqProofs(disch:=omega)only[Nat.reduceEqDiff,↓reduceIte,vcu,↓vcd];kernel_rfl) kr9 fun eB τB nB sB vB=>?_
  replace vB:τB eB=some ⟨texts [tt],false⟩:=vB
  have DB:=DA.new sB
  refine r_pushX (g:=qm) (e:=eB) (o:=0) (xs:=ys) (ys:=[tt]) (m:=1) (len:=ys.length) el30 om9 sl30 (by simp -implicitDefEqProofs(disch:=omega)only[Nat.reduceEqDiff,↓reduceIte,vcu,↓vcd,h11]) (sB _ _ vm) rfl z9q (textsAt_own vB) rfl om9 fun qC τC nC kC vC=>?_
  have DC:=DB.put kC gm fm
  have fC:=DB.fresh nC
  simp -implicitDefEqProofs(disch:=omega)only[Nat.reduceEqDiff,↓reduceIte,vcu,↓vcd,c0,c1,c4',c5',c8,c10,h12]
  refine⟨by simp [c0,c1,c4',c5',c8,c10,h0',h1',h4',h5'],m2 - 1,by omega,ys++[tt],qC,by simp;omega,by simp,by simp,vC,fC.1,fC.2,?_,DC⟩
  rw[List.length_append,List.length_singleton,hst,←hys]
 have hyl:ys.length=ps.length:=by omega
 have hyo:PlanOk ys:=by rw[hys,hyl,List.take_of_length_le om9];exact mixed_ok hpo hol hor hon
 have hXO:ExOk ⟨⟨O,E,M⟩,ys,[]⟩:=⟨⟨⟨⟨O1,O2⟩,⟨E1,E2⟩,⟨by show 1≤M;omega,by show M≤5;omega⟩⟩,hM.1⟩,hyo,by show (ys.length:Int)=O * E;rw[hyl,hpl,hW],CV_nil.2 ⟨⟨O1,O2⟩,⟨E1,E2⟩,⟨by show 1≤M;omega,by show M≤5;omega⟩⟩,fun c hc=>by cases hc⟩
 have hys3:∀t∈ys,t.length≤3:=(XT.of hXO).2.1
 have hnew:newX ⟨O,E,M⟩ ys=⟨⟨O,E,M⟩,ys,[]⟩:=if_pos hXO
 have DD:=D9.on DA
 have fA:=DD.kp _ _ g5.2 f5
 have ll:lds τA c5 0 3=some [.int .i64 O,.int .i64 E,.int .i64 M]:=lds_three (ld_of fA rfl) (ld_of fA rfl) (ld_of fA rfl)
 simp -implicitDefEqProofs(disch:=omega)only[Nat.reduceEqDiff,↓reduceIte,vcu,↓vcd,c0,c1,c4',c5',c8,c10,h11,h12,lp,ll,co29]
 refine (newX_calls τA ⟨O,E,M⟩ _ ys (.inr ⟨qm,0,rfl,textsAt_own vm⟩) om9 (fun x hx=>by have:=hys3 x hx;omega)).mono ?_
 rintro _ τB ⟨sB,u1,u2,rfl,oX⟩
 rw[hnew] at oX ⊢
 have DB:=DD.new sB
 have wB:OYX τ6 g τB u1 u2 ⟨⟨O,E,M⟩,ys,[]⟩:=OYX.of ⟨u1,u2,rfl,oX⟩ fun q hq=>DD.fresh hq
 clear hnew oX sB ll fA DD DA vm hys hyo hys3 w9 vq lp D9 hpo hsm hor hon
 generalize (⟨⟨O,E,M⟩,ys,[]⟩:Ex)=e at hXO wB
 unfold exV
 simp -implicitDefEqProofs(disch:=omega)only[Nat.reduceEqDiff,↓reduceIte,vcu,↓vcd,opK_some,c0,c1,c4',c5']
 have hone:=wB.one
 unfold exC at hone
 refine r_local (cs:=#[.int .i64 e.s.O,.int .i64 e.s.E,.int .i64 e.s.M,u1,u2]) ze33 (by decide) z9q (by rw[co33];rfl) rfl hone (Nat.zero_lt_succ _) fun c13 τC nC sC eC=>?_
 replace eC:τC c13=some ⟨exC u1 u2 e,false⟩:=eC
 have gC:=DB.fresh nC
 have DC:=DB.new sC
 have wC:OYX (τ6.upd c13 (some ⟨[],false⟩)) g τC u1 u2 e:=(wB.aside nC).sub sC
 have hcB:(τ6.upd c13 (some ⟨[],false⟩)) c13=some ⟨[],false⟩:=AHeap.upd_same _ _ _
 have hfB:∀q,(τ6.upd c13 (some ⟨[],false⟩)) q=none→τ6 q=none:=fun q hq=>by
  by_cases hc:q=c13
  ·subst hc;rw[AHeap.upd_same] at hq;cases hq
  ·rwa [AHeap.upd_ne _ _ hc] at hq
 have h4B:(τ6.upd c13 (some ⟨[],false⟩)) c4=some ⟨[.int .i64 0,.int .i64 0,.int .i64 0,.slice none 0 0,.slice none 0 0],false⟩:=by rw[AHeap.upd_ne _ _ (by rintro rfl;rw[gC.1] at e4;cases e4)];exact e4
 generalize hB:τ6.upd c13 (some ⟨[],false⟩)=B at wC hcB hfB h4B
 have hBn:∀q,τ6 q=none→q≠c13→B q=none:=fun q h1 h2=>by rw[←hB,AHeap.upd_ne _ _ h2];exact h1
 clear hB wB nC sC DB hone
 try simp -implicitDefEqProofs(disch:=omega)only[Nat.reduceEqDiff,↓reduceIte,vcu,↓vcd,c0,c1,c4',c5']
 refine (pick_at β τC g h o bs p9 24 DC.rd om9 om9).mono ?_
 rintro _ τD ⟨z,rfl,za,zb,hR,hK⟩
 have DD:=DC.step hR hK
 have wD:=wC.pick hK
 have eD:=hK.at eC gC.2
 clear hR hK DC wC eC
 obtain⟨zt,rfl⟩:∃zt:Nat,z=zt:=⟨z.toNat,by omega⟩
 simp -implicitDefEqProofs(disch:=omega)only[Nat.reduceEqDiff,↓reduceIte,vcu,↓vcd,opK_some,c0,c1,c4',c5']
 refine vc_loop_c mixed kr9 [0,1,4,13] (fun m a T=>∃(x:Ex) (u1 u2:Value) (p':Int),a 14=.int .i64 m∧T c13=some ⟨exC u1 u2 x,false⟩∧ExOk x∧OYX B g T u1 u2 x∧p≤p'∧p'+10 * m≤p+300∧DS β τ6 T g h o bs p') zt ⟨e,u1,u2,_,rfl,eD,hXO,wD,by omega,by omega,DD⟩ ?_
 clear DD wD eD hXO
 rintro m3 a3 T0 hc3 ⟨x,u1,u2,p',h14,e13,hX,wx,hp1,hp2,D⟩
 simp -implicitDefEqProofs(disch:=omega)only[Nat.reduceEqDiff,↓reduceIte,vcu,↓vcd,c0,c1,c4',c5'] at hc3
 obtain⟨k0,k1,k4,k13,-⟩:=hc3
 have l13:lds (T0.upd g none) c13 0 5=some (exC u1 u2 x):=by rw[lds_of (by rw[AHeap.upd_ne _ _ gC.2];exact e13) (by simp [exC])];rfl
 unfold exC at l13
 have hXT:=XT.of hX
 have hone:=wx.one
 unfold exC at hone
 by_cases hlt3:0 < m3
 ·simp -implicitDefEqProofs(disch:=omega)only[Nat.reduceEqDiff,↓reduceIte,vcu,↓vcd,k0,k1,k4,k13,h14]
  refine acodeB_monoY (Q':=fun en a' T=>en=.normal∧(a' 0=.pointer (some ⟨g,0,none⟩)∧a' 1=.int .i64 n∧a' 4=.pointer (some ⟨c4,0,none⟩)∧a' 13=.pointer (some ⟨c13,0,none⟩)∧a' 14=.int .i64 m3)∧∃(c15:Nat) (y:Ex) (y1 y2:Value) (ok:Bool) (p2:Int),a' 15=.pointer (some ⟨c15,0,none⟩)∧a' 16=.bool ok∧T c15=some ⟨exC y1 y2 y,false⟩∧T c13=some ⟨exC u1 u2 x,false⟩∧ExOk y∧OYX B g T y1 y2 y∧OYX B g T u1 u2 x∧p'≤p2∧p2≤p'+10∧DS β τ6 T g h o bs p2)
   (region_tree mixed (quiets [0,1,2] (.two 3 (.two 4 (quiets [5,6,7] (.one 8 (.one 9 (quiets [10] .stop)))) 8 (.one 4 (quiets [5,6,7] (.one 9 (quiets [10] .stop))))) 8 (.one 3 (.one 4 (quiets [5,6,7] (.one 9 (quiets [10] .stop))))))) [([0,1,2],Sub (T0.upd g none))] kr9 kr9 (fun p hp=>by simp only[List.mem_singleton] at hp;subst hp;exact less_keptY (Kept.refl _ _)) ?_) ?_
  ·refine tree_quiets (T0.upd g none) _ _ _ (sfIn kr9) kr9 kr9 ?_
   simp -implicitDefEqProofs(disch:=omega)only[Nat.reduceEqDiff,↓reduceIte,vcu,↓vcd,vcp,k0,k1,k4,k13,l13,co33]
   have B0:Sub (T0.upd g none) T0:=less_keptY (Kept.refl _ _)
   refine tree_two rfl rfl ?_ ?_
   ·try simp -implicitDefEqProofs(disch:=omega)only[Nat.reduceEqDiff,↓reduceIte,vcu,↓vcd]
    have hdd:=deed_draw (w0:=w0) β T0 g h o bs p' u1 u2 x D.rd om9 (wx.less) (by have:=hXT.1;omega) (fun t ht=>by have:=hXT.2.1 t ht;omega)
    unfold exV at hdd
    refine hdd.mono ?_
    rintro _ A1 ⟨d,p2,rfl,dt,dp1,dp2,DD⟩
    have D1:=D.on DD
    have w1:=wx.pick DD.kp
    have f13:=DD.kp.at e13 gC.2
    have B1:Sub (T0.upd g none) A1:=fun k ob e=>by
     have hkg:k≠g:=by rintro rfl;rw[AHeap.upd_same] at e;cases e
     exact DD.kp k ob hkg (B0 k ob e)
    simp -implicitDefEqProofs(disch:=omega)only[Nat.reduceEqDiff,↓reduceIte,vcu,↓vcd,opK_some]
    refine⟨keep_of rfl fun p hp=>by simp only[List.mem_singleton] at hp;subst hp;exact .inr B1,?_⟩
    refine tree_two rfl rfl ?_ ?_
    ·try simp -implicitDefEqProofs(disch:=omega)only[Nat.reduceEqDiff,↓reduceIte,vcu,↓vcd]
     have hdo:=exDo_calls (w0:=w0) A1 (exV u1 u2 x) x d w1.ex hXT.s.b om9
     have hok:=exDo_ok hX d
     generalize exDo x d=yb at hdo hok
     obtain⟨y,ok⟩:=yb
     unfold ddA exV at hdo
     unfold ddA
     refine hdo.mono ?_
     rintro _ A2 ⟨_,rfl,s2,y1,y2,rfl,oy1,oy2⟩
     have D2:=D1.new s2
     have w2:=w1.sub s2
     have h13:=s2 _ _ f13
     have B2:=B1.trans s2
     unfold exV
     have wy:OYX B g A2 y1 y2 y:=OYX.of ⟨y1,y2,rfl,oy1,oy2⟩ fun q hq=>⟨hBn q (D1.fresh hq).1 (ne_of hq f13),(D1.fresh hq).2⟩
     simp -implicitDefEqProofs(disch:=omega)only[Nat.reduceEqDiff,↓reduceIte,vcu,↓vcd,opK_some]
     refine⟨keep_of rfl fun p hp=>by simp only[List.mem_singleton] at hp;subst hp;exact .inr B2,?_⟩
     refine tree_quiets (fun _=>none) _ _ _ sf0 kr9 kr9 ?_
     simp -implicitDefEqProofs(disch:=omega)only[Nat.reduceEqDiff,↓reduceIte,vcu,↓vcd,vcp,List.getElem?_toArray,List.getElem?_cons_zero,List.getElem?_cons_succ]
     refine tree_one rfl ?_
     try simp -implicitDefEqProofs(disch:=omega)only[Nat.reduceEqDiff,↓reduceIte,vcu,↓vcd]
     refine r_new ze33 fun c15 A3 n15 s3 e15=>?_
     replace e15:A3 c15=some ⟨[.int .i64 0,.int .i64 0,.int .i64 0,.slice none 0 0,.slice none 0 0],false⟩:=e15
     have g15:=D2.fresh n15
     have d15:c15≠c13:=ne_of n15 h13
     have D3:=D2.new s3
     have w3:=(w2.aside n15).sub s3
     have i13:=s3 _ _ h13
     have B3:=B2.trans s3
     have b15:=free_sub B2 n15
     have wy3:=(wy.aside n15).sub s3
     try simp -implicitDefEqProofs(disch:=omega)only[Nat.reduceEqDiff,↓reduceIte,vcu,↓vcd]
     refine⟨keep_of rfl fun p hp=>by simp only[List.mem_singleton] at hp;subst hp;exact .inr B3,?_⟩
     refine tree_one rfl ?_
     have hy1:=wy3.one
     unfold exC at hy1
     refine r_sets (g:=c15) (i:=0) (C:=[.int .i64 0,.int .i64 0,.int .i64 0,.slice none 0 0,.slice none 0 0]) z9q z9co33 (by simp -implicitDefEqProofs(disch:=omega)only[Nat.reduceEqDiff,↓reduceIte,vcu,↓vcd];exact hy1) z9z e15 z9l fun A9 k9 e9=>?_
     replace e9:A9 c15=some ⟨exC y1 y2 y,false⟩:=e9
     have D9:=D3.put k9 g15.2 g15.1
     have hb15:(B.upd c15 (some ⟨[],false⟩)) c15=some ⟨[],false⟩:=AHeap.upd_same _ _ _
     have w9:OYX B g A9 u1 u2 x:=(w3.kept k9 hb15).free (free_upd)
     have wy9:OYX B g A9 y1 y2 y:=(wy3.kept k9 hb15).free (free_upd)
     have j13:=k9.at i13 d15.symm
     have B9:Sub (T0.upd g none) A9:=k9.sub B3 b15
     try simp -implicitDefEqProofs(disch:=omega)only[Nat.reduceEqDiff,↓reduceIte,vcu,↓vcd]
     refine⟨keep_of rfl fun p hp=>by simp only[List.mem_singleton] at hp;subst hp;exact .inr B9,?_⟩
     refine tree_quiets (fun _=>none) _ _ _ sf0 kr9 kr9 ?_
     simp -implicitDefEqProofs(disch:=omega)only[Nat.reduceEqDiff,↓reduceIte,vcu,↓vcd,vcp]
     refine tree_stop ?_
     exact⟨by first|trivial|rfl,⟨by first|trivial|simp -implicitDefEqProofs(disch:=omega)only[Nat.reduceEqDiff,↓reduceIte,vcu,↓vcd,k0],by first|trivial|simp -implicitDefEqProofs(disch:=omega)only[Nat.reduceEqDiff,↓reduceIte,vcu,↓vcd,k1],by first|trivial|simp -implicitDefEqProofs(disch:=omega)only[Nat.reduceEqDiff,↓reduceIte,vcu,↓vcd,k4],by first|trivial|simp -implicitDefEqProofs(disch:=omega)only[Nat.reduceEqDiff,↓reduceIte,vcu,↓vcd,k13],by first|trivial|simp -implicitDefEqProofs(disch:=omega)only[Nat.reduceEqDiff,↓reduceIte,vcu,↓vcd,h14]⟩,c15,y,y1,y2,ok,p2,by first|trivial|simp -implicitDefEqProofs(disch:=omega)only[Nat.reduceEqDiff,↓reduceIte,vcu,↓vcd],by first|trivial|simp -implicitDefEqProofs(disch:=omega)only[Nat.reduceEqDiff,↓reduceIte,vcu,↓vcd],e9,j13,hok,wy9,w9,dp1,dp2,D9⟩
    ·try simp -implicitDefEqProofs(disch:=omega)only[Nat.reduceEqDiff,↓reduceIte,vcu,↓vcd]
     refine r_new ze33 fun c15 A3 n15 s3 e15=>?_
     replace e15:A3 c15=some ⟨[.int .i64 0,.int .i64 0,.int .i64 0,.slice none 0 0,.slice none 0 0],false⟩:=e15
     have g15:=D1.fresh n15
     have d15:c15≠c13:=ne_of n15 f13
     have D3:=D1.new s3
     have w3:=(w1.aside n15).sub s3
     have i13:=s3 _ _ f13
     have B3:=B1.trans s3
     have b15:=free_sub B1 n15
     try simp -implicitDefEqProofs(disch:=omega)only[Nat.reduceEqDiff,↓reduceIte,vcu,↓vcd]
     refine⟨keep_of rfl fun p hp=>by simp only[List.mem_singleton] at hp;subst hp;exact .inr B3,?_⟩
     refine tree_one rfl ?_
     try simp -implicitDefEqProofs(disch:=omega)only[Nat.reduceEqDiff,↓reduceIte,vcu,↓vcd]
     have hdo:=exDo_calls (w0:=w0) A3 (exV u1 u2 x) x d w3.ex hXT.s.b om9
     have hok:=exDo_ok hX d
     generalize exDo x d=yb at hdo hok
     obtain⟨y,ok⟩:=yb
     unfold ddA exV at hdo
     unfold ddA
     refine hdo.mono ?_
     rintro _ A2 ⟨_,rfl,s2,y1,y2,rfl,oy1,oy2⟩
     have D2:=D3.new s2
     have w2:=w3.sub s2
     have h13:=s2 _ _ i13
     have B2:=B3.trans s2
     unfold exV
     have h15:=s2 _ _ e15
     have wy:OYX (B.upd c15 (some ⟨[],false⟩)) g A2 y1 y2 y:=OYX.of ⟨y1,y2,rfl,oy1,oy2⟩ fun q hq=>⟨by rw[AHeap.upd_ne _ _ (ne_of hq e15)];exact hBn q (D3.fresh hq).1 (ne_of hq i13),(D3.fresh hq).2⟩
     simp -implicitDefEqProofs(disch:=omega)only[Nat.reduceEqDiff,↓reduceIte,vcu,↓vcd,opK_some]
     refine⟨keep_of rfl fun p hp=>by simp only[List.mem_singleton] at hp;subst hp;exact .inr B2,?_⟩
     refine tree_quiets (fun _=>none) _ _ _ sf0 kr9 kr9 ?_
     simp -implicitDefEqProofs(disch:=omega)only[Nat.reduceEqDiff,↓reduceIte,vcu,↓vcd,vcp,List.getElem?_toArray,List.getElem?_cons_zero,List.getElem?_cons_succ]
     refine tree_one rfl ?_
     have hy1:=wy.one
     unfold exC at hy1
     refine r_sets (g:=c15) (i:=0) (C:=[.int .i64 0,.int .i64 0,.int .i64 0,.slice none 0 0,.slice none 0 0]) z9q z9co33 (by simp -implicitDefEqProofs(disch:=omega)only[Nat.reduceEqDiff,↓reduceIte,vcu,↓vcd];exact hy1) z9z h15 z9l fun A9 k9 e9=>?_
     replace e9:A9 c15=some ⟨exC y1 y2 y,false⟩:=e9
     have D9:=D2.put k9 g15.2 g15.1
     have hb15:(B.upd c15 (some ⟨[],false⟩)) c15=some ⟨[],false⟩:=AHeap.upd_same _ _ _
     have w9:OYX B g A9 u1 u2 x:=(w2.kept k9 hb15).free (free_upd)
     have wy9:OYX B g A9 y1 y2 y:=(wy.kept k9 hb15).free (free_upd)
     have j13:=k9.at h13 d15.symm
     have B9:Sub (T0.upd g none) A9:=k9.sub B2 b15
     try simp -implicitDefEqProofs(disch:=omega)only[Nat.reduceEqDiff,↓reduceIte,vcu,↓vcd]
     refine⟨keep_of rfl fun p hp=>by simp only[List.mem_singleton] at hp;subst hp;exact .inr B9,?_⟩
     refine tree_quiets (fun _=>none) _ _ _ sf0 kr9 kr9 ?_
     simp -implicitDefEqProofs(disch:=omega)only[Nat.reduceEqDiff,↓reduceIte,vcu,↓vcd,vcp]
     refine tree_stop ?_
     exact⟨by first|trivial|rfl,⟨by first|trivial|simp -implicitDefEqProofs(disch:=omega)only[Nat.reduceEqDiff,↓reduceIte,vcu,↓vcd,k0],by first|trivial|simp -implicitDefEqProofs(disch:=omega)only[Nat.reduceEqDiff,↓reduceIte,vcu,↓vcd,k1],by first|trivial|simp -implicitDefEqProofs(disch:=omega)only[Nat.reduceEqDiff,↓reduceIte,vcu,↓vcd,k4],by first|trivial|simp -implicitDefEqProofs(disch:=omega)only[Nat.reduceEqDiff,↓reduceIte,vcu,↓vcd,k13],by first|trivial|simp -implicitDefEqProofs(disch:=omega)only[Nat.reduceEqDiff,↓reduceIte,vcu,↓vcd,h14]⟩,c15,y,y1,y2,ok,p2,by first|trivial|simp -implicitDefEqProofs(disch:=omega)only[Nat.reduceEqDiff,↓reduceIte,vcu,↓vcd],by first|trivial|simp -implicitDefEqProofs(disch:=omega)only[Nat.reduceEqDiff,↓reduceIte,vcu,↓vcd],e9,j13,hok,wy9,w9,dp1,dp2,D9⟩
   ·try simp -implicitDefEqProofs(disch:=omega)only[Nat.reduceEqDiff,↓reduceIte,vcu,↓vcd]
    refine r_new ze33 fun c15 A3 n15 s3 e15=>?_
    replace e15:A3 c15=some ⟨[.int .i64 0,.int .i64 0,.int .i64 0,.slice none 0 0,.slice none 0 0],false⟩:=e15
    have g15:=D.fresh n15
    have d15:c15≠c13:=ne_of n15 e13
    have D3:=D.new s3
    have w3:=(wx.aside n15).sub s3
    have i13:=s3 _ _ e13
    have B3:=B0.trans s3
    have b15:=free_sub B0 n15
    try simp -implicitDefEqProofs(disch:=omega)only[Nat.reduceEqDiff,↓reduceIte,vcu,↓vcd]
    refine⟨keep_of rfl fun p hp=>by simp only[List.mem_singleton] at hp;subst hp;exact .inr B3,?_⟩
    refine tree_one rfl ?_
    try simp -implicitDefEqProofs(disch:=omega)only[Nat.reduceEqDiff,↓reduceIte,vcu,↓vcd]
    have hdd:=deed_draw (w0:=w0) β A3 g h o bs p' u1 u2 x D3.rd om9 (w3.less) (by have:=hXT.1;omega) (fun t ht=>by have:=hXT.2.1 t ht;omega)
    unfold exV at hdd
    refine hdd.mono ?_
    rintro _ A1 ⟨d,p2,rfl,dt,dp1,dp2,DD⟩
    have D1:=D3.on DD
    have w1:=w3.pick DD.kp
    have f13:=DD.kp.at i13 gC.2
    have B1:Sub (T0.upd g none) A1:=fun k ob e=>by
     have hkg:k≠g:=by rintro rfl;rw[AHeap.upd_same] at e;cases e
     exact DD.kp k ob hkg (B3 k ob e)
    have f15:=DD.kp.at e15 g15.2
    simp -implicitDefEqProofs(disch:=omega)only[Nat.reduceEqDiff,↓reduceIte,vcu,↓vcd,opK_some]
    refine⟨keep_of rfl fun p hp=>by simp only[List.mem_singleton] at hp;subst hp;exact .inr B1,?_⟩
    refine tree_one rfl ?_
    try simp -implicitDefEqProofs(disch:=omega)only[Nat.reduceEqDiff,↓reduceIte,vcu,↓vcd]
    have hdo:=exDo_calls (w0:=w0) A1 (exV u1 u2 x) x d w1.ex hXT.s.b om9
    have hok:=exDo_ok hX d
    generalize exDo x d=yb at hdo hok
    obtain⟨y,ok⟩:=yb
    unfold ddA exV at hdo
    unfold ddA
    refine hdo.mono ?_
    rintro _ A2 ⟨_,rfl,s2,y1,y2,rfl,oy1,oy2⟩
    have D2:=D1.new s2
    have w2:=w1.sub s2
    have h13:=s2 _ _ f13
    have B2:=B1.trans s2
    unfold exV
    have h15:=s2 _ _ f15
    have wy:OYX (B.upd c15 (some ⟨[],false⟩)) g A2 y1 y2 y:=OYX.of ⟨y1,y2,rfl,oy1,oy2⟩ fun q hq=>⟨by rw[AHeap.upd_ne _ _ (ne_of hq f15)];exact hBn q (D1.fresh hq).1 (ne_of hq f13),(D1.fresh hq).2⟩
    simp -implicitDefEqProofs(disch:=omega)only[Nat.reduceEqDiff,↓reduceIte,vcu,↓vcd,opK_some]
    refine⟨keep_of rfl fun p hp=>by simp only[List.mem_singleton] at hp;subst hp;exact .inr B2,?_⟩
    refine tree_quiets (fun _=>none) _ _ _ sf0 kr9 kr9 ?_
    simp -implicitDefEqProofs(disch:=omega)only[Nat.reduceEqDiff,↓reduceIte,vcu,↓vcd,vcp,List.getElem?_toArray,List.getElem?_cons_zero,List.getElem?_cons_succ]
    refine tree_one rfl ?_
    have hy1:=wy.one
    unfold exC at hy1
    refine r_sets (g:=c15) (i:=0) (C:=[.int .i64 0,.int .i64 0,.int .i64 0,.slice none 0 0,.slice none 0 0]) z9q z9co33 (by simp -implicitDefEqProofs(disch:=omega)only[Nat.reduceEqDiff,↓reduceIte,vcu,↓vcd];exact hy1) z9z h15 z9l fun A9 k9 e9=>?_
    replace e9:A9 c15=some ⟨exC y1 y2 y,false⟩:=e9
    have D9:=D2.put k9 g15.2 g15.1
    have hb15:(B.upd c15 (some ⟨[],false⟩)) c15=some ⟨[],false⟩:=AHeap.upd_same _ _ _
    have w9:OYX B g A9 u1 u2 x:=(w2.kept k9 hb15).free (free_upd)
    have wy9:OYX B g A9 y1 y2 y:=(wy.kept k9 hb15).free (free_upd)
    have j13:=k9.at h13 d15.symm
    have B9:Sub (T0.upd g none) A9:=k9.sub B2 b15
    try simp -implicitDefEqProofs(disch:=omega)only[Nat.reduceEqDiff,↓reduceIte,vcu,↓vcd]
    refine⟨keep_of rfl fun p hp=>by simp only[List.mem_singleton] at hp;subst hp;exact .inr B9,?_⟩
    refine tree_quiets (fun _=>none) _ _ _ sf0 kr9 kr9 ?_
    simp -implicitDefEqProofs(disch:=omega)only[Nat.reduceEqDiff,↓reduceIte,vcu,↓vcd,vcp]
    refine tree_stop ?_
    exact⟨by first|trivial|rfl,⟨by first|trivial|simp -implicitDefEqProofs(disch:=omega)only[Nat.reduceEqDiff,↓reduceIte,vcu,↓vcd,k0],by first|trivial|simp -implicitDefEqProofs(disch:=omega)only[Nat.reduceEqDiff,↓reduceIte,vcu,↓vcd,k1],by first|trivial|simp -implicitDefEqProofs(disch:=omega)only[Nat.reduceEqDiff,↓reduceIte,vcu,↓vcd,k4],by first|trivial|simp -implicitDefEqProofs(disch:=omega)only[Nat.reduceEqDiff,↓reduceIte,vcu,↓vcd,k13],by first|trivial|simp -implicitDefEqProofs(disch:=omega)only[Nat.reduceEqDiff,↓reduceIte,vcu,↓vcd,h14]⟩,c15,y,y1,y2,ok,p2,by first|trivial|simp -implicitDefEqProofs(disch:=omega)only[Nat.reduceEqDiff,↓reduceIte,vcu,↓vcd],by first|trivial|simp -implicitDefEqProofs(disch:=omega)only[Nat.reduceEqDiff,↓reduceIte,vcu,↓vcd],e9,j13,hok,wy9,w9,dp1,dp2,D9⟩
  clear l13 hone wx D e13
  rintro _ a4 T1 ⟨rfl,⟨k0',k1',k4',k13',k14'⟩,c15,y,y1,y2,ok,p2,k15,k16,e15,e13,hY,wy,wx,q1,q2,D⟩
  cases ok with
  | false =>
   simp -implicitDefEqProofs(disch:=omega)only[Nat.reduceEqDiff,↓reduceIte,vcu,↓vcd,k0',k1',k4',k13',k14',k15,k16]
   refine⟨by simp [k0',k1',k4',k13',k0,k1,k4,k13,c0,c1,c4'],m3 - 1,by omega,x,u1,u2,p2,by congr 1;omega,e13,hX,wx,by omega,by omega,D⟩
  | true =>
   have l15:lds T1 c15 0 5=some (exC y1 y2 y):=by rw[lds_of e15 (by simp [exC])];rfl
   have hy1:=wy.one
   unfold exC at l15 hy1
   simp -implicitDefEqProofs(disch:=omega)only[Nat.reduceEqDiff,↓reduceIte,vcu,↓vcd,k0',k1',k4',k13',k14',k15,k16,l15,co33]
   refine r_sets (g:=c13) (i:=0) (C:=exC u1 u2 x) (by simp -implicitDefEqProofs(disch:=omega)only[Nat.reduceEqDiff,↓reduceIte,vcu,↓vcd,k13']) z9co33 (by simp -implicitDefEqProofs(disch:=omega)only[Nat.reduceEqDiff,↓reduceIte,vcu,↓vcd];exact hy1) z9z e13 z9l fun T9 k9 e9=>?_
   replace e9:T9 c13=some ⟨exC y1 y2 y,false⟩:=e9
   simp -implicitDefEqProofs(disch:=omega)only[Nat.reduceEqDiff,↓reduceIte,vcu,↓vcd,k0',k1',k4',k13',k14']
   refine⟨by simp [k0',k1',k4',k13',k0,k1,k4,k13,c0,c1,c4'],m3 - 1,by omega,y,y1,y2,p2,by congr 1;omega,e9,hY,wy.kept k9 hcB,by omega,by omega,D.put k9 gC.2 gC.1⟩
 have hXS:=hXT.s
 simp -implicitDefEqProofs(disch:=omega)only[Nat.reduceEqDiff,↓reduceIte,vcu,↓vcd,k0,k1,k4,k13,h14]
 refine (odd_any β T0 g h o bs p' n D.rd om9 om9).mono ?_
 rintro _ T1 ⟨b,p2,rfl,o1,o2,hR,hK⟩
 have D1:=D.step hR hK
 have w1:=wx.pick hK
 have f13:=hK.at e13 gC.2
 clear hR hK D wx e13 l13 hone
 cases b with
 | false =>
  have e4T:=D1.kp c4 _ g4.2 e4
  have lf:lds T1 c13 0 5=some (exC u1 u2 x):=by rw[lds_of f13 (by simp [exC])];rfl
  have hf:=OYX.one w1
  unfold exC at lf hf
  simp -implicitDefEqProofs(disch:=omega)only[Nat.reduceEqDiff,↓reduceIte,vcu,↓vcd,k0,k1,k4,k13,lf,co33,opK_some]
  refine r_sets (g:=c4) (i:=0) (C:=[.int .i64 0,.int .i64 0,.int .i64 0,.slice none 0 0,.slice none 0 0]) (by simp -implicitDefEqProofs(disch:=omega)only[Nat.reduceEqDiff,↓reduceIte,vcu,↓vcd,k4]) z9co33 (by simp -implicitDefEqProofs(disch:=omega)only[Nat.reduceEqDiff,↓reduceIte,vcu,↓vcd];exact hf) z9z e4T z9l fun T9 k9 e9=>?_
  replace e9:T9 c4=some ⟨exC u1 u2 x,false⟩:=e9
  have D9:=(d6.on D1).put k9 g4.2 g4.1
  have l9:lds T9 c4 0 5=some (exC u1 u2 x):=by rw[lds_of e9 (by simp [exC])];rfl
  unfold exC at l9
  simp -implicitDefEqProofs(disch:=omega)only[Nat.reduceEqDiff,↓reduceIte,vcu,↓vcd,k4]
  refine fin_cell Tryz.results34 T9 (Sub.refl _) (v:=exV u1 u2 x) (by simp -implicitDefEqProofs(disch:=omega)only[Nat.reduceEqDiff,↓reduceIte,vcu,↓vcd,k4,l9,co33];rfl) ⟨x,u1,u2,_,rfl,(OYX.kept w1 k9 h4B).free (fun q hq=>(d6.fresh (hfB q hq)).1),hXS,by omega,by omega,D9⟩
 | true =>
  simp -implicitDefEqProofs(disch:=omega)only[Nat.reduceEqDiff,↓reduceIte,vcu,↓vcd,opK_some,k0,k1,k4,k13]
  refine (pick_at β T1 g h o bs p2 4 D1.rd om9 om9).mono ?_
  rintro _ T2 ⟨y,rfl,ya,yb,hR,hK⟩
  have D2:=D1.step hR hK
  have w2:=w1.pick hK
  have h13:=hK.at f13 gC.2
  clear hR hK D1 w1 f13
  obtain⟨⟨⟨_,⟨hE1,hE2⟩,_⟩,_⟩,_⟩:=id hX
  by_cases y0:y=0
  ·subst y0
   have lE:ld T2 c13 (0+0+1)=some (.int .i64 x.s.E):=ld_of h13 rfl
   simp -implicitDefEqProofs(disch:=omega)only[Nat.reduceEqDiff,↓reduceIte,vcu,↓vcd,opK_some,k0,k1,k4,k13,lE]
   refine r_set (g:=c13) (i:=0+0+2) (C:=exC u1 u2 x) (by simp -implicitDefEqProofs(disch:=omega)only[Nat.reduceEqDiff,↓reduceIte,vcu,↓vcd,k13]) z9r co3 z9r h13 (by simp [exC]) fun T3 k3 e3=>?_
   replace e3:T3 c13=some ⟨exC u1 u2 ⟨⟨x.s.O,x.s.E,x.s.E - 1⟩,x.ps,x.cs⟩,false⟩:=by rw[e3];simp -implicitDefEqProofs(disch:=omega)only[Nat.reduceEqDiff,↓reduceIte,vcu,↓vcd];rfl
   have D3:=D2.put k3 gC.2 gC.1
   have w3:OYX B g T3 u1 u2 ⟨⟨x.s.O,x.s.E,x.s.E - 1⟩,x.ps,x.cs⟩:=OYX.kept (e:=⟨⟨x.s.O,x.s.E,x.s.E - 1⟩,x.ps,x.cs⟩) w2 k3 hcB
   have hXS3:XS ⟨⟨x.s.O,x.s.E,x.s.E - 1⟩,x.ps,x.cs⟩:=hXS
   generalize (⟨⟨x.s.O,x.s.E,x.s.E - 1⟩,x.ps,x.cs⟩:Ex)=x3 at e3 w3 hXS3
   have e4T:=D3.kp c4 _ g4.2 e4
   have lf:lds T3 c13 0 5=some (exC u1 u2 x3):=by rw[lds_of e3 (by simp [exC])];rfl
   have hf:=OYX.one w3
   unfold exC at lf hf
   simp -implicitDefEqProofs(disch:=omega)only[Nat.reduceEqDiff,↓reduceIte,vcu,↓vcd,k0,k1,k4,k13,lf,co33]
   refine r_sets (g:=c4) (i:=0) (C:=[.int .i64 0,.int .i64 0,.int .i64 0,.slice none 0 0,.slice none 0 0]) (by simp -implicitDefEqProofs(disch:=omega)only[Nat.reduceEqDiff,↓reduceIte,vcu,↓vcd,k4]) z9co33 (by simp -implicitDefEqProofs(disch:=omega)only[Nat.reduceEqDiff,↓reduceIte,vcu,↓vcd];exact hf) z9z e4T z9l fun T9 k9 e9=>?_
   replace e9:T9 c4=some ⟨exC u1 u2 x3,false⟩:=e9
   have D9:=(d6.on D3).put k9 g4.2 g4.1
   have l9:lds T9 c4 0 5=some (exC u1 u2 x3):=by rw[lds_of e9 (by simp [exC])];rfl
   unfold exC at l9
   simp -implicitDefEqProofs(disch:=omega)only[Nat.reduceEqDiff,↓reduceIte,vcu,↓vcd,k4]
   refine fin_cell Tryz.results34 T9 (Sub.refl _) (v:=exV u1 u2 x3) (by simp -implicitDefEqProofs(disch:=omega)only[Nat.reduceEqDiff,↓reduceIte,vcu,↓vcd,k4,l9,co33];rfl) ⟨x3,u1,u2,_,rfl,(OYX.kept w3 k9 h4B).free (fun q hq=>(d6.fresh (hfB q hq)).1),hXS3,by omega,by omega,D9⟩
  by_cases y1:y=1
  ·subst y1
   have hne:x.ps≠[]:=fun hh=>by have:=(ex_plan hX).1;rw[hh] at this;simp at this
   obtain⟨q1,rfl,v1,n1,gq1⟩:=w2.1.resolve_left fun hh=>hne hh.2
   have lP:ld T2 c13 (0+3)=some (.slice (some ⟨q1,0,none⟩) x.ps.length 1):=ld_of h13 rfl
   simp -implicitDefEqProofs(disch:=omega)only[Nat.reduceEqDiff,↓reduceIte,vcu,↓vcd,opK_some,k0,k1,k4,k13,lP]
   refine r_lit el30 (out:=#[.string (tx [51])]) (by first|kernel_rfl | (simp -implicitDefEqProofs(disch:=omega)only[Nat.reduceEqDiff,↓reduceIte,vcu,↓vcd];kernel_rfl)) kr9 fun eb T3 n3 s3 v3=>?_
   replace v3:T3 eb=some ⟨texts [[51]],false⟩:=v3
   have D3:=D2.new s3
   refine r_pushX (g:=q1) (e:=eb) (o:=0) (xs:=x.ps) (ys:=[[51]]) (m:=1) (len:=x.ps.length) el30 om9 sl30 z9q (s3 _ _ v1) rfl z9q (textsAt_own v3) rfl (by have:=hXS.1;omega) fun q4 T4 n4 k4' v4=>?_
   have D4:=D3.put k4' gq1 (hfB _ n1)
   have f4:=D3.fresh n4
   have dq:q1≠c13:=ne_of n1 hcB
   have dq4:q4≠c13:=ne_of' n4 (s3 _ _ h13) |>.symm
   have h134:=k4'.at (s3 _ _ h13) dq.symm
   have w4:OYC B g T4 u2 x.cs:=w2.2.imp id fun⟨q,a,b,m1,m2⟩=>⟨q,a,k4'.at (s3 _ _ b) (sep_rows v1 b hne),m1,m2⟩
   simp -implicitDefEqProofs(disch:=omega)only[Nat.reduceEqDiff,↓reduceIte,vcu,↓vcd,k0,k1,k4,k13]
   refine r_set (g:=c13) (i:=0+3) (C:=exC (.slice (some ⟨q1,0,none⟩) x.ps.length 1) u2 x) (by simp -implicitDefEqProofs(disch:=omega)only[Nat.reduceEqDiff,↓reduceIte,vcu,↓vcd,k13]) z9r co30 z9r h134 (by simp [exC]) fun T5 k5 e5'=>?_
   have D5:=D4.put k5 gC.2 gC.1
   replace e5':T5 c13=some ⟨exC (.slice (some ⟨q4,0,none⟩) (x.ps++[[51]]).length 1) u2 ⟨x.s,x.ps++[[51]],x.cs⟩,false⟩:=by rw[e5'];simp -implicitDefEqProofs(disch:=omega)only[Nat.reduceEqDiff,↓reduceIte,vcu,↓vcd];simp [exC]
   have w5:OYX B g T5 (.slice (some ⟨q4,0,none⟩) (x.ps++[[51]]).length 1) u2 ⟨x.s,x.ps++[[51]],x.cs⟩ :=
    OYX.kept (τ:=T4) ⟨.inr ⟨q4,rfl,v4,hBn q4 f4.1 dq4,f4.2⟩,w4⟩ k5 hcB
   have hXS5:XS ⟨x.s,x.ps++[[51]],x.cs⟩:=⟨by have:=hXT.1;simp;omega,fun t ht=>by
    rcases List.mem_append.1 ht with hh|hh
    ·exact hXT.2.1 t hh
    ·rw[List.mem_singleton.1 hh];decide,hXS.2.2⟩
   clear w2 h134 h13 v1 lP w4 v4
   generalize (Value.slice (some ⟨q4,0,none⟩) (x.ps++[[51]]).length 1)=u5 at e5' w5
   generalize (⟨x.s,x.ps++[[51]],x.cs⟩:Ex)=x5 at e5' w5 hXS5
   have e4T:=D5.kp c4 _ g4.2 e4
   have lf:lds T5 c13 0 5=some (exC u5 u2 x5):=by rw[lds_of e5' (by simp [exC])];rfl
   have hf:=OYX.one w5
   unfold exC at lf hf
   simp -implicitDefEqProofs(disch:=omega)only[Nat.reduceEqDiff,↓reduceIte,vcu,↓vcd,k0,k1,k4,k13,lf,co33]
   refine r_sets (g:=c4) (i:=0) (C:=[.int .i64 0,.int .i64 0,.int .i64 0,.slice none 0 0,.slice none 0 0]) (by simp -implicitDefEqProofs(disch:=omega)only[Nat.reduceEqDiff,↓reduceIte,vcu,↓vcd,k4]) z9co33 (by simp -implicitDefEqProofs(disch:=omega)only[Nat.reduceEqDiff,↓reduceIte,vcu,↓vcd];exact hf) z9z e4T z9l fun T9 k9 e9=>?_
   replace e9:T9 c4=some ⟨exC u5 u2 x5,false⟩:=e9
   have D9:=(d6.on D5).put k9 g4.2 g4.1
   have l9:lds T9 c4 0 5=some (exC u5 u2 x5):=by rw[lds_of e9 (by simp [exC])];rfl
   unfold exC at l9
   simp -implicitDefEqProofs(disch:=omega)only[Nat.reduceEqDiff,↓reduceIte,vcu,↓vcd,k4]
   refine fin_cell Tryz.results34 T9 (Sub.refl _) (v:=exV u5 u2 x5) (by simp -implicitDefEqProofs(disch:=omega)only[Nat.reduceEqDiff,↓reduceIte,vcu,↓vcd,k4,l9,co33];rfl) ⟨x5,u5,u2,_,rfl,(OYX.kept w5 k9 h4B).free (fun q hq=>(d6.fresh (hfB q hq)).1),hXS5,by omega,by omega,D9⟩
  by_cases y2:y=2
  ·subst y2
   have hne:x.ps≠[]:=fun hh=>by have:=(ex_plan hX).1;rw[hh] at this;simp at this
   obtain⟨q1,h1,v1,n1,gq1⟩:=w2.1.resolve_left fun hh=>hne hh.2
   have lP:ld T2 c13 (0+4)=some u2:=ld_of h13 rfl
   simp -implicitDefEqProofs(disch:=omega)only[Nat.reduceEqDiff,↓reduceIte,vcu,↓vcd,opK_some,k0,k1,k4,k13,lP]
   rw[r_build]
   refine⟨(_,#[.int .i64 0,.int .i64 0,.int .i64 0]),⟨ze70,by first|kernel_rfl | (simp -implicitDefEqProofs(disch:=omega)only[Nat.reduceEqDiff,↓reduceIte,vcu,↓vcd];kernel_rfl)⟩,?_⟩
   simp -implicitDefEqProofs(disch:=omega)only[Nat.reduceEqDiff,↓reduceIte,vcu,↓vcd]
   refine r_lit el31 (out:=#[.int .i64 0,.int .i64 0,.int .i64 0]) (by first|kernel_rfl | (simp -implicitDefEqProofs(disch:=omega)only[Nat.reduceEqDiff,↓reduceIte,vcu,↓vcd];kernel_rfl)) (by rfl) fun eb T3 n3 s3 v3=>?_
   replace v3:T3 eb=some ⟨tris [⟨0,0,0⟩],false⟩:=v3
   have D3:=D2.new s3
   have w3:=w2.sub s3
   have h133:=s3 _ _ h13
   have hXS5:XS ⟨x.s,x.ps,x.cs++[⟨0,0,0⟩]⟩:=⟨hXS.1,hXS.2.1,by have:=hXT.2.2;simp;omega⟩
   rcases w3.2 with ⟨rfl,hnil⟩ |⟨q2,rfl,v2,n2,gq2⟩
   ·refine r_pushC_nil (e:=eb) (o:=0) (m:=1) (ds:=[⟨0,0,0⟩]) el31 om9 sl31 z9q z9q (trisAt_own v3) rfl om9 fun q4 T4 n4 s4 v4=>?_
    have D4:=D3.new s4
    have f4:=D3.fresh n4
    have h134:=s4 _ _ h133
    have w4:=(w3.1).sub s4
    have dq4:q4≠c13:=ne_of' n4 h133 |>.symm
    have v4':T4 q4=some ⟨tris (x.cs++[⟨0,0,0⟩]),false⟩:=by rw[hnil];exact v4
    have hlen:(x.cs++[(⟨0,0,0⟩:Cl)]).length=1:=by rw[hnil];rfl
    have hu:OYC B g T4 (.slice (some ⟨q4,0,none⟩) 1 3) (x.cs++[⟨0,0,0⟩]):=.inr ⟨q4,by rw[hlen],v4',hBn q4 f4.1 dq4,f4.2⟩
    obtain⟨u6,hu6⟩:∃u6,u6=Value.slice (some ⟨q4,0,none⟩) 1 3:=⟨_,rfl⟩
    rw[←hu6] at hu
    have hu1:=(tris_cellV hu.tris).1
    have hu2:=(tris_cellV hu.tris).2
    simp -implicitDefEqProofs(disch:=omega)only[Nat.reduceEqDiff,↓reduceIte,vcu,↓vcd,k0,k1,k4,k13]
    rw[←hu6]
    refine r_set (g:=c13) (i:=0+4) (C:=exC u1 (.slice none 0 0) x) (by simp -implicitDefEqProofs(disch:=omega)only[Nat.reduceEqDiff,↓reduceIte,vcu,↓vcd,k13]) (by simp -implicitDefEqProofs(disch:=omega)only[Nat.reduceEqDiff,↓reduceIte,vcu,↓vcd];exact hu1) co31 (by simp -implicitDefEqProofs(disch:=omega)only[Nat.reduceEqDiff,↓reduceIte,vcu,↓vcd];exact hu2) h134 (by simp [exC]) fun T5 k5 e5'=>?_
    have D5:=D4.put k5 gC.2 gC.1
    replace e5':T5 c13=some ⟨exC u1 u6 ⟨x.s,x.ps,x.cs++[⟨0,0,0⟩]⟩,false⟩:=by rw[e5'];simp -implicitDefEqProofs(disch:=omega)only[Nat.reduceEqDiff,↓reduceIte,vcu,↓vcd];rfl
    have w5:OYX B g T5 u1 u6 ⟨x.s,x.ps,x.cs++[⟨0,0,0⟩]⟩:=OYX.kept (τ:=T4) ⟨w4,hu⟩ k5 hcB
    generalize (⟨x.s,x.ps,x.cs++[⟨0,0,0⟩]⟩:Ex)=x5 at e5' w5 hXS5
    have e4T:=D5.kp c4 _ g4.2 e4
    have lf:lds T5 c13 0 5=some (exC u1 u6 x5):=by rw[lds_of e5' (by simp [exC])];rfl
    have hf:=OYX.one w5
    unfold exC at lf hf
    simp -implicitDefEqProofs(disch:=omega)only[Nat.reduceEqDiff,↓reduceIte,vcu,↓vcd,k0,k1,k4,k13,lf,co33]
    refine r_sets (g:=c4) (i:=0) (C:=[.int .i64 0,.int .i64 0,.int .i64 0,.slice none 0 0,.slice none 0 0]) (by simp -implicitDefEqProofs(disch:=omega)only[Nat.reduceEqDiff,↓reduceIte,vcu,↓vcd,k4]) z9co33 (by simp -implicitDefEqProofs(disch:=omega)only[Nat.reduceEqDiff,↓reduceIte,vcu,↓vcd];exact hf) z9z e4T z9l fun T9 k9 e9=>?_
    replace e9:T9 c4=some ⟨exC u1 u6 x5,false⟩:=e9
    have D9:=(d6.on D5).put k9 g4.2 g4.1
    have l9:lds T9 c4 0 5=some (exC u1 u6 x5):=by rw[lds_of e9 (by simp [exC])];rfl
    unfold exC at l9
    simp -implicitDefEqProofs(disch:=omega)only[Nat.reduceEqDiff,↓reduceIte,vcu,↓vcd,k4]
    refine fin_cell Tryz.results34 T9 (Sub.refl _) (v:=exV u1 u6 x5) (by simp -implicitDefEqProofs(disch:=omega)only[Nat.reduceEqDiff,↓reduceIte,vcu,↓vcd,k4,l9,co33];rfl) ⟨x5,u1,u6,_,rfl,(OYX.kept w5 k9 h4B).free (fun q hq=>(d6.fresh (hfB q hq)).1),hXS5,by omega,by omega,D9⟩
   ·refine r_pushC (g:=q2) (e:=eb) (o:=0) (cs:=x.cs) (ds:=[⟨0,0,0⟩]) (m:=1) (len:=x.cs.length) el31 om9 sl31 z9q v2 rfl z9q (trisAt_own v3) rfl (by have:=hXS.2.2;omega) fun q4 T4 n4 k4' v4=>?_
    have D4:=D3.put k4' gq2 (hfB _ n2)
    have f4:=D3.fresh n4
    have dq:q2≠c13:=ne_of n2 hcB
    have dq4:q4≠c13:=ne_of' n4 h133 |>.symm
    have h134:=k4'.at h133 dq.symm
    have w4:OYS B g T4 u1 x.ps:=.inr ⟨q1,h1,k4'.at (s3 _ _ v1) (sep_rows (s3 _ _ v1) v2 hne).symm,n1,gq1⟩
    have hlen:(x.cs++[(⟨0,0,0⟩:Cl)]).length=x.cs.length+1:=by simp
    have hu:OYC B g T4 (.slice (some ⟨q4,0,none⟩) (x.cs.length+1) 3) (x.cs++[⟨0,0,0⟩]):=.inr ⟨q4,by rw[hlen],v4,hBn q4 f4.1 dq4,f4.2⟩
    obtain⟨u6,hu6⟩:∃u6,u6=Value.slice (some ⟨q4,0,none⟩) (x.cs.length+1) 3:=⟨_,rfl⟩
    rw[←hu6] at hu
    have hu1:=(tris_cellV hu.tris).1
    have hu2:=(tris_cellV hu.tris).2
    simp -implicitDefEqProofs(disch:=omega)only[Nat.reduceEqDiff,↓reduceIte,vcu,↓vcd,k0,k1,k4,k13]
    rw[←hu6]
    refine r_set (g:=c13) (i:=0+4) (C:=exC u1 (.slice (some ⟨q2,0,none⟩) x.cs.length 3) x) (by simp -implicitDefEqProofs(disch:=omega)only[Nat.reduceEqDiff,↓reduceIte,vcu,↓vcd,k13]) (by simp -implicitDefEqProofs(disch:=omega)only[Nat.reduceEqDiff,↓reduceIte,vcu,↓vcd];exact hu1) co31 (by simp -implicitDefEqProofs(disch:=omega)only[Nat.reduceEqDiff,↓reduceIte,vcu,↓vcd];exact hu2) h134 (by simp [exC]) fun T5 k5 e5'=>?_
    have D5:=D4.put k5 gC.2 gC.1
    replace e5':T5 c13=some ⟨exC u1 u6 ⟨x.s,x.ps,x.cs++[⟨0,0,0⟩]⟩,false⟩:=by rw[e5'];simp -implicitDefEqProofs(disch:=omega)only[Nat.reduceEqDiff,↓reduceIte,vcu,↓vcd];rfl
    have w5:OYX B g T5 u1 u6 ⟨x.s,x.ps,x.cs++[⟨0,0,0⟩]⟩:=OYX.kept (τ:=T4) ⟨w4,hu⟩ k5 hcB
    generalize (⟨x.s,x.ps,x.cs++[⟨0,0,0⟩]⟩:Ex)=x5 at e5' w5 hXS5
    have e4T:=D5.kp c4 _ g4.2 e4
    have lf:lds T5 c13 0 5=some (exC u1 u6 x5):=by rw[lds_of e5' (by simp [exC])];rfl
    have hf:=OYX.one w5
    unfold exC at lf hf
    simp -implicitDefEqProofs(disch:=omega)only[Nat.reduceEqDiff,↓reduceIte,vcu,↓vcd,k0,k1,k4,k13,lf,co33]
    refine r_sets (g:=c4) (i:=0) (C:=[.int .i64 0,.int .i64 0,.int .i64 0,.slice none 0 0,.slice none 0 0]) (by simp -implicitDefEqProofs(disch:=omega)only[Nat.reduceEqDiff,↓reduceIte,vcu,↓vcd,k4]) z9co33 (by simp -implicitDefEqProofs(disch:=omega)only[Nat.reduceEqDiff,↓reduceIte,vcu,↓vcd];exact hf) z9z e4T z9l fun T9 k9 e9=>?_
    replace e9:T9 c4=some ⟨exC u1 u6 x5,false⟩:=e9
    have D9:=(d6.on D5).put k9 g4.2 g4.1
    have l9:lds T9 c4 0 5=some (exC u1 u6 x5):=by rw[lds_of e9 (by simp [exC])];rfl
    unfold exC at l9
    simp -implicitDefEqProofs(disch:=omega)only[Nat.reduceEqDiff,↓reduceIte,vcu,↓vcd,k4]
    refine fin_cell Tryz.results34 T9 (Sub.refl _) (v:=exV u1 u6 x5) (by simp -implicitDefEqProofs(disch:=omega)only[Nat.reduceEqDiff,↓reduceIte,vcu,↓vcd,k4,l9,co33];rfl) ⟨x5,u1,u6,_,rfl,(OYX.kept w5 k9 h4B).free (fun q hq=>(d6.fresh (hfB q hq)).1),hXS5,by omega,by omega,D9⟩
  have e4T:=D2.kp c4 _ g4.2 e4
  simp -implicitDefEqProofs(disch:=omega)only[Nat.reduceEqDiff,↓reduceIte,vcu,↓vcd,opK_some,k0,k1,k4,k13]
  rw[r_build]
  refine⟨(_,#[.int .i64 0,.int .i64 0,.int .i64 0,.slice none 0 0,.slice none 0 0]),⟨ze33,by first|kernel_rfl | (simp -implicitDefEqProofs(disch:=omega)only[Nat.reduceEqDiff,↓reduceIte,vcu,↓vcd];kernel_rfl)⟩,?_⟩
  simp -implicitDefEqProofs(disch:=omega)only[Nat.reduceEqDiff,↓reduceIte,vcu,↓vcd,k4]
  refine r_sets (g:=c4) (i:=0) (C:=[.int .i64 0,.int .i64 0,.int .i64 0,.slice none 0 0,.slice none 0 0]) (by simp -implicitDefEqProofs(disch:=omega)only[Nat.reduceEqDiff,↓reduceIte,vcu,↓vcd,k4]) z9co33 z9r z9z e4T z9l fun T9 k9 e9=>?_
  replace e9:T9 c4=some ⟨[.int .i64 0,.int .i64 0,.int .i64 0,.slice none 0 0,.slice none 0 0],false⟩:=e9
  have D9:=(d6.on D2).put k9 g4.2 g4.1
  have l9:lds T9 c4 0 5=some [.int .i64 0,.int .i64 0,.int .i64 0,.slice none 0 0,.slice none 0 0]:=by rw[lds_of e9 (by simp)];rfl
  simp -implicitDefEqProofs(disch:=omega)only[Nat.reduceEqDiff,↓reduceIte,vcu,↓vcd,k4]
  refine fin_cell Tryz.results34 T9 (Sub.refl _) (v:=exV (.slice none 0 0) (.slice none 0 0) ex0) (by simp -implicitDefEqProofs(disch:=omega)only[Nat.reduceEqDiff,↓reduceIte,vcu,↓vcd,k4,l9,co33];rfl) ⟨ex0,_,_,_,rfl,⟨.inl ⟨rfl,rfl⟩,.inl ⟨rfl,rfl⟩⟩,XT.ex0.s,by omega,by omega,D9⟩
end Go.Proofs.YtofdnmlpfagibaaGreatDoor
set_option maxHeartbeats 6400000
namespace Go.Proofs.YtofdnmlpfagibaaGreatDoor
open Go Go.Abs Go.RowKit Go.Dial Go.Clos
variable {w0:World}
def lessL (τ:AHeap) (l:List Nat):AHeap:=fun k=>if k∈l then none else τ k
section
variable {σ0 σ τ τ':AHeap} {g c q:Nat} {l l':List Nat} {v1 v2:Value} {e:Ex}
theorem lessL_at (h:c ∉ l):lessL τ l c=τ c:=if_neg h
theorem lessL_in (h:c∈l):lessL τ l c=none:=if_pos h
theorem lessL_step (h:∀k ob,k ∉ l→τ k=some ob→k ∉ l'∧τ' k=some ob):Sub (lessL τ l) (lessL τ' l'):=fun k ob e=>by
 by_cases hk:k∈l
 ·rw[lessL_in hk] at e;cases e
 ·rw[lessL_at hk] at e
  obtain⟨h1,h2⟩:=h k ob hk e
  rw[lessL_at h1];exact h2
theorem lessL_sub:Sub (lessL τ l) τ:=fun k ob e=>by
 by_cases hk:k∈l
 ·rw[lessL_in hk] at e;cases e
 ·rwa [lessL_at hk] at e
theorem lessL_one (h:g∈l):Sub (lessL τ l) (τ.upd g none):=fun k ob e=>by
 by_cases hk:k∈l
 ·rw[lessL_in hk] at e;cases e
 ·rw[lessL_at hk] at e
  rw[AHeap.upd_ne _ _ (by rintro rfl;exact hk h)];exact e
def ExR (τ:AHeap) (l:List Nat) (v1 v2:Value) (e:Ex):Prop:=Texts (lessL τ l) v1 e.ps∧Tris (lessL τ l) v2 e.cs
theorem ExR.ex (w:ExR τ l v1 v2 e):ExV τ (exV v1 v2 e) e:=⟨v1,v2,rfl,w.1.sub lessL_sub,w.2.sub lessL_sub⟩
theorem ExR.tx (w:ExR τ l v1 v2 e) (h:g∈l):Texts (τ.upd g none) v1 e.ps:=w.1.sub (lessL_one h)
theorem ExR.step (w:ExR τ l v1 v2 e) (h:∀k ob,k ∉ l→τ k=some ob→k ∉ l'∧τ' k=some ob):ExR τ' l' v1 v2 e:=⟨w.1.sub (lessL_step h),w.2.sub (lessL_step h)⟩
theorem ExR.sub (w:ExR τ l v1 v2 e) (h:Sub τ τ'):ExR τ' l v1 v2 e:=w.step fun k ob hk e=>⟨hk,h k ob e⟩
theorem ExR.kept (w:ExR τ l v1 v2 e) (h:Kept c τ τ') (hc:c∈l):ExR τ' l v1 v2 e:=w.step fun k ob hk e=>⟨hk,h k ob (by rintro rfl;exact hk hc) e⟩
theorem ExR.drop (w:ExR τ l v1 v2 e) (h:∀k∈l',k∈l):ExR τ l' v1 v2 e:=w.step fun k ob hk e=>⟨fun hm=>hk (h k hm),e⟩
theorem OYX.r (w:OYX σ0 g τ v1 v2 e) (hl:∀k∈l,k≠g→σ0 k≠none):ExR τ l v1 v2 e:=by
 have key:∀q,σ0 q=none→q≠g→q ∉ l:=fun q hq hg hm=>hl q hm hg hq
 exact⟨w.1.imp id fun⟨q,a,b,n1,n2⟩=>⟨q,0,a,textsAt_own (by rw[lessL_at (key q n1 n2)];exact b)⟩,w.2.imp id fun⟨q,a,b,n1,n2⟩=>⟨q,0,a,trisAt_own (by rw[lessL_at (key q n1 n2)];exact b)⟩⟩
end
end Go.Proofs.YtofdnmlpfagibaaGreatDoor
set_option maxHeartbeats 6400000
namespace Go.Proofs.YtofdnmlpfagibaaGreatDoor
open Go Go.Abs Go.RowKit Go.Dial Go.Clos
variable {w0:World}
theorem lit_len {τ:AHeap} {q:Nat} {ts:List (List UInt8)} {z:Int} {M:Nat} (h:τ q=some ⟨texts ts,false⟩) (h0:0≤z) (h1:z < ts.length) (hM:∀t∈ts,t.length≤M):∃c:List UInt8,c.length≤M∧ld τ q (0+z.toNat)=some (.string (tx c)) :=
 ⟨_,getD_len hM z.toNat,lit_text h h0 h1⟩
set_option maxRecDepth 16000 in
theorem line_draw (β σ:AHeap) (g h o:Nat) (bs:List Int) (p:Int) (v1 v2:Value) (e:Ex) (hr:Rd β σ g h o bs p) (hp:0≤p∧p≤5000) (hx:ExR σ [g] v1 v2 e) (hs:XS e) :
  ACall Tryz.prog w0 50 [.pointer (some ⟨g,0,none⟩),exV v1 v2 e] σ fun r σ'=>∃(t:List UInt8) (p':Int),r=.string (tx t)∧t.length≤120∧p≤p'∧p'≤p+20∧DS β σ σ' g h o bs p':=by
 unfold exV
 refine acall_go mixed Tryz.func50 rfl good50 fun pr=>?_
 simp -implicitDefEqProofs(disch:=omega)only[Nat.reduceEqDiff,↓reduceIte,vcu,↓vcd]
 refine r_boxed fun hb τ1 nb s1 eb=>?_
 replace eb:τ1 hb=some ⟨exC v1 v2 e,false⟩:=eb
 have d1:=(DS.start hr).new s1
 have fb:=(DS.start hr).fresh nb
 simp -implicitDefEqProofs(disch:=omega)only[Nat.reduceEqDiff,↓reduceIte,vcu,↓vcd]
 refine (pick_at β τ1 g h o bs p 5 d1.rd om9 om9).mono ?_
 rintro _ τ2 ⟨y,rfl,ya,yb,hR,hK⟩
 have d2:=d1.step hR hK
 have x2:=(hx.sub s1).kept hK (by simp)
 replace eb:=hK.at eb fb.2
 clear hR hK d1 s1 nb hx
 by_cases y0:y=0
 ·subst y0
  simp -implicitDefEqProofs(disch:=omega)only[Nat.reduceEqDiff,↓reduceIte,vcu,↓vcd,opK_some]
  refine r_lit el30 (out:=#[.string (tx [99,97,108,108,115]),.string (tx [112,108,97,110]),.string (tx [110,105,103,104,116])]) (by first|kernel_rfl | (simp -implicitDefEqProofs(disch:=omega)only[Nat.reduceEqDiff,↓reduceIte,vcu,↓vcd];kernel_rfl)) kr9 fun ql τ3 nq sq vq=>?_
  replace vq:τ3 ql=some ⟨texts [[99,97,108,108,115],[112,108,97,110],[110,105,103,104,116]],false⟩:=vq
  have d3:=d2.new sq
  have fq:=d2.fresh nq
  simp -implicitDefEqProofs(disch:=omega)only[Nat.reduceEqDiff,↓reduceIte,vcu,↓vcd]
  refine (pick_at β τ3 g h o bs (p+1) 3 d3.rd om9 om9).mono ?_
  rintro _ τ4 ⟨z,rfl,za,zb,hR,hK⟩
  have d4:=d3.step hR hK
  replace vq:=hK.at vq fq.2
  obtain⟨c,cl,hx⟩:=lit_len (M:=5) vq za (by simpa using zb) (by decide)
  simp -implicitDefEqProofs(disch:=omega)only[Nat.reduceEqDiff,↓reduceIte,vcu,↓vcd,opK_some,hx]
  refine fin_one Tryz.results50 ⟨c,_,?_,by omega,by omega,by omega,d4⟩
  simp -implicitDefEqProofs(disch:=omega)only[Nat.reduceEqDiff,↓reduceIte,vcu,↓vcd]
 by_cases y1:y=1
 ·subst y1
  simp -implicitDefEqProofs(disch:=omega)only[Nat.reduceEqDiff,↓reduceIte,vcu,↓vcd,opK_some]
  refine r_lit el30 (out:=#[.string (tx []),.string (tx [99,97,108,108]),.string (tx [100,114,111,112,32,48,49]),.string (tx [99,97,108,108,32,49,32,52]),.string (tx [32,112,108,97,110]),.string (tx [100,114,111,112,32,49,32,50]),.string (tx [119,104,111]),.string (tx [118,105,97,32,120])]) (by first|kernel_rfl | (simp -implicitDefEqProofs(disch:=omega)only[Nat.reduceEqDiff,↓reduceIte,vcu,↓vcd];kernel_rfl)) kr9 fun ql τ3 nq sq vq=>?_
  replace vq:τ3 ql=some ⟨texts [[],[99,97,108,108],[100,114,111,112,32,48,49],[99,97,108,108,32,49,32,52],[32,112,108,97,110],[100,114,111,112,32,49,32,50],[119,104,111],[118,105,97,32,120]],false⟩:=vq
  have d3:=d2.new sq
  have fq:=d2.fresh nq
  simp -implicitDefEqProofs(disch:=omega)only[Nat.reduceEqDiff,↓reduceIte,vcu,↓vcd]
  refine (pick_at β τ3 g h o bs (p+1) 8 d3.rd om9 om9).mono ?_
  rintro _ τ4 ⟨z,rfl,za,zb,hR,hK⟩
  have d4:=d3.step hR hK
  replace vq:=hK.at vq fq.2
  obtain⟨c,cl,hx⟩:=lit_len (M:=8) vq za (by simpa using zb) (by decide)
  simp -implicitDefEqProofs(disch:=omega)only[Nat.reduceEqDiff,↓reduceIte,vcu,↓vcd,opK_some,hx]
  refine fin_one Tryz.results50 ⟨c,_,?_,by omega,by omega,by omega,d4⟩
  simp -implicitDefEqProofs(disch:=omega)only[Nat.reduceEqDiff,↓reduceIte,vcu,↓vcd]
 by_cases y2:y=2
 ·subst y2
  have D0:=DS.start d2.rd
  simp -implicitDefEqProofs(disch:=omega)only[Nat.reduceEqDiff,↓reduceIte,vcu,↓vcd,opK_some]
  refine acodeB_monoY (Q':=fun en a' T=>en=.normal∧∃t:List UInt8,a' 4=.string (tx t)∧t.length≤120∧DS β τ2 T g h o bs (p+1+1+1))
   (region_tree mixed (quiets [1,5] (.two 0 (.one 2 (quiets [3] (.two 4 (.one 6 (.one 7 (quiets [8,9] .stop))) 6 (.two 4 (.one 7 (quiets [8,9] .stop)) 7 (.one 4 (quiets [8,9] .stop)))))) 2 (.two 0 (quiets [3] (.two 4 (.one 6 (.one 7 (quiets [8,9] .stop))) 6 (.two 4 (.one 7 (quiets [8,9] .stop)) 7 (.one 4 (quiets [8,9] .stop))))) 6 (.two 0 (quiets [3] (.two 4 (.one 7 (quiets [8,9] .stop)) 7 (.one 4 (quiets [8,9] .stop)))) 7 (.one 0 (quiets [3] (.one 4 (quiets [8,9] .stop)))))))) [] kr9 kr9 (fun p hp=>by cases hp) ?_) ?_
  ·clear hr eb x2
   refine tree_quiets (fun _=>none) _ _ _ sf0 kr9 kr9 ?_
   simp -implicitDefEqProofs(disch:=omega)only[Nat.reduceEqDiff,↓reduceIte,vcu,↓vcd,vcp]
   refine tree_two rfl rfl ?_ ?_
   ·refine r_lit el30 (out:=#[.string (tx [119,104,111,32]),.string (tx [118,105,97,32])]) (by first|kernel_rfl | (simp -implicitDefEqProofs(disch:=omega)only[Nat.reduceEqDiff,↓reduceIte,vcu,↓vcd];kernel_rfl)) kr9 fun ql T1 nq sq lit1=>?_
    replace lit1:T1 ql=some ⟨texts [[119,104,111,32],[118,105,97,32]],false⟩:=lit1
    have flit1:=D0.fresh nq
    have d1:=D0.new sq
    clear sq nq
    try simp -implicitDefEqProofs(disch:=omega)only[Nat.reduceEqDiff,↓reduceIte,vcu,↓vcd]
    refine⟨keep_of rfl (fun p hp=>by cases hp),?_⟩
    refine tree_one rfl ?_
    try simp -implicitDefEqProofs(disch:=omega)only[Nat.reduceEqDiff,↓reduceIte,vcu,↓vcd]
    refine (pick_at β T1 g h o bs (p+1) 2 d1.rd om9 om9).mono ?_
    rintro _ T2 ⟨z2,rfl,z2a,z2b,hR,hK⟩
    have d2:=d1.step hR hK
    have lit2:=hK.at lit1 flit1.2
    clear hR hK
    simp -implicitDefEqProofs(disch:=omega)only[Nat.reduceEqDiff,↓reduceIte,vcu,↓vcd,opK_some]
    refine⟨keep_of rfl (fun p hp=>by cases hp),?_⟩
    refine tree_quiets (fun _=>none) _ _ _ sf0 kr9 kr9 ?_
    simp -implicitDefEqProofs(disch:=omega)only[Nat.reduceEqDiff,↓reduceIte,vcu,↓vcd,vcp]
    refine tree_two rfl rfl ?_ ?_
    ·obtain⟨c,cl,hx⟩:=lit_len (M:=4) lit2 z2a (by simpa using z2b) (by decide)
     simp -implicitDefEqProofs(disch:=omega)only[Nat.reduceEqDiff,↓reduceIte,vcu,↓vcd,hx]
     clear hx
     refine⟨keep_of rfl (fun p hp=>by cases hp),?_⟩
     refine tree_one rfl ?_
     try simp -implicitDefEqProofs(disch:=omega)only[Nat.reduceEqDiff,↓reduceIte,vcu,↓vcd]
     refine (pick_at β T2 g h o bs (p+1+1) 12 d2.rd om9 om9).mono ?_
     rintro _ T4 ⟨z3,rfl,z3a,z3b,hR,hK⟩
     have d4:=d2.step hR hK
     have lit4:=hK.at lit2 flit1.2
     clear hR hK
     simp -implicitDefEqProofs(disch:=omega)only[Nat.reduceEqDiff,↓reduceIte,vcu,↓vcd,opK_some]
     refine⟨keep_of rfl (fun p hp=>by cases hp),?_⟩
     refine tree_one rfl ?_
     obtain⟨zn,rfl⟩:∃zn:Nat,z3=zn:=⟨z3.toNat,by omega⟩
     try simp -implicitDefEqProofs(disch:=omega)only[Nat.reduceEqDiff,↓reduceIte,vcu,↓vcd]
     refine (number_calls zn om9 T4).mono ?_
     rintro _ _ ⟨rfl,rfl⟩
     rename_i T4
     simp -implicitDefEqProofs(disch:=omega)only[Nat.reduceEqDiff,↓reduceIte,vcu,↓vcd,opK_some]
     have hzn:=decN_len zn
     refine⟨keep_of rfl (fun p hp=>by cases hp),?_⟩
     refine tree_quiets (fun _=>none) _ _ _ sf0 kr9 kr9 ?_
     have ha1:=abin_sadd (P:=Tryz.prog) (t:=9) (xs:=c) (ys:=decN zn) om9
     simp -implicitDefEqProofs(disch:=omega)only[Nat.reduceEqDiff,↓reduceIte,vcu,↓vcd,vcp,ha1]
     refine tree_stop ?_
     exact⟨by first|trivial|rfl,c++decN zn,by simp -implicitDefEqProofs(disch:=omega)only[Nat.reduceEqDiff,↓reduceIte,vcu,↓vcd],by simp;omega,d4⟩
    ·try simp -implicitDefEqProofs(disch:=omega)only[Nat.reduceEqDiff,↓reduceIte,vcu,↓vcd]
     refine (pick_at β T2 g h o bs (p+1+1) 12 d2.rd om9 om9).mono ?_
     rintro _ T6 ⟨z3,rfl,z3a,z3b,hR,hK⟩
     have d6:=d2.step hR hK
     have lit6:=hK.at lit2 flit1.2
     clear hR hK
     simp -implicitDefEqProofs(disch:=omega)only[Nat.reduceEqDiff,↓reduceIte,vcu,↓vcd,opK_some]
     refine⟨keep_of rfl (fun p hp=>by cases hp),?_⟩
     refine tree_two rfl rfl ?_ ?_
     ·obtain⟨c,cl,hx⟩:=lit_len (M:=4) lit6 z2a (by simpa using z2b) (by decide)
      simp -implicitDefEqProofs(disch:=omega)only[Nat.reduceEqDiff,↓reduceIte,vcu,↓vcd,hx]
      clear hx
      refine⟨keep_of rfl (fun p hp=>by cases hp),?_⟩
      refine tree_one rfl ?_
      obtain⟨zn,rfl⟩:∃zn:Nat,z3=zn:=⟨z3.toNat,by omega⟩
      try simp -implicitDefEqProofs(disch:=omega)only[Nat.reduceEqDiff,↓reduceIte,vcu,↓vcd]
      refine (number_calls zn om9 T6).mono ?_
      rintro _ _ ⟨rfl,rfl⟩
      rename_i T6
      simp -implicitDefEqProofs(disch:=omega)only[Nat.reduceEqDiff,↓reduceIte,vcu,↓vcd,opK_some]
      have hzn:=decN_len zn
      refine⟨keep_of rfl (fun p hp=>by cases hp),?_⟩
      refine tree_quiets (fun _=>none) _ _ _ sf0 kr9 kr9 ?_
      have ha1:=abin_sadd (P:=Tryz.prog) (t:=9) (xs:=c) (ys:=decN zn) om9
      simp -implicitDefEqProofs(disch:=omega)only[Nat.reduceEqDiff,↓reduceIte,vcu,↓vcd,vcp,ha1]
      refine tree_stop ?_
      exact⟨by first|trivial|rfl,c++decN zn,by simp -implicitDefEqProofs(disch:=omega)only[Nat.reduceEqDiff,↓reduceIte,vcu,↓vcd],by simp;omega,d6⟩
     ·obtain⟨zn,rfl⟩:∃zn:Nat,z3=zn:=⟨z3.toNat,by omega⟩
      try simp -implicitDefEqProofs(disch:=omega)only[Nat.reduceEqDiff,↓reduceIte,vcu,↓vcd]
      refine (number_calls zn om9 T6).mono ?_
      rintro _ _ ⟨rfl,rfl⟩
      rename_i T6
      simp -implicitDefEqProofs(disch:=omega)only[Nat.reduceEqDiff,↓reduceIte,vcu,↓vcd,opK_some]
      have hzn:=decN_len zn
      refine⟨keep_of rfl (fun p hp=>by cases hp),?_⟩
      refine tree_one rfl ?_
      obtain⟨c,cl,hx⟩:=lit_len (M:=4) lit6 z2a (by simpa using z2b) (by decide)
      simp -implicitDefEqProofs(disch:=omega)only[Nat.reduceEqDiff,↓reduceIte,vcu,↓vcd,hx]
      clear hx
      refine⟨keep_of rfl (fun p hp=>by cases hp),?_⟩
      refine tree_quiets (fun _=>none) _ _ _ sf0 kr9 kr9 ?_
      have ha1:=abin_sadd (P:=Tryz.prog) (t:=9) (xs:=c) (ys:=decN zn) om9
      simp -implicitDefEqProofs(disch:=omega)only[Nat.reduceEqDiff,↓reduceIte,vcu,↓vcd,vcp,ha1]
      refine tree_stop ?_
      exact⟨by first|trivial|rfl,c++decN zn,by simp -implicitDefEqProofs(disch:=omega)only[Nat.reduceEqDiff,↓reduceIte,vcu,↓vcd],by simp;omega,d6⟩
   ·try simp -implicitDefEqProofs(disch:=omega)only[Nat.reduceEqDiff,↓reduceIte,vcu,↓vcd]
    refine (pick_at β τ2 g h o bs (p+1) 2 D0.rd om9 om9).mono ?_
    rintro _ T11 ⟨z2,rfl,z2a,z2b,hR,hK⟩
    have d11:=D0.step hR hK
    clear hR hK
    simp -implicitDefEqProofs(disch:=omega)only[Nat.reduceEqDiff,↓reduceIte,vcu,↓vcd,opK_some]
    refine⟨keep_of rfl (fun p hp=>by cases hp),?_⟩
    refine tree_two rfl rfl ?_ ?_
    ·refine r_lit el30 (out:=#[.string (tx [119,104,111,32]),.string (tx [118,105,97,32])]) (by first|kernel_rfl | (simp -implicitDefEqProofs(disch:=omega)only[Nat.reduceEqDiff,↓reduceIte,vcu,↓vcd];kernel_rfl)) kr9 fun ql T12 nq sq lit12=>?_
     replace lit12:T12 ql=some ⟨texts [[119,104,111,32],[118,105,97,32]],false⟩:=lit12
     have flit12:=d11.fresh nq
     have d12:=d11.new sq
     clear sq nq
     try simp -implicitDefEqProofs(disch:=omega)only[Nat.reduceEqDiff,↓reduceIte,vcu,↓vcd]
     refine⟨keep_of rfl (fun p hp=>by cases hp),?_⟩
     refine tree_quiets (fun _=>none) _ _ _ sf0 kr9 kr9 ?_
     simp -implicitDefEqProofs(disch:=omega)only[Nat.reduceEqDiff,↓reduceIte,vcu,↓vcd,vcp]
     refine tree_two rfl rfl ?_ ?_
     ·obtain⟨c,cl,hx⟩:=lit_len (M:=4) lit12 z2a (by simpa using z2b) (by decide)
      simp -implicitDefEqProofs(disch:=omega)only[Nat.reduceEqDiff,↓reduceIte,vcu,↓vcd,hx]
      clear hx
      refine⟨keep_of rfl (fun p hp=>by cases hp),?_⟩
      refine tree_one rfl ?_
      try simp -implicitDefEqProofs(disch:=omega)only[Nat.reduceEqDiff,↓reduceIte,vcu,↓vcd]
      refine (pick_at β T12 g h o bs (p+1+1) 12 d12.rd om9 om9).mono ?_
      rintro _ T14 ⟨z3,rfl,z3a,z3b,hR,hK⟩
      have d14:=d12.step hR hK
      have lit14:=hK.at lit12 flit12.2
      clear hR hK
      simp -implicitDefEqProofs(disch:=omega)only[Nat.reduceEqDiff,↓reduceIte,vcu,↓vcd,opK_some]
      refine⟨keep_of rfl (fun p hp=>by cases hp),?_⟩
      refine tree_one rfl ?_
      obtain⟨zn,rfl⟩:∃zn:Nat,z3=zn:=⟨z3.toNat,by omega⟩
      try simp -implicitDefEqProofs(disch:=omega)only[Nat.reduceEqDiff,↓reduceIte,vcu,↓vcd]
      refine (number_calls zn om9 T14).mono ?_
      rintro _ _ ⟨rfl,rfl⟩
      rename_i T14
      simp -implicitDefEqProofs(disch:=omega)only[Nat.reduceEqDiff,↓reduceIte,vcu,↓vcd,opK_some]
      have hzn:=decN_len zn
      refine⟨keep_of rfl (fun p hp=>by cases hp),?_⟩
      refine tree_quiets (fun _=>none) _ _ _ sf0 kr9 kr9 ?_
      have ha1:=abin_sadd (P:=Tryz.prog) (t:=9) (xs:=c) (ys:=decN zn) om9
      simp -implicitDefEqProofs(disch:=omega)only[Nat.reduceEqDiff,↓reduceIte,vcu,↓vcd,vcp,ha1]
      refine tree_stop ?_
      exact⟨by first|trivial|rfl,c++decN zn,by simp -implicitDefEqProofs(disch:=omega)only[Nat.reduceEqDiff,↓reduceIte,vcu,↓vcd],by simp;omega,d14⟩
     ·try simp -implicitDefEqProofs(disch:=omega)only[Nat.reduceEqDiff,↓reduceIte,vcu,↓vcd]
      refine (pick_at β T12 g h o bs (p+1+1) 12 d12.rd om9 om9).mono ?_
      rintro _ T16 ⟨z3,rfl,z3a,z3b,hR,hK⟩
      have d16:=d12.step hR hK
      have lit16:=hK.at lit12 flit12.2
      clear hR hK
      simp -implicitDefEqProofs(disch:=omega)only[Nat.reduceEqDiff,↓reduceIte,vcu,↓vcd,opK_some]
      refine⟨keep_of rfl (fun p hp=>by cases hp),?_⟩
      refine tree_two rfl rfl ?_ ?_
      ·obtain⟨c,cl,hx⟩:=lit_len (M:=4) lit16 z2a (by simpa using z2b) (by decide)
       simp -implicitDefEqProofs(disch:=omega)only[Nat.reduceEqDiff,↓reduceIte,vcu,↓vcd,hx]
       clear hx
       refine⟨keep_of rfl (fun p hp=>by cases hp),?_⟩
       refine tree_one rfl ?_
       obtain⟨zn,rfl⟩:∃zn:Nat,z3=zn:=⟨z3.toNat,by omega⟩
       try simp -implicitDefEqProofs(disch:=omega)only[Nat.reduceEqDiff,↓reduceIte,vcu,↓vcd]
       refine (number_calls zn om9 T16).mono ?_
       rintro _ _ ⟨rfl,rfl⟩
       rename_i T16
       simp -implicitDefEqProofs(disch:=omega)only[Nat.reduceEqDiff,↓reduceIte,vcu,↓vcd,opK_some]
       have hzn:=decN_len zn
       refine⟨keep_of rfl (fun p hp=>by cases hp),?_⟩
       refine tree_quiets (fun _=>none) _ _ _ sf0 kr9 kr9 ?_
       have ha1:=abin_sadd (P:=Tryz.prog) (t:=9) (xs:=c) (ys:=decN zn) om9
       simp -implicitDefEqProofs(disch:=omega)only[Nat.reduceEqDiff,↓reduceIte,vcu,↓vcd,vcp,ha1]
       refine tree_stop ?_
       exact⟨by first|trivial|rfl,c++decN zn,by simp -implicitDefEqProofs(disch:=omega)only[Nat.reduceEqDiff,↓reduceIte,vcu,↓vcd],by simp;omega,d16⟩
      ·obtain⟨zn,rfl⟩:∃zn:Nat,z3=zn:=⟨z3.toNat,by omega⟩
       try simp -implicitDefEqProofs(disch:=omega)only[Nat.reduceEqDiff,↓reduceIte,vcu,↓vcd]
       refine (number_calls zn om9 T16).mono ?_
       rintro _ _ ⟨rfl,rfl⟩
       rename_i T16
       simp -implicitDefEqProofs(disch:=omega)only[Nat.reduceEqDiff,↓reduceIte,vcu,↓vcd,opK_some]
       have hzn:=decN_len zn
       refine⟨keep_of rfl (fun p hp=>by cases hp),?_⟩
       refine tree_one rfl ?_
       obtain⟨c,cl,hx⟩:=lit_len (M:=4) lit16 z2a (by simpa using z2b) (by decide)
       simp -implicitDefEqProofs(disch:=omega)only[Nat.reduceEqDiff,↓reduceIte,vcu,↓vcd,hx]
       clear hx
       refine⟨keep_of rfl (fun p hp=>by cases hp),?_⟩
       refine tree_quiets (fun _=>none) _ _ _ sf0 kr9 kr9 ?_
       have ha1:=abin_sadd (P:=Tryz.prog) (t:=9) (xs:=c) (ys:=decN zn) om9
       simp -implicitDefEqProofs(disch:=omega)only[Nat.reduceEqDiff,↓reduceIte,vcu,↓vcd,vcp,ha1]
       refine tree_stop ?_
       exact⟨by first|trivial|rfl,c++decN zn,by simp -implicitDefEqProofs(disch:=omega)only[Nat.reduceEqDiff,↓reduceIte,vcu,↓vcd],by simp;omega,d16⟩
    ·try simp -implicitDefEqProofs(disch:=omega)only[Nat.reduceEqDiff,↓reduceIte,vcu,↓vcd]
     refine (pick_at β T11 g h o bs (p+1+1) 12 d11.rd om9 om9).mono ?_
     rintro _ T21 ⟨z3,rfl,z3a,z3b,hR,hK⟩
     have d21:=d11.step hR hK
     clear hR hK
     simp -implicitDefEqProofs(disch:=omega)only[Nat.reduceEqDiff,↓reduceIte,vcu,↓vcd,opK_some]
     refine⟨keep_of rfl (fun p hp=>by cases hp),?_⟩
     refine tree_two rfl rfl ?_ ?_
     ·refine r_lit el30 (out:=#[.string (tx [119,104,111,32]),.string (tx [118,105,97,32])]) (by first|kernel_rfl | (simp -implicitDefEqProofs(disch:=omega)only[Nat.reduceEqDiff,↓reduceIte,vcu,↓vcd];kernel_rfl)) kr9 fun ql T22 nq sq lit22=>?_
      replace lit22:T22 ql=some ⟨texts [[119,104,111,32],[118,105,97,32]],false⟩:=lit22
      have flit22:=d21.fresh nq
      have d22:=d21.new sq
      clear sq nq
      try simp -implicitDefEqProofs(disch:=omega)only[Nat.reduceEqDiff,↓reduceIte,vcu,↓vcd]
      refine⟨keep_of rfl (fun p hp=>by cases hp),?_⟩
      refine tree_quiets (fun _=>none) _ _ _ sf0 kr9 kr9 ?_
      simp -implicitDefEqProofs(disch:=omega)only[Nat.reduceEqDiff,↓reduceIte,vcu,↓vcd,vcp]
      refine tree_two rfl rfl ?_ ?_
      ·obtain⟨c,cl,hx⟩:=lit_len (M:=4) lit22 z2a (by simpa using z2b) (by decide)
       simp -implicitDefEqProofs(disch:=omega)only[Nat.reduceEqDiff,↓reduceIte,vcu,↓vcd,hx]
       clear hx
       refine⟨keep_of rfl (fun p hp=>by cases hp),?_⟩
       refine tree_one rfl ?_
       obtain⟨zn,rfl⟩:∃zn:Nat,z3=zn:=⟨z3.toNat,by omega⟩
       try simp -implicitDefEqProofs(disch:=omega)only[Nat.reduceEqDiff,↓reduceIte,vcu,↓vcd]
       refine (number_calls zn om9 T22).mono ?_
       rintro _ _ ⟨rfl,rfl⟩
       rename_i T22
       simp -implicitDefEqProofs(disch:=omega)only[Nat.reduceEqDiff,↓reduceIte,vcu,↓vcd,opK_some]
       have hzn:=decN_len zn
       refine⟨keep_of rfl (fun p hp=>by cases hp),?_⟩
       refine tree_quiets (fun _=>none) _ _ _ sf0 kr9 kr9 ?_
       have ha1:=abin_sadd (P:=Tryz.prog) (t:=9) (xs:=c) (ys:=decN zn) om9
       simp -implicitDefEqProofs(disch:=omega)only[Nat.reduceEqDiff,↓reduceIte,vcu,↓vcd,vcp,ha1]
       refine tree_stop ?_
       exact⟨by first|trivial|rfl,c++decN zn,by simp -implicitDefEqProofs(disch:=omega)only[Nat.reduceEqDiff,↓reduceIte,vcu,↓vcd],by simp;omega,d22⟩
      ·obtain⟨zn,rfl⟩:∃zn:Nat,z3=zn:=⟨z3.toNat,by omega⟩
       try simp -implicitDefEqProofs(disch:=omega)only[Nat.reduceEqDiff,↓reduceIte,vcu,↓vcd]
       refine (number_calls zn om9 T22).mono ?_
       rintro _ _ ⟨rfl,rfl⟩
       rename_i T22
       simp -implicitDefEqProofs(disch:=omega)only[Nat.reduceEqDiff,↓reduceIte,vcu,↓vcd,opK_some]
       have hzn:=decN_len zn
       refine⟨keep_of rfl (fun p hp=>by cases hp),?_⟩
       refine tree_one rfl ?_
       obtain⟨c,cl,hx⟩:=lit_len (M:=4) lit22 z2a (by simpa using z2b) (by decide)
       simp -implicitDefEqProofs(disch:=omega)only[Nat.reduceEqDiff,↓reduceIte,vcu,↓vcd,hx]
       clear hx
       refine⟨keep_of rfl (fun p hp=>by cases hp),?_⟩
       refine tree_quiets (fun _=>none) _ _ _ sf0 kr9 kr9 ?_
       have ha1:=abin_sadd (P:=Tryz.prog) (t:=9) (xs:=c) (ys:=decN zn) om9
       simp -implicitDefEqProofs(disch:=omega)only[Nat.reduceEqDiff,↓reduceIte,vcu,↓vcd,vcp,ha1]
       refine tree_stop ?_
       exact⟨by first|trivial|rfl,c++decN zn,by simp -implicitDefEqProofs(disch:=omega)only[Nat.reduceEqDiff,↓reduceIte,vcu,↓vcd],by simp;omega,d22⟩
     ·obtain⟨zn,rfl⟩:∃zn:Nat,z3=zn:=⟨z3.toNat,by omega⟩
      try simp -implicitDefEqProofs(disch:=omega)only[Nat.reduceEqDiff,↓reduceIte,vcu,↓vcd]
      refine (number_calls zn om9 T21).mono ?_
      rintro _ _ ⟨rfl,rfl⟩
      rename_i T21
      simp -implicitDefEqProofs(disch:=omega)only[Nat.reduceEqDiff,↓reduceIte,vcu,↓vcd,opK_some]
      have hzn:=decN_len zn
      refine⟨keep_of rfl (fun p hp=>by cases hp),?_⟩
      refine tree_one rfl ?_
      refine r_lit el30 (out:=#[.string (tx [119,104,111,32]),.string (tx [118,105,97,32])]) (by first|kernel_rfl | (simp -implicitDefEqProofs(disch:=omega)only[Nat.reduceEqDiff,↓reduceIte,vcu,↓vcd];kernel_rfl)) kr9 fun ql T28 nq sq lit28=>?_
      replace lit28:T28 ql=some ⟨texts [[119,104,111,32],[118,105,97,32]],false⟩:=lit28
      have flit28:=d21.fresh nq
      have d28:=d21.new sq
      clear sq nq
      try simp -implicitDefEqProofs(disch:=omega)only[Nat.reduceEqDiff,↓reduceIte,vcu,↓vcd]
      refine⟨keep_of rfl (fun p hp=>by cases hp),?_⟩
      refine tree_quiets (fun _=>none) _ _ _ sf0 kr9 kr9 ?_
      simp -implicitDefEqProofs(disch:=omega)only[Nat.reduceEqDiff,↓reduceIte,vcu,↓vcd,vcp]
      refine tree_one rfl ?_
      obtain⟨c,cl,hx⟩:=lit_len (M:=4) lit28 z2a (by simpa using z2b) (by decide)
      simp -implicitDefEqProofs(disch:=omega)only[Nat.reduceEqDiff,↓reduceIte,vcu,↓vcd,hx]
      clear hx
      refine⟨keep_of rfl (fun p hp=>by cases hp),?_⟩
      refine tree_quiets (fun _=>none) _ _ _ sf0 kr9 kr9 ?_
      have ha1:=abin_sadd (P:=Tryz.prog) (t:=9) (xs:=c) (ys:=decN zn) om9
      simp -implicitDefEqProofs(disch:=omega)only[Nat.reduceEqDiff,↓reduceIte,vcu,↓vcd,vcp,ha1]
      refine tree_stop ?_
      exact⟨by first|trivial|rfl,c++decN zn,by simp -implicitDefEqProofs(disch:=omega)only[Nat.reduceEqDiff,↓reduceIte,vcu,↓vcd],by simp;omega,d28⟩
  rintro _ a1 T1 ⟨rfl,t,h4,tl,D⟩
  simp -implicitDefEqProofs(disch:=omega)only[Nat.reduceEqDiff,↓reduceIte,vcu,↓vcd,h4]
  refine fin_one Tryz.results50 ⟨t,_,?_,tl,by omega,by omega,d2.on D⟩
  simp -implicitDefEqProofs(disch:=omega)only[Nat.reduceEqDiff,↓reduceIte,vcu,↓vcd,h4]
 have lb:lds τ2 hb 0 5=some (exC v1 v2 e):=by rw[lds_of eb (by simp [exC])];rfl
 have hdd:=deed_draw (w0:=w0) β τ2 g h o bs (p+1) v1 v2 e d2.rd om9 (x2.tx (by simp)) hs.1 (fun t ht=>by have:=hs.2.1 t ht;omega)
 unfold exC at lb
 unfold exV at hdd
 simp -implicitDefEqProofs(disch:=omega)only[Nat.reduceEqDiff,↓reduceIte,vcu,↓vcd,opK_some,lb,co33]
 refine hdd.mono ?_
 rintro _ τ3 ⟨d,p2,rfl,dt,dp1,dp2,DD⟩
 unfold ddA
 simp -implicitDefEqProofs(disch:=omega)only[Nat.reduceEqDiff,↓reduceIte,vcu,↓vcd,opK_some]
 refine (deedText_calls τ3 d om9).mono ?_
 rintro _ _ ⟨rfl,rfl⟩
 rename_i τ3
 simp -implicitDefEqProofs(disch:=omega)only[Nat.reduceEqDiff,↓reduceIte,vcu,↓vcd,opK_some]
 refine fin_one Tryz.results50 ⟨deedT d,p2,?_,deedT_len d,by omega,by omega,d2.on DD⟩
 simp -implicitDefEqProofs(disch:=omega)only[Nat.reduceEqDiff,↓reduceIte,vcu,↓vcd]
set_option maxHeartbeats 6400000
set_option maxRecDepth 16000 in
theorem drawES_at (σ:AHeap) (h o:Nat) (bs:List Int) (hv:IntsAt .u8 σ h o bs) (hl:bs.length≤1048576) (hb:∀b∈bs,0≤b∧b≤255) :
  ACall Tryz.prog w0 22 [.slice (some ⟨h,o,none⟩) bs.length 1] σ fun r σ'=>(∃(e:Ex) (v1 v2 vt:Value) (ts:List (List UInt8)),r=.tuple #[exV v1 v2 e,vt]∧ExV σ' (exV v1 v2 e) e∧XS e∧(∃q,vt=.slice (some ⟨q,0,none⟩) ts.length 1∧TextsAt σ' q 0 ts)∧ts.length≤41∧∀t∈ts,t.length≤120)∧Sub σ σ':=by
 refine acall_goc mixed Tryz.func22 rfl goodc22 fun pr=>?_
 simp -implicitDefEqProofs(disch:=omega)only[Nat.reduceEqDiff,↓reduceIte,vcu,↓vcd]
 refine r_new ze33 fun c2 τ1 n2 s1 e2=>?_
 replace e2:τ1 c2=some ⟨[.int .i64 0,.int .i64 0,.int .i64 0,.slice none 0 0,.slice none 0 0],false⟩:=e2
 simp -implicitDefEqProofs(disch:=omega)only[Nat.reduceEqDiff,↓reduceIte,vcu,↓vcd]
 refine (opened τ1 h o bs (hv.sub s1) hl hb).mono ?_
 rintro _ τ2 ⟨g,mm,rfl,hs2,hR⟩
 have g2:c2≠g:=ne_of' hR.free e2
 replace e2:=hs2 _ _ e2
 simp -implicitDefEqProofs(disch:=omega)only[Nat.reduceEqDiff,↓reduceIte,vcu,↓vcd,opK_some]
 refine (exch_draw τ1 τ2 g h o _ 0 12 hR om9 om9).mono ?_
 rintro _ τ3 ⟨e,v1,v2,p1,rfl,w,hs,p10,p11,D⟩
 have x3:ExR τ3 [c2,g] v1 v2 e:=w.r fun k hk hg hn=>by
  simp only[List.mem_cons,List.not_mem_nil,or_false] at hk
  rcases hk with rfl|rfl
  ·rw[e2] at hn;cases hn
  ·exact hg rfl
 replace e2:=D.kp.at e2 g2
 have hone:=w.one
 unfold exC at hone
 unfold exV
 simp -implicitDefEqProofs(disch:=omega)only[Nat.reduceEqDiff,↓reduceIte,vcu,↓vcd,opK_some]
 refine r_local (cs:=#[.int .i64 e.s.O,.int .i64 e.s.E,.int .i64 e.s.M,v1,v2]) ze33 (by decide) z9q (by rw[co33];rfl) rfl hone (Nat.zero_lt_succ _) fun c5 τ4 n5 s5 e5=>?_
 replace e5:τ4 c5=some ⟨exC v1 v2 e,false⟩:=e5
 have f5:=D.fresh n5
 have D4:=D.new s5
 have x4:=x3.sub s5
 have d25:c5≠c2:=ne_of n5 e2
 replace e2:=s5 _ _ e2
 have hc5:c5 ∉ ([c2,g]:List Nat):=by simp [d25,f5.2]
 have l5:lds (lessL τ4 [c2,g]) c5 0 5=some (exC v1 v2 e):=by rw[lds_of (by rw[lessL_at hc5];exact e5) (by simp [exC])];rfl
 have l5':lds τ4 c5 0 5=some (exC v1 v2 e):=by rw[lds_of e5 (by simp [exC])];rfl
 unfold exC at l5 l5'
 clear x3 s5 n5 D w
 simp -implicitDefEqProofs(disch:=omega)only[Nat.reduceEqDiff,↓reduceIte,vcu,↓vcd]
 have E4:=DS.start D4.rd
 refine r_lit el30 (out:=#[]) (by first|kernel_rfl | (simp -implicitDefEqProofs(disch:=omega)only[Nat.reduceEqDiff,↓reduceIte,vcu,↓vcd];kernel_rfl)) kr9 fun q0 τ5 n0 s5 v0=>?_
 replace v0:τ5 q0=some ⟨texts [],false⟩:=v0
 have f0:=E4.fresh n0
 have E5:=E4.new s5
 clear E4 s5 n0
 simp -implicitDefEqProofs(disch:=omega)only[Nat.reduceEqDiff,↓reduceIte,vcu,↓vcd]
 refine (pick_at τ1 τ5 g h o _ p1 12 E5.rd om9 om9).mono ?_
 rintro _ τ6 ⟨z,rfl,za,zb,hR6,hK⟩
 have E6:=E5.step hR6 hK
 replace v0:=hK.at v0 f0.2
 clear hR6 hK E5
 obtain⟨zt,rfl⟩:∃zt:Nat,z=zt:=⟨z.toNat,by omega⟩
 simp -implicitDefEqProofs(disch:=omega)only[Nat.reduceEqDiff,↓reduceIte,vcu,↓vcd,opK_some]
 refine vc_loop_c mixed kr9 [2,4,5] (fun m a T=>∃(ts:List (List UInt8)) (q:Nat) (p':Int),a 7=.int .i64 m∧a 6=.slice (some ⟨q,0,none⟩) ts.length 1∧T q=some ⟨texts ts,false⟩∧τ4 q=none∧q≠g∧ts.length+m≤11∧(∀t∈ts,t.length≤120)∧p1≤p'∧p'+20 * m≤p1+240∧DS τ1 τ4 T g h o (bs.take mm) p') zt ⟨[],q0,_,rfl,rfl,v0,f0.1,f0.2,by simp;omega,by simp,by omega,by omega,E6⟩ ?_
 clear E6 v0 f0 l5 l5'
 rintro m a T ha ⟨ts,q,p',h7,h6,vq,nq,gq,hl2,ht,p20,p21,E⟩
 simp -implicitDefEqProofs(disch:=omega)only[Nat.reduceEqDiff,↓reduceIte,vcu,↓vcd] at ha
 obtain⟨h2,h4,h5,-⟩:=ha
 have xT:=x4.step (l':=[c2,g]) (τ':=T) fun k ob hk he=>⟨hk,E.kp k ob (by rintro rfl;simp at hk) he⟩
 have e5T:=E.kp c5 _ f5.2 e5
 have e2T:=E.kp c2 _ g2 e2
 have l5:lds T c5 0 5=some (exC v1 v2 e):=by rw[lds_of e5T (by simp [exC])];rfl
 unfold exC at l5
 by_cases hlt:0 < m
 ·have hcall:=line_draw (w0:=w0) τ1 T g h o _ p' v1 v2 e E.rd om9 (xT.drop fun k hk=>by rw[List.mem_singleton.1 hk];simp) hs
  unfold exV at hcall
  simp -implicitDefEqProofs(disch:=omega)only[Nat.reduceEqDiff,↓reduceIte,vcu,↓vcd,h2,h4,h5,h6,h7,l5,co33]
  refine hcall.mono ?_
  rintro _ T5 ⟨t,p5,rfl,tl,p50,p51,DD⟩
  have E5:=E.on DD
  have vq5:=DD.kp.at vq gq
  simp -implicitDefEqProofs(disch:=omega)only[Nat.reduceEqDiff,↓reduceIte,vcu,↓vcd,opK_some,h2,h4,h5,h6,h7]
  refine r_lit el30 (out:=#[.string (tx t)]) (by simp -implicitDefEqProofs(disch:=omega)only[Nat.reduceEqDiff,↓reduceIte,vcu,↓vcd];kernel_rfl) kr9 fun e6 T6 n6 s6 v6=>?_
  replace v6:T6 e6=some ⟨texts [t],false⟩:=v6
  have E6:=E5.new s6
  refine r_pushX (g:=q) (e:=e6) (o:=0) (xs:=ts) (ys:=[t]) (m:=1) (len:=ts.length) el30 om9 sl30 (by simp -implicitDefEqProofs(disch:=omega)only[Nat.reduceEqDiff,↓reduceIte,vcu,↓vcd,h6]) (s6 _ _ vq5) rfl z9q (textsAt_own v6) rfl om9 fun q7 T7 n7 k7 v7=>?_
  have E7:=E6.put k7 gq nq
  have f7:=E6.fresh n7
  simp -implicitDefEqProofs(disch:=omega)only[Nat.reduceEqDiff,↓reduceIte,vcu,↓vcd,h2,h4,h5,h7]
  refine⟨by simp [h2,h4,h5],m - 1,by omega,ts++[t],q7,p5,by congr 1;omega,by simp,v7,f7.1,f7.2,by simp;omega,fun y hy=>?_,by omega,by omega,E7⟩
  rcases List.mem_append.1 hy with hh|hh
  ·exact ht y hh
  ·rw[List.mem_singleton.1 hh];exact tl
 simp -implicitDefEqProofs(disch:=omega)only[Nat.reduceEqDiff,↓reduceIte,vcu,↓vcd,h2,h4,h5,h6,h7]
 refine (odd_at τ1 T g h o _ p' 30 E.rd om9 om9).mono ?_
 rintro _ T5 ⟨b,rfl,hR5,hK⟩
 have E5:=E.step hR5 hK
 have x5:=xT.kept hK (by simp)
 replace vq:=hK.at vq gq
 have e55:=hK.at e5T f5.2
 have e25:=hK.at e2T g2
 have dq2:q≠c2:=ne_of nq e2
 clear hR5 hK E xT e5T e2T l5
 cases b with
 | false =>
  have l5:lds T5 c5 0 5=some (exC v1 v2 e):=by rw[lds_of e55 (by simp [exC])];rfl
  unfold exC at l5
  simp -implicitDefEqProofs(disch:=omega)only[Nat.reduceEqDiff,↓reduceIte,vcu,↓vcd,opK_some,h2,h4,h5,h6,l5,co33]
  refine r_sets (g:=c2) (i:=0) (C:=[.int .i64 0,.int .i64 0,.int .i64 0,.slice none 0 0,.slice none 0 0]) (by simp -implicitDefEqProofs(disch:=omega)only[Nat.reduceEqDiff,↓reduceIte,vcu,↓vcd,h2]) z9co33 (by simp -implicitDefEqProofs(disch:=omega)only[Nat.reduceEqDiff,↓reduceIte,vcu,↓vcd];exact hone) z9z e25 z9l fun T9 k9 e9=>?_
  replace e9:T9 c2=some ⟨exC v1 v2 e,false⟩:=e9
  have x9:=x5.kept k9 (by simp)
  have S9:Sub σ T9:=k9.sub (s1.trans E5.rd.sub) n2
  have l9:lds T9 c2 0 5=some (exC v1 v2 e):=by rw[lds_of e9 (by simp [exC])];rfl
  unfold exC at l9
  have vq9:=k9.at vq dq2
  simp -implicitDefEqProofs(disch:=omega)only[Nat.reduceEqDiff,↓reduceIte,vcu,↓vcd,h2,h6]
  refine fin_ct8 Tryz.results22 T9 (Sub.refl _) (v:=exV v1 v2 e) (by simp -implicitDefEqProofs(disch:=omega)only[Nat.reduceEqDiff,↓reduceIte,vcu,↓vcd,h2,l9,co33];rfl) ⟨⟨e,v1,v2,.slice (some ⟨q,0,none⟩) ts.length 1,ts,by simp -implicitDefEqProofs(disch:=omega)only[Nat.reduceEqDiff,↓reduceIte,vcu,↓vcd,h6];rfl,x9.ex,hs,⟨q,rfl,textsAt_own vq9⟩,by omega,ht⟩,S9⟩
 | true =>
  simp -implicitDefEqProofs(disch:=omega)only[Nat.reduceEqDiff,↓reduceIte,vcu,↓vcd,opK_some,h2,h4,h5,h6]
  refine r_makeX (kx:=.i64) (ky:=.i64) (l:=41) (c:=41) el30 om9 z9r z9r om9 fun q8 T6 n8 s8 v8=>?_
  have E6:=E5.new s8
  have x6:=x5.sub s8
  have e56:=s8 _ _ e55
  have d82:q8≠c2:=ne_of n8 e25
  replace e25:=s8 _ _ e25
  have l5:lds T6 c5 0 5=some (exC v1 v2 e):=by rw[lds_of e56 (by simp [exC])];rfl
  unfold exC at l5
  simp -implicitDefEqProofs(disch:=omega)only[Nat.reduceEqDiff,↓reduceIte,vcu,↓vcd,h2,h4,h5,l5,co33]
  refine r_sets (g:=c2) (i:=0) (C:=[.int .i64 0,.int .i64 0,.int .i64 0,.slice none 0 0,.slice none 0 0]) (by simp -implicitDefEqProofs(disch:=omega)only[Nat.reduceEqDiff,↓reduceIte,vcu,↓vcd,h2]) z9co33 (by simp -implicitDefEqProofs(disch:=omega)only[Nat.reduceEqDiff,↓reduceIte,vcu,↓vcd];exact hone) z9z e25 z9l fun T9 k9 e9=>?_
  replace e9:T9 c2=some ⟨exC v1 v2 e,false⟩:=e9
  have x9:=x6.kept k9 (by simp)
  have S9:Sub σ T9:=k9.sub (s1.trans E6.rd.sub) n2
  have l9:lds T9 c2 0 5=some (exC v1 v2 e):=by rw[lds_of e9 (by simp [exC])];rfl
  unfold exC at l9
  have vq9:=k9.at v8 d82
  simp -implicitDefEqProofs(disch:=omega)only[Nat.reduceEqDiff,↓reduceIte,vcu,↓vcd,h2]
  refine fin_ct8 Tryz.results22 T9 (Sub.refl _) (v:=exV v1 v2 e) (by simp -implicitDefEqProofs(disch:=omega)only[Nat.reduceEqDiff,↓reduceIte,vcu,↓vcd,h2,l9,co33];rfl) ⟨⟨e,v1,v2,.slice (some ⟨q8,0,none⟩) (List.replicate 41 ([]:List UInt8)).length 1,List.replicate 41 [],by simp -implicitDefEqProofs(disch:=omega)only[Nat.reduceEqDiff,↓reduceIte,vcu,↓vcd];rfl,x9.ex,hs,⟨q8,rfl,textsAt_own vq9⟩,by simp,fun t ht=>by rw[List.eq_of_mem_replicate ht];simp⟩,S9⟩
set_option maxHeartbeats 6400000
set_option maxRecDepth 8000 in
theorem flat_sp (A B C D E F:Int):flatEq Tryz.prog 29 #[.int .i64 A,.int .i64 B,.int .i64 C] #[.int .i64 D,.int .i64 E,.int .i64 F]=some ((A == D) && ((B == E) && ((C == F) && true))):=by kernel_rfl
set_option maxRecDepth 8000 in
theorem eql_sp (A B C D E F:Int):abin Tryz.prog 29 .eql (.agg #[.int .i64 A,.int .i64 B,.int .i64 C]) (.agg #[.int .i64 D,.int .i64 E,.int .i64 F])=some (.bool (decide ((⟨A,B,C⟩:Sp)=⟨D,E,F⟩))):=by
 show (flatEq Tryz.prog 29 #[.int .i64 A,.int .i64 B,.int .i64 C] #[.int .i64 D,.int .i64 E,.int .i64 F]).map _=_
 rw[flat_sp]
 simp only[Option.map_some,Sp.mk.injEq]
 congr 2
 by_cases h1:A=D
 ·by_cases h2:B=E
  ·by_cases h3:C=F<;>simp [h1,h2,h3]
  ·simp [h1,h2]
 ·simp [h1]
set_option maxRecDepth 8000 in
theorem sameEx_calls (σ:AHeap) (v w:Value) (e f:Ex) (hv:ExV σ v e) (hw:ExV σ w f) (hb:ExB e) (hb2:ExB f) :
  ACall Tryz.prog w0 16 [v,w] σ fun r σ'=>r=.bool (decide (e=f))∧σ'=σ:=by
 obtain⟨⟨A,B,C⟩,ps,cs⟩:=e
 obtain⟨⟨A',B',C'⟩,qs,ds⟩:=f
 obtain⟨v1,v2,rfl,t1,t2⟩:=hv
 obtain⟨w1,w2,rfl,u1,u2⟩:=hw
 obtain⟨b1,b2,b3⟩:=hb
 obtain⟨c1,c2,c3⟩:=hb2
 dsimp only at t1 t2 u1 u2 b1 b2 b3 c1 c2 c3
 unfold exV
 refine acall_go mixed Tryz.func16 rfl good16 fun pr=>?_
 simp -implicitDefEqProofs(disch:=omega)only[Nat.reduceEqDiff,↓reduceIte,vcu,↓vcd]
 refine r_boxed fun h1 τ1 n1 s1 e1=>?_
 replace e1:τ1 h1=some ⟨[.int .i64 A,.int .i64 B,.int .i64 C,v1,v2],false⟩:=e1
 refine r_boxed fun h2 τ2 n2 s2 e2=>?_
 replace e2:τ2 h2=some ⟨[.int .i64 A',.int .i64 B',.int .i64 C',w1,w2],false⟩:=by rw[e2];simp -implicitDefEqProofs(disch:=omega)only[Nat.reduceEqDiff,↓reduceIte,vcu,↓vcd];rfl
 have s12:=s1.trans s2
 replace e1:=s2 _ _ e1
 have x0:lds τ2 h1 0 3=some [.int .i64 A,.int .i64 B,.int .i64 C]:=lds_three (ld_of e1 rfl) (ld_of e1 rfl) (ld_of e1 rfl)
 have x3:ld τ2 h1 (0+3)=some v1:=ld_of e1 rfl
 have x4:ld τ2 h1 (0+4)=some v2:=ld_of e1 rfl
 have y0:lds τ2 h2 0 3=some [.int .i64 A',.int .i64 B',.int .i64 C']:=lds_three (ld_of e2 rfl) (ld_of e2 rfl) (ld_of e2 rfl)
 have y3:ld τ2 h2 (0+3)=some w1:=ld_of e2 rfl
 have y4:ld τ2 h2 (0+4)=some w2:=ld_of e2 rfl
 have hq:=eql_sp A B C A' B' C'
 by_cases hS:(⟨A,B,C⟩:Sp)=⟨A',B',C'⟩
 case neg =>
  rw[decide_eq_false hS] at hq
  simp -implicitDefEqProofs(disch:=omega)only[Nat.reduceEqDiff,↓reduceIte,vcu,↓vcd,x0,y0,hq,co29,Nat.add_zero]
  refine fin_drop Tryz.results16 σ s12 ⟨?_,rfl⟩
  simp -implicitDefEqProofs(disch:=omega)only[Nat.reduceEqDiff,↓reduceIte,vcu,↓vcd]
  rw[decide_eq_false fun h=>hS (by injection h)]
 rw[decide_eq_true hS] at hq
 simp -implicitDefEqProofs(disch:=omega)only[Nat.reduceEqDiff,↓reduceIte,vcu,↓vcd,x0,y0,hq,x3,y3,co29,Nat.add_zero]
 refine (sameS_calls τ2 v1 w1 ps qs (t1.sub s12) (u1.sub s12) b1 c1).mono ?_
 rintro _ _ ⟨rfl,rfl⟩
 rename_i τ2
 by_cases hP:ps=qs
 case neg =>
  rw[decide_eq_false hP]
  simp -implicitDefEqProofs(disch:=omega)only[Nat.reduceEqDiff,↓reduceIte,vcu,↓vcd,opK_some]
  refine fin_drop Tryz.results16 σ s12 ⟨?_,rfl⟩
  simp -implicitDefEqProofs(disch:=omega)only[Nat.reduceEqDiff,↓reduceIte,vcu,↓vcd]
  rw[decide_eq_false fun h=>hP (by injection h)]
 rw[decide_eq_true hP]
 simp -implicitDefEqProofs(disch:=omega)only[Nat.reduceEqDiff,↓reduceIte,vcu,↓vcd,opK_some,x4,y4]
 refine (sameCl_calls τ2 v2 w2 cs ds (t2.sub s12) (u2.sub s12) b3 c3).mono ?_
 rintro _ _ ⟨rfl,rfl⟩
 rename_i τ2
 simp -implicitDefEqProofs(disch:=omega)only[Nat.reduceEqDiff,↓reduceIte,vcu,↓vcd,opK_some]
 refine fin_drop Tryz.results16 σ s12 ⟨?_,rfl⟩
 simp -implicitDefEqProofs(disch:=omega)only[Nat.reduceEqDiff,↓reduceIte,vcu,↓vcd]
 by_cases hC:cs=ds
 ·rw[decide_eq_true hC,decide_eq_true (by rw[hS,hP,hC])]
 ·rw[decide_eq_false hC,decide_eq_false fun h=>hC (by injection h)]
set_option maxRecDepth 8000 in
theorem noEx_calls (σ:AHeap) (v:Value) (e:Ex) (hv:ExV σ v e) (hb:ExB e) :
  ACall Tryz.prog w0 20 [v] σ fun r σ'=>r=.bool (decide (e=ex0))∧σ'=σ:=by
 have hh:=fun τ (hs:Sub σ τ)=>sameEx_calls (w0:=w0) τ v (exV (.slice none 0 0) (.slice none 0 0) ex0) e ex0 (hv.sub hs) ⟨_,_,rfl,.inl ⟨rfl,rfl⟩,.inl ⟨rfl,rfl⟩⟩ hb exB_0
 obtain⟨v1,v2,rfl,t1,t2⟩:=hv
 unfold exV at hh ⊢
 refine acall_go mixed Tryz.func20 rfl good20 fun pr=>?_
 simp -implicitDefEqProofs(disch:=omega)only[Nat.reduceEqDiff,↓reduceIte,vcu,↓vcd]
 refine r_boxed fun h1 τ1 n1 s1 e1=>?_
 replace e1:τ1 h1=some ⟨exC v1 v2 e,false⟩:=e1
 have l1:lds τ1 h1 0 5=some (exC v1 v2 e):=by rw[lds_of e1 (by simp [exC])];rfl
 unfold exC at l1
 simp -implicitDefEqProofs(disch:=omega)only[Nat.reduceEqDiff,↓reduceIte,vcu,↓vcd,l1,co33]
 rw[r_build]
 refine⟨(_,#[.int .i64 0,.int .i64 0,.int .i64 0,.slice none 0 0,.slice none 0 0]),⟨ze33,by first|kernel_rfl | (simp -implicitDefEqProofs(disch:=omega)only[Nat.reduceEqDiff,↓reduceIte,vcu,↓vcd];kernel_rfl)⟩,?_⟩
 simp -implicitDefEqProofs(disch:=omega)only[Nat.reduceEqDiff,↓reduceIte,vcu,↓vcd]
 refine (hh τ1 s1).mono ?_
 rintro _ _ ⟨rfl,rfl⟩
 rename_i τ1
 simp -implicitDefEqProofs(disch:=omega)only[Nat.reduceEqDiff,↓reduceIte,vcu,↓vcd,opK_some]
 refine fin_drop Tryz.results20 σ s1 ⟨?_,rfl⟩
 simp -implicitDefEqProofs(disch:=omega)only[Nat.reduceEqDiff,↓reduceIte,vcu,↓vcd]
theorem exV_in {σ:AHeap} {v1 v2:Value} {e:Ex} (h:ExV σ (exV v1 v2 e) e):Texts σ v1 e.ps∧Tris σ v2 e.cs:=by
 obtain⟨w1,w2,h1,h2,h3⟩:=h
 unfold exV at h1
 cases h1
 exact⟨h2,h3⟩
theorem cells_one {σ τ:AHeap} {v1 v2:Value} {e:Ex} (h1:Texts σ v1 e.ps) (h2:Tris τ v2 e.cs):([.int .i64 e.s.O,.int .i64 e.s.E,.int .i64 e.s.M,v1,v2]:List Value).all Value.oneCell'=true:=by
 have a:=(texts_cellV h1).2
 have b:=(tris_cellV h2).2
 simp only[List.all_cons,List.all_nil,a,b]
 rfl
theorem lines_parts {e f:Ex} {ts ws:List (List UInt8)} (ho:ExOk e) (h40:ts.length≤40) (H:Nat) (hf:(exLines e ts).1=f) (hw:(exLines e ts).2=ws) :
  ∃(x1:Ex) (a1:List (List UInt8)) (x2:Ex) (a2:List (List UInt8)),exLines e (ts.take H)=(x1,a1)∧exLines x1 (ts.drop H)=(x2,a2)∧ExOk x1∧x2=f∧ExOk f∧(∀a∈ws,a≠[])∧a1++a2=ws∧ws.length=ts.length∧a1.length≤40∧a2.length≤40:=by
 have e1:exLines e (ts.take H)=linesN e (ts.take H):=if_pos ⟨ho,by rw[List.length_take];omega⟩
 have e0:exLines e ts=linesN e ts:=if_pos ⟨ho,h40⟩
 have h1:=linesN_ok (ts.take H) ho
 have h0:=linesN_ok ts ho
 have e2:exLines (linesN e (ts.take H)).1 (ts.drop H)=linesN (linesN e (ts.take H)).1 (ts.drop H):=if_pos ⟨h1.1,by rw[List.length_drop];omega⟩
 have h2:=linesN_ok (ts.drop H) h1.1
 have ha:=linesN_app (ts.take H) (ts.drop H) e
 rw[List.take_append_drop] at ha
 rw[e0] at hf hw
 refine⟨_,_,_,_,e1,e2,h1.1,?_,?_,?_,?_,?_,?_,?_⟩
 ·rw[←hf,ha]
 ·rw[←hf];exact h0.1
 ·rw[←hw];exact h0.2.2
 ·rw[←hw,ha]
 ·rw[←hw];exact h0.2.1
 ·rw[h1.2.1,List.length_take];omega
 ·rw[h2.2.1,List.length_drop];omega
end Go.Proofs.YtofdnmlpfagibaaGreatDoor
namespace Go.Proofs.YtofdnmlpfagibaaGreatDoor
open Go Go.Abs Go.RowKit Go.Dial
variable {w0:World}
theorem prefix0_calls (σ:AHeap) (s t:List UInt8):ACall Tryz.prog w0 122 [.string (tx s),.string (tx t)] σ fun r σ'=>r=.bool (decide (Beg s t))∧σ'=σ:=by
 refine acall_go mixed Tryz.func122 rfl good122 fun pr=>?_
 by_cases h:t.length≤s.length
 ·simp -implicitDefEqProofs(disch:=omega)only[Nat.reduceEqDiff,↓reduceIte,vcu,↓vcd]
  refine fin_one Tryz.results122 ⟨?_,rfl⟩
  simp -implicitDefEqProofs(disch:=omega)only[Nat.reduceEqDiff,↓reduceIte,vcu,↓vcd]
  simp [Beg,h]
 ·simp -implicitDefEqProofs(disch:=omega)only[Nat.reduceEqDiff,↓reduceIte,vcu,↓vcd]
  refine fin_one Tryz.results122 ⟨?_,rfl⟩
  simp -implicitDefEqProofs(disch:=omega)only[Nat.reduceEqDiff,↓reduceIte,vcu,↓vcd]
  simp [Beg,h]
theorem prefix_calls (σ:AHeap) (s t:List UInt8):ACall Tryz.prog w0 98 [.string (tx s),.string (tx t)] σ fun r σ'=>r=.bool (decide (Beg s t))∧σ'=σ:=by
 refine acall_go mixed Tryz.func98 rfl good98 fun pr=>?_
 simp -implicitDefEqProofs(disch:=omega)only[Nat.reduceEqDiff,↓reduceIte,vcu,↓vcd]
 refine (prefix0_calls _ _ _).mono ?_
 rintro r τ ⟨rfl,rfl⟩
 simp -implicitDefEqProofs(disch:=omega)only[Nat.reduceEqDiff,↓reduceIte,vcu,↓vcd,opK_some]
 refine fin_one Tryz.results98 ⟨?_,rfl⟩
 simp -implicitDefEqProofs(disch:=omega)only[Nat.reduceEqDiff,↓reduceIte,vcu,↓vcd]
theorem abin_uge {t:TypeId} {a b:Int}:abin Tryz.prog t .geq (.int .u8 a) (.int .u8 b)=some (.bool (decide (a ≥ b))):=by simp [abin]
theorem implDg_calls (σ:AHeap) (xs:List UInt8) (hl:xs.length≤1048576):ACall Tryz.prog w0 88 [.string (tx xs)] σ fun r σ'=>r=.bool (decide (DgT xs))∧σ'=σ:=by
 refine acall_go mixed Tryz.func88 rfl good88 fun pr=>?_
 simp -implicitDefEqProofs(disch:=omega)only[Nat.reduceEqDiff,↓reduceIte,vcu,↓vcd]
 refine vc_loop_c mixed kr9 [0,5] (fun m a σ'=>∃k:Nat,m+k=xs.length∧a 6=.int .i64 k∧(∀j,j < k→48≤(xs.getD j 0).toNat∧(xs.getD j 0).toNat≤51)∧σ'=σ) xs.length ⟨0,by simp,rfl,fun j hj=>absurd hj om9,rfl⟩ ?_
 rintro m a σ' hc ⟨k,hk,h6,hd,rfl⟩
 simp -implicitDefEqProofs(disch:=omega)only[Nat.reduceEqDiff,↓reduceIte,vcu,↓vcd] at hc
 obtain⟨h0,h5,-⟩:=hc
 by_cases hlt:k < xs.length
 ·have hb:=u8_le (xs.getD k 0)
  by_cases hlo:((xs.getD k 0).toNat:Int) < 48
  ·have hn:¬DgT xs:=fun h=>by have:=h.at hlt;omega
   simp -implicitDefEqProofs(disch:=omega)only[Nat.reduceEqDiff,↓reduceIte,vcu,↓vcd,h0,h5,h6,abin_ulss,abin_uge]
   refine fin_one Tryz.results88 ⟨?_,rfl⟩
   simp -implicitDefEqProofs(disch:=omega)only[Nat.reduceEqDiff,↓reduceIte,vcu,↓vcd]
   simp [hn]
  ·by_cases hhi:((xs.getD k 0).toNat:Int) ≥ 52
   ·have hn:¬DgT xs:=fun h=>by have:=h.at hlt;omega
    simp -implicitDefEqProofs(disch:=omega)only[Nat.reduceEqDiff,↓reduceIte,vcu,↓vcd,h0,h5,h6,abin_ulss,abin_uge]
    refine fin_one Tryz.results88 ⟨?_,rfl⟩
    simp -implicitDefEqProofs(disch:=omega)only[Nat.reduceEqDiff,↓reduceIte,vcu,↓vcd]
    simp [hn]
   ·simp -implicitDefEqProofs(disch:=omega)only[Nat.reduceEqDiff,↓reduceIte,vcu,↓vcd,h0,h5,h6,abin_ulss,abin_uge]
    refine⟨⟨trivial,trivial,trivial⟩,m - 1,by omega,k+1,by omega,by simp,fun j hj=>?_,trivial⟩
    by_cases hjk:j=k
    ·subst hjk;exact⟨by omega,by omega⟩
    ·exact hd j om9
 ·simp -implicitDefEqProofs(disch:=omega)only[Nat.reduceEqDiff,↓reduceIte,vcu,↓vcd,h0,h5,h6]
  have e:k=xs.length:=by omega
  refine fin_one Tryz.results88 ⟨?_,rfl⟩
  simp -implicitDefEqProofs(disch:=omega)only[Nat.reduceEqDiff,↓reduceIte,vcu,↓vcd]
  subst e
  simp [dgT_of hd]
theorem implPV_at (σ:AHeap) (h o:Nat) (ps:List (List UInt8)) (hv:TextsAt σ h o ps) (hl:ps.length≤1048576) (hp:∀x∈ps,x.length≤1048576) :
  ACall Tryz.prog w0 62 [.slice (some ⟨h,o,none⟩) ps.length 1] σ fun r σ'=>r=.bool (decide (PlanOk ps))∧σ'=σ:=by
 refine acall_go mixed Tryz.func62 rfl good62 fun pr=>?_
 by_cases hbig:10 < ps.length
 ·simp -implicitDefEqProofs(disch:=omega)only[Nat.reduceEqDiff,↓reduceIte,vcu,↓vcd]
  refine fin_one Tryz.results62 ⟨?_,rfl⟩
  simp -implicitDefEqProofs(disch:=omega)only[Nat.reduceEqDiff,↓reduceIte,vcu,↓vcd]
  have:¬PlanOk ps:=fun h=>by have:=h.2;omega
  simp [this]
 simp -implicitDefEqProofs(disch:=omega)only[Nat.reduceEqDiff,↓reduceIte,vcu,↓vcd]
 refine vc_loop_c mixed kr9 [10,11] (fun m a σ'=>∃k:Nat,m+k=ps.length∧a 12=.int .i64 k∧a 0=.slice (some ⟨h,o,none⟩) ps.length 1∧(∀j,j < k→PRow ps j)∧σ'=σ) ps.length ⟨0,by simp,rfl,rfl,fun j hj=>absurd hj om9,rfl⟩ ?_
 rintro m a σ' hc ⟨k,hk,h12,h0,hall,rfl⟩
 simp -implicitDefEqProofs(disch:=omega)only[Nat.reduceEqDiff,↓reduceIte,vcu,↓vcd] at hc
 obtain⟨h10,h11,-⟩:=hc
 by_cases hlt:k < ps.length
 case neg =>
  simp -implicitDefEqProofs(disch:=omega)only[Nat.reduceEqDiff,↓reduceIte,vcu,↓vcd,h10,h11,h12,h0]
  refine fin_one Tryz.results62 ⟨?_,rfl⟩
  simp -implicitDefEqProofs(disch:=omega)only[Nat.reduceEqDiff,↓reduceIte,vcu,↓vcd]
  have:PlanOk ps:=⟨fun j hj=>hall j om9,by omega⟩
  simp [this]
 have hx:=hv k hlt
 have hmem:ps.getD k []∈ps:=by simp [List.getD,hlt]
 have hb:=hp _ hmem
 have stop:∀{P:Prop},(PRow ps k→P)→¬P→¬PlanOk ps:=fun h1 h2 h3=>h2 (h1 (h3.1 k hlt))
 by_cases hnil:ps.getD k []=[]
 ·have dn:decide (ps.getD k []=[])=true:=decide_eq_true hnil
  simp -implicitDefEqProofs(disch:=omega)only[Nat.reduceEqDiff,↓reduceIte,vcu,↓vcd,h10,h11,h12,h0,hx,tx_nil,abin_seql,dn]
  refine fin_one Tryz.results62 ⟨?_,rfl⟩
  simp -implicitDefEqProofs(disch:=omega)only[Nat.reduceEqDiff,↓reduceIte,vcu,↓vcd]
  simp [stop (fun h=>h.2.1.1) (by rw[hnil];simp)]
 have dn:decide (ps.getD k []=[])=false:=decide_eq_false hnil
 have hpos:1≤(ps.getD k []).length:=by
  rcases Nat.eq_zero_or_pos (ps.getD k []).length with h|h
  ·exact absurd (List.eq_nil_of_length_eq_zero h) hnil
  ·exact h
 by_cases hlg:3 < (ps.getD k []).length
 ·simp -implicitDefEqProofs(disch:=omega)only[Nat.reduceEqDiff,↓reduceIte,vcu,↓vcd,h10,h11,h12,h0,hx,tx_nil,abin_seql,dn]
  refine fin_one Tryz.results62 ⟨?_,rfl⟩
  simp -implicitDefEqProofs(disch:=omega)only[Nat.reduceEqDiff,↓reduceIte,vcu,↓vcd]
  simp [stop (fun h=>h.2.1.2) om9]
 by_cases hd:DgT (ps.getD k [])
 case neg =>
  have d1:decide (DgT (ps.getD k []))=false:=decide_eq_false hd
  simp -implicitDefEqProofs(disch:=omega)only[Nat.reduceEqDiff,↓reduceIte,vcu,↓vcd,h10,h11,h12,h0,hx,tx_nil,abin_seql,dn]
  refine (implDg_calls _ _ hb).mono ?_
  rintro r τ ⟨rfl,rfl⟩
  simp -implicitDefEqProofs(disch:=omega)only[Nat.reduceEqDiff,↓reduceIte,vcu,↓vcd,opK_some,h10,h11,h12,h0,hx,d1]
  refine fin_one Tryz.results62 ⟨?_,rfl⟩
  simp -implicitDefEqProofs(disch:=omega)only[Nat.reduceEqDiff,↓reduceIte,vcu,↓vcd]
  simp [stop (fun h=>h.1) hd]
 have d1:decide (DgT (ps.getD k []))=true:=decide_eq_true hd
 simp -implicitDefEqProofs(disch:=omega)only[Nat.reduceEqDiff,↓reduceIte,vcu,↓vcd,h10,h11,h12,h0,hx,tx_nil,abin_seql,dn]
 refine (implDg_calls _ _ hb).mono ?_
 rintro r τ ⟨rfl,rfl⟩
 simp -implicitDefEqProofs(disch:=omega)only[Nat.reduceEqDiff,↓reduceIte,vcu,↓vcd,opK_some,h10,h11,h12,h0,hx,d1]
 refine vc_loop_c mixed kr9 [10,11,12,0,3,4,29,30] (fun m a σ'=>∃j:Nat,m+j=ps.length∧a 31=.int .i64 j∧(∀i,i < j→i≠k→¬Beg (ps.getD k []) (ps.getD i []))∧σ'=τ) ps.length ⟨0,by simp,rfl,fun j hj=>absurd hj om9,rfl⟩ ?_
 rintro m2 a2 σ2 hc2 ⟨j,hj,h31,hin,rfl⟩
 simp -implicitDefEqProofs(disch:=omega)only[Nat.reduceEqDiff,↓reduceIte,vcu,↓vcd,h10,h11,h12,h0] at hc2
 obtain⟨g10,g11,g12,g0,g3,g4,g29,g30,-⟩:=hc2
 by_cases hjl:j < ps.length
 case neg =>
  simp -implicitDefEqProofs(disch:=omega)only[Nat.reduceEqDiff,↓reduceIte,vcu,↓vcd,g10,g11,g12,g0,g3,g4,g29,g30,h31]
  refine⟨⟨by first|trivial|exact h10.symm,by first|trivial|exact h11.symm,trivial⟩,m - 1,by omega,k+1,by omega,by simp,by first|rfl|trivial|exact g0,fun i hi=>?_,trivial⟩
  by_cases e:i=k
  ·subst e;exact⟨hd,⟨hpos,by omega⟩,fun i' h1 h2=>hin i' om9 h2⟩
  ·exact hall i om9
 have hy:=hv j hjl
 by_cases hjk:j=k
 ·subst hjk
  simp -implicitDefEqProofs(disch:=omega)only[Nat.reduceEqDiff,↓reduceIte,vcu,↓vcd,g10,g11,g12,g0,g3,g4,g29,g30,h31,hx,hy]
  refine⟨⟨?_,?_,?_,?_,?_,?_,?_,?_,trivial⟩,m2 - 1,by omega,j+1,by omega,by simp,fun i hi hne=>hin i om9 hne,trivial⟩<;>first|trivial|exact h10.symm|exact h11.symm|exact h12.symm|exact h0.symm
 ·have hne:decide ((j:Int)≠(k:Int))=true:=decide_eq_true om9
  by_cases hbg:Beg (ps.getD k []) (ps.getD j [])
  ·have hb1:decide (Beg (ps.getD k []) (ps.getD j []))=true:=decide_eq_true hbg
   simp -implicitDefEqProofs(disch:=omega)only[Nat.reduceEqDiff,↓reduceIte,vcu,↓vcd,g10,g11,g12,g0,g3,g4,g29,g30,h31,hx,hy,hne]
   refine (prefix_calls _ _ _).mono ?_
   rintro r τ ⟨rfl,rfl⟩
   simp -implicitDefEqProofs(disch:=omega)only[Nat.reduceEqDiff,↓reduceIte,vcu,↓vcd,opK_some,g10,g11,g12,g0,g3,g4,g29,g30,h31,hb1]
   refine fin_one Tryz.results62 ⟨?_,rfl⟩
   simp -implicitDefEqProofs(disch:=omega)only[Nat.reduceEqDiff,↓reduceIte,vcu,↓vcd]
   simp [stop (fun h=>h.2.2 j hjl hjk) (fun h=>h hbg)]
  ·have hb1:decide (Beg (ps.getD k []) (ps.getD j []))=false:=decide_eq_false hbg
   simp -implicitDefEqProofs(disch:=omega)only[Nat.reduceEqDiff,↓reduceIte,vcu,↓vcd,g10,g11,g12,g0,g3,g4,g29,g30,h31,hx,hy,hne]
   refine (prefix_calls _ _ _).mono ?_
   rintro r τ ⟨rfl,rfl⟩
   simp -implicitDefEqProofs(disch:=omega)only[Nat.reduceEqDiff,↓reduceIte,vcu,↓vcd,opK_some,g10,g11,g12,g0,g3,g4,g29,g30,h31,hb1]
   refine⟨⟨?_,?_,?_,?_,?_,?_,?_,?_,trivial⟩,m2 - 1,by omega,j+1,by omega,by simp,fun i hi hne'=>?_,trivial⟩
   all_goals first|trivial|exact h10.symm|exact h11.symm|exact h12.symm|exact h0.symm|skip
   by_cases e:i=j
   ·subst e;exact hbg
   ·exact hin i om9 hne'
theorem implPV_calls (σ:AHeap) (v:Value) (ps:List (List UInt8)) (hv:Texts σ v ps) (hl:ps.length≤1048576) (hp:∀x∈ps,x.length≤1048576):ACall Tryz.prog w0 62 [v] σ fun r σ'=>r=.bool (decide (PlanOk ps))∧σ'=σ :=
 ACall.texts_quiet (pre:=[]) (post:=[]) kr9 hv fun σ1 h o _ hg=>implPV_at σ1 h o ps hg hl hp
end Go.Proofs.YtofdnmlpfagibaaGreatDoor
namespace Go.Proofs.YtofdnmlpfagibaaGreatDoor
open Go Go.Abs Go.RowKit Go.Clos
variable {w0:World}
set_option maxRecDepth 8000 in
theorem inB_at (σ:AHeap) (n m:Int):ACall Tryz.prog w0 121 [.int .i64 n,.int .i64 m] σ fun r σ'=>r=.bool (decide (1≤n∧n≤m))∧σ'=σ:=by
 refine acall_go mixed Tryz.func121 rfl good121 fun pr=>?_
 by_cases h:1≤n
 ·simp -implicitDefEqProofs(disch:=omega)only[Nat.reduceEqDiff,↓reduceIte,vcu,↓vcd]
  refine fin_one Tryz.results121 ⟨?_,rfl⟩
  simp -implicitDefEqProofs(disch:=omega)only[Nat.reduceEqDiff,↓reduceIte,vcu,↓vcd]
  simp [h]
 ·simp -implicitDefEqProofs(disch:=omega)only[Nat.reduceEqDiff,↓reduceIte,vcu,↓vcd]
  refine fin_one Tryz.results121 ⟨?_,rfl⟩
  simp -implicitDefEqProofs(disch:=omega)only[Nat.reduceEqDiff,↓reduceIte,vcu,↓vcd]
  simp [h]
set_option maxRecDepth 8000 in
theorem implSV_at (σ:AHeap) (O E M:Int):ACall Tryz.prog w0 97 [.agg #[.int .i64 O,.int .i64 E,.int .i64 M]] σ fun r σ'=>r=.bool (decide (SV ⟨O,E,M⟩))∧σ'=σ:=by
 refine acall_go mixed Tryz.func97 rfl good97 fun pr=>?_
 simp -implicitDefEqProofs(disch:=omega)only[Nat.reduceEqDiff,↓reduceIte,vcu,↓vcd]
 refine r_boxed fun b τ nb s1 e1=>?_
 replace e1:τ b=some ⟨[.int .i64 O,.int .i64 E,.int .i64 M],false⟩:=e1
 have lO:ld τ b (0+0)=some (.int .i64 O):=ld_of e1 rfl
 have lE:ld τ b (0+1)=some (.int .i64 E):=ld_of e1 rfl
 have lM:ld τ b (0+2)=some (.int .i64 M):=ld_of e1 rfl
 simp -implicitDefEqProofs(disch:=omega)only[Nat.reduceEqDiff,↓reduceIte,vcu,↓vcd,lO,lE,lM]
 refine (inB_at τ O 4).mono ?_
 rintro r _ ⟨rfl,rfl⟩
 rename_i τ
 by_cases h1:1≤O∧O≤4
 case neg =>
  have hS:¬ SV ⟨O,E,M⟩:=fun h=>h1 h.1
  rw[decide_eq_false h1,decide_eq_false hS]
  simp -implicitDefEqProofs(disch:=omega)only[Nat.reduceEqDiff,↓reduceIte,vcu,↓vcd,opK_some]
  refine fin_drop Tryz.results97 σ s1 ⟨?_,rfl⟩
  simp -implicitDefEqProofs(disch:=omega)only[Nat.reduceEqDiff,↓reduceIte,vcu,↓vcd]
 rw[decide_eq_true h1]
 simp -implicitDefEqProofs(disch:=omega)only[Nat.reduceEqDiff,↓reduceIte,vcu,↓vcd,opK_some,lO,lE,lM]
 refine (inB_at τ E 3).mono ?_
 rintro r _ ⟨rfl,rfl⟩
 rename_i τ
 by_cases h2:1≤E∧E≤3
 case neg =>
  have hS:¬ SV ⟨O,E,M⟩:=fun h=>h2 h.2.1
  rw[decide_eq_false h2,decide_eq_false hS]
  simp -implicitDefEqProofs(disch:=omega)only[Nat.reduceEqDiff,↓reduceIte,vcu,↓vcd,opK_some]
  refine fin_drop Tryz.results97 σ s1 ⟨?_,rfl⟩
  simp -implicitDefEqProofs(disch:=omega)only[Nat.reduceEqDiff,↓reduceIte,vcu,↓vcd]
 rw[decide_eq_true h2]
 simp -implicitDefEqProofs(disch:=omega)only[Nat.reduceEqDiff,↓reduceIte,vcu,↓vcd,opK_some,lO,lE,lM]
 refine (inB_at τ M 5).mono ?_
 rintro r _ ⟨rfl,rfl⟩
 by_cases h3:1≤M∧M≤5
 ·have hS:SV ⟨O,E,M⟩:=⟨h1,h2,h3⟩
  rw[decide_eq_true h3,decide_eq_true hS]
  simp -implicitDefEqProofs(disch:=omega)only[Nat.reduceEqDiff,↓reduceIte,vcu,↓vcd,opK_some]
  refine fin_drop Tryz.results97 σ s1 ⟨?_,rfl⟩
  simp -implicitDefEqProofs(disch:=omega)only[Nat.reduceEqDiff,↓reduceIte,vcu,↓vcd]
 ·have hS:¬ SV ⟨O,E,M⟩:=fun h=>h3 h.2.2
  rw[decide_eq_false h3,decide_eq_false hS]
  simp -implicitDefEqProofs(disch:=omega)only[Nat.reduceEqDiff,↓reduceIte,vcu,↓vcd,opK_some]
  refine fin_drop Tryz.results97 σ s1 ⟨?_,rfl⟩
  simp -implicitDefEqProofs(disch:=omega)only[Nat.reduceEqDiff,↓reduceIte,vcu,↓vcd]
set_option maxRecDepth 8000 in
theorem implEnough_at (σ:AHeap) (O E M:Int):ACall Tryz.prog w0 61 [.agg #[.int .i64 O,.int .i64 E,.int .i64 M]] σ fun r σ'=>r=.bool (decide (Enough ⟨O,E,M⟩))∧σ'=σ:=by
 refine acall_go mixed Tryz.func61 rfl good61 fun pr=>?_
 simp -implicitDefEqProofs(disch:=omega)only[Nat.reduceEqDiff,↓reduceIte,vcu,↓vcd]
 refine r_boxed fun b τ nb s1 e1=>?_
 replace e1:τ b=some ⟨[.int .i64 O,.int .i64 E,.int .i64 M],false⟩:=e1
 have lE:ld τ b (0+1)=some (.int .i64 E):=ld_of e1 rfl
 have lM:ld τ b (0+2)=some (.int .i64 M):=ld_of e1 rfl
 have l3:lds τ b 0 3=some [.int .i64 O,.int .i64 E,.int .i64 M]:=lds_three (ld_of e1 rfl) (ld_of e1 rfl) (ld_of e1 rfl)
 simp -implicitDefEqProofs(disch:=omega)only[Nat.reduceEqDiff,↓reduceIte,vcu,↓vcd,l3,co29]
 refine (implSV_at τ O E M).mono ?_
 rintro r _ ⟨rfl,rfl⟩
 rename_i τ
 by_cases hS:SV ⟨O,E,M⟩
 case neg =>
  have hE:¬ Enough ⟨O,E,M⟩:=fun h=>hS h.1
  rw[decide_eq_false hS,decide_eq_false hE]
  simp -implicitDefEqProofs(disch:=omega)only[Nat.reduceEqDiff,↓reduceIte,vcu,↓vcd,opK_some]
  refine fin_drop Tryz.results61 σ s1 ⟨?_,rfl⟩
  simp -implicitDefEqProofs(disch:=omega)only[Nat.reduceEqDiff,↓reduceIte,vcu,↓vcd]
 rw[decide_eq_true hS]
 have hd:decide (Enough ⟨O,E,M⟩)=decide (E≤M):=by
  by_cases h:E≤M
  ·rw[decide_eq_true h,decide_eq_true (show Enough ⟨O,E,M⟩ from ⟨hS,h⟩)]
  ·rw[decide_eq_false h,decide_eq_false (fun hE:Enough ⟨O,E,M⟩=>h hE.2)]
 rw[hd]
 simp -implicitDefEqProofs(disch:=omega)only[Nat.reduceEqDiff,↓reduceIte,vcu,↓vcd,opK_some,lE,lM]
 refine fin_drop Tryz.results61 σ s1 ⟨?_,rfl⟩
 simp -implicitDefEqProofs(disch:=omega)only[Nat.reduceEqDiff,↓reduceIte,vcu,↓vcd]
set_option maxRecDepth 8000 in
theorem hasLine_at (σ:AHeap) (O E M x:Int) (hS:SV ⟨O,E,M⟩):ACall Tryz.prog w0 89 [.agg #[.int .i64 O,.int .i64 E,.int .i64 M],.int .i64 x] σ fun r σ'=>r=.bool (decide (0≤x∧x≤O * E - 1))∧σ'=σ:=by
 have hL:=hS.lines
 dsimp only at hL
 refine acall_go mixed Tryz.func89 rfl good89 fun pr=>?_
 simp -implicitDefEqProofs(disch:=omega)only[Nat.reduceEqDiff,↓reduceIte,vcu,↓vcd]
 refine r_boxed fun b τ nb s1 e1=>?_
 replace e1:τ b=some ⟨[.int .i64 O,.int .i64 E,.int .i64 M],false⟩:=e1
 have lO:ld τ b (0+0)=some (.int .i64 O):=ld_of e1 rfl
 have lE:ld τ b (0+1)=some (.int .i64 E):=ld_of e1 rfl
 by_cases h0:0≤x
 ·have hd:decide (0≤x∧x≤O * E - 1)=decide (x < O * E):=decide_eq_decide.2 ⟨fun h=>by omega,fun h=>⟨h0,by omega⟩⟩
  rw[hd]
  simp -implicitDefEqProofs(disch:=omega)only[Nat.reduceEqDiff,↓reduceIte,vcu,↓vcd,lO,lE]
  refine fin_drop Tryz.results89 σ s1 ⟨?_,rfl⟩
  simp -implicitDefEqProofs(disch:=omega)only[Nat.reduceEqDiff,↓reduceIte,vcu,↓vcd]
 ·rw[decide_eq_false (fun h:0≤x∧x≤O * E - 1=>h0 h.1)]
  simp -implicitDefEqProofs(disch:=omega)only[Nat.reduceEqDiff,↓reduceIte,vcu,↓vcd,lO,lE]
  refine fin_drop Tryz.results89 σ s1 ⟨?_,rfl⟩
  simp -implicitDefEqProofs(disch:=omega)only[Nat.reduceEqDiff,↓reduceIte,vcu,↓vcd]
set_option maxRecDepth 8000 in
theorem collide_at (σ:AHeap) (s:Sp) (c d:Cl) (hE:1≤s.E) (hc:Nng c) (hd:Nng d) :
  ACall Tryz.prog w0 124 [.agg #[.int .i64 s.O,.int .i64 s.E,.int .i64 s.M],.agg #[.int .i64 c.i,.int .i64 c.o,.int .i64 c.v],.agg #[.int .i64 d.i,.int .i64 d.o,.int .i64 d.v]] σ fun r σ'=>r=.bool (decide (Hit s c d))∧σ'=σ:=by
 obtain⟨O,E,M⟩:=s
 obtain⟨ci,co,cv⟩:=c
 obtain⟨di,do',dv⟩:=d
 obtain⟨⟨c1,c2⟩,c3,c4⟩:=hc
 obtain⟨⟨d1,d2⟩,d3,d4⟩:=hd
 dsimp only at *
 refine acall_go mixed Tryz.func124 rfl good124 fun pr=>?_
 simp -implicitDefEqProofs(disch:=omega)only[Nat.reduceEqDiff,↓reduceIte,vcu,↓vcd]
 refine r_boxed fun b τ1 n1 s1 e1=>?_
 replace e1:τ1 b=some ⟨[.int .i64 O,.int .i64 E,.int .i64 M],false⟩:=e1
 refine r_boxed fun g τ2 n2 s2 e2=>?_
 replace e2:τ2 g=some ⟨[.int .i64 ci,.int .i64 co,.int .i64 cv],false⟩:=e2
 refine r_boxed fun g2 τ3 n3 s3 e3=>?_
 replace e3:τ3 g2=some ⟨[.int .i64 di,.int .i64 do',.int .i64 dv],false⟩:=e3
 have f2:=s3 _ _ e2
 have f1:=s3 _ _ (s2 _ _ e1)
 have ki:ld τ3 g (0+0)=some (.int .i64 ci):=ld_of f2 rfl
 have ko:ld τ3 g (0+1)=some (.int .i64 co):=ld_of f2 rfl
 have kv:ld τ3 g (0+2)=some (.int .i64 cv):=ld_of f2 rfl
 have ji:ld τ3 g2 (0+0)=some (.int .i64 di):=ld_of e3 rfl
 have jo:ld τ3 g2 (0+1)=some (.int .i64 do'):=ld_of e3 rfl
 have jv:ld τ3 g2 (0+2)=some (.int .i64 dv):=ld_of e3 rfl
 have lE:ld τ3 b (0+1)=some (.int .i64 E):=ld_of f1 rfl
 have s13:=s1.trans (s2.trans s3)
 by_cases q1:ci=di
 ·rw[decide_eq_true (show Hit ⟨O,E,M⟩ ⟨ci,co,cv⟩ ⟨di,do',dv⟩ from .inl q1)]
  simp -implicitDefEqProofs(disch:=omega)only[Nat.reduceEqDiff,↓reduceIte,vcu,↓vcd,ki,ko,kv,ji,jo,jv,lE]
  refine fin_drop Tryz.results124 σ s13 ⟨?_,rfl⟩
  simp -implicitDefEqProofs(disch:=omega)only[Nat.reduceEqDiff,↓reduceIte,vcu,↓vcd]
 by_cases q2:co=do'
 ·rw[decide_eq_true (show Hit ⟨O,E,M⟩ ⟨ci,co,cv⟩ ⟨di,do',dv⟩ from .inr (.inl q2))]
  simp -implicitDefEqProofs(disch:=omega)only[Nat.reduceEqDiff,↓reduceIte,vcu,↓vcd,ki,ko,kv,ji,jo,jv,lE]
  refine fin_drop Tryz.results124 σ s13 ⟨?_,rfl⟩
  simp -implicitDefEqProofs(disch:=omega)only[Nat.reduceEqDiff,↓reduceIte,vcu,↓vcd]
 by_cases q3:cv=dv
 case neg =>
  rw[decide_eq_false (fun hh:Hit ⟨O,E,M⟩ ⟨ci,co,cv⟩ ⟨di,do',dv⟩=>hh.elim q1 fun hh=>hh.elim q2 fun hh=>q3 hh.1)]
  simp -implicitDefEqProofs(disch:=omega)only[Nat.reduceEqDiff,↓reduceIte,vcu,↓vcd,ki,ko,kv,ji,jo,jv,lE]
  refine fin_drop Tryz.results124 σ s13 ⟨?_,rfl⟩
  simp -implicitDefEqProofs(disch:=omega)only[Nat.reduceEqDiff,↓reduceIte,vcu,↓vcd]
 by_cases q4:ci / E=di / E
 ·rw[decide_eq_true (show Hit ⟨O,E,M⟩ ⟨ci,co,cv⟩ ⟨di,do',dv⟩ from .inr (.inr ⟨q3,.inl q4⟩))]
  simp -implicitDefEqProofs(disch:=omega)only[Nat.reduceEqDiff,↓reduceIte,vcu,↓vcd,ki,ko,kv,ji,jo,jv,lE]
  refine fin_drop Tryz.results124 σ s13 ⟨?_,rfl⟩
  simp -implicitDefEqProofs(disch:=omega)only[Nat.reduceEqDiff,↓reduceIte,vcu,↓vcd]
 by_cases q5:co / E=do' / E
 ·rw[decide_eq_true (show Hit ⟨O,E,M⟩ ⟨ci,co,cv⟩ ⟨di,do',dv⟩ from .inr (.inr ⟨q3,.inr q5⟩))]
  simp -implicitDefEqProofs(disch:=omega)only[Nat.reduceEqDiff,↓reduceIte,vcu,↓vcd,ki,ko,kv,ji,jo,jv,lE]
  refine fin_drop Tryz.results124 σ s13 ⟨?_,rfl⟩
  simp -implicitDefEqProofs(disch:=omega)only[Nat.reduceEqDiff,↓reduceIte,vcu,↓vcd]
  rw[decide_eq_true q5]
 ·rw[decide_eq_false (fun hh:Hit ⟨O,E,M⟩ ⟨ci,co,cv⟩ ⟨di,do',dv⟩=>hh.elim q1 fun hh=>hh.elim q2 fun hh=>hh.2.elim q4 q5)]
  simp -implicitDefEqProofs(disch:=omega)only[Nat.reduceEqDiff,↓reduceIte,vcu,↓vcd,ki,ko,kv,ji,jo,jv,lE]
  refine fin_drop Tryz.results124 σ s13 ⟨?_,rfl⟩
  simp -implicitDefEqProofs(disch:=omega)only[Nat.reduceEqDiff,↓reduceIte,vcu,↓vcd]
  rw[decide_eq_false q5]
set_option maxRecDepth 8000 in
theorem indexFn_at (σ:AHeap) (h o:Nat) (cs:List Cl) (gf:Nat) (caps:Array Value) (P:Cl→Prop) [DecidablePred P] (hv:TrisAt σ h o cs) (hl:cs.length≤1048576)
  (hcl:∀c∈cs,∀pw,ACall Tryz.prog pw gf (.agg #[.int .i64 c.i,.int .i64 c.o,.int .i64 c.v] :: caps.toList) σ fun r σ'=>r=.bool (decide (P c))∧σ'=σ) :
  ACall Tryz.prog w0 100 [.slice (some ⟨h,o,none⟩) cs.length 3,.func (.func gf) #[] caps] σ fun r σ'=>σ'=σ ∧
   ((r=.int .i64 (-1)∧∀c∈cs,¬ P c)∨∃k:Nat,r=.int .i64 k∧k < cs.length∧P (gc cs k)∧∀c∈cs.take k,¬ P c):=by
 refine acall_go mixed Tryz.func100 rfl good100 fun pr=>?_
 simp -implicitDefEqProofs(disch:=omega)only[Nat.reduceEqDiff,↓reduceIte,vcu,↓vcd]
 refine vc_loop_c mixed kr9 [0,1,7] (fun m a τ=>∃k:Nat,m+k=cs.length∧a 8=.int .i64 k∧τ=σ∧∀c∈cs.take k,¬ P c) cs.length ⟨0,by simp,rfl,rfl,by simp⟩ ?_
 rintro m a τ hc ⟨k,hk,h8,rfl,hup⟩
 simp -implicitDefEqProofs(disch:=omega)only[Nat.reduceEqDiff,↓reduceIte,vcu,↓vcd] at hc
 obtain⟨h0,h1,h7,-⟩:=hc
 by_cases hlt:k < cs.length
 ·have hx:=hv.all hlt
  have ht:=take_gc hlt
  have hm:=gc_mem hlt
  have hgk:cs.getD k cl0=gc cs k:=rfl
  rw[hgk] at hx
  simp -implicitDefEqProofs(disch:=omega)only[Nat.reduceEqDiff,↓reduceIte,vcu,↓vcd,h0,h1,h7,h8,hx,co70]
  refine r_callv ⟨(gf,caps),by simp -implicitDefEqProofs(disch:=omega)only[Nat.reduceEqDiff,↓reduceIte,vcu,↓vcd,h1],?_⟩
  simp -implicitDefEqProofs(disch:=omega)only[Nat.reduceEqDiff,↓reduceIte,vcu,↓vcd]
  refine (hcl _ hm _).mono ?_
  rintro r _ ⟨rfl,rfl⟩
  by_cases hB:P (gc cs k)
  ·rw[decide_eq_true hB]
   simp -implicitDefEqProofs(disch:=omega)only[Nat.reduceEqDiff,↓reduceIte,vcu,↓vcd,opK_some,h0,h1,h7,h8]
   refine fin_one Tryz.results100 ⟨rfl,.inr ⟨k,?_,hlt,hB,hup⟩⟩
   simp -implicitDefEqProofs(disch:=omega)only[Nat.reduceEqDiff,↓reduceIte,vcu,↓vcd]
  ·rw[decide_eq_false hB]
   simp -implicitDefEqProofs(disch:=omega)only[Nat.reduceEqDiff,↓reduceIte,vcu,↓vcd,opK_some,h0,h1,h7,h8]
   refine⟨⟨trivial,trivial,trivial,trivial⟩,m - 1,by omega,k+1,by omega,by simp,trivial,fun c hc=>?_⟩
   rw[ht] at hc
   rcases List.mem_append.1 hc with hc|hc
   ·exact hup c hc
   ·rw[List.mem_singleton] at hc;subst hc;exact hB
 ·simp -implicitDefEqProofs(disch:=omega)only[Nat.reduceEqDiff,↓reduceIte,vcu,↓vcd,h0,h1,h7,h8]
  obtain rfl:k=cs.length:=by omega
  rw[List.take_length] at hup
  refine fin_one Tryz.results100 ⟨rfl,.inl ⟨?_,hup⟩⟩
  simp -implicitDefEqProofs(disch:=omega)only[Nat.reduceEqDiff,↓reduceIte,vcu,↓vcd]
set_option maxRecDepth 8000 in
theorem hasFn_at (σ:AHeap) (h o:Nat) (cs:List Cl) (gf:Nat) (caps:Array Value) (P:Cl→Prop) [DecidablePred P] (hv:TrisAt σ h o cs) (hl:cs.length≤1048576)
  (hcl:∀c∈cs,∀pw,ACall Tryz.prog pw gf (.agg #[.int .i64 c.i,.int .i64 c.o,.int .i64 c.v] :: caps.toList) σ fun r σ'=>r=.bool (decide (P c))∧σ'=σ) :
  ACall Tryz.prog w0 64 [.slice (some ⟨h,o,none⟩) cs.length 3,.func (.func gf) #[] caps] σ fun r σ'=>r=.bool (decide (∃c∈cs,P c))∧σ'=σ:=by
 refine acall_go mixed Tryz.func64 rfl good64 fun pr=>?_
 simp -implicitDefEqProofs(disch:=omega)only[Nat.reduceEqDiff,↓reduceIte,vcu,↓vcd]
 refine (indexFn_at σ h o cs gf caps P hv hl hcl).mono ?_
 rintro r _ ⟨rfl,⟨rfl,hall⟩ |⟨k,rfl,hk,hP,-⟩⟩
 ·rw[decide_eq_false (fun⟨c,hc,hP⟩=>hall c hc hP)]
  simp -implicitDefEqProofs(disch:=omega)only[Nat.reduceEqDiff,↓reduceIte,vcu,↓vcd,opK_some]
  refine fin_one Tryz.results64 ⟨?_,rfl⟩
  simp -implicitDefEqProofs(disch:=omega)only[Nat.reduceEqDiff,↓reduceIte,vcu,↓vcd]
  rfl
 ·rw[decide_eq_true ⟨gc cs k,gc_mem hk,hP⟩]
  simp -implicitDefEqProofs(disch:=omega)only[Nat.reduceEqDiff,↓reduceIte,vcu,↓vcd,opK_some]
  refine fin_one Tryz.results64 ⟨?_,rfl⟩
  simp -implicitDefEqProofs(disch:=omega)only[Nat.reduceEqDiff,↓reduceIte,vcu,↓vcd]
  have:(0:Int)≤(k:Int):=by omega
  rw[decide_eq_true this]
set_option maxRecDepth 8000 in
theorem fitsC_at (σ:AHeap) (b1 b2:Nat) (s:Sp) (c d:Cl) (h1:σ b1=some ⟨[.int .i64 s.O,.int .i64 s.E,.int .i64 s.M],false⟩) (h2:σ b2=some ⟨[.int .i64 c.i,.int .i64 c.o,.int .i64 c.v],false⟩) (hE:1≤s.E) (hc:Nng c) (hd:Nng d) :
  ACall Tryz.prog w0 123 [.agg #[.int .i64 d.i,.int .i64 d.o,.int .i64 d.v],.pointer (some ⟨b1,0,none⟩),.pointer (some ⟨b2,0,none⟩)] σ fun r σ'=>r=.bool (decide (Hit s c d))∧σ'=σ:=by
 refine acall_go mixed Tryz.func123 rfl good123 fun pr=>?_
 simp -implicitDefEqProofs(disch:=omega)only[Nat.reduceEqDiff,↓reduceIte,vcu,↓vcd]
 refine r_boxed fun g τ n1 s1 e1=>?_
 replace e1:τ g=some ⟨[.int .i64 d.i,.int .i64 d.o,.int .i64 d.v],false⟩:=e1
 have l1:lds τ b1 0 3=some [.int .i64 s.O,.int .i64 s.E,.int .i64 s.M]:=lds_three (ld_of (s1 _ _ h1) rfl) (ld_of (s1 _ _ h1) rfl) (ld_of (s1 _ _ h1) rfl)
 have l2:lds τ b2 0 3=some [.int .i64 c.i,.int .i64 c.o,.int .i64 c.v]:=lds_three (ld_of (s1 _ _ h2) rfl) (ld_of (s1 _ _ h2) rfl) (ld_of (s1 _ _ h2) rfl)
 have l3:lds τ g 0 3=some [.int .i64 d.i,.int .i64 d.o,.int .i64 d.v]:=lds_three (ld_of e1 rfl) (ld_of e1 rfl) (ld_of e1 rfl)
 simp -implicitDefEqProofs(disch:=omega)only[Nat.reduceEqDiff,↓reduceIte,vcu,↓vcd,l1,l2,l3,co29,co70]
 refine (collide_at τ s c d hE hc hd).mono ?_
 rintro r _ ⟨rfl,rfl⟩
 simp -implicitDefEqProofs(disch:=omega)only[Nat.reduceEqDiff,↓reduceIte,vcu,↓vcd,opK_some]
 refine fin_drop Tryz.results123 σ s1 ⟨?_,rfl⟩
 simp -implicitDefEqProofs(disch:=omega)only[Nat.reduceEqDiff,↓reduceIte,vcu,↓vcd]
def FitsC (s:Sp) (cs:List Cl) (c:Cl):Prop:=Rg s c∧∀d∈cs,¬ Hit s c d
instance (s:Sp) (cs:List Cl) (c:Cl):Decidable (FitsC s cs c):=by unfold FitsC;infer_instance
set_option maxRecDepth 8000 in
theorem implFits_at (σ:AHeap) (s:Sp) (h o:Nat) (cs:List Cl) (c:Cl) (hv:TrisAt σ h o cs) (hl:cs.length≤1048576) (hS:SV s) (hn:∀d∈cs,Nng d) :
  ACall Tryz.prog w0 99 [.agg #[.int .i64 s.O,.int .i64 s.E,.int .i64 s.M],.slice (some ⟨h,o,none⟩) cs.length 3,.agg #[.int .i64 c.i,.int .i64 c.o,.int .i64 c.v]] σ fun r σ'=>r=.bool (decide (FitsC s cs c))∧σ'=σ:=by
 refine acall_go mixed Tryz.func99 rfl good99 fun pr=>?_
 simp -implicitDefEqProofs(disch:=omega)only[Nat.reduceEqDiff,↓reduceIte,vcu,↓vcd]
 refine r_boxed fun b τ1 n1 s1 e1=>?_
 replace e1:τ1 b=some ⟨[.int .i64 s.O,.int .i64 s.E,.int .i64 s.M],false⟩:=e1
 refine r_boxed fun g τ n2 s2 e2=>?_
 replace e2:τ g=some ⟨[.int .i64 c.i,.int .i64 c.o,.int .i64 c.v],false⟩:=e2
 have f1:=s2 _ _ e1
 have s12:=s1.trans s2
 have l1:lds τ b 0 3=some [.int .i64 s.O,.int .i64 s.E,.int .i64 s.M]:=lds_three (ld_of f1 rfl) (ld_of f1 rfl) (ld_of f1 rfl)
 have lM:ld τ b (0+2)=some (.int .i64 s.M):=ld_of f1 rfl
 have li:ld τ g (0+0)=some (.int .i64 c.i):=ld_of e2 rfl
 have lo:ld τ g (0+1)=some (.int .i64 c.o):=ld_of e2 rfl
 have lv:ld τ g (0+2)=some (.int .i64 c.v):=ld_of e2 rfl
 simp -implicitDefEqProofs(disch:=omega)only[Nat.reduceEqDiff,↓reduceIte,vcu,↓vcd,l1,lM,li,lo,lv,co29]
 refine (hasLine_at τ s.O s.E s.M c.i hS).mono ?_
 rintro r _ ⟨rfl,rfl⟩
 rename_i τ
 by_cases hI:0≤c.i∧c.i≤s.O * s.E - 1
 case neg =>
  rw[decide_eq_false hI,decide_eq_false (fun hh:FitsC s cs c=>hI hh.1.1)]
  simp -implicitDefEqProofs(disch:=omega)only[Nat.reduceEqDiff,↓reduceIte,vcu,↓vcd,opK_some,Bool.not_false]
  refine fin_drop Tryz.results99 σ s12 ⟨?_,rfl⟩
  simp -implicitDefEqProofs(disch:=omega)only[Nat.reduceEqDiff,↓reduceIte,vcu,↓vcd]
 rw[decide_eq_true hI]
 simp -implicitDefEqProofs(disch:=omega)only[Nat.reduceEqDiff,↓reduceIte,vcu,↓vcd,opK_some,Bool.not_true,l1,lM,li,lo,lv,co29]
 refine (hasLine_at τ s.O s.E s.M c.o hS).mono ?_
 rintro r _ ⟨rfl,rfl⟩
 rename_i τ
 by_cases hO:0≤c.o∧c.o≤s.O * s.E - 1
 case neg =>
  rw[decide_eq_false hO,decide_eq_false (fun hh:FitsC s cs c=>hO hh.1.2.1)]
  simp -implicitDefEqProofs(disch:=omega)only[Nat.reduceEqDiff,↓reduceIte,vcu,↓vcd,opK_some,Bool.not_false]
  refine fin_drop Tryz.results99 σ s12 ⟨?_,rfl⟩
  simp -implicitDefEqProofs(disch:=omega)only[Nat.reduceEqDiff,↓reduceIte,vcu,↓vcd]
 rw[decide_eq_true hO]
 by_cases hV0:c.v < 0
 ·rw[decide_eq_false (fun hh:FitsC s cs c=>by have:=hh.1.2.2.1;omega)]
  simp -implicitDefEqProofs(disch:=omega)only[Nat.reduceEqDiff,↓reduceIte,vcu,↓vcd,opK_some,Bool.not_true,l1,lM,li,lo,lv,co29]
  refine fin_drop Tryz.results99 σ s12 ⟨?_,rfl⟩
  simp -implicitDefEqProofs(disch:=omega)only[Nat.reduceEqDiff,↓reduceIte,vcu,↓vcd]
 by_cases hV1:s.M≤c.v
 ·rw[decide_eq_false (fun hh:FitsC s cs c=>by have:=hh.1.2.2.2;omega)]
  simp -implicitDefEqProofs(disch:=omega)only[Nat.reduceEqDiff,↓reduceIte,vcu,↓vcd,opK_some,Bool.not_true,l1,lM,li,lo,lv,co29]
  refine fin_drop Tryz.results99 σ s12 ⟨?_,rfl⟩
  simp -implicitDefEqProofs(disch:=omega)only[Nat.reduceEqDiff,↓reduceIte,vcu,↓vcd]
 have hRg:Rg s c:=⟨hI,hO,by omega,by omega⟩
 have hnc:=hRg.nng hS
 simp -implicitDefEqProofs(disch:=omega)only[Nat.reduceEqDiff,↓reduceIte,vcu,↓vcd,opK_some,Bool.not_true,l1,lM,li,lo,lv,co29]
 refine (hasFn_at τ h o cs _ _ (fun d=>Hit s c d) (hv.sub s12) hl fun d hd pw=>fitsC_at τ b g s c d f1 e2 hS.2.1.1 hnc (hn d hd)).mono ?_
 rintro r _ ⟨rfl,rfl⟩
 have hd:decide (FitsC s cs c)=!decide (∃d∈cs,Hit s c d):=by
  by_cases hh:∃d∈cs,Hit s c d
  ·rw[decide_eq_true hh,decide_eq_false (fun hf:FitsC s cs c=>by obtain⟨d,h1,h2⟩:=hh;exact hf.2 d h1 h2)];rfl
  ·rw[decide_eq_false hh,decide_eq_true (show FitsC s cs c from ⟨hRg,fun d h1 h2=>hh ⟨d,h1,h2⟩⟩)];rfl
 rw[hd]
 simp -implicitDefEqProofs(disch:=omega)only[Nat.reduceEqDiff,↓reduceIte,vcu,↓vcd,opK_some]
 refine fin_drop Tryz.results99 σ s12 ⟨?_,rfl⟩
 simp -implicitDefEqProofs(disch:=omega)only[Nat.reduceEqDiff,↓reduceIte,vcu,↓vcd]
set_option maxRecDepth 8000 in
theorem implCV_at (σ:AHeap) (O E M:Int) (h o:Nat) (cs:List Cl) (hv:TrisAt σ h o cs) (hl:cs.length≤1048576) :
  ACall Tryz.prog w0 63 [.agg #[.int .i64 O,.int .i64 E,.int .i64 M],.slice (some ⟨h,o,none⟩) cs.length 3] σ fun r σ'=>r=.bool (decide (CV ⟨O,E,M⟩ cs))∧σ'=σ:=by
 refine acall_go mixed Tryz.func63 rfl good63 fun pr=>?_
 simp -implicitDefEqProofs(disch:=omega)only[Nat.reduceEqDiff,↓reduceIte,vcu,↓vcd]
 refine r_boxed fun b τ nb s1 e1=>?_
 replace e1:τ b=some ⟨[.int .i64 O,.int .i64 E,.int .i64 M],false⟩:=e1
 have l3:∀τ',Sub τ τ'→lds τ' b 0 3=some [.int .i64 O,.int .i64 E,.int .i64 M]:=fun τ' hs=>lds_three (ld_of (hs _ _ e1) rfl) (ld_of (hs _ _ e1) rfl) (ld_of (hs _ _ e1) rfl)
 have l0:=l3 τ (Sub.refl _)
 simp -implicitDefEqProofs(disch:=omega)only[Nat.reduceEqDiff,↓reduceIte,vcu,↓vcd,l0,co29]
 refine (implSV_at τ O E M).mono ?_
 rintro r _ ⟨rfl,rfl⟩
 rename_i τ
 by_cases hS:SV ⟨O,E,M⟩
 case neg =>
  rw[decide_eq_false hS,decide_eq_false (fun hC:CV ⟨O,E,M⟩ cs=>hS hC.1)]
  simp -implicitDefEqProofs(disch:=omega)only[Nat.reduceEqDiff,↓reduceIte,vcu,↓vcd,opK_some,Bool.not_false]
  refine fin_drop Tryz.results63 σ s1 ⟨?_,rfl⟩
  simp -implicitDefEqProofs(disch:=omega)only[Nat.reduceEqDiff,↓reduceIte,vcu,↓vcd]
 rw[decide_eq_true hS]
 simp -implicitDefEqProofs(disch:=omega)only[Nat.reduceEqDiff,↓reduceIte,vcu,↓vcd,opK_some,Bool.not_true]
 refine vc_loop_c mixed kr9 [1,2,10,11] (fun m a τ'=>∃k:Nat,m+k=cs.length∧a 12=.int .i64 k∧Sub τ τ'∧CV ⟨O,E,M⟩ (cs.take k)) cs.length ⟨0,by simp,rfl,Sub.refl _,by simpa using CV_nil.2 hS⟩ ?_
 rintro m a τ1 hc ⟨k,hk,h12,hs,hC⟩
 simp -implicitDefEqProofs(disch:=omega)only[Nat.reduceEqDiff,↓reduceIte,vcu,↓vcd] at hc
 obtain⟨h1,h2,h10,h11,-⟩:=hc
 by_cases hlt:k < cs.length
 case neg =>
  obtain rfl:k=cs.length:=by omega
  rw[List.take_length] at hC
  rw[decide_eq_true hC]
  simp -implicitDefEqProofs(disch:=omega)only[Nat.reduceEqDiff,↓reduceIte,vcu,↓vcd,h1,h2,h10,h11,h12]
  refine fin_drop Tryz.results63 σ (s1.trans hs) ⟨?_,rfl⟩
  simp -implicitDefEqProofs(disch:=omega)only[Nat.reduceEqDiff,↓reduceIte,vcu,↓vcd]
 have hx:=((hv.sub s1).sub hs).all hlt
 have hgk:cs.getD k cl0=gc cs k:=rfl
 have htk:=CV_take (s:=⟨O,E,M⟩) hlt
 have htl:(cs.take k).length=k:=by simp;omega
 have hft:=fun (τ2:AHeap) (hs2:Sub τ τ2) (c:Cl)=>implFits_at (w0:=w0) τ2 ⟨O,E,M⟩ h o (cs.take k) c (((hv.sub s1).sub hs2).take k) (by simp;omega) hS (fun d hd=>(hC.2.1 d hd).nng hS)
 rw[htl] at hft
 have hiff:CV ⟨O,E,M⟩ (cs.take (k+1)) ↔ FitsC ⟨O,E,M⟩ (cs.take k) (gc cs k):=htk.trans ⟨fun hh=>hh.2,fun hh=>⟨hC,hh⟩⟩
 clear htk
 rw[hgk] at hx
 generalize gc cs k=c at hx hiff
 obtain⟨ci,co,cv⟩:=c
 dsimp only at hx
 simp -implicitDefEqProofs(disch:=omega)only[Nat.reduceEqDiff,↓reduceIte,vcu,↓vcd,h1,h2,h10,h11,h12,hx,co70]
 refine r_new ze70 fun g τ2a ng sa ea=>?_
 replace ea:τ2a g=some ⟨[.int .i64 0,.int .i64 0,.int .i64 0],false⟩:=ea
 simp -implicitDefEqProofs(disch:=omega)only[Nat.reduceEqDiff,↓reduceIte,vcu,↓vcd,h1,h2,h10,h11,h12]
 refine r_sets (g:=g) (i:=0) (C:=[.int .i64 0,.int .i64 0,.int .i64 0]) z9q z9co70 z9r z9z ea z9l fun τ2 k2 e2=>?_
 replace e2:τ2 g=some ⟨[.int .i64 ci,.int .i64 co,.int .i64 cv],false⟩:=e2
 have s2:=k2.sub sa ng
 have hs2:=hs.trans s2
 have l5:=l3 τ2 hs2
 have l6:lds τ2 g 0 3=some [.int .i64 ci,.int .i64 co,.int .i64 cv]:=lds_three (ld_of e2 rfl) (ld_of e2 rfl) (ld_of e2 rfl)
 simp -implicitDefEqProofs(disch:=omega)only[Nat.reduceEqDiff,↓reduceIte,vcu,↓vcd,h1,h2,h10,h11,h12,l5,l6,co70,co29,Int.toNat_natCast]
 rw[r_callq]
 refine⟨_,hft τ2 hs2 ⟨ci,co,cv⟩,?_⟩
 by_cases hF:FitsC ⟨O,E,M⟩ (cs.take k) ⟨ci,co,cv⟩
 ·rw[decide_eq_true hF]
  simp -implicitDefEqProofs(disch:=omega)only[Nat.reduceEqDiff,↓reduceIte,vcu,↓vcd,h1,h2,h10,h11,h12,Bool.not_true]
  exact⟨⟨trivial,trivial,trivial,trivial,trivial⟩,m - 1,by omega,k+1,by omega,by simp,hs2,hiff.2 hF⟩
 ·rw[decide_eq_false hF,decide_eq_false (fun hC2:CV ⟨O,E,M⟩ cs=>hF (hiff.1 (hC2.take (k+1))))]
  simp -implicitDefEqProofs(disch:=omega)only[Nat.reduceEqDiff,↓reduceIte,vcu,↓vcd,h1,h2,h10,h11,h12,Bool.not_false]
  refine fin_drop Tryz.results63 σ (s1.trans hs2) ⟨?_,rfl⟩
  simp -implicitDefEqProofs(disch:=omega)only[Nat.reduceEqDiff,↓reduceIte,vcu,↓vcd]
theorem fits_free {s:Sp} {cs:List Cl} {i o v:Int} (h:CV s cs):FitsC s cs ⟨i,o,v⟩ ↔ Free s cs i o v:=by
 unfold Free FitsC
 rw[CV_snoc]
 exact⟨fun hh=>⟨h,hh⟩,fun hh=>hh.2⟩
set_option maxRecDepth 8000 in
theorem implFree_at (σ:AHeap) (s:Sp) (h o:Nat) (cs:List Cl) (I O:Int) (hv:TrisAt σ h o cs) (hl:cs.length≤1048576) :
  ACall Tryz.prog w0 159 [.agg #[.int .i64 s.O,.int .i64 s.E,.int .i64 s.M],.slice (some ⟨h,o,none⟩) cs.length 3,.int .i64 I,.int .i64 O] σ fun r σ'=>Sub σ σ'∧OwnI σ σ' r (freeV s cs I O):=by
 refine acall_go mixed Tryz.func159 rfl good159 fun pr=>?_
 simp -implicitDefEqProofs(disch:=omega)only[Nat.reduceEqDiff,↓reduceIte,vcu,↓vcd]
 refine r_boxed fun b τ nb s1 e1=>?_
 replace e1:τ b=some ⟨[.int .i64 s.O,.int .i64 s.E,.int .i64 s.M],false⟩:=e1
 have m3:∀τ',Sub τ τ'→lds τ' b 0 3=some [.int .i64 s.O,.int .i64 s.E,.int .i64 s.M]:=fun τ' hs=>lds_three (ld_of (hs _ _ e1) rfl) (ld_of (hs _ _ e1) rfl) (ld_of (hs _ _ e1) rfl)
 have mM:∀τ',Sub τ τ'→ld τ' b (0+2)=some (.int .i64 s.M):=fun τ' hs=>ld_of (hs _ _ e1) rfl
 have l3:=m3 τ (Sub.refl _)
 simp -implicitDefEqProofs(disch:=omega)only[Nat.reduceEqDiff,↓reduceIte,vcu,↓vcd,l3,co29]
 refine (implCV_at τ s.O s.E s.M h o cs (hv.sub s1) hl).mono ?_
 rintro r _ ⟨rfl,rfl⟩
 rename_i τ
 by_cases hC:CV s cs
 case neg =>
  rw[decide_eq_false hC,freeV_no fun hh=>hC hh.1]
  simp -implicitDefEqProofs(disch:=omega)only[Nat.reduceEqDiff,↓reduceIte,vcu,↓vcd,opK_some,Bool.not_false]
  refine fin_one Tryz.results159 ⟨s1,.inl ⟨?_,rfl⟩⟩
  simp -implicitDefEqProofs(disch:=omega)only[Nat.reduceEqDiff,↓reduceIte,vcu,↓vcd]
 rw[decide_eq_true hC]
 have hS:=hC.1
 obtain⟨-,-,hM1,hM2⟩:=hS
 have hle:∀k,(freeL s cs I O k).length≤k:=fun k=>by
  have:=List.length_filter_le (fun v=>decide (Free s cs I O v)) (rng k)
  rw[rng_length] at this;exact this
 have lM:=mM τ (Sub.refl _)
 simp -implicitDefEqProofs(disch:=omega)only[Nat.reduceEqDiff,↓reduceIte,vcu,↓vcd,opK_some,Bool.not_true,lM]
 refine vc_loop_c mixed kr9 [1,2,3,4,16] (fun m a τ'=>∃k:Nat,m+k=s.M.toNat∧a 17=.int .i64 k∧Sub τ τ'∧OwnI τ τ' (a 9) (freeL s cs I O k)) s.M.toNat ⟨0,by simp,rfl,Sub.refl _,.inl ⟨rfl,rfl⟩⟩ ?_
 rintro m a τ2 hc ⟨k,hk,h17,hs,hO⟩
 simp -implicitDefEqProofs(disch:=omega)only[Nat.reduceEqDiff,↓reduceIte,vcu,↓vcd] at hc
 obtain⟨h1,h2,h3,h4,h16,-⟩:=hc
 by_cases hlt:k < s.M.toNat
 case neg =>
  obtain rfl:k=s.M.toNat:=by omega
  simp -implicitDefEqProofs(disch:=omega)only[Nat.reduceEqDiff,↓reduceIte,vcu,↓vcd,h1,h2,h3,h4,h16,h17]
  refine fin_one Tryz.results159 ⟨s1.trans hs,?_⟩
  have:=hO.older s1
  simp -implicitDefEqProofs(disch:=omega)only[Nat.reduceEqDiff,↓reduceIte,vcu,↓vcd]
  exact this
 have l2:=m3 τ2 hs
 have hlk:=hle k
 have hsucc:=freeL_succ s cs I O k
 have hft:=implFits_at (w0:=w0) τ2 s h o cs ⟨I,O,(k:Int)⟩ (hv.sub (s1.trans hs)) hl hC.1 (fun d hd=>(hC.2.1 d hd).nng hC.1)
 have hiff:=fits_free (i:=I) (o:=O) (v:=(k:Int)) hC
 simp -implicitDefEqProofs(disch:=omega)only[Nat.reduceEqDiff,↓reduceIte,vcu,↓vcd,h1,h2,h3,h4,h16,h17,l2,co29]
 rw[r_build]
 refine⟨(_,#[.int .i64 I,.int .i64 O,.int .i64 (k:Int)]),⟨ze70,by simp -implicitDefEqProofs(disch:=omega)only[Nat.reduceEqDiff,↓reduceIte,vcu,↓vcd,h2,h3,h17];kernel_rfl⟩,?_⟩
 simp -implicitDefEqProofs(disch:=omega)only[Nat.reduceEqDiff,↓reduceIte,vcu,↓vcd]
 refine hft.mono ?_
 rintro r _ ⟨rfl,rfl⟩
 rename_i τ2
 by_cases hF:Free s cs I O k
 ·rw[decide_eq_true (hiff.2 hF)]
  rw[if_pos hF] at hsucc
  simp -implicitDefEqProofs(disch:=omega)only[Nat.reduceEqDiff,↓reduceIte,vcu,↓vcd,opK_some,h1,h2,h3,h4,h16,h17]
  refine r_lit el88 (out:=#[.int .i64 (k:Int)]) (by first|kernel_rfl | (simp -implicitDefEqProofs(disch:=omega)only[Nat.reduceEqDiff,↓reduceIte,vcu,↓vcd,h17];kernel_rfl)) (by rfl) fun e3 τ9 n9 s9 v9=>?_
  rcases hO with ⟨h9,hnil⟩ |⟨g,h9,hg,hn⟩
  ·simp -implicitDefEqProofs(disch:=omega)only[Nat.reduceEqDiff,↓reduceIte,vcu,↓vcd,h9]
   refine r_pushI_nil (e:=e3) (o:=0) (k:=.i64) (ys:=[(k:Int)]) (m:=1) el88 om9 sl88 (by simp -implicitDefEqProofs(disch:=omega)only[Nat.reduceEqDiff,↓reduceIte,vcu,↓vcd,h9]) z9q (intsAt_own v9) rfl om9 fun g6 τ6 n6 k6 v6=>?_
   rw[hnil,List.nil_append] at hsucc
   simp -implicitDefEqProofs(disch:=omega)only[Nat.reduceEqDiff,↓reduceIte,vcu,↓vcd,h1,h2,h3,h4,h16,h17]
   have hs9:=hs.trans s9
   exact⟨⟨trivial,trivial,trivial,trivial,trivial,trivial⟩,m - 1,by omega,k+1,by omega,by simp,hs9.trans k6,.inr ⟨g6,by rw[hsucc];rfl,by rw[hsucc];exact v6,free_sub hs9 n6⟩⟩
  ·simp -implicitDefEqProofs(disch:=omega)only[Nat.reduceEqDiff,↓reduceIte,vcu,↓vcd,h9]
   refine r_pushI (g:=g) (e:=e3) (o:=0) (k:=.i64) (xs:=freeL s cs I O k) (ys:=[(k:Int)]) (m:=1) (len:=(freeL s cs I O k).length) el88 om9 sl88 (by simp -implicitDefEqProofs(disch:=omega)only[Nat.reduceEqDiff,↓reduceIte,vcu,↓vcd,h9]) (s9 _ _ hg) rfl z9q (intsAt_own v9) rfl om9 fun g6 τ6 n6 k6 v6=>?_
   rw[←hsucc] at v6
   have hle2:(freeL s cs I O k).length+1=(freeL s cs I O (k+1)).length:=by rw[hsucc];simp
   have hs9:=hs.trans s9
   simp -implicitDefEqProofs(disch:=omega)only[Nat.reduceEqDiff,↓reduceIte,vcu,↓vcd,h1,h2,h3,h4,h16,h17,hle2]
   exact⟨⟨trivial,trivial,trivial,trivial,trivial,trivial⟩,m - 1,by omega,k+1,by omega,by simp,k6.sub hs9 hn,.inr ⟨g6,rfl,v6,free_sub hs9 n6⟩⟩
 ·rw[decide_eq_false fun hh=>hF (hiff.1 hh)]
  rw[if_neg hF,List.append_nil] at hsucc
  simp -implicitDefEqProofs(disch:=omega)only[Nat.reduceEqDiff,↓reduceIte,vcu,↓vcd,opK_some,h1,h2,h3,h4,h16,h17]
  exact⟨⟨trivial,trivial,trivial,trivial,trivial,trivial⟩,m - 1,by omega,k+1,by omega,by simp,hs,by rw[hsucc];exact hO⟩
set_option maxRecDepth 8000 in
theorem cloneC_at (σ:AHeap) (h o:Nat) (xs:List Cl) (hv:TrisAt σ h o xs) (hl:xs.length≤1048576) :
  ACall Tryz.prog w0 78 [.slice (some ⟨h,o,none⟩) xs.length 3] σ fun r σ'=>Sub σ σ'∧OwnC σ σ' r xs:=by
 refine acall_go mixed Tryz.func78 rfl good78 fun pr=>?_
 simp -implicitDefEqProofs(disch:=omega)only[Nat.reduceEqDiff,↓reduceIte,vcu,↓vcd]
 refine r_nilEq (b:=some ⟨h,o,none⟩) (l:=xs.length) (z:=3) Tryz.underlying31 z9q fun c _ h2=>?_
 cases c with
 | true =>
  simp -implicitDefEqProofs(disch:=omega)only[Nat.reduceEqDiff,↓reduceIte,vcu,↓vcd]
  have:xs=[]:=by
   cases xs with
   | nil=>rfl
   | cons x xs=>have:=h2 (by simp);cases this
  subst this
  refine fin_one Tryz.results78 ⟨Sub.refl _,.inl ⟨?_,rfl⟩⟩
  simp -implicitDefEqProofs(disch:=omega)only[Nat.reduceEqDiff,↓reduceIte,vcu,↓vcd]
 | false =>
  simp -implicitDefEqProofs(disch:=omega)only[Nat.reduceEqDiff,↓reduceIte,vcu,↓vcd]
  refine r_lit el31 (out:=#[]) kr9 kr9 fun e1 τ1 n1 s1 v1=>?_
  simp -implicitDefEqProofs(disch:=omega)only[Nat.reduceEqDiff,↓reduceIte,vcu,↓vcd]
  refine r_pushC (g:=e1) (e:=h) (o:=o) (cs:=[]) (ds:=xs) (m:=xs.length) (len:=0) el31 om9 sl31 z9q v1 rfl z9q (hv.sub s1) rfl om9 fun g τ2 n2 k2 v2=>?_
  rw[List.nil_append] at v2
  simp -implicitDefEqProofs(disch:=omega)only[Nat.reduceEqDiff,↓reduceIte,vcu,↓vcd,Nat.zero_add]
  refine fin_one Tryz.results78 ⟨k2.sub s1 n1,.inr ⟨g,?_,v2,free_sub s1 n2⟩⟩
  simp -implicitDefEqProofs(disch:=omega)only[Nat.reduceEqDiff,↓reduceIte,vcu,↓vcd]
set_option maxRecDepth 8000 in
theorem implPut_at (σ:AHeap) (s:Sp) (h o:Nat) (cs:List Cl) (I O:Int) (hv:TrisAt σ h o cs) (hl:cs.length≤1048576) :
  ACall Tryz.prog w0 140 [.agg #[.int .i64 s.O,.int .i64 s.E,.int .i64 s.M],.slice (some ⟨h,o,none⟩) cs.length 3,.int .i64 I,.int .i64 O] σ fun r σ'=>∃v,r=.tuple #[v,.bool (putOk s cs I O)]∧Sub σ σ'∧OwnC σ σ' v (putL s cs I O):=by
 refine acall_go mixed Tryz.func140 rfl good140 fun pr=>?_
 simp -implicitDefEqProofs(disch:=omega)only[Nat.reduceEqDiff,↓reduceIte,vcu,↓vcd]
 refine r_boxed fun b τ nb s1 e1=>?_
 replace e1:τ b=some ⟨[.int .i64 s.O,.int .i64 s.E,.int .i64 s.M],false⟩:=e1
 have m3:∀τ',Sub τ τ'→lds τ' b 0 3=some [.int .i64 s.O,.int .i64 s.E,.int .i64 s.M]:=fun τ' hs=>lds_three (ld_of (hs _ _ e1) rfl) (ld_of (hs _ _ e1) rfl) (ld_of (hs _ _ e1) rfl)
 have l3:=m3 τ (Sub.refl _)
 simp -implicitDefEqProofs(disch:=omega)only[Nat.reduceEqDiff,↓reduceIte,vcu,↓vcd,l3,co29]
 refine (implCV_at τ s.O s.E s.M h o cs (hv.sub s1) hl).mono ?_
 rintro r _ ⟨rfl,rfl⟩
 rename_i τ
 by_cases hC:CV s cs
 case neg =>
  obtain⟨q1,q2⟩:=putL_no (i:=I) (o:=O) hC
  rw[decide_eq_false hC,q1,q2]
  simp -implicitDefEqProofs(disch:=omega)only[Nat.reduceEqDiff,↓reduceIte,vcu,↓vcd,opK_some,Bool.not_false]
  refine fin_two Tryz.results140 ⟨.slice none 0 0,?_,s1,.inl ⟨rfl,rfl⟩⟩
  simp -implicitDefEqProofs(disch:=omega)only[Nat.reduceEqDiff,↓reduceIte,vcu,↓vcd]
 rw[decide_eq_true hC]
 have hl12:=hC.len
 simp -implicitDefEqProofs(disch:=omega)only[Nat.reduceEqDiff,↓reduceIte,vcu,↓vcd,opK_some,Bool.not_true]
 refine (cloneC_at τ h o cs (hv.sub s1) hl).mono ?_
 rintro va τ4 ⟨hs4,wa⟩
 have l4:=m3 τ4 hs4
 simp -implicitDefEqProofs(disch:=omega)only[Nat.reduceEqDiff,↓reduceIte,vcu,↓vcd,opK_some,l4,co29]
 refine (implFree_at τ4 s h o cs I O (hv.sub (s1.trans hs4)) hl).mono ?_
 rintro vf τ5 ⟨s5,wf⟩
 have hs5:=hs4.trans s5
 have hlf:=ownI_lenD wf
 have wa5:=wa.sub s5
 cases hf:freeV s cs I O with
 | cons v0 vs =>
  obtain⟨q1,q2⟩:=putL_cons hC hf
  rw[hf] at wf hlf
  obtain⟨gf,rfl,wf1,-⟩:=rowI_D wf (by simp)
  have lx:=intsAt_own wf1 0 (by simp)
  have hg0:(v0 :: vs).getD 0 0=v0:=rfl
  rw[hg0] at lx
  have hpos:(0:Int) < ((v0 :: vs).length:Int):=by simp
  have hpos':0 < (v0 :: vs).length:=by simp
  rw[q1,q2]
  generalize (v0 :: vs).length=lf at hlf hpos hpos'
  have hd:decide ((lf:Int)=0)=false:=decide_eq_false om9
  simp -implicitDefEqProofs(disch:=omega)only[Nat.reduceEqDiff,↓reduceIte,vcu,↓vcd,opK_some,hlf,hd,lx,Int.toNat_zero,Nat.mul_one]
  rw[r_build]
  refine⟨(_,#[.int .i64 I,.int .i64 O,.int .i64 v0]),⟨ze70,by simp -implicitDefEqProofs(disch:=omega)only[Nat.reduceEqDiff,↓reduceIte,vcu,↓vcd];kernel_rfl⟩,?_⟩
  simp -implicitDefEqProofs(disch:=omega)only[Nat.reduceEqDiff,↓reduceIte,vcu,↓vcd]
  refine r_lit el31 (out:=#[.int .i64 I,.int .i64 O,.int .i64 v0]) (by first|kernel_rfl | (simp -implicitDefEqProofs(disch:=omega)only[Nat.reduceEqDiff,↓reduceIte,vcu,↓vcd];kernel_rfl)) (by rfl) fun eb τ6 n6 s6 v6=>?_
  replace v6:τ6 eb=some ⟨tris [⟨I,O,v0⟩],false⟩:=v6
  rcases wa5 with ⟨rfl,rfl⟩ |⟨gb,rfl,v5,nτb⟩
  ·refine r_pushC_nil (e:=eb) (o:=0) (ds:=[⟨I,O,v0⟩]) (m:=1) el31 om9 sl31 z9q z9q (trisAt_own v6) rfl om9 fun gc9 τ9 n9 k9 v9=>?_
   have s9:=(hs5.trans s6).trans k9
   simp -implicitDefEqProofs(disch:=omega)only[Nat.reduceEqDiff,↓reduceIte,vcu,↓vcd]
   refine fin_two Tryz.results140 ⟨.slice (some ⟨gc9,0,none⟩) 1 3,?_,s1.trans s9,.inr ⟨gc9,by simp,v9,free_sub (s1.trans (hs5.trans s6)) n9⟩⟩
   simp -implicitDefEqProofs(disch:=omega)only[Nat.reduceEqDiff,↓reduceIte,vcu,↓vcd]
  ·refine r_pushC (g:=gb) (e:=eb) (o:=0) (cs:=cs) (ds:=[⟨I,O,v0⟩]) (m:=1) (len:=cs.length) el31 om9 sl31 z9q (s6 _ _ v5) rfl z9q (trisAt_own v6) rfl om9 fun gc9 τ9 n9 k9 v9=>?_
   have s9:Sub τ τ9:=k9.sub (hs5.trans s6) nτb
   simp -implicitDefEqProofs(disch:=omega)only[Nat.reduceEqDiff,↓reduceIte,vcu,↓vcd]
   refine fin_two Tryz.results140 ⟨.slice (some ⟨gc9,0,none⟩) (cs.length+1) 3,?_,s1.trans s9,.inr ⟨gc9,by simp,v9,free_sub (s1.trans (hs5.trans s6)) n9⟩⟩
   simp -implicitDefEqProofs(disch:=omega)only[Nat.reduceEqDiff,↓reduceIte,vcu,↓vcd]
 | nil =>
  obtain⟨q1,q2⟩:=putL_nil hC hf
  rw[hf] at hlf
  rw[q1,q2]
  simp -implicitDefEqProofs(disch:=omega)only[Nat.reduceEqDiff,↓reduceIte,vcu,↓vcd,opK_some,hlf,List.length_nil,Int.natCast_zero]
  refine fin_two Tryz.results140 ⟨va,?_,s1.trans hs5,wa5.older s1⟩
  simp -implicitDefEqProofs(disch:=omega)only[Nat.reduceEqDiff,↓reduceIte,vcu,↓vcd]
set_option maxRecDepth 8000 in
theorem dropC_at (σ:AHeap) (b:Nat) (I:Int) (c:Cl) (hb:σ b=some ⟨[.int .i64 I],false⟩) :
  ACall Tryz.prog w0 147 [.agg #[.int .i64 c.i,.int .i64 c.o,.int .i64 c.v],.pointer (some ⟨b,0,none⟩)] σ fun r σ'=>r=.bool (decide (c.i=I))∧σ'=σ:=by
 refine acall_go mixed Tryz.func147 rfl good147 fun pr=>?_
 simp -implicitDefEqProofs(disch:=omega)only[Nat.reduceEqDiff,↓reduceIte,vcu,↓vcd]
 refine r_boxed fun h1 τ1 n1 s1 e1=>?_
 replace e1:τ1 h1=some ⟨[.int .i64 c.i,.int .i64 c.o,.int .i64 c.v],false⟩:=e1
 have l1:ld τ1 h1 (0+0)=some (.int .i64 c.i):=ld_of e1 rfl
 have l2:ld τ1 b 0=some (.int .i64 I):=ld_of (s1 _ _ hb) rfl
 simp -implicitDefEqProofs(disch:=omega)only[Nat.reduceEqDiff,↓reduceIte,vcu,↓vcd,l1,l2]
 refine fin_drop Tryz.results147 σ s1 ⟨?_,rfl⟩
 simp -implicitDefEqProofs(disch:=omega)only[Nat.reduceEqDiff,↓reduceIte,vcu,↓vcd]
end Go.Proofs.YtofdnmlpfagibaaGreatDoor
namespace Go.Clos
def Cur (s:Sp) (cs:List Cl) (a b o:Int) (ch:List Nat) (sd:Bool) (x:Int) (kk:Nat):Prop :=
 (ch=[]∧sd=true∧x=o / s.E∧kk=cs.length)∨(kk∈ch∧x=sw s sd (gc cs kk)∧(gc cs kk).v=wantOf a b (!sd))
def halfway (s:Sp) (cs:List Cl) (a b i o:Int) (ch:List Nat):List Cl:=flip a b ch cs++[⟨i,o,a⟩]
theorem halfway_length (s:Sp) (cs:List Cl) (a b i o:Int) (ch:List Nat):(halfway s cs a b i o ch).length=cs.length+1:=by simp [halfway,flip_length]
theorem halfway_old {s:Sp} {cs:List Cl} {a b i o:Int} {ch:List Nat} {k:Nat} (h:k < cs.length):gc (halfway s cs a b i o ch) k=if k∈ch then ⟨(gc cs k).i,(gc cs k).o,a+b - (gc cs k).v⟩ else gc cs k:=by
 unfold halfway;rw[gc_append (by rw[flip_length];exact h),flip_gc h]
theorem halfway_new {s:Sp} {cs:List Cl} {a b i o:Int} {ch:List Nat}:gc (halfway s cs a b i o ch) cs.length=⟨i,o,a⟩:=by
 unfold halfway;have:=gc_last (cs:=flip a b ch cs) (c:=⟨i,o,a⟩);rwa [flip_length] at this
theorem hit_cases {s:Sp} {c d:Cl} (h:Hit s c d):c.i=d.i∨c.o=d.o∨∃t,sw s t c=sw s t d∧c.v=d.v:=by
 rcases h with h|h |⟨h,g|g⟩
 ·exact .inl h
 ·exact .inr (.inl h)
 ·exact .inr (.inr ⟨false,g,h⟩)
 ·exact .inr (.inr ⟨true,g,h⟩)
section
variable {s:Sp} {cs:List Cl} {a b i o:Int} (h:CV s cs) (hb:¬ Busy cs i o) (hab:a≠b) (hA:a ∉ usedI s cs (i / s.E)) (hB:b ∉ usedO s cs (o / s.E))
include h hb hab hA hB
theorem meets {ch:List Nat} {sd:Bool} {x:Int} {kk:Nat} (hi:Inv s cs a b (o / s.E) ch sd x) (hc:Cur s cs a b o ch sd x kk) {m:Nat} (hm:m < cs.length+1) (hne:m≠kk) :
  Hit s (gc (halfway s cs a b i o ch) kk) (gc (halfway s cs a b i o ch) m) ↔ m < cs.length∧AtC s sd x (wantOf a b sd) (gc cs m)∧m ∉ ch:=by
 have hAk:∀k,k < cs.length→sw s false (gc cs k)=i / s.E→(gc cs k).v≠a:=fun k hk e e2=>hA (mem_usedI.2 ⟨_,gc_mem hk,e,e2⟩)
 have hBk:∀k,k < cs.length→sw s true (gc cs k)=o / s.E→(gc cs k).v≠b:=fun k hk e e2=>hB (mem_usedO.2 ⟨_,gc_mem hk,e,e2⟩)
 have hbi:=not_busyI hb
 have hbo:=not_busyO hb
 have hw:a+b - wantOf a b (!sd)=wantOf a b sd:=by cases sd<;>simp [wantOf]<;>omega
 rcases hc with ⟨rfl,rfl,rfl,rfl⟩ |⟨hk,hx,hv⟩
 ·have hml:m < cs.length:=by omega
  rw[halfway_new,halfway_old hml,if_neg (by simp)]
  constructor
  ·intro hh
   rcases hit_cases hh with e|e |⟨t,e,e2⟩
   ·exact absurd e.symm (hbi _ (gc_mem hml))
   ·exact absurd e.symm (hbo _ (gc_mem hml))
   ·cases t with
    | false=>exact absurd e2.symm (hAk m hml e.symm)
    | true=>exact⟨hml,⟨e.symm,e2.symm⟩,by simp⟩
  ·rintro ⟨_,⟨e1,e2⟩,_⟩
   exact hit_sw (sd:=true) e1.symm e2.symm
 ·have hkl:=hi.lt kk hk
  rw[halfway_old hkl,if_pos hk]
  by_cases e:m=cs.length
  ·subst e
   rw[halfway_new]
   constructor
   ·intro hh
    rcases hit_cases hh with e|e |⟨t,e,e2⟩
    ·exact absurd e (hbi (gc cs kk) (gc_mem hkl))
    ·exact absurd e (hbo (gc cs kk) (gc_mem hkl))
    ·have hvb:(gc cs kk).v=b:=by dsimp only at e2;omega
     cases t with
     | false =>
      obtain⟨l,hl,f1,f2⟩:=hi.from_ kk hk hvb
      exact absurd f1 (hAk l (hi.lt l hl) (f2.trans e))
     | true=>exact absurd hvb (hBk kk hkl e)
   ·rintro ⟨e1,_⟩;omega
  ·have hml:m < cs.length:=by omega
   rw[halfway_old hml]
   have hno:=h.two (gc_some hkl) (gc_some hml) om9
   by_cases hmc:m∈ch
   ·rw[if_pos hmc]
    constructor
    ·intro hh
     rcases hit_cases hh with e|e |⟨t,e,e2⟩
     ·exact absurd (.inl e) hno
     ·exact absurd (.inr (.inl e)) hno
     ·exact absurd (hit_sw (c:=gc cs kk) (d:=gc cs m) (sd:=t) e (by dsimp only at e2;omega)) hno
    ·rintro ⟨_,_,e1⟩;exact absurd hmc e1
   ·rw[if_neg hmc]
    constructor
    ·intro hh
     rcases hit_cases hh with e|e |⟨t,e,e2⟩
     ·exact absurd (.inl e) hno
     ·exact absurd (.inr (.inl e)) hno
     ·refine⟨hml,?_,hmc⟩
      exact (hi.cl kk hk t m hml e.symm (by dsimp only at e2;omega)).elim (fun hh=>absurd hh hmc) id
    ·rintro ⟨_,⟨e1,e2⟩,_⟩
     refine hit_sw (sd:=sd) (hx.symm.trans e1.symm) ?_
     show a+b - (gc cs kk).v=(gc cs m).v
     rw[e2,hv,hw]
theorem cur_step {ch:List Nat} {sd:Bool} {x:Int} {k:Nat} (hn:nxt s cs ch sd x (wantOf a b sd) cs.length=some k):Cur s cs a b o (ch++[k]) (!sd) (sw s (!sd) (gc cs k)) k:=by
 obtain⟨hk,⟨k1,k2⟩,k3⟩:=nxt_some hn
 exact .inr ⟨by simp,rfl,by rw[k2,Bool.not_not]⟩
theorem meet_first {ch:List Nat} {sd:Bool} {x:Int} {kk:Nat} (hi:Inv s cs a b (o / s.E) ch sd x) (hc:Cur s cs a b o ch sd x kk) {z:Int}
  (hz:(z=-1∧∀m,m < cs.length+1→m≠kk→¬ Hit s (gc (halfway s cs a b i o ch) kk) (gc (halfway s cs a b i o ch) m))∨∃m:Nat,z=m∧m < cs.length+1∧m≠kk∧Hit s (gc (halfway s cs a b i o ch) kk) (gc (halfway s cs a b i o ch) m)) :
  z=nI (nxt s cs ch sd x (wantOf a b sd) cs.length):=by
 have hM:=fun m hm hne=>meets h hb hab hA hB hi hc (m:=m) hm hne
 cases hn:nxt s cs ch sd x (wantOf a b sd) cs.length with
 | none =>
  rcases hz with ⟨rfl,_⟩ |⟨m,rfl,h1,h2,h3⟩
  ·rfl
  ·obtain⟨g1,g2,g3⟩:=(hM m h1 h2).1 h3
   exact absurd (nxt_none hn m g1 g2) g3
 | some k =>
  obtain⟨k1,k2,k3⟩:=nxt_some hn
  have hkk:k≠kk:=by
   rintro rfl
   rcases hc with ⟨_,_,_,e⟩ |⟨e,_⟩
   ·omega
   ·exact k3 e
  rcases hz with ⟨rfl,hall⟩ |⟨m,rfl,h1,h2,h3⟩
  ·exact absurd ((hM k om9 hkk).2 ⟨k1,k2,k3⟩) (hall k om9 hkk)
  ·obtain⟨g1,g2,g3⟩:=(hM m h1 h2).1 h3
   have:m=k:=h.sw_one (sd:=sd) g1 k1 (by rw[g2.1,k2.1]) (by rw[g2.2,k2.2])
   subst this;rfl
end
theorem halfway_nil (s:Sp) (cs:List Cl) (a b i o:Int):halfway s cs a b i o []=cs++[⟨i,o,a⟩]:=by unfold halfway;rw[flip_nil]
theorem halfway_step {s:Sp} {cs:List Cl} {a b i o:Int} {ch:List Nat} {k:Nat} (hk:k < cs.length) (hm:k ∉ ch) :
  (halfway s cs a b i o ch).set k ⟨(gc cs k).i,(gc cs k).o,a+b - (gc cs k).v⟩=halfway s cs a b i o (ch++[k])∧gc (halfway s cs a b i o ch) k=gc cs k:=by
 obtain⟨h1,h2⟩:=flip_step (a:=a) (b:=b) hk hm
 constructor
 ·unfold halfway
  rw[List.set_append_left _ _ (by rw[flip_length];exact hk),h1]
 ·rw[halfway_old hk,if_neg hm]
end Go.Clos
