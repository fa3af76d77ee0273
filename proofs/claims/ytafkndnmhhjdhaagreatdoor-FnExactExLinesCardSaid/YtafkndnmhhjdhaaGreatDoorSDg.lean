/- Parts. -/
import Derived.Test.YtafkndnmhhjdhaaGreatDoorSDf
set_option linter.unusedSimpArgs false
set_option linter.unusedVariables false
set_option linter.unusedSectionVars false
namespace Go.Proofs.YtafkndnmhhjdhaaGreatDoor
open Go Go.Abs Go.RowKit Go.Dial Go.Clos
variable {w0 : World}
set_option maxRecDepth 8000 in
theorem lineOf8_at (σ : AHeap) (h o : Nat) (ps : List (List UInt8)) (t : List UInt8) (hv : TextsAt σ h o ps) (hl : ps.length ≤ 1048576) :
  ACall Tryz.prog w0 88 [.slice (some ⟨h, o, none⟩) ps.length 1, .string (tx t)] σ fun r σ' => r = .int .i64 (lineS ps t) ∧ σ' = σ := by
 refine acall_go mixed Tryz.func88 rfl good88 fun pr => ?_
 simp -implicitDefEqProofs (disch := omega) only [Nat.reduceEqDiff, ↓reduceIte, vcu, ↓vcd]
 refine (index8_at σ h o ps t hv hl).mono ?_
 rintro _ _ ⟨rfl, rfl⟩
 simp -implicitDefEqProofs (disch := omega) only [Nat.reduceEqDiff, ↓reduceIte, vcu, ↓vcd, opK_some]
 refine fin_one Tryz.results88 ⟨?_, rfl⟩
 simp -implicitDefEqProofs (disch := omega) only [Nat.reduceEqDiff, ↓reduceIte, vcu, ↓vcd]
theorem lineOf8_calls (σ : AHeap) (v : Value) (ps : List (List UInt8)) (t : List UInt8) (hv : Texts σ v ps) (hl : ps.length ≤ 1048576) :
  ACall Tryz.prog w0 88 [v, .string (tx t)] σ fun r σ' => r = .int .i64 (lineS ps t) ∧ σ' = σ :=
 ACall.texts_quiet (pre := []) (post := [_]) (by kernel_rfl) hv fun σ1 h o hs hg => lineOf8_at σ1 h o ps t hg hl
/-- may the line have the number? -/
def renO (ps : List (List UInt8)) (k : Nat) (t : List UInt8) : Bool := decide (¬ (t = ps.getD k [] ∨ ¬ PlanOk (ps.set k t)))
theorem set_back (ps : List (List UInt8)) {k : Nat} (hk : k < ps.length) (t : List UInt8) : (ps.set k t).set k (ps.getD k []) = ps := by
 rw [List.set_set]
 simp [List.getD, hk]
set_option maxRecDepth 8000 in
theorem renumber_at (τ : AHeap) (g k : Nat) (ps : List (List UInt8)) (t : List UInt8) (hg : τ g = some ⟨texts ps, false⟩) (hk : k < ps.length) (b1 : ps.length ≤ 1048576) (b2 : ∀ x ∈ ps, x.length ≤ 1048576) (b3 : t.length ≤ 1048576) :
  ACall Tryz.prog w0 90 [.slice (some ⟨g, 0, none⟩) ps.length 1, .int .i64 k, .string (tx t)] τ fun r σ' => r = .bool (renO ps k t) ∧ Kept g τ σ' ∧ σ' g = some ⟨texts (if renO ps k t = true then ps.set k t else ps), false⟩ := by
 refine acall_go mixed Tryz.func90 rfl good90 fun pr => ?_
 have hx := textsAt_own hg k hk
 simp -implicitDefEqProofs (disch := omega) only [Nat.reduceEqDiff, ↓reduceIte, vcu, ↓vcd, hx]
 refine r_setX (g := g) (i := k) (xs := ps) (v := t) (by simp -implicitDefEqProofs (disch := omega) only [Nat.reduceEqDiff, ↓reduceIte, vcu, ↓vcd, Nat.zero_add]) z9q co9 hg hk fun τ2 k2 e2 => ?_
 by_cases hE : t = ps.getD k []
 ·have dE : decide (t = ps.getD k []) = true := decide_eq_true hE
  have hO : renO ps k t = false := decide_eq_false fun h => h (.inl hE)
  simp -implicitDefEqProofs (disch := omega) only [Nat.reduceEqDiff, ↓reduceIte, vcu, ↓vcd, abin_seql, dE]
  refine r_setX (g := g) (i := k) (xs := ps.set k t) (v := ps.getD k []) (by simp -implicitDefEqProofs (disch := omega) only [Nat.reduceEqDiff, ↓reduceIte, vcu, ↓vcd, Nat.zero_add]) z9q co9 e2 (by rw [List.length_set]; exact hk) fun τ3 k3 e3 => ?_
  rw [set_back ps hk] at e3
  simp -implicitDefEqProofs (disch := omega) only [Nat.reduceEqDiff, ↓reduceIte, vcu, ↓vcd]
  refine fin_one Tryz.results90 ⟨?_, k2.trans k3, ?_⟩
  ·simp -implicitDefEqProofs (disch := omega) only [Nat.reduceEqDiff, ↓reduceIte, vcu, ↓vcd]
   rw [hO]
  ·rw [hO]; exact e3
 ·have dE : decide (t = ps.getD k []) = false := decide_eq_false hE
  have hlen : (ps.set k t).length = ps.length := List.length_set ..
  have hPV := implPV_calls (w0 := w0) τ2 (.slice (some ⟨g, 0, none⟩) ps.length 1) (ps.set k t) (.inr ⟨g, 0, by rw [hlen], textsAt_own e2⟩) (by omega) (fun x hx => by
   rcases List.mem_or_eq_of_mem_set hx with h | h
   ·exact b2 x h
   ·rw [h]; exact b3)
  simp -implicitDefEqProofs (disch := omega) only [Nat.reduceEqDiff, ↓reduceIte, vcu, ↓vcd, abin_seql, dE]
  refine hPV.mono ?_
  rintro _ _ ⟨rfl, rfl⟩
  rename_i τ2
  by_cases hP : PlanOk (ps.set k t)
  ·have hO : renO ps k t = true := decide_eq_true fun h => h.elim hE fun h => h hP
   rw [decide_eq_true hP]
   simp -implicitDefEqProofs (disch := omega) only [Nat.reduceEqDiff, ↓reduceIte, vcu, ↓vcd, opK_some, Bool.not_true]
   refine fin_one Tryz.results90 ⟨?_, k2, ?_⟩
   ·simp -implicitDefEqProofs (disch := omega) only [Nat.reduceEqDiff, ↓reduceIte, vcu, ↓vcd]
    rw [hO]
   ·rw [hO]; exact e2
  ·have hO : renO ps k t = false := decide_eq_false fun h => h (.inr hP)
   rw [decide_eq_false hP]
   simp -implicitDefEqProofs (disch := omega) only [Nat.reduceEqDiff, ↓reduceIte, vcu, ↓vcd, opK_some, Bool.not_false]
   refine r_setX (g := g) (i := k) (xs := ps.set k t) (v := ps.getD k []) (by simp -implicitDefEqProofs (disch := omega) only [Nat.reduceEqDiff, ↓reduceIte, vcu, ↓vcd, Nat.zero_add]) z9q co9 e2 (by rw [List.length_set]; exact hk) fun τ3 k3 e3 => ?_
   rw [set_back ps hk] at e3
   simp -implicitDefEqProofs (disch := omega) only [Nat.reduceEqDiff, ↓reduceIte, vcu, ↓vcd]
   refine fin_one Tryz.results90 ⟨?_, k2.trans k3, ?_⟩
   ·simp -implicitDefEqProofs (disch := omega) only [Nat.reduceEqDiff, ↓reduceIte, vcu, ↓vcd]
    rw [hO]
   ·rw [hO]; exact e3
/-- other calls are laid down -/
theorem Pt.calls {B τ τ2 τ3 : AHeap} {h : Nat} {x : Ex} {vp vc vx : Value} {cs : List Cl} (hB : Sub B τ) (hn : B h = none) (hh : τ h = some ⟨pcs x vp vc, false⟩) (ow : OwnS (Bs B h h) τ vp x.ps)
  (s2 : Sub τ τ2) (wx : OwnC τ τ2 vx cs) (k3 : Kept h τ2 τ3) (e3 : τ3 h = some ⟨pcs x vp vx, false⟩) : Pt B τ3 h ⟨x.s, x.ps, cs⟩ := by
 refine ⟨k3.sub (hB.trans s2) hn, hn, vp, vx, e3, (ow.sub s2).kept k3 Bs_6, ?_⟩
 have : OwnC (Bs B h h) τ2 vx cs := wx.imp id fun ⟨g, a1, a2, a3⟩ => ⟨g, a1, a2, Bs_free (free_sub hB a3) (ne_of a3 hh) (ne_of a3 hh)⟩
 exact this.kept k3 Bs_6
/-- the exchange after a line's call has ended -/
def hangO (x : Ex) (l : Int) : Option Ex := if peerS x.cs l < 0 then none else some ⟨x.s, x.ps, if (dropL x.cs l).length < x.cs.length then dropL x.cs l else dropL x.cs (peerS x.cs l)⟩
theorem dropL_same {cs : List Cl} {i : Int} (h : ∀ c ∈ cs, c.i ≠ i) : ¬ (dropL cs i).length < cs.length := by
 have : dropL cs i = cs := by
  unfold dropL
  rw [List.filter_eq_self]
  intro c hc
  simpa using h c hc
 rw [this]; omega
theorem dropL_less {cs : List Cl} {c : Cl} (h : c ∈ cs) : (dropL cs c.i).length < cs.length := by
 unfold dropL
 rcases Nat.lt_or_ge (cs.filter fun d => decide (d.i ≠ c.i)).length cs.length with hh | hh
 ·simpa using hh
 ·have := List.filter_eq_self.1 (List.Sublist.eq_of_length_le List.filter_sublist hh) c h
  simp at this
theorem hangO_at {x : Ex} (hok : ExOk x) {l : Int} {k : Nat} (hk : k < x.cs.length) (hP : hasL l (gc x.cs k)) (hup : ∀ c ∈ x.cs.take k, ¬ hasL l c) : hangO x l = some ⟨x.s, x.ps, dropL x.cs (gc x.cs k).i⟩ := by
 have hp := peerS_fst _ _ _ hk hP hup
 have hC := hok.2.2.2.1
 have hR := hC.2.1 _ (gc_mem hk)
 have r1 := hR.1
 have r2 := hR.2.1
 unfold hangO
 rcases hP with e | e
 ·rw [if_neg (by omega), if_pos (by rw [← e]; exact dropL_less (gc_mem hk)), e]
 ·have hno : ¬ (dropL x.cs l).length < x.cs.length := dropL_same fun c hc q => hok.2.2.2.2 c hc _ (gc_mem hk) (by rw [q, e])
  rw [if_neg (by omega), if_neg hno, hp, show (gc x.cs k).i + (gc x.cs k).o - l = (gc x.cs k).i by omega]
theorem hangO_no {x : Ex} {l : Int} (hn : ∀ c ∈ x.cs, ¬ hasL l c) : hangO x l = none := by
 unfold hangO
 rw [peerS_no _ _ hn]; rfl
set_option maxRecDepth 8000 in
theorem hangUp_calls (B τ : AHeap) (h : Nat) (x : Ex) (l : Int) (hp : Pt B τ h x) (hok : ExOk x) :
  ACall Tryz.prog w0 89 [.pointer (some ⟨h, 0, none⟩), .int .i64 l] τ fun r σ' => r = .bool (hangO x l).isSome ∧ Pt B σ' h ((hangO x l).getD x) := by
 have hp0 := hp
 obtain ⟨hB, hn, vp, vc, hh, ow, oc⟩ := hp
 have hC := hok.2.2.2.1
 have hl12 := hC.len
 have b3 : x.cs.length ≤ 1048576 := by omega
 refine acall_go mixed Tryz.func89 rfl good89 fun pr => ?_
 simp -implicitDefEqProofs (disch := omega) only [Nat.reduceEqDiff, ↓reduceIte, vcu, ↓vcd]
 refine (callOf_calls τ h x vp vc l hh oc.tris b3).mono ?_
 rintro _ _ ⟨rfl, rfl⟩
 rename_i τ
 rcases fstC_spec (hasL l) x.cs with ⟨e, hno⟩ | ⟨k, e, hk, hP, hup⟩
 ·rw [e, hangO_no hno]
  simp -implicitDefEqProofs (disch := omega) only [Nat.reduceEqDiff, ↓reduceIte, vcu, ↓vcd, opK_some]
  refine fin_one Tryz.results89 ⟨?_, hp0⟩
  simp -implicitDefEqProofs (disch := omega) only [Nat.reduceEqDiff, ↓reduceIte, vcu, ↓vcd]
  rfl
 ·rw [e, hangO_at hok hk hP hup]
  have tc := oc.tris
  obtain ⟨hg, ho, ev, hrow⟩ := rowC tc (by omega)
  have hgk : x.cs.getD k cl0 = gc x.cs k := rfl
  obtain ⟨q1, q2, q3⟩ := hrow k hk
  rw [hgk] at q1 q2
  have x0 : lds τ h 0 3 = some [.int .i64 x.s.O, .int .i64 x.s.E, .int .i64 x.s.M] := lds_three (ld_of hh rfl) (ld_of hh rfl) (ld_of hh rfl)
  have x3 : ld τ h (0 + 3) = some (.slice (some ⟨hg, ho, none⟩) x.cs.length 3) := by rw [← ev]; exact ld_of hh rfl
  have hdr := implDrop8_calls (w0 := w0) τ x.s (.slice (some ⟨hg, ho, none⟩) x.cs.length 3) x.cs (gc x.cs k).i (by rw [← ev]; exact tc) b3
  obtain ⟨z1, z2⟩ := drL_ok (i := (gc x.cs k).i) hC
  rw [z1, z2, decide_eq_true (dropL_less (gc_mem hk))] at hdr
  simp -implicitDefEqProofs (disch := omega) only [Nat.reduceEqDiff, ↓reduceIte, vcu, ↓vcd, opK_some]
  refine region_tree mixed (quiets [0, 1, 2, 4, 5, 6, 8, 9, 10, 12] (quiets [3, 7, 11] (quiets [13, 14] (quiets [15] (.one 16 (quiets [17, 18, 19, 20, 21] .stop)))))) [([3, 7, 11], Sub τ), ([15], Sub τ)] (by kernel_rfl) (by kernel_rfl) (fun p hp => by simp only [List.mem_cons, List.mem_singleton, List.not_mem_nil, or_false] at hp; rcases hp with rfl | rfl <;> exact Sub.refl _) ?_
  refine tree_quiets _ _ _ _ sf0 (by kernel_rfl) (by kernel_rfl) ?_
  simp -implicitDefEqProofs (disch := omega) only [Nat.reduceEqDiff, ↓reduceIte, vcu, ↓vcd, pickOps_nil, pickOps_cons, pickO_some, List.getElem?_cons_succ, List.getElem?_cons_zero]
  refine tree_quiets τ _ _ _ sf1 (by kernel_rfl) (by kernel_rfl) ?_
  simp -implicitDefEqProofs (disch := omega) only [Nat.reduceEqDiff, ↓reduceIte, vcu, ↓vcd, pickOps_nil, pickOps_cons, pickO_some, List.getElem?_cons_succ, List.getElem?_cons_zero, x0, x3, co29]
  refine tree_quiets _ _ _ _ sf0 (by kernel_rfl) (by kernel_rfl) ?_
  simp -implicitDefEqProofs (disch := omega) only [Nat.reduceEqDiff, ↓reduceIte, vcu, ↓vcd, pickOps_nil, pickOps_cons, pickO_some, List.getElem?_cons_succ, List.getElem?_cons_zero]
  refine tree_quiets τ _ _ _ (sf2 rfl) (by kernel_rfl) (by kernel_rfl) ?_
  simp -implicitDefEqProofs (disch := omega) only [Nat.reduceEqDiff, ↓reduceIte, vcu, ↓vcd, pickOps_nil, pickOps_cons, pickO_some, List.getElem?_cons_succ, List.getElem?_cons_zero, q1, Nat.add_zero]
  refine tree_one rfl ?_
  try simp -implicitDefEqProofs (disch := omega) only [Nat.reduceEqDiff, ↓reduceIte, vcu, ↓vcd]
  refine hdr.mono ?_
  rintro _ τ2 ⟨vx, rfl, s2, wx⟩
  simp -implicitDefEqProofs (disch := omega) only [Nat.reduceEqDiff, ↓reduceIte, vcu, ↓vcd, opK_some]
  refine ⟨keep_of rfl (fun p hp => by simp only [List.mem_cons, List.mem_singleton, List.not_mem_nil, or_false] at hp; rcases hp with rfl | rfl <;> exact .inr s2), ?_⟩
  refine tree_quiets _ _ _ _ sf0 (by kernel_rfl) (by kernel_rfl) ?_
  simp -implicitDefEqProofs (disch := omega) only [Nat.reduceEqDiff, ↓reduceIte, vcu, ↓vcd, pickOps_nil, pickOps_cons, pickO_some, List.getElem?_cons_succ, List.getElem?_cons_zero, List.getElem?_toArray, List.getElem?_cons_zero, List.getElem?_cons_succ]
  refine tree_stop ?_
  simp -implicitDefEqProofs (disch := omega) only [Nat.reduceEqDiff, ↓reduceIte, vcu, ↓vcd]
  obtain ⟨vA, vL, vC', rfl⟩ := tris_slc wx.tris
  refine r_set (g := h) (i := 3) (C := pcs x vp vc) z9q z9r co30 z9r (s2 _ _ hh) (by simp [pcs]) fun τ3 k3 e3 => ?_
  simp -implicitDefEqProofs (disch := omega) only [Nat.reduceEqDiff, ↓reduceIte, vcu, ↓vcd]
  refine fin_one Tryz.results89 ⟨?_, Pt.calls hB hn hh ow s2 wx k3 e3⟩
  simp -implicitDefEqProofs (disch := omega) only [Nat.reduceEqDiff, ↓reduceIte, vcu, ↓vcd]
  rfl
/-- the exchange after a call has begun -/
def conO (x : Ex) (f t : Int) : Option Ex := if t < 0 ∨ t = f ∨ 0 ≤ peerS x.cs f ∨ 0 ≤ peerS x.cs t then none else some ⟨x.s, x.ps, moveL x.s x.cs f t⟩
theorem fstC_peer {x : Ex} (hC : CV x.s x.cs) (l : Int) : 0 ≤ fstC (hasL l) x.cs ↔ 0 ≤ peerS x.cs l := by
 rcases fstC_spec (hasL l) x.cs with ⟨e, hno⟩ | ⟨k, e, hk, hP, hup⟩
 ·rw [e, peerS_no _ _ hno]
 ·rw [e, peerS_fst _ _ _ hk hP hup]
  have hR := hC.2.1 _ (gc_mem hk)
  have r1 := hR.1
  have r2 := hR.2.1
  constructor
  ·intro _; rcases hP with q | q <;> omega
  ·intro _; omega
set_option maxRecDepth 8000 in
theorem connect_calls (B τ : AHeap) (h : Nat) (x : Ex) (f t : Int) (hp : Pt B τ h x) (hok : ExOk x) (hf : 0 ≤ f ∧ f ≤ x.s.O * x.s.E - 1) (ht : -1 ≤ t ∧ t ≤ x.s.O * x.s.E - 1) :
  ACall Tryz.prog w0 87 [.pointer (some ⟨h, 0, none⟩), .int .i64 f, .int .i64 t] τ fun r σ' => r = .bool (conO x f t).isSome ∧ Pt B σ' h ((conO x f t).getD x) ∧ ld σ' h (0 + 4) = ld τ h (0 + 4) := by
 have hp0 := hp
 obtain ⟨hB, hn, vp, vc, hh, ow, oc⟩ := hp
 have hC := hok.2.2.2.1
 have hl12 := hC.len
 have b3 : x.cs.length ≤ 1048576 := by omega
 have c1 := callOf_calls (w0 := w0) τ h x vp vc f hh oc.tris b3
 have c2 := callOf_calls (w0 := w0) τ h x vp vc t hh oc.tris b3
 have i1 := fstC_peer hC f
 have i2 := fstC_peer hC t
 generalize fstC (hasL f) x.cs = z1 at c1 i1
 generalize fstC (hasL t) x.cs = z2 at c2 i2
 refine acall_go mixed Tryz.func87 rfl good87 fun pr => ?_
 have hno : (t < 0 ∨ t = f ∨ 0 ≤ peerS x.cs f ∨ 0 ≤ peerS x.cs t) → conO x f t = none := fun hh => if_pos hh
 by_cases h1 : f = t
 ·have d1 : decide (f = t) = true := decide_eq_true h1
  simp -implicitDefEqProofs (disch := omega) only [Nat.reduceEqDiff, ↓reduceIte, vcu, ↓vcd, d1]
  rw [hno (.inr (.inl h1.symm))]
  refine fin_one Tryz.results87 ⟨?_, hp0, rfl⟩
  simp -implicitDefEqProofs (disch := omega) only [Nat.reduceEqDiff, ↓reduceIte, vcu, ↓vcd]
  rfl
 have d1 : decide (f = t) = false := decide_eq_false h1
 simp -implicitDefEqProofs (disch := omega) only [Nat.reduceEqDiff, ↓reduceIte, vcu, ↓vcd, d1]
 refine c1.mono ?_
 rintro _ _ ⟨rfl, rfl⟩
 rename_i τ
 by_cases h2 : 0 ≤ z1
 ·have d2 : decide (z1 ≥ 0) = true := decide_eq_true h2
  simp -implicitDefEqProofs (disch := omega) only [Nat.reduceEqDiff, ↓reduceIte, vcu, ↓vcd, opK_some, d2]
  rw [hno (.inr (.inr (.inl (i1.1 h2))))]
  refine fin_one Tryz.results87 ⟨?_, hp0, rfl⟩
  simp -implicitDefEqProofs (disch := omega) only [Nat.reduceEqDiff, ↓reduceIte, vcu, ↓vcd]
  rfl
 have d2 : decide (z1 ≥ 0) = false := decide_eq_false h2
 simp -implicitDefEqProofs (disch := omega) only [Nat.reduceEqDiff, ↓reduceIte, vcu, ↓vcd, opK_some, d2]
 refine c2.mono ?_
 rintro _ _ ⟨rfl, rfl⟩
 rename_i τ
 by_cases h3 : 0 ≤ z2
 ·have d3 : decide (z2 ≥ 0) = true := decide_eq_true h3
  simp -implicitDefEqProofs (disch := omega) only [Nat.reduceEqDiff, ↓reduceIte, vcu, ↓vcd, opK_some, d3]
  rw [hno (.inr (.inr (.inr (i2.1 h3))))]
  refine fin_one Tryz.results87 ⟨?_, hp0, rfl⟩
  simp -implicitDefEqProofs (disch := omega) only [Nat.reduceEqDiff, ↓reduceIte, vcu, ↓vcd]
  rfl
 have d3 : decide (z2 ≥ 0) = false := decide_eq_false h3
 have x0 : lds τ h 0 3 = some [.int .i64 x.s.O, .int .i64 x.s.E, .int .i64 x.s.M] := lds_three (ld_of hh rfl) (ld_of hh rfl) (ld_of hh rfl)
 have x3 : ld τ h (0 + 3) = some vc := ld_of hh rfl
 have hm : (decide (mvOk x.s x.cs f t) = (conO x f t).isSome) ∧ (conO x f t).getD x = ⟨x.s, x.ps, mvL x.s x.cs f t⟩ := by
  have hCE : CV x.s x.cs ∧ Enough x.s := ⟨hC, hok.1⟩
  by_cases h4 : t < 0
  ·rw [hno (.inl h4)]
   have : ¬ mvOk x.s x.cs f t := fun hh => by have := hh.2.1.2.1; omega
   rw [decide_eq_false this, mvL_same hCE this]
   exact ⟨rfl, rfl⟩
  ·have hnp : ∀ y, ¬ 0 ≤ peerS x.cs y → ∀ z, ¬ Pr x.cs y z := fun y hy => by
    rcases peerS_spec x.cs y with hh | ⟨_, hh⟩
    ·have := (hh.lines hC).2; omega
    ·exact hh
   have p1 := hnp f fun q => h2 (i1.2 q)
   have p2 := hnp t fun q => h3 (i2.2 q)
   have hb : ¬ Busy x.cs f t := by
    rintro ⟨c, hc, e | e⟩
    ·exact p1 c.o ⟨c, hc, .inl ⟨e, rfl⟩⟩
    ·exact p2 c.i ⟨c, hc, .inr ⟨e, rfl⟩⟩
   have hmv : mvOk x.s x.cs f t := ⟨hCE, ⟨hf, by omega⟩, hb⟩
   have : conO x f t = some ⟨x.s, x.ps, moveL x.s x.cs f t⟩ := if_neg fun hh => by
    rcases hh with q | q | q | q
    ·exact h4 q
    ·exact h1 q.symm
    ·exact h2 (i1.2 q)
    ·exact h3 (i2.2 q)
   rw [this, decide_eq_true hmv, mvL_ok hmv]
   exact ⟨rfl, rfl⟩
 have hmc := implMove8_calls (w0 := w0) τ x.s vc x.cs f t oc.tris b3
 rw [hm.1] at hmc
 rw [hm.2]
 generalize (conO x f t).isSome = bo at hmc
 simp -implicitDefEqProofs (disch := omega) only [Nat.reduceEqDiff, ↓reduceIte, vcu, ↓vcd, opK_some, d3]
 refine region_tree mixed (quiets [0, 1, 2, 4, 5, 6, 8, 9] (quiets [3, 7] (.one 10 (quiets [11, 12, 13, 14, 15] .stop)))) [([3, 7], Sub τ)] (by kernel_rfl) (by kernel_rfl) (fun p hp => by simp only [List.mem_singleton] at hp; subst hp; exact Sub.refl _) ?_
 refine tree_quiets _ _ _ _ sf0 (by kernel_rfl) (by kernel_rfl) ?_
 simp -implicitDefEqProofs (disch := omega) only [Nat.reduceEqDiff, ↓reduceIte, vcu, ↓vcd, pickOps_nil, pickOps_cons, pickO_some, List.getElem?_cons_succ, List.getElem?_cons_zero]
 refine tree_quiets τ _ _ _ sf1 (by kernel_rfl) (by kernel_rfl) ?_
 simp -implicitDefEqProofs (disch := omega) only [Nat.reduceEqDiff, ↓reduceIte, vcu, ↓vcd, pickOps_nil, pickOps_cons, pickO_some, List.getElem?_cons_succ, List.getElem?_cons_zero, x0, x3, co29]
 refine tree_one rfl ?_
 try simp -implicitDefEqProofs (disch := omega) only [Nat.reduceEqDiff, ↓reduceIte, vcu, ↓vcd]
 refine hmc.mono ?_
 rintro _ τ2 ⟨vx, rfl, s2, wx⟩
 simp -implicitDefEqProofs (disch := omega) only [Nat.reduceEqDiff, ↓reduceIte, vcu, ↓vcd, opK_some]
 refine ⟨keep_of rfl (fun p hp => by simp only [List.mem_singleton] at hp; subst hp; exact .inr s2), ?_⟩
 refine tree_quiets _ _ _ _ sf0 (by kernel_rfl) (by kernel_rfl) ?_
 simp -implicitDefEqProofs (disch := omega) only [Nat.reduceEqDiff, ↓reduceIte, vcu, ↓vcd, pickOps_nil, pickOps_cons, pickO_some, List.getElem?_cons_succ, List.getElem?_cons_zero, List.getElem?_toArray, List.getElem?_cons_zero, List.getElem?_cons_succ]
 refine tree_stop ?_
 simp -implicitDefEqProofs (disch := omega) only [Nat.reduceEqDiff, ↓reduceIte, vcu, ↓vcd]
 obtain ⟨vA, vL, vC', rfl⟩ := tris_slc wx.tris
 refine r_set (g := h) (i := 3) (C := pcs x vp vc) z9q z9r co30 z9r (s2 _ _ hh) (by simp [pcs]) fun τ3 k3 e3 => ?_
 simp -implicitDefEqProofs (disch := omega) only [Nat.reduceEqDiff, ↓reduceIte, vcu, ↓vcd]
 refine fin_one Tryz.results87 ⟨?_, Pt.calls hB hn hh ow s2 wx k3 e3, ?_⟩
 ·simp -implicitDefEqProofs (disch := omega) only [Nat.reduceEqDiff, ↓reduceIte, vcu, ↓vcd]
 ·rw [ld_of e3 rfl, ld_of hh rfl]
end Go.Proofs.YtafkndnmhhjdhaaGreatDoor
namespace Go.Proofs.YtafkndnmhhjdhaaGreatDoor
open Go Go.Abs Go.RowKit Go.Dial Go.Clos
variable {w0 : World}
theorem doO_call8 {x : Ex} {L : Int} {N : List UInt8} (h : 0 ≤ L ∧ L ≤ (x.ps.length : Int) - 1) : doO x ⟨0, L, N⟩ = conO x L (lineS x.ps N) := by
 unfold doO conO
 rw [if_neg (fun q => q h), if_pos rfl]
theorem doO_drop {x : Ex} {L : Int} {N : List UInt8} (h : 0 ≤ L ∧ L ≤ (x.ps.length : Int) - 1) : doO x ⟨1, L, N⟩ = if N = [] then hangO x L else none := by
 unfold doO hangO
 rw [if_neg (fun q => q h), if_neg (by simp), if_pos rfl]
 by_cases h1 : N = []
 ·rw [if_pos h1]
  by_cases h2 : peerS x.cs L < 0
  ·rw [if_pos (.inl h2), if_pos h2]
  ·rw [if_neg (fun q => q.elim h2 fun q => q h1), if_neg h2]
 ·rw [if_neg h1, if_pos (.inr h1)]
theorem doO_num {x : Ex} {k : Nat} {N : List UInt8} (h : 0 ≤ (k : Int) ∧ (k : Int) ≤ (x.ps.length : Int) - 1) : doO x ⟨2, k, N⟩ = if renO x.ps k N = true then some ⟨x.s, x.ps.set k N, x.cs⟩ else none := by
 unfold doO renO
 rw [if_neg (fun q => q h), if_neg (by simp), if_neg (by simp), if_pos rfl]
 simp only [Int.toNat_natCast, decide_eq_true_eq]
 by_cases h1 : N = x.ps.getD k [] ∨ ¬ PlanOk (x.ps.set k N)
 ·rw [if_pos h1, if_neg fun q => q h1]
 ·rw [if_neg h1, if_pos h1]
theorem doO_none {x : Ex} {K L : Int} {N : List UInt8} (h : ¬ (0 ≤ L ∧ L ≤ (x.ps.length : Int) - 1) ∨ (K ≠ 0 ∧ K ≠ 1 ∧ K ≠ 2)) : doO x ⟨K, L, N⟩ = none := by
 unfold doO
 rcases h with h | ⟨h0, h1, h2⟩
 ·rw [if_pos h]
 ·by_cases h : 0 ≤ L ∧ L ≤ (x.ps.length : Int) - 1
  ·rw [if_neg (fun q => q h), if_neg h0, if_neg h1, if_neg h2]
  ·rw [if_pos h]
/-- a load in a region that draws its order, by what it reads alone -/
theorem tree_load {P : Program} {w0 : Base} {md : Region.Mode} {all : List Oper} {Sf : Nat → AHeap → Prop} {K : AK} {i d h k : Nat} {t : TypeId} {x : Operand} {ty : TypeId} {pos : String} {af : Array Edge} {w : Abs.Way} {a : AFrame} {σ : AHeap} {v : Value}
  (ho : all[i]? = some ⟨some d, .load t x, ty, pos, af, none⟩) (hx : ev a x = .pointer (some ⟨h, k, none⟩)) (hag : aisAgg P t = false) (hS : ∀ τ, Sf i τ → ld τ h k = some v)
  (hw : aTree P w0 md all.toArray Sf K w (fset a d v) σ) : aTree P w0 md all.toArray Sf K (.quiet i w) a σ := by
 refine ⟨⟨some d, .load t x, ty, pos, af, none⟩, v, by simpa using ho, .inl ⟨rfl, fun τ hτ => ?_⟩, hw⟩
 refine ⟨h, k, hx, ?_⟩
 rw [if_neg (by rw [hag]; simp)]
 exact ⟨v, hS τ hτ, rfl, rfl⟩
set_option maxRecDepth 8000 in
set_option maxHeartbeats 1600000 in
theorem do_calls (B τ : AHeap) (h : Nat) (x : Ex) (d : Dd) (hp : Pt B τ h x) (hok : ExOk x) (hN : d.t.length ≤ 1048576) :
  ACall Tryz.prog w0 60 [.pointer (some ⟨h, 0, none⟩), ddA d] τ fun r σ' => r = .bool (doO x d).isSome ∧ Pt B σ' h ((doO x d).getD x) := by
 obtain ⟨K, L, N⟩ := d
 have hNl : N.length ≤ 1048576 := hN
 obtain ⟨hB, hn, vp, vc, hh, ow, oc⟩ := id hp
 have hC := hok.2.2.2.1
 have hPl := hok.2.1
 have hLn := hok.2.2.1
 have hxB := exB_of hok
 obtain ⟨b1, b2, b3⟩ := hxB
 unfold ddA
 dsimp only
 refine acall_go mixed Tryz.func60 rfl good60 fun pr => ?_
 simp -implicitDefEqProofs (disch := omega) only [Nat.reduceEqDiff, ↓reduceIte, vcu, ↓vcd]
 refine r_boxed fun b T nb s1 e1 => ?_
 replace e1 : T b = some ⟨[.int .i64 K, .int .i64 L, .string (tx N)], false⟩ := e1
 have hp1 := hp.sub s1
 have hh1 := s1 _ _ hh
 have ow1 := ow.sub s1
 have x0 : lds T h 0 3 = some [.int .i64 x.s.O, .int .i64 x.s.E, .int .i64 x.s.M] := lds_three (ld_of hh1 rfl) (ld_of hh1 rfl) (ld_of hh1 rfl)
 have x4 : ld T h (0 + 4) = some vp := ld_of hh1 rfl
 have u0 : ld T b (0 + 0) = some (.int .i64 K) := ld_of e1 rfl
 have u1 : ld T b (0 + 1) = some (.int .i64 L) := ld_of e1 rfl
 have u2 : ld T b (0 + 2) = some (.string (tx N)) := ld_of e1 rfl
 simp -implicitDefEqProofs (disch := omega) only [Nat.reduceEqDiff, ↓reduceIte, vcu, ↓vcd, x0, u1, co29, Nat.add_zero]
 rw [r_callq]
 refine ⟨_, hasLine_at T x.s.O x.s.E x.s.M L hok.1.1, ?_⟩
 rw [← hLn]
 by_cases hl : 0 ≤ L ∧ L ≤ (x.ps.length : Int) - 1
 case neg =>
  rw [decide_eq_false hl]
  simp -implicitDefEqProofs (disch := omega) only [Nat.reduceEqDiff, ↓reduceIte, vcu, ↓vcd, Bool.not_false]
  rw [doO_none (.inl hl)]
  refine fin_one Tryz.results60 ⟨?_, hp1⟩
  simp -implicitDefEqProofs (disch := omega) only [Nat.reduceEqDiff, ↓reduceIte, vcu, ↓vcd]
  rfl
 rw [decide_eq_true hl]
 obtain ⟨k, rfl⟩ : ∃ k : Nat, L = k := ⟨L.toNat, by omega⟩
 have hk : k < x.ps.length := by omega
 simp -implicitDefEqProofs (disch := omega) only [Nat.reduceEqDiff, ↓reduceIte, vcu, ↓vcd, Bool.not_true, u0, Nat.add_zero]
 have hBb : B b = none := free_sub hB nb
 have hbh : b ≠ h := by rintro rfl; rw [hh] at nb; cases nb
 have hpb : Pt (B.upd b (T b)) T h x := by
  refine ⟨fun q ob hq => ?_, by rw [AHeap.upd_ne _ _ hbh.symm]; exact hn, vp, vc, hh1, ?_, ?_⟩
  ·by_cases e : q = b
   ·subst e; rw [AHeap.upd_same] at hq; exact hq
   ·rw [AHeap.upd_ne _ _ e] at hq; exact s1 _ _ (hB _ _ hq)
  ·exact ow.imp id fun ⟨g, a1, a2, a3⟩ => ⟨g, a1, s1 _ _ a2, Bs_free (by rw [AHeap.upd_ne _ _ (ne_of' nb a2)]; exact (Bs_none a3).1) (Bs_none a3).2.1 (Bs_none a3).2.1⟩
  ·exact oc.imp id fun ⟨g, a1, a2, a3⟩ => ⟨g, a1, s1 _ _ a2, Bs_free (by rw [AHeap.upd_ne _ _ (ne_of' nb a2)]; exact (Bs_none a3).1) (Bs_none a3).2.1 (Bs_none a3).2.1⟩
 by_cases hK0 : K = 0
 ·subst hK0
  have d0 : decide ((0 : Int) = 0) = true := rfl
  have t4 := ow1.texts
  have hcon := connect_calls (w0 := w0) (B.upd b (T b)) T h x k (lineS x.ps N) hpb hok (by rw [← hLn]; exact hl) ⟨lineS_ge, by have := lineS_lt (ps := x.ps) (t := N); omega⟩
  rw [doO_call8 hl]
  generalize conO x k (lineS x.ps N) = co at hcon
  simp -implicitDefEqProofs (disch := omega) only [Nat.reduceEqDiff, ↓reduceIte, vcu, ↓vcd, d0]
  refine region_tree mixed (quiets [0, 1, 2, 3, 5, 6, 7, 9] (quiets [4, 8, 10] (.one 11 (.one 12 (quiets [13] .stop))))) [([4], fun τ => ld τ b (0 + 1) = some (.int .i64 (k : Int))), ([8], fun τ => ld τ h (0 + 4) = some vp), ([10], fun τ => ld τ b (0 + 2) = some (.string (tx N)))] (by kernel_rfl) (by kernel_rfl) (fun p hp => by
   simp only [List.mem_cons, List.not_mem_nil, or_false] at hp
   rcases hp with rfl | rfl | rfl
   ·exact u1
   ·exact x4
   ·exact u2) ?_
  refine tree_quiets _ _ _ _ sf0 (by kernel_rfl) (by kernel_rfl) ?_
  simp -implicitDefEqProofs (disch := omega) only [Nat.reduceEqDiff, ↓reduceIte, vcu, ↓vcd, pickOps_nil, pickOps_cons, pickO_some, List.getElem?_cons_succ, List.getElem?_cons_zero]
  refine tree_load (h := b) (k := 0 + 1) (v := .int .i64 k) rfl z9q ag3 (fun τ hτ => by simpa [sfOf] using hτ) ?_
  refine tree_load (h := h) (k := 0 + 4) (v := vp) rfl z9q ag90 (fun τ hτ => by simpa [sfOf] using hτ) ?_
  refine tree_load (h := b) (k := 0 + 2) (v := .string (tx N)) rfl z9q ag9 (fun τ hτ => by simpa [sfOf] using hτ) ?_
  refine tree_one rfl ?_
  try simp -implicitDefEqProofs (disch := omega) only [Nat.reduceEqDiff, ↓reduceIte, vcu, ↓vcd]
  refine (lineOf8_calls T vp x.ps N t4 b1).mono ?_
  rintro _ _ ⟨rfl, rfl⟩
  rename_i T
  simp -implicitDefEqProofs (disch := omega) only [Nat.reduceEqDiff, ↓reduceIte, vcu, ↓vcd, opK_some]
  refine ⟨.inl rfl, ?_⟩
  refine tree_one rfl ?_
  try simp -implicitDefEqProofs (disch := omega) only [Nat.reduceEqDiff, ↓reduceIte, vcu, ↓vcd]
  refine hcon.mono ?_
  rintro _ T2 ⟨rfl, hpt, hv4⟩
  have hTb : T2 b = T b := by rw [e1]; exact hpt.1 _ _ (by rw [AHeap.upd_same]; exact e1)
  rw [e1] at hTb
  simp -implicitDefEqProofs (disch := omega) only [Nat.reduceEqDiff, ↓reduceIte, vcu, ↓vcd, opK_some]
  refine ⟨keep_of rfl (fun p hp => by
   simp only [List.mem_cons, List.not_mem_nil, or_false] at hp
   rcases hp with rfl | rfl | rfl
   ·exact .inr (ld_of hTb rfl)
   ·exact .inr (hv4.trans x4)
   ·exact .inr (ld_of hTb rfl)), ?_⟩
  refine tree_quiets _ _ _ _ sf0 (by kernel_rfl) (by kernel_rfl) ?_
  simp -implicitDefEqProofs (disch := omega) only [Nat.reduceEqDiff, ↓reduceIte, vcu, ↓vcd, pickOps_nil, pickOps_cons, pickO_some, List.getElem?_cons_succ, List.getElem?_cons_zero]
  refine tree_stop ?_
  try simp -implicitDefEqProofs (disch := omega) only [Nat.reduceEqDiff, ↓reduceIte, vcu, ↓vcd]
  refine fin_one Tryz.results60 ⟨?_, hpt.older (sub_upd hBb)⟩
  simp -implicitDefEqProofs (disch := omega) only [Nat.reduceEqDiff, ↓reduceIte, vcu, ↓vcd]
 have d0 : decide (K = 0) = false := decide_eq_false hK0
 by_cases hK1 : K = 1
 ·subst hK1
  have d1 : decide ((1 : Int) = 1) = true := rfl
  have hne : abin Tryz.prog 9 .eql (.string (tx N)) (.string { data := #[] }) = some (.bool (decide (N = []))) := abin_seql (ys := [])
  have hha := hangUp_calls (w0 := w0) (B.upd b (T b)) T h x k hpb hok
  rw [doO_drop hl]
  simp -implicitDefEqProofs (disch := omega) only [Nat.reduceEqDiff, ↓reduceIte, vcu, ↓vcd, d0, d1]
  refine region_tree mixed (quiets [0] (quiets [1] (quiets [2, 3, 4, 5, 6, 7] (quiets [8] (.one 9 (quiets [10, 11] .stop)))))) [([1], fun τ => ld τ b (0 + 2) = some (.string (tx N))), ([8], Sub T)] (by kernel_rfl) (by kernel_rfl) (fun p hp => by
   simp only [List.mem_cons, List.not_mem_nil, or_false] at hp
   rcases hp with rfl | rfl
   ·exact u2
   ·exact Sub.refl _) ?_
  refine tree_quiets _ _ _ _ sf0 (by kernel_rfl) (by kernel_rfl) ?_
  simp -implicitDefEqProofs (disch := omega) only [Nat.reduceEqDiff, ↓reduceIte, vcu, ↓vcd, pickOps_nil, pickOps_cons, pickO_some, List.getElem?_cons_succ, List.getElem?_cons_zero]
  refine tree_load (h := b) (k := 0 + 2) (v := .string (tx N)) rfl z9q ag9 (fun τ hτ => by simpa [sfOf] using hτ) ?_
  by_cases hNe : N = []
  case neg =>
   have dN : decide (N = []) = false := decide_eq_false hNe
   rw [if_neg hNe]
   refine tree_quiets _ _ _ _ sf0 (by kernel_rfl) (by kernel_rfl) ?_
   simp -implicitDefEqProofs (disch := omega) only [Nat.reduceEqDiff, ↓reduceIte, vcu, ↓vcd, pickOps_nil, pickOps_cons, pickO_some, List.getElem?_cons_succ, List.getElem?_cons_zero, hne, dN]
   refine tree_quiets T _ _ _ (sf2 rfl) (by kernel_rfl) (by kernel_rfl) ?_
   simp -implicitDefEqProofs (disch := omega) only [Nat.reduceEqDiff, ↓reduceIte, vcu, ↓vcd, pickOps_nil, pickOps_cons, pickO_some, List.getElem?_cons_succ, List.getElem?_cons_zero, hne, dN]
   refine tree_one rfl ?_
   try simp -implicitDefEqProofs (disch := omega) only [Nat.reduceEqDiff, ↓reduceIte, vcu, ↓vcd, hne, dN]
   refine ⟨.inl rfl, ?_⟩
   refine tree_quiets _ _ _ _ sf0 (by kernel_rfl) (by kernel_rfl) ?_
   simp -implicitDefEqProofs (disch := omega) only [Nat.reduceEqDiff, ↓reduceIte, vcu, ↓vcd, pickOps_nil, pickOps_cons, pickO_some, List.getElem?_cons_succ, List.getElem?_cons_zero]
   refine tree_stop ?_
   try simp -implicitDefEqProofs (disch := omega) only [Nat.reduceEqDiff, ↓reduceIte, vcu, ↓vcd]
   refine fin_one Tryz.results60 ⟨?_, hp1⟩
   simp -implicitDefEqProofs (disch := omega) only [Nat.reduceEqDiff, ↓reduceIte, vcu, ↓vcd]
   rfl
  have dN : decide (N = []) = true := decide_eq_true hNe
  rw [if_pos hNe]
  generalize hangO x k = ho at hha
  refine tree_quiets _ _ _ _ sf0 (by kernel_rfl) (by kernel_rfl) ?_
  simp -implicitDefEqProofs (disch := omega) only [Nat.reduceEqDiff, ↓reduceIte, vcu, ↓vcd, pickOps_nil, pickOps_cons, pickO_some, List.getElem?_cons_succ, List.getElem?_cons_zero, hne, dN]
  refine tree_quiets T _ _ _ (sf2 rfl) (by kernel_rfl) (by kernel_rfl) ?_
  simp -implicitDefEqProofs (disch := omega) only [Nat.reduceEqDiff, ↓reduceIte, vcu, ↓vcd, pickOps_nil, pickOps_cons, pickO_some, List.getElem?_cons_succ, List.getElem?_cons_zero, hne, dN, u1]
  refine tree_one rfl ?_
  try simp -implicitDefEqProofs (disch := omega) only [Nat.reduceEqDiff, ↓reduceIte, vcu, ↓vcd, hne, dN]
  refine hha.mono ?_
  rintro _ T2 ⟨rfl, hpt⟩
  have hTb : T2 b = T b := by rw [e1]; exact hpt.1 _ _ (by rw [AHeap.upd_same]; exact e1)
  rw [e1] at hTb
  simp -implicitDefEqProofs (disch := omega) only [Nat.reduceEqDiff, ↓reduceIte, vcu, ↓vcd, opK_some]
  refine ⟨keep_of rfl (fun p hp => by
   simp only [List.mem_cons, List.not_mem_nil, or_false] at hp
   rcases hp with rfl | rfl
   ·exact .inr (ld_of hTb rfl)
   ·exact .inl (by kernel_rfl)), ?_⟩
  refine tree_quiets _ _ _ _ sf0 (by kernel_rfl) (by kernel_rfl) ?_
  simp -implicitDefEqProofs (disch := omega) only [Nat.reduceEqDiff, ↓reduceIte, vcu, ↓vcd, pickOps_nil, pickOps_cons, pickO_some, List.getElem?_cons_succ, List.getElem?_cons_zero]
  refine tree_stop ?_
  try simp -implicitDefEqProofs (disch := omega) only [Nat.reduceEqDiff, ↓reduceIte, vcu, ↓vcd]
  refine fin_one Tryz.results60 ⟨?_, hpt.older (sub_upd hBb)⟩
  simp -implicitDefEqProofs (disch := omega) only [Nat.reduceEqDiff, ↓reduceIte, vcu, ↓vcd]
 have d1 : decide (K = 1) = false := decide_eq_false hK1
 by_cases hK2 : K = 2
 ·subst hK2
  have d2 : decide ((2 : Int) = 2) = true := rfl
  have h0 : 0 < x.ps.length := by omega
  obtain ⟨g, rfl, hgT, hgB⟩ : ∃ g, vp = .slice (some ⟨g, 0, none⟩) x.ps.length 1 ∧ T g = some ⟨texts x.ps, false⟩ ∧ Bs B h h g = none := by
   rcases ow1 with ⟨_, e⟩ | ⟨g, a1, a2, a3⟩
   ·rw [e] at h0; simp at h0
   ·exact ⟨g, a1, a2, a3⟩
  have hre := renumber_at (w0 := w0) T g k x.ps N hgT hk b1 b2 hNl
  rw [doO_num hl]
  simp -implicitDefEqProofs (disch := omega) only [Nat.reduceEqDiff, ↓reduceIte, vcu, ↓vcd, d0, d1, d2]
  refine region_tree mixed (quiets [0, 1, 2, 4, 6] (quiets [3, 5, 7] (.one 8 (quiets [9] .stop)))) [([3, 5, 7], Sub T)] (by kernel_rfl) (by kernel_rfl) (fun p hp => by simp only [List.mem_singleton] at hp; subst hp; exact Sub.refl _) ?_
  refine tree_quiets _ _ _ _ sf0 (by kernel_rfl) (by kernel_rfl) ?_
  simp -implicitDefEqProofs (disch := omega) only [Nat.reduceEqDiff, ↓reduceIte, vcu, ↓vcd, pickOps_nil, pickOps_cons, pickO_some, List.getElem?_cons_succ, List.getElem?_cons_zero]
  refine tree_quiets T _ _ _ sf1 (by kernel_rfl) (by kernel_rfl) ?_
  simp -implicitDefEqProofs (disch := omega) only [Nat.reduceEqDiff, ↓reduceIte, vcu, ↓vcd, pickOps_nil, pickOps_cons, pickO_some, List.getElem?_cons_succ, List.getElem?_cons_zero, u1, u2, x4]
  refine tree_one rfl ?_
  try simp -implicitDefEqProofs (disch := omega) only [Nat.reduceEqDiff, ↓reduceIte, vcu, ↓vcd]
  refine hre.mono ?_
  rintro _ T2 ⟨rfl, k2, e2⟩
  have hgh : h ≠ g := fun e => (Bs_none hgB).2.1 e.symm
  have hT2h := k2.at hh1 hgh
  have hpt : Pt B T2 h ((if renO x.ps k N = true then some (⟨x.s, x.ps.set k N, x.cs⟩ : Ex) else none).getD x) := by
   have hcs : OwnC (Bs B h h) T2 vc x.cs := (oc.sub s1).imp id fun ⟨gc', a1, a2, a3⟩ => ⟨gc', a1, k2.at a2 (by
    rintro rfl
    rw [hgT] at a2
    have a2 := congrArg AObj.cells (Option.some.inj a2)
    dsimp only at a2
    cases hq : x.ps with
    | nil => rw [hq] at h0; simp at h0
    | cons q qs =>
     rw [hq] at a2
     cases hr : x.cs with
     | nil => rw [hr] at a2; simp [texts, tris] at a2
     | cons c cs' =>
      rw [hr] at a2
      have q2 : Value.string (tx q) :: texts qs = .int .i64 c.i :: .int .i64 c.o :: .int .i64 c.v :: tris cs' := a2
      cases (List.cons.inj q2).1), a3⟩
   by_cases hr : renO x.ps k N = true
   ·rw [if_pos hr]
    rw [if_pos hr] at e2
    exact ⟨k2.sub (hB.trans s1) (Bs_none hgB).1, hn, _, vc, hT2h, .inr ⟨g, by rw [Option.getD_some]; dsimp only; rw [List.length_set], e2, hgB⟩, hcs⟩
   ·rw [if_neg hr]
    rw [if_neg hr] at e2
    exact ⟨k2.sub (hB.trans s1) (Bs_none hgB).1, hn, _, vc, hT2h, .inr ⟨g, rfl, e2, hgB⟩, hcs⟩
  have hbo : (if renO x.ps k N = true then some (⟨x.s, x.ps.set k N, x.cs⟩ : Ex) else none).isSome = renO x.ps k N := by
   cases renO x.ps k N <;> rfl
  rw [hbo]
  simp -implicitDefEqProofs (disch := omega) only [Nat.reduceEqDiff, ↓reduceIte, vcu, ↓vcd, opK_some]
  refine ⟨keep_of rfl (fun p hp => by simp only [List.mem_singleton] at hp; subst hp; exact .inl (by kernel_rfl)), ?_⟩
  refine tree_quiets _ _ _ _ sf0 (by kernel_rfl) (by kernel_rfl) ?_
  simp -implicitDefEqProofs (disch := omega) only [Nat.reduceEqDiff, ↓reduceIte, vcu, ↓vcd, pickOps_nil, pickOps_cons, pickO_some, List.getElem?_cons_succ, List.getElem?_cons_zero]
  refine tree_stop ?_
  try simp -implicitDefEqProofs (disch := omega) only [Nat.reduceEqDiff, ↓reduceIte, vcu, ↓vcd]
  refine fin_one Tryz.results60 ⟨?_, hpt⟩
  simp -implicitDefEqProofs (disch := omega) only [Nat.reduceEqDiff, ↓reduceIte, vcu, ↓vcd]
 have d2 : decide (K = 2) = false := decide_eq_false hK2
 rw [doO_none (.inr ⟨hK0, hK1, hK2⟩)]
 simp -implicitDefEqProofs (disch := omega) only [Nat.reduceEqDiff, ↓reduceIte, vcu, ↓vcd, d0, d1, d2]
 refine fin_one Tryz.results60 ⟨?_, hp1⟩
 simp -implicitDefEqProofs (disch := omega) only [Nat.reduceEqDiff, ↓reduceIte, vcu, ↓vcd]
 rfl
set_option maxRecDepth 8000 in
theorem whole_calls (τ : AHeap) (h : Nat) (x : Ex) (vp vc : Value) (hh : τ h = some ⟨pcs x vp vc, false⟩) (tp : ∃ a l c, vp = .slice a l c) (tc : ∃ a l c, vc = .slice a l c) :
  ACall Tryz.prog w0 37 [.pointer (some ⟨h, 0, none⟩)] τ fun r σ' => r = exV vp vc x ∧ σ' = τ := by
 obtain ⟨pA, pL, pC, rfl⟩ := tp
 obtain ⟨cA, cL, cC, rfl⟩ := tc
 refine acall_goc mixed Tryz.func37 rfl goodc37 fun pr => ?_
 simp -implicitDefEqProofs (disch := omega) only [Nat.reduceEqDiff, ↓reduceIte, vcu, ↓vcd]
 refine r_new ze32 fun h4 T n4 s4 e4 => ?_
 replace e4 : T h4 = some ⟨[.int .i64 0, .int .i64 0, .int .i64 0, .slice none 0 0, .slice none 0 0], false⟩ := e4
 have hh1 := s4 _ _ hh
 have x0 : lds T h 0 3 = some [.int .i64 x.s.O, .int .i64 x.s.E, .int .i64 x.s.M] := lds_three (ld_of hh1 rfl) (ld_of hh1 rfl) (ld_of hh1 rfl)
 have x3 : ld T h (0 + 3) = some (.slice cA cL cC) := ld_of hh1 rfl
 have x4 : ld T h (0 + 4) = some (.slice pA pL pC) := ld_of hh1 rfl
 simp -implicitDefEqProofs (disch := omega) only [Nat.reduceEqDiff, ↓reduceIte, vcu, ↓vcd]
 refine region_tree mixed (quiets [0, 1, 2, 3, 5, 6, 7, 9, 10, 11, 12] (quiets [4, 8, 13] (quiets [14] (.one 15 .stop)))) [([4, 8, 13], Sub T)] (by kernel_rfl) (by kernel_rfl) (fun p hp => by simp only [List.mem_singleton] at hp; subst hp; exact Sub.refl _) ?_
 refine tree_quiets _ _ _ _ sf0 (by kernel_rfl) (by kernel_rfl) ?_
 simp -implicitDefEqProofs (disch := omega) only [Nat.reduceEqDiff, ↓reduceIte, vcu, ↓vcd, pickOps_nil, pickOps_cons, pickO_some, List.getElem?_cons_succ, List.getElem?_cons_zero]
 refine tree_quiets T _ _ _ sf1 (by kernel_rfl) (by kernel_rfl) ?_
 simp -implicitDefEqProofs (disch := omega) only [Nat.reduceEqDiff, ↓reduceIte, vcu, ↓vcd, pickOps_nil, pickOps_cons, pickO_some, List.getElem?_cons_succ, List.getElem?_cons_zero, x0, x3, x4, co29, Nat.add_zero]
 refine tree_quiets _ _ _ _ sf0 (by kernel_rfl) (by kernel_rfl) ?_
 simp -implicitDefEqProofs (disch := omega) only [Nat.reduceEqDiff, ↓reduceIte, vcu, ↓vcd, pickOps_nil, pickOps_cons, pickO_some, List.getElem?_cons_succ, List.getElem?_cons_zero]
 rw [r_build]
 refine ⟨(_, #[.int .i64 x.s.O, .int .i64 x.s.E, .int .i64 x.s.M, .slice pA pL pC, .slice cA cL cC]), ⟨ze32, by simp -implicitDefEqProofs (disch := omega) only [Nat.reduceEqDiff, ↓reduceIte, vcu, ↓vcd]; kernel_rfl⟩, ?_⟩
 try simp -implicitDefEqProofs (disch := omega) only [Nat.reduceEqDiff, ↓reduceIte, vcu, ↓vcd]
 refine tree_one rfl ?_
 try simp -implicitDefEqProofs (disch := omega) only [Nat.reduceEqDiff, ↓reduceIte, vcu, ↓vcd]
 refine r_sets (g := h4) (i := 0) (C := [.int .i64 0, .int .i64 0, .int .i64 0, .slice none 0 0, .slice none 0 0]) z9q z9co32 z9r z9z e4 z9l fun T9 k9 e9 => ?_
 replace e9 : T9 h4 = some ⟨exC (.slice pA pL pC) (.slice cA cL cC) x, false⟩ := e9
 have l9 : lds T9 h4 0 5 = some [.int .i64 x.s.O, .int .i64 x.s.E, .int .i64 x.s.M, .slice pA pL pC, .slice cA cL cC] := by rw [lds_of e9 (by simp [exC])]; rfl
 simp -implicitDefEqProofs (disch := omega) only [Nat.reduceEqDiff, ↓reduceIte, vcu, ↓vcd]
 refine ⟨keep_of rfl (fun p hp => by simp only [List.mem_singleton] at hp; subst hp; exact .inl (by kernel_rfl)), ?_⟩
 refine tree_stop ?_
 simp -implicitDefEqProofs (disch := omega) only [Nat.reduceEqDiff, ↓reduceIte, vcu, ↓vcd]
 refine fin_cell Tryz.results37 τ (k9.sub s4 n4) (v := exV (.slice pA pL pC) (.slice cA cL cC) x) (by simp -implicitDefEqProofs (disch := omega) only [Nat.reduceEqDiff, ↓reduceIte, vcu, ↓vcd, l9, co32]; rfl) ⟨rfl, rfl⟩
theorem Pt.ownX {σ B T : AHeap} {h : Nat} {x : Ex} {vp vc : Value} (hs : Sub σ B) (ow : OwnS (Bs B h h) T vp x.ps) (oc : OwnC (Bs B h h) T vc x.cs) : OwnX σ T (exV vp vc x) x :=
 ⟨vp, vc, rfl, ow.imp id fun ⟨g, a1, a2, a3⟩ => ⟨g, a1, a2, free_sub hs (Bs_none a3).1⟩, oc.imp id fun ⟨g, a1, a2, a3⟩ => ⟨g, a1, a2, free_sub hs (Bs_none a3).1⟩⟩
end Go.Proofs.YtafkndnmhhjdhaaGreatDoor
