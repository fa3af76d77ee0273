/- The draw of a network. -/
import Derived.Test.YtnkpoflhdfchjaaNq
set_option linter.unusedSimpArgs false
set_option linter.unusedVariables false
namespace Go.Proofs.Ytnkpoflhdfchjaa
open Go Go.Abs Go.RowKit
variable {w0 : World}

/-- all but the reader -/
theorem kept_less {g : Nat} {σ τ : AHeap} (h : Sub (σ.upd g none) τ) : Kept g σ τ := fun k ob hk e => h k ob (by rw [AHeap.upd_ne _ _ hk]; exact e)
theorem less_kept {g : Nat} {σ τ : AHeap} (h : Kept g σ τ) : Sub (σ.upd g none) τ := fun k ob e => by
  by_cases hk : k = g
  · subst hk; rw [AHeap.upd_same] at e; cases e
  · rw [AHeap.upd_ne _ _ hk] at e; exact h k ob hk e
theorem Rd.less {β σ : AHeap} {g h o : Nat} {bs : List Int} {p : Int} (hr : Rd β σ g h o bs p) : Sub β (σ.upd g none) := fun k ob e => by
  have hk : k ≠ g := by rintro rfl; rw [hr.free] at e; cases e
  rw [AHeap.upd_ne _ _ hk]; exact hr.sub k ob e
theorem Rd.above {β σ : AHeap} {g h o : Nat} {bs : List Int} {p : Int} (hr : Rd β σ g h o bs p) : Rd (σ.upd g none) σ g h o bs p :=
  ⟨hr.at_, sub_erase σ g, AHeap.upd_same _ _ _, hr.ints.sub hr.less, hr.len, hr.byte⟩
theorem Rd.back {β σ σ' : AHeap} {g h o : Nat} {bs : List Int} {p p' : Int} (hr : Rd β σ g h o bs p) (h2 : Rd (σ.upd g none) σ' g h o bs p') : Rd β σ' g h o bs p' :=
  ⟨h2.at_, hr.less.trans h2.sub, hr.free, hr.ints, hr.len, hr.byte⟩
theorem Rd.keep' {β σ τ : AHeap} {g h o : Nat} {bs : List Int} {p : Int} (hr : Rd β σ g h o bs p) (hs : Sub β τ) (hg : τ g = σ g) : Rd β τ g h o bs p :=
  ⟨by rw [hg]; exact hr.at_, hs, hr.free, hr.ints, hr.len, hr.byte⟩

theorem kept_dom {g : Nat} {σ τ : AHeap} {ob : AObj} (h : Kept g σ τ) (hg : τ g = some ob) : ∀ k, τ k = none → σ k = none := fun k hk => by
  have hne : k ≠ g := by rintro rfl; rw [hg] at hk; cases hk
  cases e : σ k with
  | none => rfl
  | some ob' => rw [h k ob' hne e] at hk; cases hk

/-- what β knows stays as it is now -/
def KeptB (β σ τ : AHeap) : Prop := ∀ k ob, β k ≠ none → σ k = some ob → τ k = some ob
theorem KeptB.refl (β σ : AHeap) : KeptB β σ σ := fun _ _ _ h => h
theorem KeptB.trans {β σ τ ρ : AHeap} (h : KeptB β σ τ) (h2 : KeptB β τ ρ) : KeptB β σ ρ := fun k ob hk e => h2 k ob hk (h k ob hk e)
theorem keptB_sub {β σ τ : AHeap} (h : Sub σ τ) : KeptB β σ τ := fun k ob _ e => h k ob e

theorem r_pushPK {b0 : Base} {P : Program} {a : AFrame} {σ β : AHeap} {K : AK} {all os : List Oper} {d : Nat} {ty : TypeId} {pos : String} {af : Array Edge} {t u : TypeId} {zv : Value} {b : Nat} {x y : Operand} {v : Value} {e o m : Nat} {cs ds : List (Int × Int)}
    (hE : Elems P t 2 zv b) (hb : b ≤ 64) (hu : ∃ e2, P.underlying u = some (.slice e2)) (hx : ev a x = v) (hv : OwnP β σ v cs) (hy : ev a y = .slice (some ⟨e, o, none⟩) m 2) (he : PairsAt σ e o ds) (hm : ds.length = m) (hl : cs.length + m ≤ 1048576)
    (hk : ∀ g' τ, KeptB β σ τ → σ g' = none → τ g' = some ⟨pairs (cs ++ ds), false⟩ → vcR P b0 false all os (fset a d (.slice (some ⟨g', 0, none⟩) (cs.length + m) 2)) τ K) :
    vcR P b0 false all (⟨some d, .call ⟨.builtin .append, #[x, y], #[t, u]⟩, ty, pos, af, none⟩ :: os) a σ K := by
  subst hm
  have hd2 : (pairs ds).length / 2 = ds.length := by rw [pairs_length]; omega
  rcases hv with ⟨rfl, rfl⟩ | ⟨g, rfl, hg, hn⟩
  · refine r_push_nil hE hu hx (by rw [hy]; exact acells_pairs he) ?_ fun g' τ h1 h2 h3 => ?_
    · rw [pairs_length]
      have : ds.length * 2 * b ≤ 2097152 * 64 := Nat.mul_le_mul (by simp at hl; omega) hb
      simp at hl
      omega
    · rw [hd2]
      have := hk g' τ (keptB_sub h2) h1 (by simpa using h3)
      simpa using this
  · refine r_push hE hu hx hg (by rw [pairs_length]) (by rw [hy]; exact acells_pairs he) (pairs_one ds) ?_ fun g' τ h1 h2 h3 => ?_
    · rw [pairs_length]
      have : (cs.length * 2 + ds.length * 2) * b ≤ 2097152 * 64 := Nat.mul_le_mul (by omega) hb
      omega
    · rw [hd2]
      rw [← pairs_append] at h3
      exact hk g' τ (fun k ob hkb e => h2 k ob (by rintro rfl; exact hkb hn) e) h1 h3

/-- a network that is drawn: the reader, what was there, and the row of its own -/
structure Dn (β0 σ τ : AHeap) (g h o : Nat) (bs : List Int) (p : Int) (v : Value) (net : List (Int × Int)) : Prop where
  rd : Rd β0 τ g h o bs p
  kept : Kept g σ τ
  own : OwnP σ τ v net
  fits : ∀ c ∈ net, (0 ≤ c.1 ∧ c.1 ≤ 1000) ∧ 0 ≤ c.2 ∧ c.2 ≤ 1000
theorem Dn.fit {β0 σ τ : AHeap} {g h o : Nat} {bs : List Int} {p : Int} {v : Value} {net : List (Int × Int)} (hD : Dn β0 σ τ g h o bs p v net) : Fits net := fun c hc => by
  have := hD.fits c hc
  unfold InR
  omega
/-- the reader goes on -/
theorem Dn.next {β0 σ τ τ' : AHeap} {g h o : Nat} {bs : List Int} {p p' : Int} {v : Value} {net : List (Int × Int)} {ob : AObj} (hD : Dn β0 σ τ g h o bs p v net) (hg : σ g = some ob) (hr : Rd β0 τ' g h o bs p') (hk : Kept g τ τ') : Dn β0 σ τ' g h o bs p' v net :=
  ⟨hr, hD.kept.trans hk, hD.own.imp id fun ⟨g2, e, h2, hn⟩ => ⟨g2, e, hk.at h2 (ne_of hn hg), hn⟩, hD.fits⟩
/-- another row -/
theorem Dn.put {β0 σ τ τ' : AHeap} {g h o : Nat} {bs : List Int} {p : Int} {v : Value} {net : List (Int × Int)} {ob : AObj} {g2 len : Nat} {cs : List (Int × Int)} (hD : Dn β0 σ τ g h o bs p v net) (h0 : Sub β0 (σ.upd g none)) (hg : σ g = some ob) (hk : KeptB σ τ τ')
    (h2 : τ' g2 = some ⟨pairs cs, false⟩) (hn : τ g2 = none) (hl : len = cs.length) (hc : ∀ c ∈ cs, (0 ≤ c.1 ∧ c.1 ≤ 1000) ∧ 0 ≤ c.2 ∧ c.2 ≤ 1000) : Dn β0 σ τ' g h o bs p (.slice (some ⟨g2, 0, none⟩) len 2) cs := by
  have hkg : Kept g σ τ' := fun k ob' hne e => hk k ob' (by rw [e]; simp) (hD.kept k ob' hne e)
  refine ⟨⟨hk g _ (by rw [hg]; simp) hD.rd.at_, fun k ob' e => ?_, hD.rd.free, hD.rd.ints, hD.rd.len, hD.rd.byte⟩, hkg, .inr ⟨g2, by rw [hl], h2, kept_dom hD.kept hD.rd.at_ _ hn⟩, hc⟩
  have e1 := h0 k ob' e
  by_cases hkk : k = g
  · subst hkk; rw [AHeap.upd_same] at e1; cases e1
  · rw [AHeap.upd_ne _ _ hkk] at e1; exact hkg k ob' hkk e1

theorem Dn.sub {β0 σ τ τ' : AHeap} {g h o : Nat} {bs : List Int} {p : Int} {v : Value} {net : List (Int × Int)} (hD : Dn β0 σ τ g h o bs p v net) (hs : Sub τ τ') : Dn β0 σ τ' g h o bs p v net :=
  ⟨⟨hs _ _ hD.rd.at_, hD.rd.sub.trans hs, hD.rd.free, hD.rd.ints, hD.rd.len, hD.rd.byte⟩, hD.kept.trans fun k ob _ e => hs k ob e, hD.own.sub hs, hD.fits⟩
theorem zeros21 : azeros (.agg #[.int .i64 0, .int .i64 0]) (21 * 2) = pairs (List.replicate 21 (0, 0)) := by kernel_rfl
/-- a network that another function made -/
theorem Dn.new {β0 σ τ τ' : AHeap} {g h o : Nat} {bs : List Int} {p : Int} {v v' : Value} {net cs : List (Int × Int)} (hD : Dn β0 σ τ g h o bs p v net) (hs : Sub τ τ') (hw : OwnP τ τ' v' cs) (hc : ∀ c ∈ cs, (0 ≤ c.1 ∧ c.1 ≤ 1000) ∧ 0 ≤ c.2 ∧ c.2 ≤ 1000) : Dn β0 σ τ' g h o bs p v' cs :=
  ⟨⟨hs _ _ hD.rd.at_, hD.rd.sub.trans hs, hD.rd.free, hD.rd.ints, hD.rd.len, hD.rd.byte⟩, hD.kept.trans fun k ob _ e => hs k ob e, hw.imp id fun ⟨g2, e, h2, hn⟩ => ⟨g2, e, h2, kept_dom hD.kept hD.rd.at_ _ hn⟩, hc⟩
theorem pairsAt_take {τ : AHeap} {g o : Nat} {cs : List (Int × Int)} (h : PairsAt τ g o cs) (k : Nat) : PairsAt τ g o (cs.take k) := fun i hi => by
  have h1 : i < k ∧ i < cs.length := by simp at hi; omega
  have e : (cs.take k).getD i (0, 0) = cs.getD i (0, 0) := by simp [List.getD, List.getElem?_take, h1.1]
  rw [e]; exact h i h1.2
theorem pairsAt_drop {τ : AHeap} {g o : Nat} {cs : List (Int × Int)} (h : PairsAt τ g o cs) (k : Nat) : PairsAt τ g (o + k * 2) (cs.drop k) := fun i hi => by
  have h1 : k + i < cs.length := by simp at hi; omega
  have e : (cs.drop k).getD i (0, 0) = cs.getD (k + i) (0, 0) := by simp [List.getD]
  have e2 : o + k * 2 + i * 2 = o + (k + i) * 2 := by omega
  rw [e, e2]; exact h (k + i) h1
theorem keptB_self {σ τ : AHeap} (h : KeptB σ σ τ) : Sub σ τ := fun k ob e => h k ob (by rw [e]; simp) e
theorem own_len {β σ : AHeap} {v : Value} {cs : List (Int × Int)} (h : OwnP β σ v cs) : alenV Try.prog 23 v = some (.int .i64 (cs.length : Int)) := by
  rcases h with ⟨rfl, rfl⟩ | ⟨g, rfl, -, -⟩
  · exact alenV_slice Try.underlying23
  · exact alenV_slice Try.underlying23

theorem bub_small (lines : Int) : ∀ c ∈ bubV lines, (0 ≤ c.1 ∧ c.1 ≤ 1000) ∧ 0 ≤ c.2 ∧ c.2 ≤ 1000 := by
  by_cases hS : Six lines
  · have : lines = 1 ∨ lines = 2 ∨ lines = 3 ∨ lines = 4 ∨ lines = 5 ∨ lines = 6 := by unfold Six at hS; omega
    rcases this with rfl | rfl | rfl | rfl | rfl | rfl <;> decide +kernel
  · unfold bubV; rw [if_neg hS]; simp
theorem bri_small (lines : Int) : ∀ c ∈ briV lines, (0 ≤ c.1 ∧ c.1 ≤ 1000) ∧ 0 ≤ c.2 ∧ c.2 ≤ 1000 := by
  by_cases hS : Six lines
  · have : lines = 1 ∨ lines = 2 ∨ lines = 3 ∨ lines = 4 ∨ lines = 5 ∨ lines = 6 := by unfold Six at hS; omega
    rcases this with rfl | rfl | rfl | rfl | rfl | rfl <;> decide +kernel
  · unfold briV; rw [if_neg hS]; simp
theorem mrg_small (lines : Int) : ∀ c ∈ mrgV lines, (0 ≤ c.1 ∧ c.1 ≤ 1000) ∧ 0 ≤ c.2 ∧ c.2 ≤ 1000 := by
  by_cases hS : Six lines
  · have : lines = 1 ∨ lines = 2 ∨ lines = 3 ∨ lines = 4 ∨ lines = 5 ∨ lines = 6 := by unfold Six at hS; omega
    rcases this with rfl | rfl | rfl | rfl | rfl | rfl <;> decide +kernel
  · unfold mrgV; rw [if_neg hS]; simp
theorem mrgV_length (lines : Int) : (mrgV lines).length ≤ 1000 := by
  unfold mrgV
  split
  · exact Nat.le_trans (List.length_filter_le _ _) (btv_length lines)
  · simp
end Go.Proofs.Ytnkpoflhdfchjaa
