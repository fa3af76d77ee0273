/- The draws of tables. -/
import Derived.Test.YtpcbgdgfdfpapaaGbU
set_option linter.unusedSimpArgs false
set_option linter.unusedVariables false
namespace Go.Proofs.Ytpcbgdgfdfpapaa
open Go Go.Abs Go.RowKit
variable {w0 : World}

/-- all but the reader -/
theorem kept_less {g : Nat} {σ τ : AHeap} (h : Sub (σ.upd g none) τ) : Kept g σ τ := fun k ob hk e => h k ob (by rw [AHeap.upd_ne _ _ hk]; exact e)
theorem less_kept {g : Nat} {σ τ : AHeap} (h : Kept g σ τ) : Sub (σ.upd g none) τ := fun k ob e => by
  by_cases hk : k = g
  · subst hk; rw [AHeap.upd_same] at e; cases e
  · rw [AHeap.upd_ne _ _ hk] at e; exact h k ob hk e
theorem Rd.less {β σ : AHeap} {g h o : Nat} {bs : List Int} {p : Int} (hr : Rd β σ g h o bs p) : Sub β (σ.upd g none) := fun k ob e => by
  have hk : k ≠ g := by rintro rfl; rw [hr.free] at e; cases e
  rw [AHeap.upd_ne _ _ hk]; exact hr.sub k ob e
theorem Rd.above {β σ : AHeap} {g h o : Nat} {bs : List Int} {p : Int} (hr : Rd β σ g h o bs p) : Rd (σ.upd g none) σ g h o bs p :=
  ⟨hr.at_, sub_erase σ g, AHeap.upd_same _ _ _, hr.ints.sub hr.less, hr.len, hr.byte⟩
theorem Rd.back {β σ σ' : AHeap} {g h o : Nat} {bs : List Int} {p p' : Int} (hr : Rd β σ g h o bs p) (h2 : Rd (σ.upd g none) σ' g h o bs p') : Rd β σ' g h o bs p' :=
  ⟨h2.at_, hr.less.trans h2.sub, hr.free, hr.ints, hr.len, hr.byte⟩
theorem Rd.keep' {β σ τ : AHeap} {g h o : Nat} {bs : List Int} {p : Int} (hr : Rd β σ g h o bs p) (hs : Sub β τ) (hg : τ g = σ g) : Rd β τ g h o bs p :=
  ⟨by rw [hg]; exact hr.at_, hs, hr.free, hr.ints, hr.len, hr.byte⟩

theorem perm_k (β σ : AHeap) (g h o : Nat) (bs : List Int) (p : Int) (n : Nat) (hr : Rd β σ g h o bs p) (hp : 0 ≤ p ∧ p ≤ 10000) (hn : n ≤ 10) :
    ACall Try.prog w0 84 [.pointer (some ⟨g, 0, none⟩), .int .i64 n] σ fun r σ' => ∃ (q : Nat) (ps : List Int) (p' : Int), r = .slice (some ⟨q, 0, none⟩) n 1 ∧ ps.length = n ∧ σ' q = some ⟨ints .i64 ps, false⟩ ∧ σ q = none ∧ Kept g σ σ' ∧ p ≤ p' ∧ p' ≤ p + n ∧ Rd β σ' g h o bs p' := by
  refine (perm_draw _ σ g h o bs p n hr.above hp hn).mono ?_
  rintro r σ' ⟨q, ps, p', rfl, h1, h2, h3, h4, h5, h6, h7⟩
  exact ⟨q, ps, p', rfl, h1, h2, by rw [AHeap.upd_ne _ _ h4] at h3; exact h3, kept_less h7.sub, h5, h6, hr.back h7⟩
/-- newer than what was there once, the reader aside -/
theorem OwnT.older {β σ τ : AHeap} {g2 : Nat} {q : Nat → Nat} {rows : List (List Int)} (h : OwnT β τ g2 q rows) (hd : ∀ k, β k = none → σ k = none) : OwnT σ τ g2 q rows :=
  ⟨h.at_, hd _ h.new, h.row, fun i hi => hd _ (h.free i hi), h.ne, h.inj⟩
theorem kept_dom {g : Nat} {σ τ : AHeap} {ob : AObj} (h : Kept g σ τ) (hg : τ g = some ob) : ∀ k, τ k = none → σ k = none := fun k hk => by
  have hne : k ≠ g := by rintro rfl; rw [hg] at hk; cases hk
  cases e : σ k with
  | none => rfl
  | some ob' => rw [h k ob' hne e] at hk; cases hk
/-- a table is newer than the reader -/
theorem OwnT.kept {σ0 σ τ : AHeap} {g g2 : Nat} {q : Nat → Nat} {rows : List (List Int)} {ob : AObj} (h : OwnT σ0 σ g2 q rows) (hg : σ0 g = some ob) (hk : Kept g σ τ) : OwnT σ0 τ g2 q rows :=
  h.keep fun k ob' hn e => hk k ob' (by rintro rfl; rw [hg] at hn; cases hn) e

/-- a row is put behind those of a table of one's own, whatever else is there -/
theorem r_pushK {b0 : Base} {P : Program} {a : AFrame} {σ β : AHeap} {K : AK} {all os : List Oper} {d : Nat} {ty : TypeId} {pos : String} {af : Array Edge} {t u : TypeId} {b : Nat} {x y : Operand} {g e r : Nat} {q : Nat → Nat} {rows : List (List Int)} {row : List Int} {len : Nat}
    (hE : Elems P t 1 (.slice none 0 0) b) (hb : b ≤ 64) (hu : ∃ e2, P.underlying u = some (.slice e2)) (hx : ev a x = .slice (some ⟨g, 0, none⟩) len 1) (hn : rows.length = len) (hO : OwnT β σ g q rows)
    (hy : ev a y = .slice (some ⟨e, 0, none⟩) 1 1) (he : σ e = some ⟨[rowV r row], false⟩) (hr : σ r = some ⟨ints .i64 row, false⟩) (hbr : β r = none) (hg : r ≠ g) (hq : ∀ i, i < rows.length → q i ≠ r) (hd : ∀ k, σ k = none → β k = none) (hl : len ≤ 1048576)
    (hk : ∀ g' q' τ, OwnT β τ g' q' (rows ++ [row]) → Kept g σ τ → σ g' = none → vcR P b0 false all os (fset a d (.slice (some ⟨g', 0, none⟩) (len + 1) 1)) τ K) :
    vcR P b0 false all (⟨some d, .call ⟨.builtin .append, #[x, y], #[t, u]⟩, ty, pos, af, none⟩ :: os) a σ K := by
  refine r_push hE hu hx hO.at_ (by rw [rowVs_length, hn]; omega) (D := [rowV r row]) ?_ (by rfl) (by
      have : (len + 1) * b ≤ 1048577 * 64 := Nat.mul_le_mul (by omega) hb
      simp; omega) fun g' τ h1 h2 h3 => ?_
  · rw [hy]; simp [acells, lds, he]
  · have e1 : [rowV r row].length / 1 = 1 := by simp
    rw [e1]
    exact hk g' _ τ (hO.push hr hbr hg hq h1 (hd _ h1) h2 h3) h2 h1
theorem dom_sub {σ τ β : AHeap} (hs : Sub σ τ) (hd : ∀ k, σ k = none → β k = none) : ∀ k, τ k = none → β k = none := fun k hk => hd k (free_sub hs hk)
/-- the reader is not touched by what a table does -/
theorem Rd.put {β σ τ : AHeap} {g g2 h o : Nat} {bs : List Int} {p : Int} (hr : Rd β σ g h o bs p) (hk : Kept g2 σ τ) (hne : g2 ≠ g) (hn : β g2 = none) : Rd β τ g h o bs p :=
  ⟨hk.at hr.at_ hne.symm, hk.sub hr.sub hn, hr.free, hr.ints, hr.len, hr.byte⟩
theorem Rd.sub' {β σ τ : AHeap} {g h o : Nat} {bs : List Int} {p : Int} (hr : Rd β σ g h o bs p) (hs : Sub σ τ) : Rd β τ g h o bs p :=
  ⟨hs _ _ hr.at_, hr.sub.trans hs, hr.free, hr.ints, hr.len, hr.byte⟩
/-- what was once there stays, the reader aside -/
theorem kept_put2 {g g2 : Nat} {σ σ' τ : AHeap} (h : Kept g σ σ') (hk : Kept g2 σ' τ) (hn : σ g2 = none) : Kept g σ τ := fun k ob hkg e => hk k ob (by rintro rfl; rw [hn] at e; cases e) (h k ob hkg e)

theorem even_k (β σ : AHeap) (g h o : Nat) (bs : List Int) (p : Int) (hr : Rd β σ g h o bs p) (hp : 0 ≤ p ∧ p ≤ 1000) :
    ACall Try.prog w0 78 [.pointer (some ⟨g, 0, none⟩)] σ fun r σ' => ∃ (g2 : Nat) (q : Nat → Nat) (rows : List (List Int)) (p' : Int), r = .slice (some ⟨g2, 0, none⟩) rows.length 1 ∧ OwnT σ σ' g2 q rows ∧ rows.length ≤ 6 ∧ Sq rows.length rows ∧ Kept g σ σ' ∧ p ≤ p' ∧ p' ≤ p + 60 ∧ Rd β σ' g h o bs p' := by
  refine acall_go mixed Try.func78 rfl good78 fun pr => ?_
  simp -implicitDefEqProofs (disch := omega) only [List.any_cons, List.any_nil, Nat.reduceEqDiff, List.map_cons, List.map_nil, Option.map_some, Option.map_none, List.nil_append, ↓reduceIte, vcu, ↓vcd]
  refine (pick_at β σ g h o bs p 7 hr (by omega) (by omega)).mono ?_
  rintro r σ1 ⟨z, rfl, hz0, hz1, hR1, hK1⟩
  obtain ⟨n, rfl⟩ : ∃ n : Nat, z = n := ⟨z.toNat, by omega⟩
  simp -implicitDefEqProofs (disch := omega) only [List.any_cons, List.any_nil, Nat.reduceEqDiff, List.map_cons, List.map_nil, Option.map_some, Option.map_none, List.nil_append, ↓reduceIte, vcu, ↓vcd, opK_some]
  refine r_lit el23 (out := #[]) (by kernel_rfl) (by kernel_rfl) fun e1 τ1 n1 s1 v1 => ?_
  simp -implicitDefEqProofs (disch := omega) only [List.any_cons, List.any_nil, Nat.reduceEqDiff, List.map_cons, List.map_nil, Option.map_some, Option.map_none, List.nil_append, ↓reduceIte, vcu, ↓vcd]
  refine (pick_at β τ1 g h o bs (p + 1) 7 (hR1.sub' s1) (by omega) (by omega)).mono ?_
  rintro r σ2 ⟨c, rfl, hc0, hc1, hR2, hK2⟩
  have hd1 := kept_dom hK1 hR1.at_
  have hOn : OwnT σ τ1 e1 (fun _ => 0) [] := OwnT.nil _ v1 (hd1 _ n1)
  have hK02 : Kept g σ σ2 := (hK1.trans s1.kept).trans hK2
  have hO2 : OwnT σ σ2 e1 (fun _ => 0) [] := hOn.kept hr.at_ hK2
  simp -implicitDefEqProofs (disch := omega) only [List.any_cons, List.any_nil, Nat.reduceEqDiff, List.map_cons, List.map_nil, Option.map_some, Option.map_none, List.nil_append, ↓reduceIte, vcu, ↓vcd, opK_some]
  refine vc_loop_c mixed (by kernel_rfl) [0, 3] (fun m a σ' => ∃ (g1 : Nat) (q : Nat → Nat) (rows : List (List Int)) (p' : Int), (m : Int) + rows.length = c ∧ a 5 = .int .i64 m ∧ a 4 = .slice (some ⟨g1, 0, none⟩) rows.length 1 ∧ OwnT σ σ' g1 q rows ∧ (∀ i, i < rows.length → (rows.getD i []).length = n) ∧ Kept g σ σ' ∧ p ≤ p' ∧ p' ≤ p + 2 + 6 * rows.length ∧ Rd β σ' g h o bs p') c.toNat
    ⟨e1, fun _ => 0, [], p + 1 + 1, by simp; omega, by simp [fset]; omega, rfl, hO2, by simp, hK02, by omega, by simp; omega, hR2⟩ ?_
  clear hO2 hOn hK2 hR2 hK1 hR1 hd1 hK02
  rintro m a σ' hcc ⟨g1, q, rows, p', hm, h5, h4, hO, hrl, hK, hp1, hp2, hR⟩
  simp -implicitDefEqProofs (disch := omega) only [List.any_cons, List.any_nil, Nat.reduceEqDiff, List.map_cons, List.map_nil, Option.map_some, Option.map_none, List.nil_append, ↓reduceIte, vcu, ↓vcd] at hcc
  obtain ⟨h0, h3, -⟩ := hcc
  by_cases hlt : 0 < m
  · simp -implicitDefEqProofs (disch := omega) only [List.any_cons, List.any_nil, Nat.reduceEqDiff, List.map_cons, List.map_nil, Option.map_some, Option.map_none, List.nil_append, ↓reduceIte, vcu, ↓vcd, h0, h3, h4, h5]
    refine (perm_k β σ' g h o bs p' n hR (by omega) (by omega)).mono ?_
    rintro r τ3 ⟨x, ps, p3, rfl, hpl, hx, hxn, hK3, a1, a2, hR3⟩
    have hO3 := hO.kept hr.at_ hK3
    have hd : ∀ k, τ3 k = none → σ k = none := kept_dom (hK.trans hK3) hR3.at_
    have hxs : σ x = none := kept_dom hK hR.at_ _ hxn
    simp -implicitDefEqProofs (disch := omega) only [List.any_cons, List.any_nil, Nat.reduceEqDiff, List.map_cons, List.map_nil, Option.map_some, Option.map_none, List.nil_append, ↓reduceIte, vcu, ↓vcd, opK_some, h4]
    refine r_lit el23 (out := #[.slice (some ⟨x, 0, none⟩) n 1]) (by simp -implicitDefEqProofs (disch := omega) only [List.any_cons, List.any_nil, Nat.reduceEqDiff, List.map_cons, List.map_nil, Option.map_some, Option.map_none, List.nil_append, ↓reduceIte, vcu, ↓vcd]; kernel_rfl) (by kernel_rfl) fun e4 τ4 n4 s4 v4 => ?_
    refine r_pushK (β := σ) (len := rows.length) (g := g1) (e := e4) (r := x) (q := q) (rows := rows) (row := ps) el23 (by omega) sl23 (by simp -implicitDefEqProofs (disch := omega) only [List.any_cons, List.any_nil, Nat.reduceEqDiff, List.map_cons, List.map_nil, Option.map_some, Option.map_none, List.nil_append, ↓reduceIte, vcu, ↓vcd, h4]) rfl (hO3.sub s4) (by simp -implicitDefEqProofs (disch := omega) only [List.any_cons, List.any_nil, Nat.reduceEqDiff, List.map_cons, List.map_nil, Option.map_some, Option.map_none, List.nil_append, ↓reduceIte, vcu, ↓vcd]) (by rw [v4]; simp [rowV, hpl]) (s4 _ _ hx) hxs (ne_of hxn hO.at_) (fun i hi => ne_of' hxn (hO.row i hi)) (dom_sub s4 hd) (by omega) fun g5 q5 τ5 hO5 k5 n5 => ?_
    have hg1 : g1 ≠ g := ne_of hO.new hr.at_
    have hgb : β g1 = none := free_sub hr.sub hO.new
    simp -implicitDefEqProofs (disch := omega) only [List.any_cons, List.any_nil, Nat.reduceEqDiff, List.map_cons, List.map_nil, Option.map_some, Option.map_none, List.nil_append, ↓reduceIte, vcu, ↓vcd, h0, h3, h5]
    refine ⟨⟨trivial, trivial, trivial⟩, m - 1, by omega, g5, q5, rows ++ [ps], p3, by simp; omega, by congr 1; omega, by simp, hO5, fun i hi => ?_, kept_put2 (hK.trans (hK3.trans s4.kept)) k5 hO.new, by omega, by simp; omega, (hR3.sub' s4).put k5 hg1 hgb⟩
    rw [getD_appL]
    split
    · exact hpl
    · exact hrl i (by simp at hi; omega)
  · simp -implicitDefEqProofs (disch := omega) only [List.any_cons, List.any_nil, Nat.reduceEqDiff, List.map_cons, List.map_nil, Option.map_some, Option.map_none, List.nil_append, ↓reduceIte, vcu, ↓vcd, h0, h3, h4, h5]
    have hd : ∀ k, σ' k = none → σ k = none := kept_dom hK hR.at_
    refine (specLoadO_at σ' n g1 0 rows hO.rows (by omega) (fun i hi => by rw [hrl i hi]; omega)).mono ?_
    rintro r τ3 ⟨s3, g2, q2, rfl, hO2⟩
    have hsq : Sq (loadV n rows).length (loadV n rows) := by
      unfold loadV
      split
      · have := addL_sq n rows rows.length
        rw [Int.toNat_natCast, this.1]; exact this
      · exact ⟨rfl, fun i hi => absurd hi (by simp)⟩
    have hsm : (loadV n rows).length ≤ 6 := by
      unfold loadV
      split
      · rw [Int.toNat_natCast, (addL_sq n rows rows.length).1]; omega
      · simp
    simp -implicitDefEqProofs (disch := omega) only [List.any_cons, List.any_nil, Nat.reduceEqDiff, List.map_cons, List.map_nil, Option.map_some, Option.map_none, List.nil_append, ↓reduceIte, vcu, ↓vcd, opK_some]
    refine fin_one Try.results78 ⟨g2, q2, loadV n rows, p', ?_, hO2.older hd, hsm, hsq, hK.trans s3.kept, by omega, by omega, hR.sub' s3⟩
    simp -implicitDefEqProofs (disch := omega) only [List.any_cons, List.any_nil, Nat.reduceEqDiff, List.map_cons, List.map_nil, Option.map_some, Option.map_none, List.nil_append, ↓reduceIte, vcu, ↓vcd]
end Go.Proofs.Ytpcbgdgfdfpapaa

namespace Go.Proofs.Ytpcbgdgfdfpapaa
open Go Go.Abs Go.RowKit
variable {w0 : World}

theorem OwnT.getL {σ0 σ : AHeap} {g2 g : Nat} {q : Nat → Nat} {rows : List (List Int)} (h : OwnT σ0 σ g2 q rows) (hne : g2 ≠ g) {i : Nat} (hi : i < rows.length) : ld (σ.upd g none) g2 (0 + i) = some (.slice (some ⟨q i, 0, none⟩) (rows.getD i []).length 1) := by
  rw [ld_upd_ne hne]; exact h.get hi

theorem traffic_k (β σ : AHeap) (g h o : Nat) (bs : List Int) (p n : Int) (hr : Rd β σ g h o bs p) (hp : 0 ≤ p ∧ p ≤ 100) (hn : 1 ≤ n ∧ n ≤ 1000) :
    ACall Try.prog w0 61 [.pointer (some ⟨g, 0, none⟩), .int .i64 n] σ fun r σ' => ∃ (g2 : Nat) (q : Nat → Nat) (rows : List (List Int)) (p' : Int), r = .slice (some ⟨g2, 0, none⟩) rows.length 1 ∧ OwnT σ σ' g2 q rows ∧ rows.length ≤ 7 ∧ (∀ i, i < rows.length → (rows.getD i []).length ≤ 6) ∧ Kept g σ σ' ∧ p ≤ p' ∧ p' ≤ p + 200 ∧ Rd β σ' g h o bs p' := by
  refine acall_go mixed Try.func61 rfl good61 fun pr => ?_
  simp -implicitDefEqProofs (disch := omega) only [List.any_cons, List.any_nil, Nat.reduceEqDiff, List.map_cons, List.map_nil, Option.map_some, Option.map_none, List.nil_append, ↓reduceIte, vcu, ↓vcd]
  refine (even_k β σ g h o bs p hr (by omega)).mono ?_
  rintro r σ1 ⟨g2, q, rows, p1, rfl, hO1, hl6, hsq, hK1, a1, a2, hR1⟩
  obtain ⟨N, hN⟩ : ∃ N, rows.length = N := ⟨_, rfl⟩
  rw [hN] at hl6 hsq
  simp -implicitDefEqProofs (disch := omega) only [List.any_cons, List.any_nil, Nat.reduceEqDiff, List.map_cons, List.map_nil, Option.map_some, Option.map_none, List.nil_append, ↓reduceIte, vcu, ↓vcd, opK_some]
  refine (pick_at β σ1 g h o bs p1 3 hR1 (by omega) (by omega)).mono ?_
  rintro r σ2 ⟨z, rfl, hz0, hz1, hR2, hK2⟩
  have hO2 := hO1.kept hr.at_ hK2
  have hK02 := hK1.trans hK2
  have hgg : g2 ≠ g := ne_of hO2.new hr.at_
  by_cases hz : z = 0
  case' neg =>
    simp -implicitDefEqProofs (disch := omega) only [List.any_cons, List.any_nil, Nat.reduceEqDiff, List.map_cons, List.map_nil, Option.map_some, Option.map_none, List.nil_append, ↓reduceIte, vcu, ↓vcd, opK_some, hz]
    have h0 := True.intro
    have h1 := True.intro
    have h5 := hN
    obtain ⟨σ', rows', p', hN', hsq', hO, hK, a3, a4, hR⟩ : ∃ (σ' : AHeap) (rows' : List (List Int)) (p' : Int), rows'.length = N ∧ Sq N rows' ∧ OwnT σ σ' g2 q rows' ∧ Kept g σ σ' ∧ p ≤ p' ∧ p' ≤ p + 150 ∧ Rd β σ' g h o bs p' ∧ σ' = σ2 := ⟨σ2, rows, p1 + 1, hN, hsq, hO2, hK02, by omega, by omega, hR2, rfl⟩
    obtain ⟨hR, rfl⟩ := hR
  case' pos =>
    subst hz
    simp -implicitDefEqProofs (disch := omega) only [List.any_cons, List.any_nil, Nat.reduceEqDiff, List.map_cons, List.map_nil, Option.map_some, Option.map_none, List.nil_append, ↓reduceIte, vcu, ↓vcd, opK_some, decide_true]
    refine vc_loop_c mixed (by kernel_rfl) [0, 1, 5] (fun m a σ' => ∃ (k : Nat) (rows' : List (List Int)) (p' : Int), m + k = N ∧ a 6 = .int .i64 k ∧ rows'.length = N ∧ Sq N rows' ∧ OwnT σ σ' g2 q rows' ∧ Kept g σ σ' ∧ p ≤ p' ∧ p' ≤ p + 61 + 12 * k ∧ Rd β σ' g h o bs p') N
      ⟨0, rows, p1 + 1, by simp, rfl, hN, hsq, hO2, hK02, by omega, by omega, hR2⟩ ?_
    clear hO1 hO2 hK1 hK2 hK02 hR1 hR2 hsq
    rintro m a σ' hc ⟨k, rows', p', hk, h6, hN', hsq', hO, hK, a3, a4, hR⟩
    simp -implicitDefEqProofs (disch := omega) only [List.any_cons, List.any_nil, Nat.reduceEqDiff, List.map_cons, List.map_nil, Option.map_some, Option.map_none, List.nil_append, ↓reduceIte, vcu, ↓vcd, hN] at hc
    obtain ⟨h0, h1, h5, -⟩ := hc
    by_cases hlt : k < N
    case pos =>
      simp -implicitDefEqProofs (disch := omega) only [List.any_cons, List.any_nil, Nat.reduceEqDiff, List.map_cons, List.map_nil, Option.map_some, Option.map_none, List.nil_append, ↓reduceIte, vcu, ↓vcd, h0, h1, h5, h6]
      refine vc_loop_c mixed (by kernel_rfl) [0, 1, 5, 6] (fun m a σ' => ∃ (j : Nat) (rows' : List (List Int)) (p' : Int), m + j = N ∧ a 7 = .int .i64 j ∧ rows'.length = N ∧ Sq N rows' ∧ OwnT σ σ' g2 q rows' ∧ Kept g σ σ' ∧ p ≤ p' ∧ p' ≤ p + 61 + 12 * k + 2 * j ∧ Rd β σ' g h o bs p') N
        ⟨0, rows', p', by simp, rfl, hN', hsq', hO, hK, by omega, by omega, hR⟩ ?_
      clear hN' hsq' hO hK a3 a4 hR p' rows' σ'
      rintro m2 b σ' hc ⟨j, rows', p', hj, h7, hN', hsq', hO, hK, a3, a4, hR⟩
      simp -implicitDefEqProofs (disch := omega) only [List.any_cons, List.any_nil, Nat.reduceEqDiff, List.map_cons, List.map_nil, Option.map_some, Option.map_none, List.nil_append, ↓reduceIte, vcu, ↓vcd, h0, h1, h5, h6] at hc
      obtain ⟨c0, c1, c5, c6, -⟩ := hc
      by_cases hjl : j < N
      · simp -implicitDefEqProofs (disch := omega) only [List.any_cons, List.any_nil, Nat.reduceEqDiff, List.map_cons, List.map_nil, Option.map_some, Option.map_none, List.nil_append, ↓reduceIte, vcu, ↓vcd, c0, c1, c5, c6, h7]
        refine (pick_at β σ' g h o bs p' 4 hR (by omega) (by omega)).mono ?_
        rintro r σ3 ⟨y, rfl, hy0, hy1, hR3, hK3⟩
        have hO3 := hO.kept hr.at_ hK3
        have hK03 := hK.trans hK3
        by_cases hy : y = 0
        · subst hy
          simp -implicitDefEqProofs (disch := omega) only [List.any_cons, List.any_nil, Nat.reduceEqDiff, List.map_cons, List.map_nil, Option.map_some, Option.map_none, List.nil_append, ↓reduceIte, vcu, ↓vcd, opK_some, decide_true, c0, c1, c5, c6, h7]
          have hrow := hO3.getL hgg (i := k) (by omega)
          have hrl : (rows'.getD k []).length = N := hsq'.2 k hlt
          rw [hrl] at hrow
          refine region_tree mixed (quiets [0, 1, 2, 3, 4, 5] (.one 6 (quiets [7] (.one 8 .stop)))) [([0, 1, 2, 3, 4, 5], Sub (σ3.upd g none))] (by kernel_rfl) (by kernel_rfl) (fun p hp => by
            simp only [List.mem_cons, List.not_mem_nil, or_false] at hp
            subst hp; exact sub_erase _ _) ?_
          refine tree_quiets (σ3.upd g none) _ _ _ sf1 (by kernel_rfl) (by kernel_rfl) ?_
          simp -implicitDefEqProofs (disch := omega) only [List.any_cons, List.any_nil, Nat.reduceEqDiff, List.map_cons, List.map_nil, Option.map_some, Option.map_none, List.nil_append, ↓reduceIte, vcu, ↓vcd, pickOps_nil, pickOps_cons, pickO_some, List.getElem?_cons_succ, List.getElem?_cons_zero, c0, c1, c5, c6, h7, hrow]
          refine tree_one rfl ?_
          simp -implicitDefEqProofs (disch := omega) only [List.any_cons, List.any_nil, Nat.reduceEqDiff, List.map_cons, List.map_nil, Option.map_some, Option.map_none, List.nil_append, ↓reduceIte, vcu, ↓vcd]
          refine (pick_at β σ3 g h o bs (p' + 1) 4 hR3 (by omega) (by omega)).mono ?_
          rintro r σ4 ⟨x, rfl, hx0, hx1, hR4, hK4⟩
          have hO4 := hO3.kept hr.at_ hK4
          simp -implicitDefEqProofs (disch := omega) only [List.any_cons, List.any_nil, Nat.reduceEqDiff, List.map_cons, List.map_nil, Option.map_some, Option.map_none, List.nil_append, ↓reduceIte, vcu, ↓vcd, opK_some]
          refine ⟨keep_of rfl (fun p hp => by
            simp only [List.mem_cons, List.not_mem_nil, or_false] at hp
            subst hp; exact .inr (less_kept hK4)), ?_⟩
          refine tree_quiets (fun _ => none) _ _ _ sf0 (by kernel_rfl) (by kernel_rfl) ?_
          simp -implicitDefEqProofs (disch := omega) only [List.any_cons, List.any_nil, Nat.reduceEqDiff, List.map_cons, List.map_nil, Option.map_some, Option.map_none, List.nil_append, ↓reduceIte, vcu, ↓vcd, pickOps_nil, pickOps_cons, pickO_some, List.getElem?_cons_succ, List.getElem?_cons_zero]
          refine tree_one rfl ?_
          refine r_setI (g := q k) (i := 0 + j) (v := x) (by simp -implicitDefEqProofs (disch := omega) only [List.any_cons, List.any_nil, Nat.reduceEqDiff, List.map_cons, List.map_nil, Option.map_some, Option.map_none, List.nil_append, ↓reduceIte, vcu, ↓vcd]) (by simp -implicitDefEqProofs (disch := omega) only [List.any_cons, List.any_nil, Nat.reduceEqDiff, List.map_cons, List.map_nil, Option.map_some, Option.map_none, List.nil_append, ↓reduceIte, vcu, ↓vcd]) co3 (hO4.row k (by omega)) (by omega) fun τ5 k5 e5 => ?_
          rw [Nat.zero_add] at e5
          simp -implicitDefEqProofs (disch := omega) only [List.any_cons, List.any_nil, Nat.reduceEqDiff, List.map_cons, List.map_nil, Option.map_some, Option.map_none, List.nil_append, ↓reduceIte, vcu, ↓vcd]
          refine ⟨keep_of rfl (fun p hp => by
            simp only [List.mem_cons, List.not_mem_nil, or_false] at hp
            subst hp; exact .inl (by kernel_rfl)), tree_stop ?_⟩
          have hqg : q k ≠ g := ne_of (hO4.free k (by omega)) hr.at_
          simp -implicitDefEqProofs (disch := omega) only [List.any_cons, List.any_nil, Nat.reduceEqDiff, List.map_cons, List.map_nil, Option.map_some, Option.map_none, List.nil_append, ↓reduceIte, vcu, ↓vcd, h7]
          refine ⟨?_, m2 - 1, by omega, j + 1, _, p' + 1 + 1, by omega, by simp, ?_, ?_, hO4.write (by omega) (by simp) k5 e5, kept_put2 (hK03.trans hK4) k5 (hO4.free k (by omega)), by omega, by omega, hR4.put k5 hqg (free_sub hr.sub (hO4.free k (by omega)))⟩
          · simp [c0, c1, c5, c6, h0, h1, h5, h6]
          · simp [hN']
          · refine ⟨by simp [hN'], fun i hi => ?_⟩
            rw [getD_setL (by omega)]
            split
            · rw [List.length_set]; exact hrl
            · exact hsq'.2 i hi
        · simp -implicitDefEqProofs (disch := omega) only [List.any_cons, List.any_nil, Nat.reduceEqDiff, List.map_cons, List.map_nil, Option.map_some, Option.map_none, List.nil_append, ↓reduceIte, vcu, ↓vcd, opK_some, hy, c0, c1, c5, c6, h7]
          refine ⟨?_, m2 - 1, by omega, j + 1, rows', p' + 1, by omega, by simp, hN', hsq', hO3, hK03, by omega, by omega, hR3⟩
          first | trivial | simp [c0, c1, c5, c6, h0, h1, h5, h6]
      · simp -implicitDefEqProofs (disch := omega) only [List.any_cons, List.any_nil, Nat.reduceEqDiff, List.map_cons, List.map_nil, Option.map_some, Option.map_none, List.nil_append, ↓reduceIte, vcu, ↓vcd, c0, c1, c5, c6, h7]
        refine ⟨?_, m - 1, by omega, k + 1, rows', p', by omega, by simp, hN', hsq', hO, hK, by omega, by omega, hR⟩
        first | trivial | simp [c0, c1, c5, h0, h1, h5, hN]
    simp -implicitDefEqProofs (disch := omega) only [List.any_cons, List.any_nil, Nat.reduceEqDiff, List.map_cons, List.map_nil, Option.map_some, Option.map_none, List.nil_append, ↓reduceIte, vcu, ↓vcd, h0, h1, h5, h6]
    replace a4 : p' ≤ p + 150 := by omega
  all_goals
    refine (odd_at β σ' g h o bs p' n hR (by omega) (by omega)).mono ?_
    rintro r σ3 ⟨b, rfl, hR3, hK3⟩
    have hO3 := hO.kept hr.at_ hK3
    have hK03 := hK.trans hK3
    cases b with
    | false =>
      simp -implicitDefEqProofs (disch := omega) only [List.any_cons, List.any_nil, Nat.reduceEqDiff, List.map_cons, List.map_nil, Option.map_some, Option.map_none, List.nil_append, ↓reduceIte, vcu, ↓vcd, opK_some, h0, h1, h5]
      refine fin_one Try.results61 ⟨g2, q, rows', p' + 1, ?_, hO3, by omega, fun i hi => ?_, hK03, by omega, by omega, hR3⟩
      · simp -implicitDefEqProofs (disch := omega) only [List.any_cons, List.any_nil, Nat.reduceEqDiff, List.map_cons, List.map_nil, Option.map_some, Option.map_none, List.nil_append, ↓reduceIte, vcu, ↓vcd, h5]
        rw [hN']
      · rw [hsq'.2 i (by omega)]; exact hl6
    | true =>
      by_cases hN0 : 0 < N
      case' pos =>
        simp -implicitDefEqProofs (disch := omega) only [List.any_cons, List.any_nil, Nat.reduceEqDiff, List.map_cons, List.map_nil, Option.map_some, Option.map_none, List.nil_append, ↓reduceIte, vcu, ↓vcd, opK_some, h0, h1, h5]
        refine (pick_at β σ3 g h o bs (p' + 1) 2 hR3 (by omega) (by omega)).mono ?_
        rintro r σ4 ⟨y, rfl, hy0, hy1, hR4, hK4⟩
        have hO4 := hO3.kept hr.at_ hK4
        have hK04 := hK03.trans hK4
        by_cases hy : y = 0
        case pos =>
          subst hy
          simp -implicitDefEqProofs (disch := omega) only [List.any_cons, List.any_nil, Nat.reduceEqDiff, List.map_cons, List.map_nil, Option.map_some, Option.map_none, List.nil_append, ↓reduceIte, vcu, ↓vcd, opK_some, decide_true, h0, h1, h5]
          have hrow : ld (σ4.upd g none) g2 (0 + Int.toNat 0) = some (.slice (some ⟨q 0, 0, none⟩) N 1) := by
            rw [← hsq'.2 0 hN0]; exact hO4.getL hgg (i := 0) (by omega)
          have hr0 := hO4.row 0 (by omega)
          have hl0 := hsq'.2 0 hN0
          have hqg : q 0 ≠ g := ne_of (hO4.free 0 (by omega)) hr.at_
          refine region_tree mixed (quiets [0, 1, 2, 4] (.two 3 (.one 5 (.one 6 (.one 7 (.one 8 (.one 9 .stop))))) 5 (.one 3 (.one 6 (.one 7 (.one 8 (.one 9 .stop))))))) [([0, 1, 2, 4], Sub (σ4.upd g none))] (by kernel_rfl) (by kernel_rfl) (fun p hp => by
            simp only [List.mem_cons, List.not_mem_nil, or_false] at hp
            subst hp; exact sub_erase _ _) ?_
          refine tree_quiets (σ4.upd g none) _ _ _ sf1 (by kernel_rfl) (by kernel_rfl) ?_
          simp -implicitDefEqProofs (disch := omega) only [List.any_cons, List.any_nil, Nat.reduceEqDiff, List.map_cons, List.map_nil, Option.map_some, Option.map_none, List.nil_append, ↓reduceIte, vcu, ↓vcd, pickOps_nil, pickOps_cons, pickO_some, List.getElem?_cons_succ, List.getElem?_cons_zero, h0, h1, h5, hrow]
          refine tree_two rfl rfl ?_ ?_
          case' refine_1 =>
            refine r_lit el30 (out := #[.int .i64 (-1), .int .i64 7]) (by simp -implicitDefEqProofs (disch := omega) only [List.any_cons, List.any_nil, Nat.reduceEqDiff, List.map_cons, List.map_nil, Option.map_some, Option.map_none, List.nil_append, ↓reduceIte, vcu, ↓vcd]; kernel_rfl) (by kernel_rfl) fun e7 τ5 n5 s5 v5 => ?_
            simp -implicitDefEqProofs (disch := omega) only [List.any_cons, List.any_nil, Nat.reduceEqDiff, List.map_cons, List.map_nil, Option.map_some, Option.map_none, List.nil_append, ↓reduceIte, vcu, ↓vcd]
            refine ⟨keep_of rfl (fun p hp => by
              simp only [List.mem_cons, List.not_mem_nil, or_false] at hp
              subst hp; exact .inr ((sub_erase _ _).trans s5)), tree_one rfl ?_⟩
            simp -implicitDefEqProofs (disch := omega) only [List.any_cons, List.any_nil, Nat.reduceEqDiff, List.map_cons, List.map_nil, Option.map_some, Option.map_none, List.nil_append, ↓reduceIte, vcu, ↓vcd]
            refine (pick_at β τ5 g h o bs (p' + 1 + 1) 2 (hR4.sub' s5) (by omega) (by omega)).mono ?_
            rintro r σ6 ⟨x, rfl, hx0, hx1, hR6, hK6⟩
            simp -implicitDefEqProofs (disch := omega) only [List.any_cons, List.any_nil, Nat.reduceEqDiff, List.map_cons, List.map_nil, Option.map_some, Option.map_none, List.nil_append, ↓reduceIte, vcu, ↓vcd, opK_some]
            refine ⟨keep_of rfl (fun p hp => by
              simp only [List.mem_cons, List.not_mem_nil, or_false] at hp
              subst hp; exact .inr (less_kept (s5.kept.trans hK6))), ?_⟩
            have hO6 := (hO4.sub s5).kept hr.at_ hK6
            have hK06 := (hK04.trans s5.kept).trans hK6
            have he6 : σ6 e7 = some ⟨ints .i64 [-1, 7], false⟩ := hK6.at v5 (ne_of n5 hR4.at_)
          case' refine_2 =>
            simp -implicitDefEqProofs (disch := omega) only [List.any_cons, List.any_nil, Nat.reduceEqDiff, List.map_cons, List.map_nil, Option.map_some, Option.map_none, List.nil_append, ↓reduceIte, vcu, ↓vcd]
            refine (pick_at β σ4 g h o bs (p' + 1 + 1) 2 hR4 (by omega) (by omega)).mono ?_
            rintro r σ5 ⟨x, rfl, hx0, hx1, hR5, hK5⟩
            simp -implicitDefEqProofs (disch := omega) only [List.any_cons, List.any_nil, Nat.reduceEqDiff, List.map_cons, List.map_nil, Option.map_some, Option.map_none, List.nil_append, ↓reduceIte, vcu, ↓vcd, opK_some]
            refine ⟨keep_of rfl (fun p hp => by
              simp only [List.mem_cons, List.not_mem_nil, or_false] at hp
              subst hp; exact .inr (less_kept hK5)), tree_one rfl ?_⟩
            refine r_lit el30 (out := #[.int .i64 (-1), .int .i64 7]) (by simp -implicitDefEqProofs (disch := omega) only [List.any_cons, List.any_nil, Nat.reduceEqDiff, List.map_cons, List.map_nil, Option.map_some, Option.map_none, List.nil_append, ↓reduceIte, vcu, ↓vcd]; kernel_rfl) (by kernel_rfl) fun e7 σ6 n5 s5 v5 => ?_
            simp -implicitDefEqProofs (disch := omega) only [List.any_cons, List.any_nil, Nat.reduceEqDiff, List.map_cons, List.map_nil, Option.map_some, Option.map_none, List.nil_append, ↓reduceIte, vcu, ↓vcd]
            refine ⟨keep_of rfl (fun p hp => by
              simp only [List.mem_cons, List.not_mem_nil, or_false] at hp
              subst hp; exact .inr (less_kept (hK5.trans s5.kept))), ?_⟩
            have hO6 := (hO4.kept hr.at_ hK5).sub s5
            have hK06 := (hK04.trans hK5).trans s5.kept
            have he6 : σ6 e7 = some ⟨ints .i64 [-1, 7], false⟩ := v5
            have hR6 := hR5.sub' s5
          all_goals
            refine tree_one rfl ?_
            simp -implicitDefEqProofs (disch := omega) only [List.any_cons, List.any_nil, Nat.reduceEqDiff, List.map_cons, List.map_nil, Option.map_some, Option.map_none, List.nil_append, ↓reduceIte, vcu, ↓vcd]
            refine ⟨.inl rfl, tree_one rfl ?_⟩
            have hlx := own_at he6 (i := x.toNat) (by simp; omega)
            generalize ([-1, 7] : List Int).getD x.toNat 0 = w at hlx
            simp -implicitDefEqProofs (disch := omega) only [List.any_cons, List.any_nil, Nat.reduceEqDiff, List.map_cons, List.map_nil, Option.map_some, Option.map_none, List.nil_append, ↓reduceIte, vcu, ↓vcd, hlx]
            refine ⟨.inl rfl, tree_one rfl ?_⟩
            simp -implicitDefEqProofs (disch := omega) only [List.any_cons, List.any_nil, Nat.reduceEqDiff, List.map_cons, List.map_nil, Option.map_some, Option.map_none, List.nil_append, ↓reduceIte, vcu, ↓vcd]
            refine ⟨.inl rfl, tree_one rfl ?_⟩
            refine r_setI (g := q 0) (i := 0) (v := w) (by simp -implicitDefEqProofs (disch := omega) only [List.any_cons, List.any_nil, Nat.reduceEqDiff, List.map_cons, List.map_nil, Option.map_some, Option.map_none, List.nil_append, ↓reduceIte, vcu, ↓vcd]; rfl) (by simp -implicitDefEqProofs (disch := omega) only [List.any_cons, List.any_nil, Nat.reduceEqDiff, List.map_cons, List.map_nil, Option.map_some, Option.map_none, List.nil_append, ↓reduceIte, vcu, ↓vcd]) co3 (hO6.row 0 (by omega)) (by omega) fun τ8 k8 e8 => ?_
            simp -implicitDefEqProofs (disch := omega) only [List.any_cons, List.any_nil, Nat.reduceEqDiff, List.map_cons, List.map_nil, Option.map_some, Option.map_none, List.nil_append, ↓reduceIte, vcu, ↓vcd]
            refine ⟨keep_of rfl (fun p hp => by
              simp only [List.mem_cons, List.not_mem_nil, or_false] at hp
              subst hp; exact .inl (by kernel_rfl)), tree_stop ?_⟩
            simp -implicitDefEqProofs (disch := omega) only [List.any_cons, List.any_nil, Nat.reduceEqDiff, List.map_cons, List.map_nil, Option.map_some, Option.map_none, List.nil_append, ↓reduceIte, vcu, ↓vcd, h5]
            refine fin_one Try.results61 ⟨g2, q, _, p' + 1 + 1 + 1, ?_, hO6.write (by omega) (by simp) k8 e8, by simp; omega, fun i hi => ?_, kept_put2 hK06 k8 (hO6.free 0 (by omega)), by omega, by omega, hR6.put k8 hqg (free_sub hr.sub (hO6.free 0 (by omega)))⟩
            · simp -implicitDefEqProofs (disch := omega) only [List.any_cons, List.any_nil, Nat.reduceEqDiff, List.map_cons, List.map_nil, Option.map_some, Option.map_none, List.nil_append, ↓reduceIte, vcu, ↓vcd, List.length_set]
              rw [hN']
            · rw [List.length_set] at hi
              rw [getD_setL (by omega)]
              split
              · rw [List.length_set]; omega
              · rw [hsq'.2 i (by omega)]; exact hl6
        simp -implicitDefEqProofs (disch := omega) only [List.any_cons, List.any_nil, Nat.reduceEqDiff, List.map_cons, List.map_nil, Option.map_some, Option.map_none, List.nil_append, ↓reduceIte, vcu, ↓vcd, opK_some, hy, h0, h1, h5]
        obtain ⟨p4, hp4, b4⟩ : ∃ p4 : Int, p' + 1 + 1 = p4 ∧ p4 ≤ p + 160 ∧ p ≤ p4 := ⟨_, rfl, by omega, by omega⟩
        rw [hp4] at hR4
      case' neg =>
        simp -implicitDefEqProofs (disch := omega) only [List.any_cons, List.any_nil, Nat.reduceEqDiff, List.map_cons, List.map_nil, Option.map_some, Option.map_none, List.nil_append, ↓reduceIte, vcu, ↓vcd, opK_some, h0, h1, h5]
        obtain ⟨σ4, hO4, hK04, p4, hR4, b4⟩ : ∃ σ4, OwnT σ σ4 g2 q rows' ∧ Kept g σ σ4 ∧ ∃ p4 : Int, Rd β σ4 g h o bs p4 ∧ (p4 ≤ p + 160 ∧ p ≤ p4) ∧ σ4 = σ3 := ⟨σ3, hO3, hK03, p' + 1, hR3, ⟨by omega, by omega⟩, rfl⟩
        obtain ⟨b4, rfl⟩ := b4
      all_goals
        have hd : ∀ k, σ4 k = none → σ k = none := kept_dom hK04 hR4.at_
        refine r_lit el30 (out := #[.int .i64 1]) (by simp -implicitDefEqProofs (disch := omega) only [List.any_cons, List.any_nil, Nat.reduceEqDiff, List.map_cons, List.map_nil, Option.map_some, Option.map_none, List.nil_append, ↓reduceIte, vcu, ↓vcd]; kernel_rfl) (by kernel_rfl) fun e5 τ5 n5 s5 v5 => ?_
        refine r_lit el23 (out := #[.slice (some ⟨e5, 0, none⟩) 1 1]) (by simp -implicitDefEqProofs (disch := omega) only [List.any_cons, List.any_nil, Nat.reduceEqDiff, List.map_cons, List.map_nil, Option.map_some, Option.map_none, List.nil_append, ↓reduceIte, vcu, ↓vcd]; kernel_rfl) (by kernel_rfl) fun e6 τ6 n6 s6 v6 => ?_
        refine r_pushK (β := σ) (len := N) (g := g2) (e := e6) (r := e5) (q := q) (rows := rows') (row := [1]) el23 (by omega) sl23 (by simp -implicitDefEqProofs (disch := omega) only [List.any_cons, List.any_nil, Nat.reduceEqDiff, List.map_cons, List.map_nil, Option.map_some, Option.map_none, List.nil_append, ↓reduceIte, vcu, ↓vcd, h5]) hN' ((hO4.sub s5).sub s6) (by simp -implicitDefEqProofs (disch := omega) only [List.any_cons, List.any_nil, Nat.reduceEqDiff, List.map_cons, List.map_nil, Option.map_some, Option.map_none, List.nil_append, ↓reduceIte, vcu, ↓vcd]) (by rw [v6]; simp [rowV]) (s6 _ _ v5) (hd _ n5) (ne_of n5 hO4.at_) (fun i hi => ne_of' n5 (hO4.row i hi)) (dom_sub (s5.trans s6) hd) (by omega) fun g7 q7 τ7 hO7 k7 n7 => ?_
        simp -implicitDefEqProofs (disch := omega) only [List.any_cons, List.any_nil, Nat.reduceEqDiff, List.map_cons, List.map_nil, Option.map_some, Option.map_none, List.nil_append, ↓reduceIte, vcu, ↓vcd]
        refine fin_one Try.results61 ⟨g7, q7, rows' ++ [[1]], p4, ?_, hO7, by simp; omega, fun i hi => ?_, kept_put2 (hK04.trans (s5.trans s6).kept) k7 hO4.new, by omega, by omega, (hR4.sub' (s5.trans s6)).put k7 hgg (free_sub hr.sub hO4.new)⟩
        · simp -implicitDefEqProofs (disch := omega) only [List.any_cons, List.any_nil, Nat.reduceEqDiff, List.map_cons, List.map_nil, Option.map_some, Option.map_none, List.nil_append, ↓reduceIte, vcu, ↓vcd, List.length_append, List.length_singleton, hN']
        · rw [getD_appL]
          split
          · simp
          · rw [hsq'.2 i (by simp at hi; omega)]; exact hl6
end Go.Proofs.Ytpcbgdgfdfpapaa

namespace Go.Proofs.Ytpcbgdgfdfpapaa
open Go Go.Abs Go.RowKit
variable {w0 : World}

theorem alive_at (σ : AHeap) : ACall Try.prog w0 20 [] σ fun r σ' => r = .bool true ∧ σ' = σ := by
  refine acall_go mixed Try.func20 rfl good20 fun pr => ?_
  simp -implicitDefEqProofs (disch := omega) only [List.any_cons, List.any_nil, Nat.reduceEqDiff, List.map_cons, List.map_nil, Option.map_some, Option.map_none, List.nil_append, ↓reduceIte, vcu, ↓vcd]
  refine r_lit_at Try.underlying30 ze3 (out := (ints .i64 [1, 0]).toArray) (by kernel_rfl) (by kernel_rfl) fun e1 he1 => ?_
  simp -implicitDefEqProofs (disch := omega) only [List.any_cons, List.any_nil, Nat.reduceEqDiff, List.map_cons, List.map_nil, Option.map_some, Option.map_none, List.nil_append, ↓reduceIte, vcu, ↓vcd, co3]
  refine (implValid_at _ e1 0 [1, 0] (intsAt_own (AHeap.upd_same _ _ _)) (by simp)).mono ?_
  rintro r σ1 ⟨rfl, rfl⟩
  have d1 : decide (Valid [1, 0]) = true := by decide
  rw [d1]
  simp -implicitDefEqProofs (disch := omega) only [List.any_cons, List.any_nil, Nat.reduceEqDiff, List.map_cons, List.map_nil, Option.map_some, Option.map_none, List.nil_append, ↓reduceIte, vcu, ↓vcd, opK_some]
  refine r_lit_at Try.underlying30 ze3 (out := (ints .i64 [1, 1]).toArray) (by kernel_rfl) (by kernel_rfl) fun e2 he2 => ?_
  simp -implicitDefEqProofs (disch := omega) only [List.any_cons, List.any_nil, Nat.reduceEqDiff, List.map_cons, List.map_nil, Option.map_some, Option.map_none, List.nil_append, ↓reduceIte, vcu, ↓vcd, co3]
  refine (implValid_at _ e2 0 [1, 1] (intsAt_own (AHeap.upd_same _ _ _)) (by simp)).mono ?_
  rintro r σ1 ⟨rfl, rfl⟩
  have d2 : decide (Valid [1, 1]) = false := by decide
  rw [d2]
  simp -implicitDefEqProofs (disch := omega) only [List.any_cons, List.any_nil, Nat.reduceEqDiff, List.map_cons, List.map_nil, Option.map_some, Option.map_none, List.nil_append, ↓reduceIte, vcu, ↓vcd, opK_some]
  refine fin_drop Try.results20 σ (sub_put (sub_upd he1) (free_sub (sub_upd he1) he2)) ⟨?_, rfl⟩
  simp -implicitDefEqProofs (disch := omega) only [List.any_cons, List.any_nil, Nat.reduceEqDiff, List.map_cons, List.map_nil, Option.map_some, Option.map_none, List.nil_append, ↓reduceIte, vcu, ↓vcd]

theorem bytes_of {bs : List Int} (hw : ∀ z ∈ bs, (Lit.int .u8 z).wf = true) : ∀ b ∈ bs, 0 ≤ b ∧ b ≤ 255 := fun b hb => by
  have := hw b hb; simpa [Lit.wf, IntKind.min, IntKind.max, IntKind.signed, IntKind.bits] using this
theorem same_at (σ : AHeap) (h o g p : Nat) (xs ys : List Int) (hv : IntsAt .i64 σ h o xs) (hu : IntsAt .i64 σ g p ys) (hl : xs.length ≤ 1048576) (hl2 : ys.length ≤ 1048576) :
    ACall Try.prog w0 60 [.slice (some ⟨h, o, none⟩) xs.length 1, .slice (some ⟨g, p, none⟩) ys.length 1] σ fun r σ' => r = .bool (decide (xs = ys)) ∧ σ' = σ := by
  refine acall_go mixed Try.func60 rfl good60 fun pr => ?_
  by_cases hlen : xs.length = ys.length
  · simp -implicitDefEqProofs (disch := omega) only [List.any_cons, List.any_nil, Nat.reduceEqDiff, List.map_cons, List.map_nil, Option.map_some, Option.map_none, List.nil_append, ↓reduceIte, vcu, ↓vcd]
    refine vc_loop_c mixed (by kernel_rfl) [0, 1] (fun m a σ' => ∃ k : Nat, m + k = xs.length ∧ a 5 = .int .i64 k ∧ σ' = σ ∧ ∀ j, j < k → xs.getD j 0 = ys.getD j 0) xs.length ⟨0, by simp, rfl, rfl, by simp⟩ ?_
    rintro m a σ' hc ⟨k, hk, h5, rfl, he⟩
    simp -implicitDefEqProofs (disch := omega) only [List.any_cons, List.any_nil, Nat.reduceEqDiff, List.map_cons, List.map_nil, Option.map_some, Option.map_none, List.nil_append, ↓reduceIte, vcu, ↓vcd] at hc
    obtain ⟨h0, h1, -⟩ := hc
    by_cases hlt : k < xs.length
    · have hx := hv k hlt
      have hy := hu k (by omega)
      by_cases hxy : xs.getD k 0 = ys.getD k 0
      · simp -implicitDefEqProofs (disch := omega) only [List.any_cons, List.any_nil, Nat.reduceEqDiff, List.map_cons, List.map_nil, Option.map_some, Option.map_none, List.nil_append, ↓reduceIte, vcu, ↓vcd, h0, h1, h5, hx, hy]
        refine ⟨⟨trivial, trivial, trivial⟩, m - 1, by omega, k + 1, by omega, by simp, trivial, fun j hj => ?_⟩
        by_cases e : j = k
        · subst e; exact hxy
        · exact he j (by omega)
      · simp -implicitDefEqProofs (disch := omega) only [List.any_cons, List.any_nil, Nat.reduceEqDiff, List.map_cons, List.map_nil, Option.map_some, Option.map_none, List.nil_append, ↓reduceIte, vcu, ↓vcd, h0, h1, h5, hx, hy]
        refine fin_one Try.results60 ⟨?_, rfl⟩
        simp -implicitDefEqProofs (disch := omega) only [List.any_cons, List.any_nil, Nat.reduceEqDiff, List.map_cons, List.map_nil, Option.map_some, Option.map_none, List.nil_append, ↓reduceIte, vcu, ↓vcd]
        have : xs ≠ ys := fun e => hxy (by rw [e])
        simp [this]
    · simp -implicitDefEqProofs (disch := omega) only [List.any_cons, List.any_nil, Nat.reduceEqDiff, List.map_cons, List.map_nil, Option.map_some, Option.map_none, List.nil_append, ↓reduceIte, vcu, ↓vcd, h0, h1, h5]
      refine fin_one Try.results60 ⟨?_, rfl⟩
      simp -implicitDefEqProofs (disch := omega) only [List.any_cons, List.any_nil, Nat.reduceEqDiff, List.map_cons, List.map_nil, Option.map_some, Option.map_none, List.nil_append, ↓reduceIte, vcu, ↓vcd]
      have : xs = ys := by
        apply List.ext_getElem hlen
        intro i h1 h2
        have := he i (by omega)
        simpa [List.getD, h1, h2] using this
      simp [this]
  · simp -implicitDefEqProofs (disch := omega) only [List.any_cons, List.any_nil, Nat.reduceEqDiff, List.map_cons, List.map_nil, Option.map_some, Option.map_none, List.nil_append, ↓reduceIte, vcu, ↓vcd]
    refine fin_one Try.results60 ⟨?_, rfl⟩
    simp -implicitDefEqProofs (disch := omega) only [List.any_cons, List.any_nil, Nat.reduceEqDiff, List.map_cons, List.map_nil, Option.map_some, Option.map_none, List.nil_append, ↓reduceIte, vcu, ↓vcd]
    have : xs ≠ ys := fun e => hlen (by rw [e])
    simp [this]
theorem same_calls (σ : AHeap) (v u : Value) (xs ys : List Int) (hv : Ints .i64 σ v xs) (hu : Ints .i64 σ u ys) (hl : xs.length ≤ 1048576) (hl2 : ys.length ≤ 1048576) :
    ACall Try.prog w0 60 [v, u] σ fun r σ' => r = .bool (decide (xs = ys)) ∧ σ' = σ :=
  ACall.ints_quiet (pre := []) (post := [u]) (by kernel_rfl) hv fun σ1 h o hs hg =>
    ACall.ints_quiet (pre := [_]) (post := []) (by kernel_rfl) (hu.sub hs) fun σ2 g p hs2 hg2 => same_at σ2 h o g p xs ys (hg.sub hs2) hg2 hl hl2
theorem sameL_at (σ : AHeap) (h o g p : Nat) (xs ys : List (List Int)) (hv : RowsAt σ h o xs) (hu : RowsAt σ g p ys) (hl : xs.length ≤ 1048576) (hxy : xs = ys) (hr : ∀ i, i < xs.length → (xs.getD i []).length ≤ 1048576) :
    ACall Try.prog w0 27 [.slice (some ⟨h, o, none⟩) xs.length 1, .slice (some ⟨g, p, none⟩) ys.length 1] σ fun r σ' => r = .bool true ∧ σ' = σ := by
  subst hxy
  refine acall_go mixed Try.func27 rfl good27 fun pr => ?_
  simp -implicitDefEqProofs (disch := omega) only [List.any_cons, List.any_nil, Nat.reduceEqDiff, List.map_cons, List.map_nil, Option.map_some, Option.map_none, List.nil_append, ↓reduceIte, vcu, ↓vcd]
  refine vc_loop_c mixed (by kernel_rfl) [0, 1] (fun m a σ' => ∃ k : Nat, m + k = xs.length ∧ a 5 = .int .i64 k ∧ σ' = σ) xs.length ⟨0, by simp, rfl, rfl⟩ ?_
  rintro m a σ' hc ⟨k, hk, h5, rfl⟩
  simp -implicitDefEqProofs (disch := omega) only [List.any_cons, List.any_nil, Nat.reduceEqDiff, List.map_cons, List.map_nil, Option.map_some, Option.map_none, List.nil_append, ↓reduceIte, vcu, ↓vcd] at hc
  obtain ⟨h0, h1, -⟩ := hc
  by_cases hlt : k < xs.length
  · obtain ⟨v, hx, hi⟩ := hv k hlt
    obtain ⟨u, hy, hj⟩ := hu k hlt
    simp -implicitDefEqProofs (disch := omega) only [List.any_cons, List.any_nil, Nat.reduceEqDiff, List.map_cons, List.map_nil, Option.map_some, Option.map_none, List.nil_append, ↓reduceIte, vcu, ↓vcd, h0, h1, h5, hx, hy]
    rw [r_callq]
    refine ⟨_, same_calls σ' v u _ _ hi hj (hr k hlt) (hr k hlt), ?_⟩
    simp -implicitDefEqProofs (disch := omega) only [List.any_cons, List.any_nil, Nat.reduceEqDiff, List.map_cons, List.map_nil, Option.map_some, Option.map_none, List.nil_append, ↓reduceIte, vcu, ↓vcd, h0, h1, h5, decide_true]
    exact ⟨⟨trivial, trivial, trivial⟩, m - 1, by omega, k + 1, by omega, by simp, trivial⟩
  · simp -implicitDefEqProofs (disch := omega) only [List.any_cons, List.any_nil, Nat.reduceEqDiff, List.map_cons, List.map_nil, Option.map_some, Option.map_none, List.nil_append, ↓reduceIte, vcu, ↓vcd, h0, h1, h5]
    refine fin_one Try.results27 ⟨?_, rfl⟩
    simp -implicitDefEqProofs (disch := omega) only [List.any_cons, List.any_nil, Nat.reduceEqDiff, List.map_cons, List.map_nil, Option.map_some, Option.map_none, List.nil_append, ↓reduceIte, vcu, ↓vcd]
theorem sameL_calls (σ : AHeap) (v u : Value) (xs : List (List Int)) (hv : RowsV σ v xs) (hu : RowsV σ u xs) (hl : xs.length ≤ 1048576) (hr : ∀ i, i < xs.length → (xs.getD i []).length ≤ 1048576) :
    ACall Try.prog w0 27 [v, u] σ fun r σ' => r = .bool true ∧ σ' = σ :=
  ACall.rows_quiet (pre := []) (post := [u]) (by kernel_rfl) hv fun σ1 h o hs hg =>
    ACall.rows_quiet (pre := [_]) (post := []) (by kernel_rfl) (hu.sub hs) fun σ2 g p hs2 hg2 => sameL_at σ2 h o g p xs xs (hg.sub hs2) hg2 hl rfl hr
theorem implTV_calls (σ : AHeap) (v : Value) (rows : List (List Int)) (hv : RowsV σ v rows) (hl : rows.length ≤ 1048576) :
    ACall Try.prog w0 52 [v] σ fun r σ' => r = .bool (decide (TV rows)) ∧ σ' = σ :=
  ACall.rows_quiet (pre := []) (post := []) (by kernel_rfl) hv fun σ1 h o hs hg => implTV_at σ1 h o rows hg hl
theorem RowsAt.take {σ : AHeap} {h o : Nat} {rows : List (List Int)} (hv : RowsAt σ h o rows) (m : Nat) : RowsAt σ h o (rows.take m) := fun i hi => by
  have hi2 : i < m ∧ i < rows.length := by simp at hi; omega
  obtain ⟨v, a, b⟩ := hv i hi2.2
  refine ⟨v, a, ?_⟩
  have : (rows.take m).getD i [] = rows.getD i [] := by simp [List.getD, List.getElem?_take, hi2.1]
  rw [this]; exact b
end Go.Proofs.Ytpcbgdgfdfpapaa

namespace Go.Proofs.Ytpcbgdgfdfpapaa
open Go Go.Abs Go.RowKit
variable {w0 : World}

def AllV (n : Nat) (rows : List (List Int)) : Prop := ∀ i, i < rows.length → Valid (rows.getD i []) ∧ (rows.getD i []).length = n
theorem AllV.inN {n : Nat} {rows : List (List Int)} (h : AllV n rows) {k : Nat} (hk : k ≤ rows.length) : ∀ i, i < k → InN n (rows.getD i []) := fun i hi => (valid_in (h i (by omega)).1 (h i (by omega)).2).1
/-- of the first K lists those that take a below m -/
def cl (rows : List (List Int)) (a m : Nat) : Nat → Nat
  | 0 => 0
  | k + 1 => cl rows a m k + if ((rows.getD k []).getD a 0).toNat < m then 1 else 0
theorem cl_succ (rows : List (List Int)) (a m : Nat) : ∀ k, cl rows a (m + 1) k = cl rows a m k + cntL rows a m k
  | 0 => rfl
  | k + 1 => by
    rw [cl, cl, cntL, cl_succ rows a m k]
    by_cases h1 : ((rows.getD k []).getD a 0).toNat < m
    · rw [if_pos (by omega), if_pos h1, if_neg (by omega)]; omega
    · by_cases h2 : m = ((rows.getD k []).getD a 0).toNat
      · rw [if_pos (by omega), if_neg h1, if_pos h2]; omega
      · rw [if_neg (by omega), if_neg h1, if_neg h2]; omega
theorem cl_zero (rows : List (List Int)) (a : Nat) : ∀ k, cl rows a 0 k = 0
  | 0 => rfl
  | k + 1 => by rw [cl, cl_zero rows a k, if_neg (by omega)]
theorem psum_addL {n : Nat} {rows : List (List Int)} {a K : Nat} (ha : a < n) (hin : ∀ i, i < K → InN n (rows.getD i [])) : ∀ m, psum ((addL n rows K).getD a []) m = cl rows a m K
  | 0 => by simp [psum, cl_zero]
  | m + 1 => by
    have := en_addL (rows := rows) ha m K hin
    unfold en at this
    rw [psum, this, psum_addL ha hin m, cl_succ]; omega
theorem cl_all {n : Nat} {rows : List (List Int)} {a : Nat} (ha : a < n) : ∀ K, (∀ i, i < K → InN n (rows.getD i [])) → cl rows a n K = K
  | 0, _ => rfl
  | K + 1, h => by rw [cl, cl_all ha K (fun i hi => h i (by omega)), if_pos ((h K (by omega)).2 a ha)]
/-- how many of the first m places have b -/
def pc (xs : List Int) (b : Nat) : Nat → Nat
  | 0 => 0
  | m + 1 => pc xs b m + if b = (xs.getD m 0).toNat then 1 else 0
def pcOK (xs : List Int) : Bool := (List.range xs.length).all fun b => Nat.beq (pc xs b xs.length) 1
theorem pc_all : allV.all pcOK = true := by kernel_rfl
theorem pc_one {xs : List Int} (h : Valid xs) {b : Nat} (hb : b < xs.length) : pc xs b xs.length = 1 := by
  have := valid_all pc_all h
  unfold pcOK at this
  rw [List.all_eq_true] at this
  exact Nat.eq_of_beq_eq_true (this b (List.mem_range.2 hb))
def cc (rows : List (List Int)) (b m : Nat) : Nat → Nat
  | 0 => 0
  | k + 1 => cc rows b m k + pc (rows.getD k []) b m
theorem cc_succ (rows : List (List Int)) (b m : Nat) : ∀ k, cc rows b (m + 1) k = cc rows b m k + cntL rows m b k
  | 0 => rfl
  | k + 1 => by rw [cc, cc, cntL, cc_succ rows b m k, pc]; omega
theorem cc_zero (rows : List (List Int)) (b : Nat) : ∀ k, cc rows b 0 k = 0
  | 0 => rfl
  | k + 1 => by rw [cc, cc_zero rows b k, pc]
theorem csum_addL {n : Nat} {rows : List (List Int)} {b K : Nat} (hin : ∀ i, i < K → InN n (rows.getD i [])) : ∀ m, m ≤ n → csum (addL n rows K) b m = cc rows b m K
  | 0, _ => by simp [csum, cc_zero]
  | m + 1, hm => by
    have := en_addL (rows := rows) (a := m) (n := n) (by omega) b K hin
    unfold en at this
    rw [csum, this, csum_addL hin m (by omega), cc_succ]; omega
theorem cc_all {n : Nat} {rows : List (List Int)} {b : Nat} (hb : b < n) : ∀ K, (∀ i, i < K → Valid (rows.getD i []) ∧ (rows.getD i []).length = n) → cc rows b n K = K
  | 0, _ => rfl
  | K + 1, h => by
    obtain ⟨hv, hl⟩ := h K (by omega)
    have h1 := pc_one hv (b := b) (by omega)
    rw [hl] at h1
    rw [cc, cc_all hb K (fun i hi => h i (by omega)), h1]
theorem tv_addL {n : Nat} {rows : List (List Int)} (hL : LoadOk n rows) : TV (addL n rows rows.length) := by
  have hsq := addL_sq n rows rows.length
  have hn : n ≤ 6 := by have := hL.1; omega
  have hval : AllV n rows := fun i hi => by simpa using hL.2.1 i hi
  refine ⟨by rw [hsq.1]; exact hn, fun i hi => ⟨by rw [hsq.1]; exact hsq.2 i (by rw [← hsq.1]; exact hi), fun j hj => ?_⟩⟩
  rw [hsq.1] at hi
  have hj' : j < n := by rw [← hsq.2 i hi]; exact hj
  have h1 := en_addL (rows := rows) hi j rows.length (hval.inN (Nat.le_refl _))
  have h2 := hL.2.2 i (by simpa using hi) j (by simpa using hj')
  unfold en at h1
  omega
/-- what is made of permutations is even -/
theorem addL_even {n : Nat} {rows : List (List Int)} (hL : LoadOk n rows) : EvenT (addL n rows rows.length) ∧ (0 < n → most (addL n rows rows.length) n = rows.length) := by
  have hT := tv_addL hL
  have hsq := addL_sq n rows rows.length
  have hval : AllV n rows := fun i hi => by simpa using hL.2.1 i hi
  have hr : ∀ i, i < n → psum ((addL n rows rows.length).getD i []) n = rows.length := fun i hi => by rw [psum_addL hi (hval.inN (Nat.le_refl _)), cl_all hi _ (hval.inN (Nat.le_refl _))]
  have hc : ∀ i, i < n → csum (addL n rows rows.length) i n = rows.length := fun i hi => by rw [csum_addL (hval.inN (Nat.le_refl _)) _ (Nat.le_refl _), cc_all hi _ (fun j hj => hval j hj)]
  have hm : 0 < n → most (addL n rows rows.length) n = rows.length := fun h0 => by
    have hh := le_most (rows := addL n rows rows.length) (i := 0) (k := n) h0
    rw [hsq.1, hr 0 h0] at hh
    have h2 := most_le' (rows := addL n rows rows.length) (M := rows.length) (by omega) n (fun i hi => by rw [hsq.1, hr i hi, hc i hi]; exact ⟨Int.le_refl _, Int.le_refl _⟩)
    omega
  refine ⟨⟨hT, fun i hi => ?_⟩, hm⟩
  rw [hsq.1] at hi ⊢
  rw [hr i hi, hc i hi, hm (by omega)]
  exact ⟨rfl, rfl⟩

end Go.Proofs.Ytpcbgdgfdfpapaa
