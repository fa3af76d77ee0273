/- The draws of tables. -/
import Derived.Test.YtbfldpcikcdlpaaUd
set_option linter.unusedSimpArgs false
set_option linter.unusedVariables false
namespace Go.Proofs.Ytbfldpcikcdlpaa
open Go Go.Abs Go.RowKit
variable {w0 : World}

/-- all but the reader -/
theorem kept_less {g : Nat} {σ τ : AHeap} (h : Sub (σ.upd g none) τ) : Kept g σ τ := fun k ob hk e => h k ob (by rw [AHeap.upd_ne _ _ hk]; exact e)
theorem less_kept {g : Nat} {σ τ : AHeap} (h : Kept g σ τ) : Sub (σ.upd g none) τ := fun k ob e => by
  by_cases hk : k = g
  · subst hk; rw [AHeap.upd_same] at e; cases e
  · rw [AHeap.upd_ne _ _ hk] at e; exact h k ob hk e
theorem Rd.less {β σ : AHeap} {g h o : Nat} {bs : List Int} {p : Int} (hr : Rd β σ g h o bs p) : Sub β (σ.upd g none) := fun k ob e => by
  have hk : k ≠ g := by rintro rfl; rw [hr.free] at e; cases e
  rw [AHeap.upd_ne _ _ hk]; exact hr.sub k ob e
theorem Rd.above {β σ : AHeap} {g h o : Nat} {bs : List Int} {p : Int} (hr : Rd β σ g h o bs p) : Rd (σ.upd g none) σ g h o bs p :=
  ⟨hr.at_, sub_erase σ g, AHeap.upd_same _ _ _, hr.ints.sub hr.less, hr.len, hr.byte⟩
theorem Rd.back {β σ σ' : AHeap} {g h o : Nat} {bs : List Int} {p p' : Int} (hr : Rd β σ g h o bs p) (h2 : Rd (σ.upd g none) σ' g h o bs p') : Rd β σ' g h o bs p' :=
  ⟨h2.at_, hr.less.trans h2.sub, hr.free, hr.ints, hr.len, hr.byte⟩
theorem Rd.keep' {β σ τ : AHeap} {g h o : Nat} {bs : List Int} {p : Int} (hr : Rd β σ g h o bs p) (hs : Sub β τ) (hg : τ g = σ g) : Rd β τ g h o bs p :=
  ⟨by rw [hg]; exact hr.at_, hs, hr.free, hr.ints, hr.len, hr.byte⟩

theorem perm_k (β σ : AHeap) (g h o : Nat) (bs : List Int) (p : Int) (n : Nat) (hr : Rd β σ g h o bs p) (hp : 0 ≤ p ∧ p ≤ 10000) (hn : n ≤ 10) :
    ACall Try.prog w0 59 [.pointer (some ⟨g, 0, none⟩), .int .i64 n] σ fun r σ' => ∃ (q : Nat) (ps : List Int) (p' : Int), r = .slice (some ⟨q, 0, none⟩) n 1 ∧ ps.length = n ∧ σ' q = some ⟨ints .i64 ps, false⟩ ∧ σ q = none ∧ Kept g σ σ' ∧ p ≤ p' ∧ p' ≤ p + n ∧ Rd β σ' g h o bs p' := by
  refine (perm_draw _ σ g h o bs p n hr.above hp hn).mono ?_
  rintro r σ' ⟨q, ps, p', rfl, h1, h2, h3, h4, h5, h6, h7⟩
  exact ⟨q, ps, p', rfl, h1, h2, by rw [AHeap.upd_ne _ _ h4] at h3; exact h3, kept_less h7.sub, h5, h6, hr.back h7⟩
theorem list_k (β σ : AHeap) (g h o : Nat) (bs : List Int) (p n : Int) (hr : Rd β σ g h o bs p) (hp : 0 ≤ p ∧ p ≤ 1000) (hn : 1 ≤ n ∧ n ≤ 1000) :
    ACall Try.prog w0 61 [.pointer (some ⟨g, 0, none⟩), .int .i64 n] σ fun r σ' => ∃ (q : Nat) (ps : List Int) (p' : Int), r = .slice (some ⟨q, 0, none⟩) ps.length 1 ∧ ps.length ≤ 7 ∧ σ' q = some ⟨ints .i64 ps, false⟩ ∧ σ q = none ∧ Kept g σ σ' ∧ p ≤ p' ∧ p' ≤ p + 20 ∧ Rd β σ' g h o bs p' := by
  refine (list_draw _ σ g h o bs p n hr.above hp hn).mono ?_
  rintro r σ' ⟨q, ps, p', rfl, h1, h2, h3, h4, h5, h6, h7⟩
  exact ⟨q, ps, p', rfl, h1, h2, by rw [AHeap.upd_ne _ _ h4] at h3; exact h3, kept_less h7.sub, h5, h6, hr.back h7⟩

/-- newer than what was there once, the reader aside -/
theorem OwnT.older {β σ τ : AHeap} {g2 : Nat} {q : Nat → Nat} {rows : List (List Int)} (h : OwnT β τ g2 q rows) (hd : ∀ k, β k = none → σ k = none) : OwnT σ τ g2 q rows :=
  ⟨h.at_, hd _ h.new, h.row, fun i hi => hd _ (h.free i hi), h.ne, h.inj⟩
theorem kept_dom {g : Nat} {σ τ : AHeap} {ob : AObj} (h : Kept g σ τ) (hg : τ g = some ob) : ∀ k, τ k = none → σ k = none := fun k hk => by
  have hne : k ≠ g := by rintro rfl; rw [hg] at hk; cases hk
  cases e : σ k with
  | none => rfl
  | some ob' => rw [h k ob' hne e] at hk; cases hk
/-- a table is newer than the reader -/
theorem OwnT.kept {σ0 σ τ : AHeap} {g g2 : Nat} {q : Nat → Nat} {rows : List (List Int)} {ob : AObj} (h : OwnT σ0 σ g2 q rows) (hg : σ0 g = some ob) (hk : Kept g σ τ) : OwnT σ0 τ g2 q rows :=
  h.keep fun k ob' hn e => hk k ob' (by rintro rfl; rw [hg] at hn; cases hn) e

/-- a row is put behind those of a table of one's own, whatever else is there -/
theorem r_pushK {P : Program} {a : AFrame} {σ β : AHeap} {K : AK} {all os : List Oper} {d : Nat} {ty : TypeId} {pos : String} {af : Array Edge} {t u : TypeId} {b : Nat} {x y : Operand} {g e r : Nat} {q : Nat → Nat} {rows : List (List Int)} {row : List Int} {len : Nat}
    (hE : Elems P t 1 (.slice none 0 0) b) (hb : b ≤ 64) (hu : ∃ e2, P.underlying u = some (.slice e2)) (hx : ev a x = .slice (some ⟨g, 0, none⟩) len 1) (hn : rows.length = len) (hO : OwnT β σ g q rows)
    (hy : ev a y = .slice (some ⟨e, 0, none⟩) 1 1) (he : σ e = some ⟨[rowV r row], false⟩) (hr : σ r = some ⟨ints .i64 row, false⟩) (hbr : β r = none) (hg : r ≠ g) (hq : ∀ i, i < rows.length → q i ≠ r) (hd : ∀ k, σ k = none → β k = none) (hl : len ≤ 1048576)
    (hk : ∀ g' q' τ, OwnT β τ g' q' (rows ++ [row]) → Kept g σ τ → σ g' = none → vcR P w0 false all os (fset a d (.slice (some ⟨g', 0, none⟩) (len + 1) 1)) τ K) :
    vcR P w0 false all (⟨some d, .call ⟨.builtin .append, #[x, y], #[t, u]⟩, ty, pos, af, none⟩ :: os) a σ K := by
  refine r_push hE hu hx hO.at_ (by rw [rowVs_length, hn]; omega) (D := [rowV r row]) ?_ (by rfl) (by
      have : (len + 1) * b ≤ 1048577 * 64 := Nat.mul_le_mul (by omega) hb
      simp; omega) fun g' τ h1 h2 h3 => ?_
  · rw [hy]; simp [acells, lds, he]
  · have e1 : [rowV r row].length / 1 = 1 := by simp
    rw [e1]
    exact hk g' _ τ (hO.push hr hbr hg hq h1 (hd _ h1) h2 h3) h2 h1
theorem dom_sub {σ τ β : AHeap} (hs : Sub σ τ) (hd : ∀ k, σ k = none → β k = none) : ∀ k, τ k = none → β k = none := fun k hk => hd k (free_sub hs hk)
/-- the reader is not touched by what a table does -/
theorem Rd.put {β σ τ : AHeap} {g g2 h o : Nat} {bs : List Int} {p : Int} (hr : Rd β σ g h o bs p) (hk : Kept g2 σ τ) (hne : g2 ≠ g) (hn : β g2 = none) : Rd β τ g h o bs p :=
  ⟨hk.at hr.at_ hne.symm, hk.sub hr.sub hn, hr.free, hr.ints, hr.len, hr.byte⟩
theorem Rd.sub' {β σ τ : AHeap} {g h o : Nat} {bs : List Int} {p : Int} (hr : Rd β σ g h o bs p) (hs : Sub σ τ) : Rd β τ g h o bs p :=
  ⟨hs _ _ hr.at_, hr.sub.trans hs, hr.free, hr.ints, hr.len, hr.byte⟩
/-- what was once there stays, the reader aside -/
theorem kept_put2 {g g2 : Nat} {σ σ' τ : AHeap} (h : Kept g σ σ') (hk : Kept g2 σ' τ) (hn : σ g2 = none) : Kept g σ τ := fun k ob hkg e => hk k ob (by rintro rfl; rw [hn] at e; cases e) (h k ob hkg e)

theorem even_k (β σ : AHeap) (g h o : Nat) (bs : List Int) (p : Int) (hr : Rd β σ g h o bs p) (hp : 0 ≤ p ∧ p ≤ 1000) :
    ACall Try.prog w0 58 [.pointer (some ⟨g, 0, none⟩)] σ fun r σ' => ∃ (g2 : Nat) (q : Nat → Nat) (rows : List (List Int)) (p' : Int), r = .slice (some ⟨g2, 0, none⟩) rows.length 1 ∧ OwnT σ σ' g2 q rows ∧ rows.length ≤ 6 ∧ Sq rows.length rows ∧ Kept g σ σ' ∧ p ≤ p' ∧ p' ≤ p + 60 ∧ Rd β σ' g h o bs p' := by
  refine acall_go mixed Try.func58 rfl good58 ?_
  simp -implicitDefEqProofs (disch := omega) only [List.any_cons, List.any_nil, Nat.reduceEqDiff, List.map_cons, List.map_nil, Option.map_some, Option.map_none, List.nil_append, ↓reduceIte, vcu0, vcu1, vcu2, vcu3, vcu4, vcu5, vcu6, vcu7, vcu8, vcu9, vcu10, vcu11, vcu12, vcu13, vcu14, vcu15, vcu16, ↓vcd0, ↓vcd1, ↓vcd2, ↓vcd3]
  refine (pick_at β σ g h o bs p 7 hr (by omega) (by omega)).mono ?_
  rintro r σ1 ⟨z, rfl, hz0, hz1, hR1, hK1⟩
  obtain ⟨n, rfl⟩ : ∃ n : Nat, z = n := ⟨z.toNat, by omega⟩
  simp -implicitDefEqProofs (disch := omega) only [List.any_cons, List.any_nil, Nat.reduceEqDiff, List.map_cons, List.map_nil, Option.map_some, Option.map_none, List.nil_append, ↓reduceIte, vcu0, vcu1, vcu2, vcu3, vcu4, vcu5, vcu6, vcu7, vcu8, vcu9, vcu10, vcu11, vcu12, vcu13, vcu14, vcu15, vcu16, ↓vcd0, ↓vcd1, ↓vcd2, ↓vcd3, opK_some]
  refine r_lit el23 (out := #[]) (by kernel_rfl) (by kernel_rfl) fun e1 τ1 n1 s1 v1 => ?_
  simp -implicitDefEqProofs (disch := omega) only [List.any_cons, List.any_nil, Nat.reduceEqDiff, List.map_cons, List.map_nil, Option.map_some, Option.map_none, List.nil_append, ↓reduceIte, vcu0, vcu1, vcu2, vcu3, vcu4, vcu5, vcu6, vcu7, vcu8, vcu9, vcu10, vcu11, vcu12, vcu13, vcu14, vcu15, vcu16, ↓vcd0, ↓vcd1, ↓vcd2, ↓vcd3]
  refine (pick_at β τ1 g h o bs (p + 1) 7 (hR1.sub' s1) (by omega) (by omega)).mono ?_
  rintro r σ2 ⟨c, rfl, hc0, hc1, hR2, hK2⟩
  have hd1 := kept_dom hK1 hR1.at_
  have hOn : OwnT σ τ1 e1 (fun _ => 0) [] := OwnT.nil _ v1 (hd1 _ n1)
  have hK02 : Kept g σ σ2 := (hK1.trans s1.kept).trans hK2
  have hO2 : OwnT σ σ2 e1 (fun _ => 0) [] := hOn.kept hr.at_ hK2
  simp -implicitDefEqProofs (disch := omega) only [List.any_cons, List.any_nil, Nat.reduceEqDiff, List.map_cons, List.map_nil, Option.map_some, Option.map_none, List.nil_append, ↓reduceIte, vcu0, vcu1, vcu2, vcu3, vcu4, vcu5, vcu6, vcu7, vcu8, vcu9, vcu10, vcu11, vcu12, vcu13, vcu14, vcu15, vcu16, ↓vcd0, ↓vcd1, ↓vcd2, ↓vcd3, opK_some]
  refine vc_loop_c mixed (by kernel_rfl) [0, 3] (fun m a σ' => ∃ (g1 : Nat) (q : Nat → Nat) (rows : List (List Int)) (p' : Int), (m : Int) + rows.length = c ∧ a 5 = .int .i64 m ∧ a 4 = .slice (some ⟨g1, 0, none⟩) rows.length 1 ∧ OwnT σ σ' g1 q rows ∧ (∀ i, i < rows.length → (rows.getD i []).length = n) ∧ Kept g σ σ' ∧ p ≤ p' ∧ p' ≤ p + 2 + 6 * rows.length ∧ Rd β σ' g h o bs p') c.toNat
    ⟨e1, fun _ => 0, [], p + 1 + 1, by simp; omega, by simp [fset]; omega, rfl, hO2, by simp, hK02, by omega, by simp; omega, hR2⟩ ?_
  clear hO2 hOn hK2 hR2 hK1 hR1 hd1 hK02
  rintro m a σ' hcc ⟨g1, q, rows, p', hm, h5, h4, hO, hrl, hK, hp1, hp2, hR⟩
  simp -implicitDefEqProofs (disch := omega) only [List.any_cons, List.any_nil, Nat.reduceEqDiff, List.map_cons, List.map_nil, Option.map_some, Option.map_none, List.nil_append, ↓reduceIte, vcu0, vcu1, vcu2, vcu3, vcu4, vcu5, vcu6, vcu7, vcu8, vcu9, vcu10, vcu11, vcu12, vcu13, vcu14, vcu15, vcu16, ↓vcd0, ↓vcd1, ↓vcd2, ↓vcd3] at hcc
  obtain ⟨h0, h3, -⟩ := hcc
  by_cases hlt : 0 < m
  · simp -implicitDefEqProofs (disch := omega) only [List.any_cons, List.any_nil, Nat.reduceEqDiff, List.map_cons, List.map_nil, Option.map_some, Option.map_none, List.nil_append, ↓reduceIte, vcu0, vcu1, vcu2, vcu3, vcu4, vcu5, vcu6, vcu7, vcu8, vcu9, vcu10, vcu11, vcu12, vcu13, vcu14, vcu15, vcu16, ↓vcd0, ↓vcd1, ↓vcd2, ↓vcd3, h0, h3, h4, h5]
    refine (perm_k β σ' g h o bs p' n hR (by omega) (by omega)).mono ?_
    rintro r τ3 ⟨x, ps, p3, rfl, hpl, hx, hxn, hK3, a1, a2, hR3⟩
    have hO3 := hO.kept hr.at_ hK3
    have hd : ∀ k, τ3 k = none → σ k = none := kept_dom (hK.trans hK3) hR3.at_
    have hxs : σ x = none := kept_dom hK hR.at_ _ hxn
    simp -implicitDefEqProofs (disch := omega) only [List.any_cons, List.any_nil, Nat.reduceEqDiff, List.map_cons, List.map_nil, Option.map_some, Option.map_none, List.nil_append, ↓reduceIte, vcu0, vcu1, vcu2, vcu3, vcu4, vcu5, vcu6, vcu7, vcu8, vcu9, vcu10, vcu11, vcu12, vcu13, vcu14, vcu15, vcu16, ↓vcd0, ↓vcd1, ↓vcd2, ↓vcd3, opK_some, h4]
    refine r_lit el23 (out := #[.slice (some ⟨x, 0, none⟩) n 1]) (by simp -implicitDefEqProofs (disch := omega) only [List.any_cons, List.any_nil, Nat.reduceEqDiff, List.map_cons, List.map_nil, Option.map_some, Option.map_none, List.nil_append, ↓reduceIte, vcu0, vcu1, vcu2, vcu3, vcu4, vcu5, vcu6, vcu7, vcu8, vcu9, vcu10, vcu11, vcu12, vcu13, vcu14, vcu15, vcu16, ↓vcd0, ↓vcd1, ↓vcd2, ↓vcd3]; kernel_rfl) (by kernel_rfl) fun e4 τ4 n4 s4 v4 => ?_
    refine r_pushK (β := σ) (len := rows.length) (g := g1) (e := e4) (r := x) (q := q) (rows := rows) (row := ps) el23 (by omega) sl23 (by simp -implicitDefEqProofs (disch := omega) only [List.any_cons, List.any_nil, Nat.reduceEqDiff, List.map_cons, List.map_nil, Option.map_some, Option.map_none, List.nil_append, ↓reduceIte, vcu0, vcu1, vcu2, vcu3, vcu4, vcu5, vcu6, vcu7, vcu8, vcu9, vcu10, vcu11, vcu12, vcu13, vcu14, vcu15, vcu16, ↓vcd0, ↓vcd1, ↓vcd2, ↓vcd3, h4]) rfl (hO3.sub s4) (by simp -implicitDefEqProofs (disch := omega) only [List.any_cons, List.any_nil, Nat.reduceEqDiff, List.map_cons, List.map_nil, Option.map_some, Option.map_none, List.nil_append, ↓reduceIte, vcu0, vcu1, vcu2, vcu3, vcu4, vcu5, vcu6, vcu7, vcu8, vcu9, vcu10, vcu11, vcu12, vcu13, vcu14, vcu15, vcu16, ↓vcd0, ↓vcd1, ↓vcd2, ↓vcd3]) (by rw [v4]; simp [rowV, hpl]) (s4 _ _ hx) hxs (ne_of hxn hO.at_) (fun i hi => ne_of' hxn (hO.row i hi)) (dom_sub s4 hd) (by omega) fun g5 q5 τ5 hO5 k5 n5 => ?_
    have hg1 : g1 ≠ g := ne_of hO.new hr.at_
    have hgb : β g1 = none := free_sub hr.sub hO.new
    simp -implicitDefEqProofs (disch := omega) only [List.any_cons, List.any_nil, Nat.reduceEqDiff, List.map_cons, List.map_nil, Option.map_some, Option.map_none, List.nil_append, ↓reduceIte, vcu0, vcu1, vcu2, vcu3, vcu4, vcu5, vcu6, vcu7, vcu8, vcu9, vcu10, vcu11, vcu12, vcu13, vcu14, vcu15, vcu16, ↓vcd0, ↓vcd1, ↓vcd2, ↓vcd3, h0, h3, h5]
    refine ⟨⟨trivial, trivial, trivial⟩, m - 1, by omega, g5, q5, rows ++ [ps], p3, by simp; omega, by congr 1; omega, by simp, hO5, fun i hi => ?_, kept_put2 (hK.trans (hK3.trans s4.kept)) k5 hO.new, by omega, by simp; omega, (hR3.sub' s4).put k5 hg1 hgb⟩
    rw [getD_appL]
    split
    · exact hpl
    · exact hrl i (by simp at hi; omega)
  · simp -implicitDefEqProofs (disch := omega) only [List.any_cons, List.any_nil, Nat.reduceEqDiff, List.map_cons, List.map_nil, Option.map_some, Option.map_none, List.nil_append, ↓reduceIte, vcu0, vcu1, vcu2, vcu3, vcu4, vcu5, vcu6, vcu7, vcu8, vcu9, vcu10, vcu11, vcu12, vcu13, vcu14, vcu15, vcu16, ↓vcd0, ↓vcd1, ↓vcd2, ↓vcd3, h0, h3, h4, h5]
    have hd : ∀ k, σ' k = none → σ k = none := kept_dom hK hR.at_
    refine (specLoadO_at σ' n g1 0 rows hO.rows (by omega) (fun i hi => by rw [hrl i hi]; omega)).mono ?_
    rintro r τ3 ⟨s3, g2, q2, rfl, hO2⟩
    have hsq : Sq (loadV n rows).length (loadV n rows) := by
      unfold loadV
      split
      · have := addL_sq n rows rows.length
        rw [Int.toNat_natCast, this.1]; exact this
      · exact ⟨rfl, fun i hi => absurd hi (by simp)⟩
    have hsm : (loadV n rows).length ≤ 6 := by
      unfold loadV
      split
      · rw [Int.toNat_natCast, (addL_sq n rows rows.length).1]; omega
      · simp
    simp -implicitDefEqProofs (disch := omega) only [List.any_cons, List.any_nil, Nat.reduceEqDiff, List.map_cons, List.map_nil, Option.map_some, Option.map_none, List.nil_append, ↓reduceIte, vcu0, vcu1, vcu2, vcu3, vcu4, vcu5, vcu6, vcu7, vcu8, vcu9, vcu10, vcu11, vcu12, vcu13, vcu14, vcu15, vcu16, ↓vcd0, ↓vcd1, ↓vcd2, ↓vcd3, opK_some]
    refine fin_one Try.results58 ⟨g2, q2, loadV n rows, p', ?_, hO2.older hd, hsm, hsq, hK.trans s3.kept, by omega, by omega, hR.sub' s3⟩
    simp -implicitDefEqProofs (disch := omega) only [List.any_cons, List.any_nil, Nat.reduceEqDiff, List.map_cons, List.map_nil, Option.map_some, Option.map_none, List.nil_append, ↓reduceIte, vcu0, vcu1, vcu2, vcu3, vcu4, vcu5, vcu6, vcu7, vcu8, vcu9, vcu10, vcu11, vcu12, vcu13, vcu14, vcu15, vcu16, ↓vcd0, ↓vcd1, ↓vcd2, ↓vcd3]
end Go.Proofs.Ytbfldpcikcdlpaa
