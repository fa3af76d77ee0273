/- Load, of the reference. -/
import Derived.Test.YtbfldpcikcdlpaaUb
set_option linter.unusedSimpArgs false
set_option linter.unusedVariables false
namespace Go.Proofs.Ytbfldpcikcdlpaa
open Go Go.Abs Go.RowKit
variable {w0 : World}

/-- a row is put behind those of a table of one's own -/
theorem r_pushT {P : Program} {a : AFrame} {σ β : AHeap} {K : AK} {all os : List Oper} {d : Nat} {ty : TypeId} {pos : String} {af : Array Edge} {t u : TypeId} {b : Nat} {x y : Operand} {g e r : Nat} {q : Nat → Nat} {rows : List (List Int)} {row : List Int} {len : Nat}
    (hE : Elems P t 1 (.slice none 0 0) b) (hb : b ≤ 64) (hu : ∃ e2, P.underlying u = some (.slice e2)) (hx : ev a x = .slice (some ⟨g, 0, none⟩) len 1) (hn : rows.length = len) (hO : OwnT β σ g q rows)
    (hy : ev a y = .slice (some ⟨e, 0, none⟩) 1 1) (he : σ e = some ⟨[rowV r row], false⟩) (hr : σ r = some ⟨ints .i64 row, false⟩) (hbr : β r = none) (hg : r ≠ g) (hq : ∀ i, i < rows.length → q i ≠ r) (hs : Sub β σ) (hl : len ≤ 1048576)
    (hk : ∀ g' q' τ, Sub β τ → OwnT β τ g' q' (rows ++ [row]) → Kept g σ τ → σ g' = none → vcR P w0 false all os (fset a d (.slice (some ⟨g', 0, none⟩) (len + 1) 1)) τ K) :
    vcR P w0 false all (⟨some d, .call ⟨.builtin .append, #[x, y], #[t, u]⟩, ty, pos, af, none⟩ :: os) a σ K := by
  refine r_push hE hu hx hO.at_ (by rw [rowVs_length, hn]; omega) (D := [rowV r row]) ?_ (by rfl) (by
      have : (len + 1) * b ≤ 1048577 * 64 := Nat.mul_le_mul (by omega) hb
      simp; omega) fun g' τ h1 h2 h3 => ?_
  · rw [hy]; simp [acells, lds, he]
  · have e1 : [rowV r row].length / 1 = 1 := by simp
    rw [e1]
    exact hk g' _ τ (h2.sub hs hO.new) (hO.push hr hbr hg hq h1 (free_sub hs h1) h2 h3) h2 h1

theorem addL_zero (n : Nat) (rows : List (List Int)) : addL n rows 0 = zeroT n := rfl
theorem zeroT_take {n k : Nat} (hk : k ≤ n) : (zeroT n).take k = List.replicate k (List.replicate n 0) := by simp [zeroT, Nat.min_eq_left hk]

theorem specLoadO_at (σ : AHeap) (ports : Int) (h o : Nat) (rows : List (List Int)) (hv : RowsAt σ h o rows) (hl : rows.length ≤ 1048576) (hr : ∀ i, i < rows.length → (rows.getD i []).length ≤ 1048576) :
    ACall Try.prog w0 37 [.int .i64 ports, .slice (some ⟨h, o, none⟩) rows.length 1] σ fun r σ' => Sub σ σ' ∧ ∃ g q, r = .slice (some ⟨g, 0, none⟩) (loadV ports rows).length 1 ∧ OwnT σ σ' g q (loadV ports rows) := by
  unfold loadV
  refine acall_go mixed Try.func37 rfl good37 ?_
  simp -implicitDefEqProofs (disch := omega) only [List.any_cons, List.any_nil, Nat.reduceEqDiff, List.map_cons, List.map_nil, Option.map_some, Option.map_none, List.nil_append, ↓reduceIte, vcu0, vcu1, vcu2, vcu3, vcu4, vcu5, vcu6, vcu7, vcu8, vcu9, vcu10, vcu11, vcu12, vcu13, vcu14, vcu15, vcu16, ↓vcd0, ↓vcd1, ↓vcd2, ↓vcd3]
  refine r_lit el23 (out := #[]) (by kernel_rfl) (by kernel_rfl) fun e1 τ1 n1 s1 v1 => ?_
  simp -implicitDefEqProofs (disch := omega) only [List.any_cons, List.any_nil, Nat.reduceEqDiff, List.map_cons, List.map_nil, Option.map_some, Option.map_none, List.nil_append, ↓reduceIte, vcu0, vcu1, vcu2, vcu3, vcu4, vcu5, vcu6, vcu7, vcu8, vcu9, vcu10, vcu11, vcu12, vcu13, vcu14, vcu15, vcu16, ↓vcd0, ↓vcd1, ↓vcd2, ↓vcd3]
  by_cases hp : 0 ≤ ports ∧ ports ≤ 6
  · obtain ⟨n, rfl⟩ : ∃ n : Nat, ports = n := ⟨ports.toNat, by omega⟩
    have hn : n ≤ 6 := by omega
    simp only [Int.toNat_natCast]
    refine vc_loop_c mixed (by kernel_rfl) [0, 1] (fun m a σ' => ∃ (k g : Nat) (q : Nat → Nat), m + k = n ∧ a 5 = .slice (some ⟨g, 0, none⟩) k 1 ∧ a 6 = .int .i64 k ∧ Sub σ σ' ∧ OwnT σ σ' g q (List.replicate k (List.replicate n 0))) n ⟨0, e1, fun _ => 0, by simp, rfl, rfl, s1, OwnT.nil _ v1 n1⟩ ?_
    rintro m a σ' hc ⟨k, g, q, hk, h5, h6, hsub, hO⟩
    simp -implicitDefEqProofs (disch := omega) only [List.any_cons, List.any_nil, Nat.reduceEqDiff, List.map_cons, List.map_nil, Option.map_some, Option.map_none, List.nil_append, ↓reduceIte, vcu0, vcu1, vcu2, vcu3, vcu4, vcu5, vcu6, vcu7, vcu8, vcu9, vcu10, vcu11, vcu12, vcu13, vcu14, vcu15, vcu16, ↓vcd0, ↓vcd1, ↓vcd2, ↓vcd3] at hc
    obtain ⟨h0, h1, -⟩ := hc
    by_cases hlt : k < n
    · simp -implicitDefEqProofs (disch := omega) only [List.any_cons, List.any_nil, Nat.reduceEqDiff, List.map_cons, List.map_nil, Option.map_some, Option.map_none, List.nil_append, ↓reduceIte, vcu0, vcu1, vcu2, vcu3, vcu4, vcu5, vcu6, vcu7, vcu8, vcu9, vcu10, vcu11, vcu12, vcu13, vcu14, vcu15, vcu16, ↓vcd0, ↓vcd1, ↓vcd2, ↓vcd3, h0, h1, h5, h6]
      refine (in_calls _ _ _ _).mono ?_
      rintro r _ ⟨rfl, rfl⟩
      rename_i σ'
      rw [decide_eq_true (show (0 : Int) ≤ n ∧ (n : Int) ≤ 6 by omega)]
      simp -implicitDefEqProofs (disch := omega) only [List.any_cons, List.any_nil, Nat.reduceEqDiff, List.map_cons, List.map_nil, Option.map_some, Option.map_none, List.nil_append, ↓reduceIte, vcu0, vcu1, vcu2, vcu3, vcu4, vcu5, vcu6, vcu7, vcu8, vcu9, vcu10, vcu11, vcu12, vcu13, vcu14, vcu15, vcu16, ↓vcd0, ↓vcd1, ↓vcd2, ↓vcd3, opK_some, h0, h1, h5, h6]
      refine r_makeI (kx := .i64) (ky := .i64) (l := n) (c := n) el27 (by omega) (by simp -implicitDefEqProofs (disch := omega) only [List.any_cons, List.any_nil, Nat.reduceEqDiff, List.map_cons, List.map_nil, Option.map_some, Option.map_none, List.nil_append, ↓reduceIte, vcu0, vcu1, vcu2, vcu3, vcu4, vcu5, vcu6, vcu7, vcu8, vcu9, vcu10, vcu11, vcu12, vcu13, vcu14, vcu15, vcu16, ↓vcd0, ↓vcd1, ↓vcd2, ↓vcd3, h0]) (by simp -implicitDefEqProofs (disch := omega) only [List.any_cons, List.any_nil, Nat.reduceEqDiff, List.map_cons, List.map_nil, Option.map_some, Option.map_none, List.nil_append, ↓reduceIte, vcu0, vcu1, vcu2, vcu3, vcu4, vcu5, vcu6, vcu7, vcu8, vcu9, vcu10, vcu11, vcu12, vcu13, vcu14, vcu15, vcu16, ↓vcd0, ↓vcd1, ↓vcd2, ↓vcd3, h0]) (by omega) fun z τ3 nz s3 e3 => ?_
      have hzg : z ≠ g := ne_of nz hO.at_
      refine r_lit el23 (out := #[.slice (some ⟨z, 0, none⟩) n 1]) (by simp -implicitDefEqProofs (disch := omega) only [List.any_cons, List.any_nil, Nat.reduceEqDiff, List.map_cons, List.map_nil, Option.map_some, Option.map_none, List.nil_append, ↓reduceIte, vcu0, vcu1, vcu2, vcu3, vcu4, vcu5, vcu6, vcu7, vcu8, vcu9, vcu10, vcu11, vcu12, vcu13, vcu14, vcu15, vcu16, ↓vcd0, ↓vcd1, ↓vcd2, ↓vcd3]; kernel_rfl) (by kernel_rfl) fun e4 τ4 n4 s4 v4 => ?_
      refine r_pushT (β := σ) (len := k) (g := g) (e := e4) (r := z) (q := q) (rows := List.replicate k (List.replicate n 0)) (row := List.replicate n 0) el23 (by omega) sl23 (by simp -implicitDefEqProofs (disch := omega) only [List.any_cons, List.any_nil, Nat.reduceEqDiff, List.map_cons, List.map_nil, Option.map_some, Option.map_none, List.nil_append, ↓reduceIte, vcu0, vcu1, vcu2, vcu3, vcu4, vcu5, vcu6, vcu7, vcu8, vcu9, vcu10, vcu11, vcu12, vcu13, vcu14, vcu15, vcu16, ↓vcd0, ↓vcd1, ↓vcd2, ↓vcd3, h5]) (by simp) (hO.sub (s3.trans s4)) (by simp -implicitDefEqProofs (disch := omega) only [List.any_cons, List.any_nil, Nat.reduceEqDiff, List.map_cons, List.map_nil, Option.map_some, Option.map_none, List.nil_append, ↓reduceIte, vcu0, vcu1, vcu2, vcu3, vcu4, vcu5, vcu6, vcu7, vcu8, vcu9, vcu10, vcu11, vcu12, vcu13, vcu14, vcu15, vcu16, ↓vcd0, ↓vcd1, ↓vcd2, ↓vcd3]) (by rw [v4]; simp [rowV]) (s4 _ _ e3) (free_sub hsub nz) hzg (fun i hi => ne_of' nz (hO.row i hi)) (hsub.trans (s3.trans s4)) (by omega) fun g' q' τ5 s5 hO5 _ _ => ?_
      simp -implicitDefEqProofs (disch := omega) only [List.any_cons, List.any_nil, Nat.reduceEqDiff, List.map_cons, List.map_nil, Option.map_some, Option.map_none, List.nil_append, ↓reduceIte, vcu0, vcu1, vcu2, vcu3, vcu4, vcu5, vcu6, vcu7, vcu8, vcu9, vcu10, vcu11, vcu12, vcu13, vcu14, vcu15, vcu16, ↓vcd0, ↓vcd1, ↓vcd2, ↓vcd3, h0, h1, h6]
      refine ⟨⟨trivial, trivial, trivial⟩, m - 1, by omega, k + 1, g', q', by omega, rfl, by simp, s5, ?_⟩
      rw [List.replicate_succ']; exact hO5
    · have e2 : n = k := by omega
      subst e2
      have hO0 : OwnT σ σ' g q (addL n rows 0) := hO
      simp -implicitDefEqProofs (disch := omega) only [List.any_cons, List.any_nil, Nat.reduceEqDiff, List.map_cons, List.map_nil, Option.map_some, Option.map_none, List.nil_append, ↓reduceIte, vcu0, vcu1, vcu2, vcu3, vcu4, vcu5, vcu6, vcu7, vcu8, vcu9, vcu10, vcu11, vcu12, vcu13, vcu14, vcu15, vcu16, ↓vcd0, ↓vcd1, ↓vcd2, ↓vcd3, h0, h1, h5, h6]
      clear hO
      refine vc_loop_c mixed (by kernel_rfl) [0, 1, 5] (fun m a σ2 => ∃ k : Nat, m + k = rows.length ∧ a 7 = .int .i64 k ∧ Sub σ σ2 ∧ OwnT σ σ2 g q (addL n rows k) ∧ (∀ i, i < k → Valid (rows.getD i []) ∧ (rows.getD i []).length = n)) rows.length ⟨0, by simp, rfl, hsub, hO0, by simp⟩ ?_
      clear hO0 hsub
      rintro m2 a2 σ2 hc ⟨k, hk, h7, hsub, hO, hval⟩
      simp -implicitDefEqProofs (disch := omega) only [List.any_cons, List.any_nil, Nat.reduceEqDiff, List.map_cons, List.map_nil, Option.map_some, Option.map_none, List.nil_append, ↓reduceIte, vcu0, vcu1, vcu2, vcu3, vcu4, vcu5, vcu6, vcu7, vcu8, vcu9, vcu10, vcu11, vcu12, vcu13, vcu14, vcu15, vcu16, ↓vcd0, ↓vcd1, ↓vcd2, ↓vcd3, h0, h1, h5] at hc
      obtain ⟨c0, c1, c5, -⟩ := hc
      by_cases hlt : k < rows.length
      · obtain ⟨v, hx, hi⟩ := (hv.sub hsub) k hlt
        have hrk := hr k hlt
        have hgo : addL n rows (k + 1) = addP (addL n rows k) (rows.getD k []) n := rfl
        have no : ¬ (Valid (rows.getD k []) ∧ (rows.getD k []).length = n) → ¬ LoadOk n rows := fun hn hh => hn (by simpa using hh.2.1 k hlt)
        generalize hrw : rows.getD k [] = p at hi hrk hgo no
        obtain ⟨pb, pz, rfl⟩ := ints_len hi
        simp -implicitDefEqProofs (disch := omega) only [List.any_cons, List.any_nil, Nat.reduceEqDiff, List.map_cons, List.map_nil, Option.map_some, Option.map_none, List.nil_append, ↓reduceIte, vcu0, vcu1, vcu2, vcu3, vcu4, vcu5, vcu6, vcu7, vcu8, vcu9, vcu10, vcu11, vcu12, vcu13, vcu14, vcu15, vcu16, ↓vcd0, ↓vcd1, ↓vcd2, ↓vcd3, c0, c1, c5, h7, hx]
        refine (specValid_calls (w0 := w0) σ2 _ p hi (by omega)).mono ?_
        rintro r _ ⟨rfl, rfl⟩
        rename_i σ2
        by_cases hV : Valid p
        · rw [decide_eq_true hV]
          by_cases hlen : p.length = n
          · obtain ⟨hin, hnn⟩ := valid_in hV hlen
            have hsq := addL_sq n rows k
            have hlen' : (p.length : Int) = n := by omega
            simp -implicitDefEqProofs (disch := omega) only [List.any_cons, List.any_nil, Nat.reduceEqDiff, List.map_cons, List.map_nil, Option.map_some, Option.map_none, List.nil_append, ↓reduceIte, vcu0, vcu1, vcu2, vcu3, vcu4, vcu5, vcu6, vcu7, vcu8, vcu9, vcu10, vcu11, vcu12, vcu13, vcu14, vcu15, vcu16, ↓vcd0, ↓vcd1, ↓vcd2, ↓vcd3, opK_some, c0, c1, c5, h7, hx, hlen', ne_eq, not_true_eq_false, decide_false]
            refine vc_loop_c mixed (by kernel_rfl) [0, 1, 5, 7] (fun m3 a3 σ3 => ∃ j : Nat, m3 + j = n ∧ a3 8 = .int .i64 j ∧ Sub σ σ3 ∧ OwnT σ σ3 g q (addP (addL n rows k) p j)) n ⟨0, by simp, rfl, hsub, hO⟩ ?_
            rintro m3 a3 σ3 hc3 ⟨j, hj, h8, hsub3, hO3⟩
            simp -implicitDefEqProofs (disch := omega) only [List.any_cons, List.any_nil, Nat.reduceEqDiff, List.map_cons, List.map_nil, Option.map_some, Option.map_none, List.nil_append, ↓reduceIte, vcu0, vcu1, vcu2, vcu3, vcu4, vcu5, vcu6, vcu7, vcu8, vcu9, vcu10, vcu11, vcu12, vcu13, vcu14, vcu15, vcu16, ↓vcd0, ↓vcd1, ↓vcd2, ↓vcd3, c0, c1, c5, h7] at hc3
            obtain ⟨d0, d1, d5, d7, -⟩ := hc3
            have hsqj := addP_sq hsq p j (by omega)
            by_cases hjl : j < n
            · have hgj := hO3.get (i := j) (by rw [hsqj.1]; exact hjl)
              have hrj := hO3.row j (by rw [hsqj.1]; exact hjl)
              have hrl := hsqj.2 j hjl
              have hpj := hin.2 j hjl
              have hp0 := hnn j hjl
              have hej : en (addP (addL n rows k) p j) j (p.getD j 0).toNat = cntL rows j (p.getD j 0).toNat k := by
                rw [en_addP hsq hin _ _ j (by omega), if_neg (by omega), en_addL hjl _ k (fun i hi => (valid_in (hval i hi).1 (hval i hi).2).1)]; omega
              have hxx : ld σ3 h (o + k) = some (.slice pb p.length pz) := by
                obtain ⟨v0, hx0, -⟩ := hv k hlt
                have r1 := ld_sub hsub hx0
                rw [r1] at hx; cases hx
                exact ld_sub hsub3 hx0
              obtain ⟨v', hx', hi'⟩ := (hv.sub hsub3) k hlt
              rw [hrw] at hi'
              rw [hxx] at hx'
              cases hx'
              rcases hi' with ⟨e, rfl⟩ | ⟨e2, o2, e, hat⟩
              · simp at hlen; omega
              injection e with ea eb ec
              subst ea; subst ec
              have hpx := hat j (by omega)
              have hcl := cntL_le rows j (p.getD j 0).toNat k
              have hld : ld σ3 (q j) (0 + (p.getD j 0).toNat) = some (.int .i64 (cntL rows j (p.getD j 0).toNat k)) := by
                rw [own_at hrj (by rw [hrl]; exact hpj), ← hej]; rfl
              have hab : addP (addL n rows k) p (j + 1) = bump (addP (addL n rows k) p j) j (p.getD j 0).toNat := rfl
              unfold bump at hab
              rw [hej] at hab
              have hpl : p.getD j 0 < n := by omega
              rw [hrl] at hgj
              simp -implicitDefEqProofs (disch := omega) only [List.any_cons, List.any_nil, Nat.reduceEqDiff, List.map_cons, List.map_nil, Option.map_some, Option.map_none, List.nil_append, ↓reduceIte, vcu0, vcu1, vcu2, vcu3, vcu4, vcu5, vcu6, vcu7, vcu8, vcu9, vcu10, vcu11, vcu12, vcu13, vcu14, vcu15, vcu16, ↓vcd0, ↓vcd1, ↓vcd2, ↓vcd3, d0, d1, d5, d7, h8]
              refine region_tree mixed (quiets [0, 1, 2, 3, 4, 5, 6, 7, 8, 9, 10, 11, 12, 13, 14, 15, 16, 17, 18, 19, 20, 21, 22, 23, 24, 25] (.one 26 .stop)) [([0, 1, 2, 3, 4, 5, 6, 7, 8, 9, 10, 11, 12, 13, 14, 15, 16, 17, 18, 19, 20, 21, 22, 23, 24, 25], Sub σ3)] (by kernel_rfl) (by kernel_rfl) (fun p hp => by
                simp only [List.mem_cons, List.not_mem_nil, or_false] at hp
                subst hp; exact Sub.refl _) ?_
              refine tree_quiets σ3 _ _ _ sf1 (by kernel_rfl) (by kernel_rfl) ?_
              simp -implicitDefEqProofs (disch := omega) only [List.any_cons, List.any_nil, Nat.reduceEqDiff, List.map_cons, List.map_nil, Option.map_some, Option.map_none, List.nil_append, ↓reduceIte, vcu0, vcu1, vcu2, vcu3, vcu4, vcu5, vcu6, vcu7, vcu8, vcu9, vcu10, vcu11, vcu12, vcu13, vcu14, vcu15, vcu16, ↓vcd0, ↓vcd1, ↓vcd2, ↓vcd3, pickOps_nil, pickOps_cons, pickO_some, List.getElem?_cons_succ, List.getElem?_cons_zero, d0, d1, d5, d7, h8, hgj, hxx, hpx, hld, hrl, hlen]
              refine tree_one rfl ?_
              refine r_setI (g := q j) (i := 0 + (p.getD j 0).toNat) (v := (cntL rows j (p.getD j 0).toNat k : Int) + 1) (by simp -implicitDefEqProofs (disch := omega) only [List.any_cons, List.any_nil, Nat.reduceEqDiff, List.map_cons, List.map_nil, Option.map_some, Option.map_none, List.nil_append, ↓reduceIte, vcu0, vcu1, vcu2, vcu3, vcu4, vcu5, vcu6, vcu7, vcu8, vcu9, vcu10, vcu11, vcu12, vcu13, vcu14, vcu15, vcu16, ↓vcd0, ↓vcd1, ↓vcd2, ↓vcd3]) (by simp -implicitDefEqProofs (disch := omega) only [List.any_cons, List.any_nil, Nat.reduceEqDiff, List.map_cons, List.map_nil, Option.map_some, Option.map_none, List.nil_append, ↓reduceIte, vcu0, vcu1, vcu2, vcu3, vcu4, vcu5, vcu6, vcu7, vcu8, vcu9, vcu10, vcu11, vcu12, vcu13, vcu14, vcu15, vcu16, ↓vcd0, ↓vcd1, ↓vcd2, ↓vcd3]) co3 hrj (by omega) fun τ5 k5 e5 => ?_
              rw [Nat.zero_add] at e5
              simp -implicitDefEqProofs (disch := omega) only [List.any_cons, List.any_nil, Nat.reduceEqDiff, List.map_cons, List.map_nil, Option.map_some, Option.map_none, List.nil_append, ↓reduceIte, vcu0, vcu1, vcu2, vcu3, vcu4, vcu5, vcu6, vcu7, vcu8, vcu9, vcu10, vcu11, vcu12, vcu13, vcu14, vcu15, vcu16, ↓vcd0, ↓vcd1, ↓vcd2, ↓vcd3]
              refine ⟨keep_of rfl (fun p hp => by
                simp only [List.mem_cons, List.not_mem_nil, or_false] at hp
                subst hp; exact .inl (by kernel_rfl)), tree_stop ?_⟩
              simp -implicitDefEqProofs (disch := omega) only [List.any_cons, List.any_nil, Nat.reduceEqDiff, List.map_cons, List.map_nil, Option.map_some, Option.map_none, List.nil_append, ↓reduceIte, vcu0, vcu1, vcu2, vcu3, vcu4, vcu5, vcu6, vcu7, vcu8, vcu9, vcu10, vcu11, vcu12, vcu13, vcu14, vcu15, vcu16, ↓vcd0, ↓vcd1, ↓vcd2, ↓vcd3, h8]
              refine ⟨?_, m3 - 1, by omega, j + 1, by omega, by simp, k5.sub hsub3 (hO3.free j (by rw [hsqj.1]; exact hjl)), ?_⟩
              · simp [d0, d1, d5, d7, c0, c1, c5, h7]
              · rw [hab]
                exact hO3.write (by rw [hsqj.1]; exact hjl) (by simp) k5 e5
            · have e : j = n := by omega
              subst e
              simp -implicitDefEqProofs (disch := omega) only [List.any_cons, List.any_nil, Nat.reduceEqDiff, List.map_cons, List.map_nil, Option.map_some, Option.map_none, List.nil_append, ↓reduceIte, vcu0, vcu1, vcu2, vcu3, vcu4, vcu5, vcu6, vcu7, vcu8, vcu9, vcu10, vcu11, vcu12, vcu13, vcu14, vcu15, vcu16, ↓vcd0, ↓vcd1, ↓vcd2, ↓vcd3, d0, d1, d5, d7, h8]
              refine ⟨?_, m2 - 1, by omega, k + 1, by omega, by simp, hsub3, by rw [hgo]; exact hO3, fun i hi => ?_⟩
              · simp [d0, d1, d5, c0, c1, c5, h0, h1, h5]
              · by_cases e : i = k
                · subst e; rw [hrw]; exact ⟨hV, hlen⟩
                · exact hval i (by omega)
          · have hlen' : ¬ (p.length : Int) = n := by omega
            simp -implicitDefEqProofs (disch := omega) only [List.any_cons, List.any_nil, Nat.reduceEqDiff, List.map_cons, List.map_nil, Option.map_some, Option.map_none, List.nil_append, ↓reduceIte, vcu0, vcu1, vcu2, vcu3, vcu4, vcu5, vcu6, vcu7, vcu8, vcu9, vcu10, vcu11, vcu12, vcu13, vcu14, vcu15, vcu16, ↓vcd0, ↓vcd1, ↓vcd2, ↓vcd3, opK_some, c0, c1, c5, h7, hx, hlen', ne_eq, not_false_eq_true, decide_true]
            refine r_lit el23 (out := #[]) (by kernel_rfl) (by kernel_rfl) fun e7 τ7 n7 s7 v7 => ?_
            simp -implicitDefEqProofs (disch := omega) only [List.any_cons, List.any_nil, Nat.reduceEqDiff, List.map_cons, List.map_nil, Option.map_some, Option.map_none, List.nil_append, ↓reduceIte, vcu0, vcu1, vcu2, vcu3, vcu4, vcu5, vcu6, vcu7, vcu8, vcu9, vcu10, vcu11, vcu12, vcu13, vcu14, vcu15, vcu16, ↓vcd0, ↓vcd1, ↓vcd2, ↓vcd3]
            rw [if_neg (no (fun hh => hlen hh.2))]
            refine fin_one Try.results37 ⟨hsub.trans s7, ⟨e7, fun _ => 0, ?_, OwnT.nil _ v7 (free_sub hsub n7)⟩⟩
            simp -implicitDefEqProofs (disch := omega) only [List.any_cons, List.any_nil, Nat.reduceEqDiff, List.map_cons, List.map_nil, Option.map_some, Option.map_none, List.nil_append, ↓reduceIte, vcu0, vcu1, vcu2, vcu3, vcu4, vcu5, vcu6, vcu7, vcu8, vcu9, vcu10, vcu11, vcu12, vcu13, vcu14, vcu15, vcu16, ↓vcd0, ↓vcd1, ↓vcd2, ↓vcd3]
            rfl
        · rw [decide_eq_false hV]
          simp -implicitDefEqProofs (disch := omega) only [List.any_cons, List.any_nil, Nat.reduceEqDiff, List.map_cons, List.map_nil, Option.map_some, Option.map_none, List.nil_append, ↓reduceIte, vcu0, vcu1, vcu2, vcu3, vcu4, vcu5, vcu6, vcu7, vcu8, vcu9, vcu10, vcu11, vcu12, vcu13, vcu14, vcu15, vcu16, ↓vcd0, ↓vcd1, ↓vcd2, ↓vcd3, opK_some]
          refine r_lit el23 (out := #[]) (by kernel_rfl) (by kernel_rfl) fun e7 τ7 n7 s7 v7 => ?_
          simp -implicitDefEqProofs (disch := omega) only [List.any_cons, List.any_nil, Nat.reduceEqDiff, List.map_cons, List.map_nil, Option.map_some, Option.map_none, List.nil_append, ↓reduceIte, vcu0, vcu1, vcu2, vcu3, vcu4, vcu5, vcu6, vcu7, vcu8, vcu9, vcu10, vcu11, vcu12, vcu13, vcu14, vcu15, vcu16, ↓vcd0, ↓vcd1, ↓vcd2, ↓vcd3]
          rw [if_neg (no (fun hh => hV hh.1))]
          refine fin_one Try.results37 ⟨hsub.trans s7, ⟨e7, fun _ => 0, ?_, OwnT.nil _ v7 (free_sub hsub n7)⟩⟩
          simp -implicitDefEqProofs (disch := omega) only [List.any_cons, List.any_nil, Nat.reduceEqDiff, List.map_cons, List.map_nil, Option.map_some, Option.map_none, List.nil_append, ↓reduceIte, vcu0, vcu1, vcu2, vcu3, vcu4, vcu5, vcu6, vcu7, vcu8, vcu9, vcu10, vcu11, vcu12, vcu13, vcu14, vcu15, vcu16, ↓vcd0, ↓vcd1, ↓vcd2, ↓vcd3]
          rfl
      · have e : k = rows.length := by omega
        subst e
        have hsq := addL_sq n rows rows.length
        simp -implicitDefEqProofs (disch := omega) only [List.any_cons, List.any_nil, Nat.reduceEqDiff, List.map_cons, List.map_nil, Option.map_some, Option.map_none, List.nil_append, ↓reduceIte, vcu0, vcu1, vcu2, vcu3, vcu4, vcu5, vcu6, vcu7, vcu8, vcu9, vcu10, vcu11, vcu12, vcu13, vcu14, vcu15, vcu16, ↓vcd0, ↓vcd1, ↓vcd2, ↓vcd3, c0, c1, c5, h7]
        have htv := specTV_at (w0 := w0) σ2 g 0 _ hO.rows (by rw [hsq.1]; omega)
        rw [hsq.1] at htv
        refine htv.mono ?_
        rintro r _ ⟨rfl, rfl⟩
        rename_i σ2
        have hiff : TV (addL n rows rows.length) ↔ LoadOk n rows := by
          have hen : ∀ a, a < n → ∀ b, en (addL n rows rows.length) a b = cntL rows a b rows.length := fun a ha b => en_addL ha b _ (fun i hi => (valid_in (hval i hi).1 (hval i hi).2).1)
          constructor
          · intro hT
            refine ⟨by omega, by simpa using hval, fun a ha b hb => ?_⟩
            simp only [Int.toNat_natCast] at ha hb
            have := (hT.at (i := a) (j := b) (by rw [hsq.1]; exact ha) (by rw [hsq.1]; exact hb)).2
            have h2 := hen a ha b
            unfold en at h2
            omega
          · intro hL
            refine ⟨by rw [hsq.1]; exact hn, fun i hi => ⟨by rw [hsq.1]; exact hsq.2 i (by rw [← hsq.1]; exact hi), fun j hj => ?_⟩⟩
            rw [hsq.1] at hi
            have hj' : j < n := by rw [← hsq.2 i hi]; exact hj
            have h1 := hen i hi j
            have h2 := hL.2.2 i (by simpa using hi) j (by simpa using hj')
            unfold en at h1
            omega
        by_cases hL : LoadOk n rows
        · rw [decide_eq_true (hiff.2 hL), if_pos hL]
          simp -implicitDefEqProofs (disch := omega) only [List.any_cons, List.any_nil, Nat.reduceEqDiff, List.map_cons, List.map_nil, Option.map_some, Option.map_none, List.nil_append, ↓reduceIte, vcu0, vcu1, vcu2, vcu3, vcu4, vcu5, vcu6, vcu7, vcu8, vcu9, vcu10, vcu11, vcu12, vcu13, vcu14, vcu15, vcu16, ↓vcd0, ↓vcd1, ↓vcd2, ↓vcd3, opK_some, c5]
          refine fin_one Try.results37 ⟨hsub, ⟨g, q, ?_, hO⟩⟩
          simp -implicitDefEqProofs (disch := omega) only [List.any_cons, List.any_nil, Nat.reduceEqDiff, List.map_cons, List.map_nil, Option.map_some, Option.map_none, List.nil_append, ↓reduceIte, vcu0, vcu1, vcu2, vcu3, vcu4, vcu5, vcu6, vcu7, vcu8, vcu9, vcu10, vcu11, vcu12, vcu13, vcu14, vcu15, vcu16, ↓vcd0, ↓vcd1, ↓vcd2, ↓vcd3]
          rw [hsq.1]
        · rw [decide_eq_false (fun hh => hL (hiff.1 hh)), if_neg hL]
          simp -implicitDefEqProofs (disch := omega) only [List.any_cons, List.any_nil, Nat.reduceEqDiff, List.map_cons, List.map_nil, Option.map_some, Option.map_none, List.nil_append, ↓reduceIte, vcu0, vcu1, vcu2, vcu3, vcu4, vcu5, vcu6, vcu7, vcu8, vcu9, vcu10, vcu11, vcu12, vcu13, vcu14, vcu15, vcu16, ↓vcd0, ↓vcd1, ↓vcd2, ↓vcd3, opK_some]
          refine r_lit el23 (out := #[]) (by kernel_rfl) (by kernel_rfl) fun e7 τ7 n7 s7 v7 => ?_
          simp -implicitDefEqProofs (disch := omega) only [List.any_cons, List.any_nil, Nat.reduceEqDiff, List.map_cons, List.map_nil, Option.map_some, Option.map_none, List.nil_append, ↓reduceIte, vcu0, vcu1, vcu2, vcu3, vcu4, vcu5, vcu6, vcu7, vcu8, vcu9, vcu10, vcu11, vcu12, vcu13, vcu14, vcu15, vcu16, ↓vcd0, ↓vcd1, ↓vcd2, ↓vcd3]
          refine fin_one Try.results37 ⟨hsub.trans s7, ⟨e7, fun _ => 0, ?_, OwnT.nil _ v7 (free_sub hsub n7)⟩⟩
          simp -implicitDefEqProofs (disch := omega) only [List.any_cons, List.any_nil, Nat.reduceEqDiff, List.map_cons, List.map_nil, Option.map_some, Option.map_none, List.nil_append, ↓reduceIte, vcu0, vcu1, vcu2, vcu3, vcu4, vcu5, vcu6, vcu7, vcu8, vcu9, vcu10, vcu11, vcu12, vcu13, vcu14, vcu15, vcu16, ↓vcd0, ↓vcd1, ↓vcd2, ↓vcd3]
          rfl
  · rw [if_neg (fun hh : LoadOk ports rows => hp hh.1)]
    refine vc_loop_c mixed (by kernel_rfl) [0, 1, 5] (fun m a σ' => m = 0 ∧ a 6 = .int .i64 0 ∧ σ' = τ1) 0 ⟨rfl, rfl, rfl⟩ ?_
    rintro m a σ' hc ⟨rfl, h6, rfl⟩
    simp -implicitDefEqProofs (disch := omega) only [List.any_cons, List.any_nil, Nat.reduceEqDiff, List.map_cons, List.map_nil, Option.map_some, Option.map_none, List.nil_append, ↓reduceIte, vcu0, vcu1, vcu2, vcu3, vcu4, vcu5, vcu6, vcu7, vcu8, vcu9, vcu10, vcu11, vcu12, vcu13, vcu14, vcu15, vcu16, ↓vcd0, ↓vcd1, ↓vcd2, ↓vcd3] at hc
    obtain ⟨h0, h1, h5, -⟩ := hc
    have hl0 : RowsAt σ' h o rows := hv.sub s1
    by_cases hneg : 0 < ports
    case' pos =>
      simp -implicitDefEqProofs (disch := omega) only [List.any_cons, List.any_nil, Nat.reduceEqDiff, List.map_cons, List.map_nil, Option.map_some, Option.map_none, List.nil_append, ↓reduceIte, vcu0, vcu1, vcu2, vcu3, vcu4, vcu5, vcu6, vcu7, vcu8, vcu9, vcu10, vcu11, vcu12, vcu13, vcu14, vcu15, vcu16, ↓vcd0, ↓vcd1, ↓vcd2, ↓vcd3, h0, h1, h5, h6]
      refine (in_calls _ _ _ _).mono ?_
      rintro r _ ⟨rfl, rfl⟩
      rename_i σ'
      rw [decide_eq_false (show ¬ ((0 : Int) ≤ ports ∧ ports ≤ 6) by omega)]
      simp -implicitDefEqProofs (disch := omega) only [List.any_cons, List.any_nil, Nat.reduceEqDiff, List.map_cons, List.map_nil, Option.map_some, Option.map_none, List.nil_append, ↓reduceIte, vcu0, vcu1, vcu2, vcu3, vcu4, vcu5, vcu6, vcu7, vcu8, vcu9, vcu10, vcu11, vcu12, vcu13, vcu14, vcu15, vcu16, ↓vcd0, ↓vcd1, ↓vcd2, ↓vcd3, opK_some, h0, h1, h5, h6]
    case' neg => simp -implicitDefEqProofs (disch := omega) only [List.any_cons, List.any_nil, Nat.reduceEqDiff, List.map_cons, List.map_nil, Option.map_some, Option.map_none, List.nil_append, ↓reduceIte, vcu0, vcu1, vcu2, vcu3, vcu4, vcu5, vcu6, vcu7, vcu8, vcu9, vcu10, vcu11, vcu12, vcu13, vcu14, vcu15, vcu16, ↓vcd0, ↓vcd1, ↓vcd2, ↓vcd3, h0, h1, h5, h6]
    all_goals
      refine vc_loop_c mixed (by kernel_rfl) [0, 1, 5] (fun m a σ2 => m = 0 ∧ a 7 = .int .i64 0 ∧ σ2 = σ') 0 ⟨rfl, rfl, rfl⟩ ?_
      rintro m2 a2 σ2 hc ⟨rfl, h7, rfl⟩
      simp -implicitDefEqProofs (disch := omega) only [List.any_cons, List.any_nil, Nat.reduceEqDiff, List.map_cons, List.map_nil, Option.map_some, Option.map_none, List.nil_append, ↓reduceIte, vcu0, vcu1, vcu2, vcu3, vcu4, vcu5, vcu6, vcu7, vcu8, vcu9, vcu10, vcu11, vcu12, vcu13, vcu14, vcu15, vcu16, ↓vcd0, ↓vcd1, ↓vcd2, ↓vcd3, h0, h1, h5] at hc
      obtain ⟨c0, c1, c5, -⟩ := hc
      by_cases hlt : 0 < rows.length
      · obtain ⟨v, hx, hi⟩ := hl0 0 hlt
        have hrk := hr 0 hlt
        have hx' : ld σ2 h (o + Int.toNat 0) = some v := hx
        generalize rows.getD 0 [] = p at hi hrk
        obtain ⟨pb, pz, rfl⟩ := ints_len hi
        simp -implicitDefEqProofs (disch := omega) only [List.any_cons, List.any_nil, Nat.reduceEqDiff, List.map_cons, List.map_nil, Option.map_some, Option.map_none, List.nil_append, ↓reduceIte, vcu0, vcu1, vcu2, vcu3, vcu4, vcu5, vcu6, vcu7, vcu8, vcu9, vcu10, vcu11, vcu12, vcu13, vcu14, vcu15, vcu16, ↓vcd0, ↓vcd1, ↓vcd2, ↓vcd3, c0, c1, c5, h7, hx']
        refine (specValid_calls (w0 := w0) σ2 _ p hi (by omega)).mono ?_
        rintro r _ ⟨rfl, rfl⟩
        rename_i σ2
        by_cases hV : Valid p
        · have hlen' : ¬ (p.length : Int) = ports := by have := hV.2; omega
          rw [decide_eq_true hV]
          simp -implicitDefEqProofs (disch := omega) only [List.any_cons, List.any_nil, Nat.reduceEqDiff, List.map_cons, List.map_nil, Option.map_some, Option.map_none, List.nil_append, ↓reduceIte, vcu0, vcu1, vcu2, vcu3, vcu4, vcu5, vcu6, vcu7, vcu8, vcu9, vcu10, vcu11, vcu12, vcu13, vcu14, vcu15, vcu16, ↓vcd0, ↓vcd1, ↓vcd2, ↓vcd3, opK_some, c0, c1, c5, h7, hx', hlen', ne_eq, not_false_eq_true, decide_true]
          refine r_lit el23 (out := #[]) (by kernel_rfl) (by kernel_rfl) fun e7 τ7 n7 s7 v7 => ?_
          simp -implicitDefEqProofs (disch := omega) only [List.any_cons, List.any_nil, Nat.reduceEqDiff, List.map_cons, List.map_nil, Option.map_some, Option.map_none, List.nil_append, ↓reduceIte, vcu0, vcu1, vcu2, vcu3, vcu4, vcu5, vcu6, vcu7, vcu8, vcu9, vcu10, vcu11, vcu12, vcu13, vcu14, vcu15, vcu16, ↓vcd0, ↓vcd1, ↓vcd2, ↓vcd3]
          refine fin_one Try.results37 ⟨s1.trans s7, ⟨e7, fun _ => 0, ?_, OwnT.nil _ v7 (free_sub s1 n7)⟩⟩
          simp -implicitDefEqProofs (disch := omega) only [List.any_cons, List.any_nil, Nat.reduceEqDiff, List.map_cons, List.map_nil, Option.map_some, Option.map_none, List.nil_append, ↓reduceIte, vcu0, vcu1, vcu2, vcu3, vcu4, vcu5, vcu6, vcu7, vcu8, vcu9, vcu10, vcu11, vcu12, vcu13, vcu14, vcu15, vcu16, ↓vcd0, ↓vcd1, ↓vcd2, ↓vcd3]
          rfl
        · rw [decide_eq_false hV]
          simp -implicitDefEqProofs (disch := omega) only [List.any_cons, List.any_nil, Nat.reduceEqDiff, List.map_cons, List.map_nil, Option.map_some, Option.map_none, List.nil_append, ↓reduceIte, vcu0, vcu1, vcu2, vcu3, vcu4, vcu5, vcu6, vcu7, vcu8, vcu9, vcu10, vcu11, vcu12, vcu13, vcu14, vcu15, vcu16, ↓vcd0, ↓vcd1, ↓vcd2, ↓vcd3, opK_some]
          refine r_lit el23 (out := #[]) (by kernel_rfl) (by kernel_rfl) fun e7 τ7 n7 s7 v7 => ?_
          simp -implicitDefEqProofs (disch := omega) only [List.any_cons, List.any_nil, Nat.reduceEqDiff, List.map_cons, List.map_nil, Option.map_some, Option.map_none, List.nil_append, ↓reduceIte, vcu0, vcu1, vcu2, vcu3, vcu4, vcu5, vcu6, vcu7, vcu8, vcu9, vcu10, vcu11, vcu12, vcu13, vcu14, vcu15, vcu16, ↓vcd0, ↓vcd1, ↓vcd2, ↓vcd3]
          refine fin_one Try.results37 ⟨s1.trans s7, ⟨e7, fun _ => 0, ?_, OwnT.nil _ v7 (free_sub s1 n7)⟩⟩
          simp -implicitDefEqProofs (disch := omega) only [List.any_cons, List.any_nil, Nat.reduceEqDiff, List.map_cons, List.map_nil, Option.map_some, Option.map_none, List.nil_append, ↓reduceIte, vcu0, vcu1, vcu2, vcu3, vcu4, vcu5, vcu6, vcu7, vcu8, vcu9, vcu10, vcu11, vcu12, vcu13, vcu14, vcu15, vcu16, ↓vcd0, ↓vcd1, ↓vcd2, ↓vcd3]
          rfl
      · simp -implicitDefEqProofs (disch := omega) only [List.any_cons, List.any_nil, Nat.reduceEqDiff, List.map_cons, List.map_nil, Option.map_some, Option.map_none, List.nil_append, ↓reduceIte, vcu0, vcu1, vcu2, vcu3, vcu4, vcu5, vcu6, vcu7, vcu8, vcu9, vcu10, vcu11, vcu12, vcu13, vcu14, vcu15, vcu16, ↓vcd0, ↓vcd1, ↓vcd2, ↓vcd3, c0, c1, c5, h7]
        refine (specTV_at (w0 := w0) σ2 e1 0 [] (fun i hi => absurd hi (by simp)) (by simp)).mono ?_
        rintro r _ ⟨rfl, rfl⟩
        rename_i σ2
        rw [decide_eq_true (show TV [] from ⟨by simp, fun i hi => absurd hi (by simp)⟩)]
        simp -implicitDefEqProofs (disch := omega) only [List.any_cons, List.any_nil, Nat.reduceEqDiff, List.map_cons, List.map_nil, Option.map_some, Option.map_none, List.nil_append, ↓reduceIte, vcu0, vcu1, vcu2, vcu3, vcu4, vcu5, vcu6, vcu7, vcu8, vcu9, vcu10, vcu11, vcu12, vcu13, vcu14, vcu15, vcu16, ↓vcd0, ↓vcd1, ↓vcd2, ↓vcd3, opK_some, c5]
        refine fin_one Try.results37 ⟨s1, ⟨e1, fun _ => 0, ?_, OwnT.nil _ v1 n1⟩⟩
        simp -implicitDefEqProofs (disch := omega) only [List.any_cons, List.any_nil, Nat.reduceEqDiff, List.map_cons, List.map_nil, Option.map_some, Option.map_none, List.nil_append, ↓reduceIte, vcu0, vcu1, vcu2, vcu3, vcu4, vcu5, vcu6, vcu7, vcu8, vcu9, vcu10, vcu11, vcu12, vcu13, vcu14, vcu15, vcu16, ↓vcd0, ↓vcd1, ↓vcd2, ↓vcd3]
        rfl
theorem specLoad_at (σ : AHeap) (ports : Int) (h o : Nat) (rows : List (List Int)) (hv : RowsAt σ h o rows) (hl : rows.length ≤ 1048576) (hr : ∀ i, i < rows.length → (rows.getD i []).length ≤ 1048576) :
    ACall Try.prog w0 37 [.int .i64 ports, .slice (some ⟨h, o, none⟩) rows.length 1] σ fun r σ' => Sub σ σ' ∧ OwnTV σ σ' r (loadV ports rows) :=
  (specLoadO_at σ ports h o rows hv hl hr).mono fun r σ' ⟨h1, h2⟩ => ⟨h1, .inr h2⟩
end Go.Proofs.Ytbfldpcikcdlpaa
