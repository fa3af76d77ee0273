/- The draw of a network and of numbers. -/
import Derived.Test.YtnkpoflhdfchjaaNw
set_option linter.unusedSimpArgs false
set_option linter.unusedVariables false
namespace Go.Proofs.Ytnkpoflhdfchjaa
open Go Go.Abs Go.RowKit
variable {w0 : World}

theorem Rd.put {β σ τ : AHeap} {g g2 h o : Nat} {bs : List Int} {p : Int} (hr : Rd β σ g h o bs p) (hk : Kept g2 σ τ) (hne : g2 ≠ g) (hn : β g2 = none) : Rd β τ g h o bs p :=
  ⟨hk.at hr.at_ hne.symm, hk.sub hr.sub hn, hr.free, hr.ints, hr.len, hr.byte⟩
theorem Rd.sub' {β σ τ : AHeap} {g h o : Nat} {bs : List Int} {p : Int} (hr : Rd β σ g h o bs p) (hs : Sub σ τ) : Rd β τ g h o bs p :=
  ⟨hs _ _ hr.at_, hr.sub.trans hs, hr.free, hr.ints, hr.len, hr.byte⟩
theorem kept_put2 {g g2 : Nat} {σ σ' τ : AHeap} (h : Kept g σ σ') (hk : Kept g2 σ' τ) (hn : σ g2 = none) : Kept g σ τ := fun k ob hkg e => hk k ob (by rintro rfl; rw [hn] at e; cases e) (h k ob hkg e)

/-- nil as the second result of a call: as a row of nothing under a new name -/
theorem named2 {P : Program} {f : FuncId} {args : List Value} {σ : AHeap} {R R' : Value → AHeap → Prop} (h : ACall P w0 f args σ R)
    (hR : ∀ r σ', R r σ' → R' r σ' ∨ ∃ n, r = .tuple #[.int .i64 n, .slice none 0 0] ∧ ∀ g, σ' g = none → R' (.tuple #[.int .i64 n, .slice (some ⟨g, 0, none⟩) 0 2]) (σ'.upd g (some ⟨[], false⟩))) : ACall P w0 f args σ R' := by
  refine ⟨h.1, fun pr β w args' hH hA => (h.2 pr β w args' hH hA).mono ?_⟩
  rintro e w' ⟨β', r, r', σ', c1, c2, c3, c4, c5⟩
  rcases hR r σ' c5 with hh | ⟨n, rfl, hh⟩
  · exact ⟨β', r, r', σ', c1, c2, c3, c4, hh⟩
  · obtain ⟨g, a1, a2, a3⟩ := c4.name ⟨0, 0, 0⟩ [] (fun h => absurd h (by simp)) (fun _ => rfl) (fun _ _ h => absurd h (by simp)) (fun h => absurd h (by simp))
    have hl := le_bset a2 ⟨0, 0, 0⟩
    refine ⟨_, .tuple #[.int .i64 n, .slice (some ⟨g, 0, none⟩) 0 2], r', _, c1.trans hl, c2, ?_, a3, hh g a1⟩
    cases c3 with
    | tuple xs ys e1 e2 =>
      have h0 := e2 0 (by simp)
      have h1 := e2 1 (by simp)
      simp only [Array.getD_eq_getD_getElem?, List.getElem?_toArray, List.getElem?_cons_zero, List.getElem?_cons_succ, Option.getD_some] at h0 h1
      refine .tuple _ _ (by simpa using e1) fun i hi => ?_
      have hi' : i = 0 ∨ i = 1 := by simp at hi; omega
      rcases hi' with rfl | rfl
      · simpa using h0.mono hl
      · have hv : (ys[1]?.getD Go.undef) = .slice none 0 0 := by generalize ys[1]?.getD Go.undef = u at h1; cases h1; rfl
        simp only [Array.getD_eq_getD_getElem?, hv]
        exact .slcE (bset_same _ _ _) (by simp) none

theorem netRow_k (β0 σ : AHeap) (g h o : Nat) (bs : List Int) (p n : Int) (hr : Rd β0 σ g h o bs p) (hp : 0 ≤ p ∧ p ≤ 1000) (hn : 1 ≤ n ∧ n ≤ 1000) :
    ACall Try.prog w0 73 [.pointer (some ⟨g, 0, none⟩), .int .i64 n] σ fun r σ' => ∃ (lines : Int) (g2 : Nat) (net : List (Int × Int)) (p' : Int), r = .tuple #[.int .i64 lines, .slice (some ⟨g2, 0, none⟩) net.length 2] ∧ -1 ≤ lines ∧ lines ≤ 7 ∧ net.length ≤ 1010 ∧ p ≤ p' ∧ p' ≤ p + 4000 ∧ Dn β0 σ σ' g h o bs p' (.slice (some ⟨g2, 0, none⟩) net.length 2) net ∧ σ' g2 = some ⟨pairs net, false⟩ ∧ σ g2 = none := by
  refine named2 (net_k β0 σ g h o bs p n hr hp hn) ?_
  rintro r σ' ⟨lines, v, net, p', rfl, h1, h2, h3, h4, h5, hD⟩
  rcases hD.own with ⟨rfl, rfl⟩ | ⟨g2, rfl, hg2, hn2⟩
  · refine .inr ⟨lines, rfl, fun x hx => ⟨lines, x, [], p', rfl, h1, h2, h3, h4, h5, ?_, AHeap.upd_same _ _ _, kept_dom hD.kept hD.rd.at_ _ hx⟩⟩
    have := hD.sub (sub_upd (o := some ⟨[], false⟩) hx)
    exact ⟨this.rd, this.kept, .inr ⟨x, rfl, AHeap.upd_same _ _ _, kept_dom hD.kept hD.rd.at_ _ hx⟩, this.fits⟩
  · exact .inl ⟨lines, g2, net, p', rfl, h1, h2, h3, h4, h5, hD, hg2, hn2⟩

theorem fin_three {a : AFrame} {σ : AHeap} {fn : Func} {R : Value → AHeap → Prop} {s t u : Nat} (h : fn.results = #[.tmp s, .tmp t, .tmp u]) (hr : R (.tuple #[a s, a t, a u]) σ) : fin fn R a σ := fin_same (by simp [aresults, h, rtv]) hr

theorem drawNetRun_at (σ : AHeap) (h o : Nat) (bs : List Int) (hv : IntsAt .u8 σ h o bs) (hl : bs.length ≤ 1048576) (hb : ∀ b ∈ bs, 0 ≤ b ∧ b ≤ 255) :
    ACall Try.prog w0 29 [.slice (some ⟨h, o, none⟩) bs.length 1] σ fun r σ' => ∃ (lines : Int) (g2 : Nat) (net : List (Int × Int)) (q : Nat) (list : List Int), r = .tuple #[.int .i64 lines, .slice (some ⟨g2, 0, none⟩) net.length 2, .slice (some ⟨q, 0, none⟩) list.length 1] ∧ -1 ≤ lines ∧ lines ≤ 7 ∧ net.length ≤ 1010 ∧ Fits net ∧ σ' g2 = some ⟨pairs net, false⟩ ∧ Sub σ σ' ∧ σ' q = some ⟨ints .i64 list, false⟩ ∧ list.length ≤ 10 := by
  refine acall_go mixed Try.func29 rfl good29 fun pr => ?_
  simp -implicitDefEqProofs (disch := omega) only [List.any_cons, List.any_nil, Nat.reduceEqDiff, List.map_cons, List.map_nil, Option.map_some, Option.map_none, List.nil_append, ↓reduceIte, vcu0, vcu1, vcu2, vcu3, vcu4, vcu5, vcu6, vcu7, vcu8, vcu9, vcu10, vcu11, vcu12, vcu13, vcu14, vcu15, vcu16, vcu17, vcu18, vcu19, vcu20, vcu21, vcu22, vcu23, vcu24, vcu25, vcu26, ↓vcd0, ↓vcd1, ↓vcd2, ↓vcd3]
  refine (open_at σ h o bs hl).mono ?_
  rintro r τ ⟨g, m, hg, hm, hmb, rfl, hτ⟩
  have htl : (bs.take m).length = m := by simp; omega
  have hs0 : Sub σ τ := by rw [hτ]; exact sub_upd hg
  have hR : Rd σ τ g h o (bs.take m) 0 := ⟨by rw [hτ, htl]; exact AHeap.upd_same _ _ _, hs0, hg, hv.take m, by rw [htl]; exact hm, fun b hb' => hb b (List.mem_of_mem_take hb')⟩
  clear hτ
  simp -implicitDefEqProofs (disch := omega) only [List.any_cons, List.any_nil, Nat.reduceEqDiff, List.map_cons, List.map_nil, Option.map_some, Option.map_none, List.nil_append, ↓reduceIte, vcu0, vcu1, vcu2, vcu3, vcu4, vcu5, vcu6, vcu7, vcu8, vcu9, vcu10, vcu11, vcu12, vcu13, vcu14, vcu15, vcu16, vcu17, vcu18, vcu19, vcu20, vcu21, vcu22, vcu23, vcu24, vcu25, vcu26, ↓vcd0, ↓vcd1, ↓vcd2, ↓vcd3, opK_some]
  refine (netRow_k σ τ g h o _ _ 9 hR (by omega) (by omega)).mono ?_
  rintro r τ1 ⟨lines, g2, net, p1, rfl, hl1, hl2, hnl, hp1, hp2, hD, hg2, hn2'⟩
  have hgτ := hR.at_
  simp -implicitDefEqProofs (disch := omega) only [List.any_cons, List.any_nil, Nat.reduceEqDiff, List.map_cons, List.map_nil, Option.map_some, Option.map_none, List.nil_append, ↓reduceIte, vcu0, vcu1, vcu2, vcu3, vcu4, vcu5, vcu6, vcu7, vcu8, vcu9, vcu10, vcu11, vcu12, vcu13, vcu14, vcu15, vcu16, vcu17, vcu18, vcu19, vcu20, vcu21, vcu22, vcu23, vcu24, vcu25, vcu26, ↓vcd0, ↓vcd1, ↓vcd2, ↓vcd3, opK_some, List.getElem?_toArray, List.getElem?_cons_zero, List.getElem?_cons_succ]
  refine r_lit el31 (out := #[]) (by kernel_rfl) (by kernel_rfl) fun e0 τ2 n0 s0 v0 => ?_
  simp -implicitDefEqProofs (disch := omega) only [List.any_cons, List.any_nil, Nat.reduceEqDiff, List.map_cons, List.map_nil, Option.map_some, Option.map_none, List.nil_append, ↓reduceIte, vcu0, vcu1, vcu2, vcu3, vcu4, vcu5, vcu6, vcu7, vcu8, vcu9, vcu10, vcu11, vcu12, vcu13, vcu14, vcu15, vcu16, vcu17, vcu18, vcu19, vcu20, vcu21, vcu22, vcu23, vcu24, vcu25, vcu26, ↓vcd0, ↓vcd1, ↓vcd2, ↓vcd3]
  refine vc_loop_c mixed (by kernel_rfl) [5, 6, 7] (fun mm a τ => ∃ (q : Nat) (xs : List Int) (p' : Int), mm = (lines - xs.length).toNat ∧ a 9 = .int .i64 xs.length ∧ a 8 = .slice (some ⟨q, 0, none⟩) xs.length 1 ∧ xs.length ≤ 7 ∧ p' = p1 + xs.length ∧ Kept g τ1 τ ∧ Rd σ τ g h o (bs.take m) p' ∧ τ q = some ⟨ints .i64 xs, false⟩ ∧ τ1 q = none) lines.toNat ⟨e0, [], p1, by simp, rfl, rfl, by simp, by simp, s0.kept, hD.rd.sub' s0, v0, n0⟩ ?_
  clear s0 v0 n0
  have hn2 : ∀ τf, Kept g τ1 τf → τf g2 = some ⟨pairs net, false⟩ := fun τf hk => hk.at hg2 (ne_of hn2' hgτ)
  rintro mm a τ hc ⟨q, xs, p', rfl, h9, h8, hxl, rfl, hK, hRd, hq, hqn⟩
  simp -implicitDefEqProofs (disch := omega) only [List.any_cons, List.any_nil, Nat.reduceEqDiff, List.map_cons, List.map_nil, Option.map_some, Option.map_none, List.nil_append, ↓reduceIte, vcu0, vcu1, vcu2, vcu3, vcu4, vcu5, vcu6, vcu7, vcu8, vcu9, vcu10, vcu11, vcu12, vcu13, vcu14, vcu15, vcu16, vcu17, vcu18, vcu19, vcu20, vcu21, vcu22, vcu23, vcu24, vcu25, vcu26, ↓vcd0, ↓vcd1, ↓vcd2, ↓vcd3] at hc
  obtain ⟨h5, h6, h7, -⟩ := hc
  have hqg : q ≠ g := ne_of hqn hD.rd.at_
  by_cases hlt : (xs.length : Int) < lines
  · simp -implicitDefEqProofs (disch := omega) only [List.any_cons, List.any_nil, Nat.reduceEqDiff, List.map_cons, List.map_nil, Option.map_some, Option.map_none, List.nil_append, ↓reduceIte, vcu0, vcu1, vcu2, vcu3, vcu4, vcu5, vcu6, vcu7, vcu8, vcu9, vcu10, vcu11, vcu12, vcu13, vcu14, vcu15, vcu16, vcu17, vcu18, vcu19, vcu20, vcu21, vcu22, vcu23, vcu24, vcu25, vcu26, ↓vcd0, ↓vcd1, ↓vcd2, ↓vcd3, h5, h6, h8, h9]
    refine (pick_at σ τ g h o (bs.take m) (p1 + xs.length) 20 hRd (by omega) (by omega)).mono ?_
    rintro r τ3 ⟨z, rfl, hz0, hz1, hR3, hK3⟩
    have hq3 := hK3.at hq hqg
    simp -implicitDefEqProofs (disch := omega) only [List.any_cons, List.any_nil, Nat.reduceEqDiff, List.map_cons, List.map_nil, Option.map_some, Option.map_none, List.nil_append, ↓reduceIte, vcu0, vcu1, vcu2, vcu3, vcu4, vcu5, vcu6, vcu7, vcu8, vcu9, vcu10, vcu11, vcu12, vcu13, vcu14, vcu15, vcu16, vcu17, vcu18, vcu19, vcu20, vcu21, vcu22, vcu23, vcu24, vcu25, vcu26, ↓vcd0, ↓vcd1, ↓vcd2, ↓vcd3, opK_some, h8]
    refine r_lit el31 (out := #[.int .i64 (z - 5)]) (by simp -implicitDefEqProofs (disch := omega) only [List.any_cons, List.any_nil, Nat.reduceEqDiff, List.map_cons, List.map_nil, Option.map_some, Option.map_none, List.nil_append, ↓reduceIte, vcu0, vcu1, vcu2, vcu3, vcu4, vcu5, vcu6, vcu7, vcu8, vcu9, vcu10, vcu11, vcu12, vcu13, vcu14, vcu15, vcu16, vcu17, vcu18, vcu19, vcu20, vcu21, vcu22, vcu23, vcu24, vcu25, vcu26, ↓vcd0, ↓vcd1, ↓vcd2, ↓vcd3]; kernel_rfl) (by rfl) fun e τ4 n4 s4 v4 => ?_
    refine r_pushI (g := q) (e := e) (o := 0) (k := .i64) (xs := xs) (ys := [z - 5]) (m := 1) (len := xs.length) el31 (by omega) sl31 (by simp -implicitDefEqProofs (disch := omega) only [List.any_cons, List.any_nil, Nat.reduceEqDiff, List.map_cons, List.map_nil, Option.map_some, Option.map_none, List.nil_append, ↓reduceIte, vcu0, vcu1, vcu2, vcu3, vcu4, vcu5, vcu6, vcu7, vcu8, vcu9, vcu10, vcu11, vcu12, vcu13, vcu14, vcu15, vcu16, vcu17, vcu18, vcu19, vcu20, vcu21, vcu22, vcu23, vcu24, vcu25, vcu26, ↓vcd0, ↓vcd1, ↓vcd2, ↓vcd3, h8]) (s4 _ _ hq3) rfl (by simp -implicitDefEqProofs (disch := omega) only [List.any_cons, List.any_nil, Nat.reduceEqDiff, List.map_cons, List.map_nil, Option.map_some, Option.map_none, List.nil_append, ↓reduceIte, vcu0, vcu1, vcu2, vcu3, vcu4, vcu5, vcu6, vcu7, vcu8, vcu9, vcu10, vcu11, vcu12, vcu13, vcu14, vcu15, vcu16, vcu17, vcu18, vcu19, vcu20, vcu21, vcu22, vcu23, vcu24, vcu25, vcu26, ↓vcd0, ↓vcd1, ↓vcd2, ↓vcd3]) (intsAt_own v4) rfl (by omega) fun q5 τ5 n5 k5 v5 => ?_
    have hK4 : Kept g τ1 τ5 := kept_put2 (hK.trans (hK3.trans s4.kept)) k5 hqn
    have hq5 : τ1 q5 = none := kept_dom (hK.trans (hK3.trans s4.kept)) (s4 _ _ hR3.at_) _ n5
    have hσq : σ q = none := free_sub hD.rd.sub hqn
    simp -implicitDefEqProofs (disch := omega) only [List.any_cons, List.any_nil, Nat.reduceEqDiff, List.map_cons, List.map_nil, Option.map_some, Option.map_none, List.nil_append, ↓reduceIte, vcu0, vcu1, vcu2, vcu3, vcu4, vcu5, vcu6, vcu7, vcu8, vcu9, vcu10, vcu11, vcu12, vcu13, vcu14, vcu15, vcu16, vcu17, vcu18, vcu19, vcu20, vcu21, vcu22, vcu23, vcu24, vcu25, vcu26, ↓vcd0, ↓vcd1, ↓vcd2, ↓vcd3, h5, h6, h7, h9]
    refine ⟨⟨trivial, trivial, trivial, trivial⟩, (lines - ((xs ++ [z - 5]).length : Nat)).toNat, by simp; omega, q5, xs ++ [z - 5], p1 + ((xs ++ [z - 5]).length : Nat), rfl, by simp, by simp, by simp; omega, rfl, hK4, ?_, v5, hq5⟩
    have e9 : p1 + ((xs ++ [z - 5]).length : Nat) = p1 + xs.length + 1 := by simp; omega
    rw [e9]
    exact (hR3.sub' s4).put k5 hqg hσq
  · simp -implicitDefEqProofs (disch := omega) only [List.any_cons, List.any_nil, Nat.reduceEqDiff, List.map_cons, List.map_nil, Option.map_some, Option.map_none, List.nil_append, ↓reduceIte, vcu0, vcu1, vcu2, vcu3, vcu4, vcu5, vcu6, vcu7, vcu8, vcu9, vcu10, vcu11, vcu12, vcu13, vcu14, vcu15, vcu16, vcu17, vcu18, vcu19, vcu20, vcu21, vcu22, vcu23, vcu24, vcu25, vcu26, ↓vcd0, ↓vcd1, ↓vcd2, ↓vcd3, h5, h6, h8, h9]
    refine (odd_at σ τ g h o (bs.take m) (p1 + xs.length) 14 hRd (by omega) (by omega)).mono ?_
    rintro r τ3 ⟨b, rfl, hR3, hK3⟩
    have hq3 := hK3.at hq hqg
    cases b with
    | false =>
      simp -implicitDefEqProofs (disch := omega) only [List.any_cons, List.any_nil, Nat.reduceEqDiff, List.map_cons, List.map_nil, Option.map_some, Option.map_none, List.nil_append, ↓reduceIte, vcu0, vcu1, vcu2, vcu3, vcu4, vcu5, vcu6, vcu7, vcu8, vcu9, vcu10, vcu11, vcu12, vcu13, vcu14, vcu15, vcu16, vcu17, vcu18, vcu19, vcu20, vcu21, vcu22, vcu23, vcu24, vcu25, vcu26, ↓vcd0, ↓vcd1, ↓vcd2, ↓vcd3, opK_some, h6, h7, h8]
      refine fin_three Try.results29 ⟨lines, g2, net, q, xs, ?_, hl1, hl2, hnl, hD.fit, hn2 _ (hK.trans hK3), hR3.sub, hq3, by omega⟩
      simp -implicitDefEqProofs (disch := omega) only [List.any_cons, List.any_nil, Nat.reduceEqDiff, List.map_cons, List.map_nil, Option.map_some, Option.map_none, List.nil_append, ↓reduceIte, vcu0, vcu1, vcu2, vcu3, vcu4, vcu5, vcu6, vcu7, vcu8, vcu9, vcu10, vcu11, vcu12, vcu13, vcu14, vcu15, vcu16, vcu17, vcu18, vcu19, vcu20, vcu21, vcu22, vcu23, vcu24, vcu25, vcu26, ↓vcd0, ↓vcd1, ↓vcd2, ↓vcd3, h6, h7, h8]
    | true =>
      simp -implicitDefEqProofs (disch := omega) only [List.any_cons, List.any_nil, Nat.reduceEqDiff, List.map_cons, List.map_nil, Option.map_some, Option.map_none, List.nil_append, ↓reduceIte, vcu0, vcu1, vcu2, vcu3, vcu4, vcu5, vcu6, vcu7, vcu8, vcu9, vcu10, vcu11, vcu12, vcu13, vcu14, vcu15, vcu16, vcu17, vcu18, vcu19, vcu20, vcu21, vcu22, vcu23, vcu24, vcu25, vcu26, ↓vcd0, ↓vcd1, ↓vcd2, ↓vcd3, opK_some, h6, h7, h8]
      refine r_lit el31 (out := #[.int .i64 1]) (by first | kernel_rfl | (simp -implicitDefEqProofs (disch := omega) only [List.any_cons, List.any_nil, Nat.reduceEqDiff, List.map_cons, List.map_nil, Option.map_some, Option.map_none, List.nil_append, ↓reduceIte, vcu0, vcu1, vcu2, vcu3, vcu4, vcu5, vcu6, vcu7, vcu8, vcu9, vcu10, vcu11, vcu12, vcu13, vcu14, vcu15, vcu16, vcu17, vcu18, vcu19, vcu20, vcu21, vcu22, vcu23, vcu24, vcu25, vcu26, ↓vcd0, ↓vcd1, ↓vcd2, ↓vcd3]; kernel_rfl)) (by rfl) fun e τ4 n4 s4 v4 => ?_
      refine r_pushI (g := q) (e := e) (o := 0) (k := .i64) (xs := xs) (ys := [1]) (m := 1) (len := xs.length) el31 (by omega) sl31 (by simp -implicitDefEqProofs (disch := omega) only [List.any_cons, List.any_nil, Nat.reduceEqDiff, List.map_cons, List.map_nil, Option.map_some, Option.map_none, List.nil_append, ↓reduceIte, vcu0, vcu1, vcu2, vcu3, vcu4, vcu5, vcu6, vcu7, vcu8, vcu9, vcu10, vcu11, vcu12, vcu13, vcu14, vcu15, vcu16, vcu17, vcu18, vcu19, vcu20, vcu21, vcu22, vcu23, vcu24, vcu25, vcu26, ↓vcd0, ↓vcd1, ↓vcd2, ↓vcd3, h8]) (s4 _ _ hq3) rfl (by simp -implicitDefEqProofs (disch := omega) only [List.any_cons, List.any_nil, Nat.reduceEqDiff, List.map_cons, List.map_nil, Option.map_some, Option.map_none, List.nil_append, ↓reduceIte, vcu0, vcu1, vcu2, vcu3, vcu4, vcu5, vcu6, vcu7, vcu8, vcu9, vcu10, vcu11, vcu12, vcu13, vcu14, vcu15, vcu16, vcu17, vcu18, vcu19, vcu20, vcu21, vcu22, vcu23, vcu24, vcu25, vcu26, ↓vcd0, ↓vcd1, ↓vcd2, ↓vcd3]) (intsAt_own v4) rfl (by omega) fun q5 τ5 n5 k5 v5 => ?_
      have hK4 : Kept g τ1 τ5 := kept_put2 (hK.trans (hK3.trans s4.kept)) k5 hqn
      have hσq : σ q = none := free_sub hD.rd.sub hqn
      simp -implicitDefEqProofs (disch := omega) only [List.any_cons, List.any_nil, Nat.reduceEqDiff, List.map_cons, List.map_nil, Option.map_some, Option.map_none, List.nil_append, ↓reduceIte, vcu0, vcu1, vcu2, vcu3, vcu4, vcu5, vcu6, vcu7, vcu8, vcu9, vcu10, vcu11, vcu12, vcu13, vcu14, vcu15, vcu16, vcu17, vcu18, vcu19, vcu20, vcu21, vcu22, vcu23, vcu24, vcu25, vcu26, ↓vcd0, ↓vcd1, ↓vcd2, ↓vcd3, h6, h7]
      refine fin_three Try.results29 ⟨lines, g2, net, q5, xs ++ [1], ?_, hl1, hl2, hnl, hD.fit, hn2 _ hK4, ((hR3.sub' s4).put k5 hqg hσq).sub, v5, by simp; omega⟩
      simp -implicitDefEqProofs (disch := omega) only [List.any_cons, List.any_nil, Nat.reduceEqDiff, List.map_cons, List.map_nil, Option.map_some, Option.map_none, List.nil_append, ↓reduceIte, vcu0, vcu1, vcu2, vcu3, vcu4, vcu5, vcu6, vcu7, vcu8, vcu9, vcu10, vcu11, vcu12, vcu13, vcu14, vcu15, vcu16, vcu17, vcu18, vcu19, vcu20, vcu21, vcu22, vcu23, vcu24, vcu25, vcu26, ↓vcd0, ↓vcd1, ↓vcd2, ↓vcd3, h6, h7, List.length_append]
      try rfl
end Go.Proofs.Ytnkpoflhdfchjaa
