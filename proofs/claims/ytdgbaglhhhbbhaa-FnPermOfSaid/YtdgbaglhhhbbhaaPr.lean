/- Permutations one behind the other: what they are as lists; the calls, whatever the lists; the draw of two lists. -/
import Derived.Test.YtdgbaglhhhbbhaaPi
import Derived.Test.YtdgbaglhhhbbhaaPq
set_option linter.unusedSimpArgs false
set_option linter.unusedVariables false
namespace Go.Proofs.Ytdgbaglhhhbbhaa
open Go Go.Abs Go.RowKit
variable {w0 : World}

def idl (n : Nat) : List Int := (List.range n).map fun (i : Nat) => (i : Int)
theorem idl_getD {n i : Nat} (h : i < n) : (idl n).getD i 0 = i := by simp [idl, List.getD, h]
theorem thn_getD (xs ys : List Int) {n i : Nat} (h : i < n) : (thn xs ys n).getD i 0 = ys.getD (xs.getD i 0).toNat 0 := by simp [thn, List.getD, h]
theorem list_ext {xs ys : List Int} (hl : xs.length = ys.length) (h : ∀ i, i < xs.length → xs.getD i 0 = ys.getD i 0) : xs = ys := by
  apply List.ext_getElem hl
  intro i h1 h2
  have := h i h1
  simpa [List.getD, h1, h2] using this
theorem valid_at {xs : List Int} (hV : Valid xs) {i : Nat} (h : i < xs.length) : 0 ≤ xs.getD i 0 ∧ (xs.getD i 0).toNat < xs.length := by
  have := hV.1.1 (xs.getD i 0) (by simp [List.getD, h]); omega
theorem valid_inj {xs : List Int} (hV : Valid xs) {i j : Nat} (hi : i < xs.length) (hj : j < xs.length) (he : xs.getD i 0 = xs.getD j 0) : i = j := by
  rw [getD_lt hi, getD_lt hj] at he
  exact (List.getElem_inj hV.1.2).1 he
theorem getD_memI {xs : List Int} {i : Nat} (h : i < xs.length) : xs.getD i 0 ∈ xs := by rw [getD_lt h]; exact List.getElem_mem _
theorem valid_thn {xs ys : List Int} (hx : Valid xs) (hy : Valid ys) (hl : xs.length = ys.length) : Valid (thn xs ys xs.length) := by
  have hlen := thn_length xs ys xs.length
  refine ⟨⟨fun z hz => ?_, ?_⟩, by rw [hlen]; exact hx.2⟩
  · obtain ⟨i, hi, rfl⟩ := List.getElem_of_mem hz
    rw [hlen] at hi ⊢
    rw [← getD_lt (by rw [hlen]; exact hi), thn_getD xs ys hi]
    have h1 := valid_at hx hi
    have := hy.1.1 (ys.getD (xs.getD i 0).toNat 0) (getD_memI (by omega))
    omega
  · rw [List.nodup_iff_pairwise_ne, List.pairwise_iff_getElem]
    intro i j hi hj hij he
    rw [hlen] at hi hj
    rw [← getD_lt (by rw [hlen]; exact hi), ← getD_lt (by rw [hlen]; exact hj), thn_getD xs ys hi, thn_getD xs ys hj] at he
    have h1 := valid_at hx hi
    have h2 := valid_at hx hj
    have h3 := valid_inj hy (by omega) (by omega) he
    have h4 := valid_inj hx hi hj (by omega)
    omega
theorem thn_assoc {xs ys zs : List Int} {n : Nat} (hx : Valid xs) (h1 : xs.length = n) : thn (thn xs ys n) zs n = thn xs (thn ys zs n) n := by
  apply list_ext (by simp [thn_length])
  intro i hi
  rw [thn_length] at hi
  rw [thn_getD _ _ hi, thn_getD _ _ hi, thn_getD _ _ hi, thn_getD _ _ (by have := valid_at hx (by omega : i < xs.length); omega)]
theorem thn_idl {xs : List Int} {n : Nat} (hx : Valid xs) (h : xs.length = n) : thn xs (idl n) n = xs := by
  apply list_ext (by rw [thn_length, h])
  intro i hi
  rw [thn_length] at hi
  have := valid_at hx (by omega : i < xs.length)
  rw [thn_getD _ _ hi, idl_getD (by omega)]; omega
theorem idl_thn {xs : List Int} {n : Nat} (h : xs.length = n) : thn (idl n) xs n = xs := by
  apply list_ext (by rw [thn_length, h])
  intro i hi
  rw [thn_length] at hi
  rw [thn_getD _ _ hi, idl_getD hi]; simp
def backOK2 (xs : List Int) : Bool := (inv (inv xs xs.length) (inv xs xs.length).length == xs) && (thn xs (inv xs xs.length) xs.length == idl xs.length)
theorem back_all2 : allV.all backOK2 = true := by kernel_rfl
theorem inv_inv {xs : List Int} (h : Valid xs) : inv (inv xs xs.length) xs.length = xs := by
  have := valid_all back_all2 h
  unfold backOK2 at this
  simp only [Bool.and_eq_true, beq_iff_eq] at this
  rw [inv_length] at this; exact this.1
theorem thn_inv {xs : List Int} (h : Valid xs) : thn xs (inv xs xs.length) xs.length = idl xs.length := by
  have := valid_all back_all2 h
  unfold backOK2 at this
  simp only [Bool.and_eq_true, beq_iff_eq] at this
  exact this.2
theorem inv_thn' {xs : List Int} (h : Valid xs) : thn (inv xs xs.length) xs xs.length = idl xs.length := by
  have h1 := thn_inv (valid_inv h)
  rw [inv_length, inv_inv h] at h1; exact h1
theorem inv_of_thn {xs ys : List Int} (hx : Valid xs) (hy : Valid ys) (hl : xs.length = ys.length) : inv (thn xs ys xs.length) xs.length = thn (inv ys ys.length) (inv xs xs.length) xs.length := by
  have hP := valid_thn hx hy hl
  have hPl := thn_length xs ys xs.length
  have hiy := inv_length ys ys.length
  have hix := inv_length xs xs.length
  have key : thn (thn xs ys xs.length) (thn (inv ys ys.length) (inv xs xs.length) xs.length) xs.length = idl xs.length := by
    have hyi : thn ys (inv ys ys.length) xs.length = idl xs.length := by rw [hl]; exact thn_inv hy
    rw [thn_assoc hx rfl, ← thn_assoc hy hl.symm, hyi, idl_thn hix, thn_inv hx]
  have e1 : inv (thn xs ys xs.length) xs.length = inv (thn xs ys xs.length) (thn xs ys xs.length).length := by rw [hPl]
  have hPi := valid_inv hP
  have hPil := inv_length (thn xs ys xs.length) (thn xs ys xs.length).length
  rw [e1]
  have h2 := inv_thn' hP
  rw [hPl] at h2 hPi hPil ⊢
  have h3 := thn_assoc (ys := thn xs ys xs.length) (zs := thn (inv ys ys.length) (inv xs xs.length) xs.length) hPi hPil
  rw [key, h2, idl_thn (thn_length _ _ _), thn_idl hPi hPil] at h3
  exact h3.symm

/-- nil, or a row of its own that is newer than β -/
def OwnI (β σ : AHeap) (v : Value) (xs : List Int) : Prop := (v = .slice none 0 0 ∧ xs = []) ∨ ∃ g, v = .slice (some ⟨g, 0, none⟩) xs.length 1 ∧ σ g = some ⟨ints .i64 xs, false⟩ ∧ β g = none
theorem OwnI.ints {β σ : AHeap} {v : Value} {xs : List Int} (h : OwnI β σ v xs) : Ints .i64 σ v xs := h.imp id fun ⟨g, e, hg, _⟩ => ⟨g, 0, e, intsAt_own hg⟩
def thenF (xs ys : List Int) : List Int := if Both xs ys then thn xs ys xs.length else []
def backF (xs : List Int) : List Int := if Valid xs then inv xs xs.length else []
theorem thenF_length (xs ys : List Int) : (thenF xs ys).length ≤ xs.length := by unfold thenF; split <;> simp [thn_length]
theorem backF_length (xs : List Int) : (backF xs).length ≤ xs.length := by unfold backF; split <;> simp [inv_length]

theorem then_calls (σ : AHeap) (v u : Value) (xs ys : List Int) (hv : Ints .i64 σ v xs) (hu : Ints .i64 σ u ys) (hl : xs.length ≤ 1048576) (hl2 : ys.length ≤ 1048576) :
    ACall Try.prog w0 28 [v, u] σ fun r σ' => Sub σ σ' ∧ OwnI σ σ' r (thenF xs ys) := by
  refine ACall.ints_arg (pre := []) (post := [u]) (by kernel_rfl) hv fun σ1 h o hs hg => ?_
  refine ACall.ints_arg (pre := [_]) (post := []) (by kernel_rfl) (hu.sub hs) fun σ2 h2 o2 hs2 hg2 => ?_
  refine (implThen_at σ2 h o h2 o2 xs ys (hg.sub hs2) hg2 hl hl2).mono ?_
  rintro r σ' (⟨hB, rfl, rfl⟩ | ⟨hB, g, hgn, rfl, rfl⟩)
  · exact ⟨hs.trans hs2, .inl ⟨rfl, by unfold thenF; rw [if_neg hB]⟩⟩
  · refine ⟨(hs.trans hs2).trans (sub_upd hgn), .inr ⟨g, ?_, ?_, free_sub (hs.trans hs2) hgn⟩⟩
    · unfold thenF; rw [if_pos hB, thn_length]
    · unfold thenF; rw [if_pos hB]; exact AHeap.upd_same _ _ _
theorem back_calls (σ : AHeap) (v : Value) (xs : List Int) (hv : Ints .i64 σ v xs) (hl : xs.length ≤ 1048576) :
    ACall Try.prog w0 25 [v] σ fun r σ' => Sub σ σ' ∧ OwnI σ σ' r (backF xs) := by
  refine ACall.ints_arg (pre := []) (post := []) (by kernel_rfl) hv fun σ1 h o hs hg => ?_
  refine (implBack_at σ1 h o xs hg hl).mono ?_
  rintro r σ' (⟨hB, rfl, rfl⟩ | ⟨hB, g, hgn, rfl, rfl⟩)
  · exact ⟨hs, .inl ⟨rfl, by unfold backF; rw [if_neg hB]⟩⟩
  · refine ⟨hs.trans (sub_upd hgn), .inr ⟨g, ?_, ?_, free_sub hs hgn⟩⟩
    · unfold backF; rw [if_pos hB, inv_length]
    · unfold backF; rw [if_pos hB]; exact AHeap.upd_same _ _ _

theorem Rd.rebase {β σ : AHeap} {g h o : Nat} {bs : List Int} {p : Int} (hr : Rd β σ g h o bs p) : Rd (σ.upd g none) σ g h o bs p :=
  ⟨hr.at_, sub_erase σ g, AHeap.upd_same _ _ _, fun i hi => by
    have h1 := hr.ints i hi
    have hne : h ≠ g := by
      rintro rfl
      unfold ld at h1; rw [hr.free] at h1; cases h1
    rw [ld_upd_ne hne]
    exact hr.ints.sub hr.sub i hi, hr.len, hr.byte⟩

theorem drawThen_at (σ : AHeap) (h o : Nat) (bs : List Int) (hv : IntsAt .u8 σ h o bs) (hl : bs.length ≤ 1048576) (hb : ∀ b ∈ bs, 0 ≤ b ∧ b ≤ 255) :
    ACall Try.prog w0 29 [.slice (some ⟨h, o, none⟩) bs.length 1] σ fun r σ' => ∃ (q : Nat) (ps : List Int) (q2 : Nat) (ps2 : List Int), r = .tuple #[.slice (some ⟨q, 0, none⟩) ps.length 1, .slice (some ⟨q2, 0, none⟩) ps2.length 1] ∧ ps.length ≤ 7 ∧ ps2.length ≤ 7 ∧ Sub σ σ' ∧
      σ' q = some ⟨ints .i64 ps, false⟩ ∧ σ' q2 = some ⟨ints .i64 ps2, false⟩ := by
  refine acall_go mixed Try.func29 rfl good29 ?_
  simp -implicitDefEqProofs (disch := omega) only [List.any_cons, List.any_nil, Nat.reduceEqDiff, List.map_cons, List.map_nil, Option.map_some, Option.map_none, List.nil_append, ↓reduceIte, vcu0, vcu1, vcu2, vcu3, vcu4, vcu5, vcu6, vcu7, vcu8, vcu9, vcu10, vcu11, vcu12, vcu13, vcu14, ↓vcd0, ↓vcd1, ↓vcd2]
  refine (open_at σ h o bs hl).mono ?_
  rintro r τ ⟨g, m, hg, hm, hmb, rfl, hτ⟩
  have htl : (bs.take m).length = m := by simp; omega
  have hR : Rd σ τ g h o (bs.take m) 0 := ⟨by rw [hτ, htl]; exact AHeap.upd_same _ _ _, by rw [hτ]; exact sub_upd hg, hg, hv.take m, by rw [htl]; exact hm, fun b hb' => hb b (List.mem_of_mem_take hb')⟩
  clear hτ
  simp -implicitDefEqProofs (disch := omega) only [List.any_cons, List.any_nil, Nat.reduceEqDiff, List.map_cons, List.map_nil, Option.map_some, Option.map_none, List.nil_append, ↓reduceIte, vcu0, vcu1, vcu2, vcu3, vcu4, vcu5, vcu6, vcu7, vcu8, vcu9, vcu10, vcu11, vcu12, vcu13, vcu14, ↓vcd0, ↓vcd1, ↓vcd2, opK_some]
  refine (list_draw σ τ g h o (bs.take m) 0 12 hR (by omega) (by omega)).mono ?_
  rintro r τ2 ⟨q, ps, p', rfl, h7, hq, hqf, hqg, hp1, hp2, hR2⟩
  simp -implicitDefEqProofs (disch := omega) only [List.any_cons, List.any_nil, Nat.reduceEqDiff, List.map_cons, List.map_nil, Option.map_some, Option.map_none, List.nil_append, ↓reduceIte, vcu0, vcu1, vcu2, vcu3, vcu4, vcu5, vcu6, vcu7, vcu8, vcu9, vcu10, vcu11, vcu12, vcu13, vcu14, ↓vcd0, ↓vcd1, ↓vcd2, opK_some]
  refine (odd_at σ τ2 g h o (bs.take m) p' 12 hR2 (by omega) (by omega)).mono ?_
  rintro r τ3 ⟨b, rfl, hR3, hK3⟩
  have hq3 := hK3 q _ hqg hq
  have hR4 := hR3.rebase
  have hqr : (τ3.upd g none) q = some ⟨ints .i64 ps, false⟩ := by rw [AHeap.upd_ne _ _ hqg]; exact hq3
  have hs3 : Sub σ (τ3.upd g none) := fun k ob hk => by
    rw [AHeap.upd_ne _ _ (ne_of' hR3.free hk)]; exact hR3.sub k ob hk
  cases b with
  | true =>
    simp -implicitDefEqProofs (disch := omega) only [List.any_cons, List.any_nil, Nat.reduceEqDiff, List.map_cons, List.map_nil, Option.map_some, Option.map_none, List.nil_append, ↓reduceIte, vcu0, vcu1, vcu2, vcu3, vcu4, vcu5, vcu6, vcu7, vcu8, vcu9, vcu10, vcu11, vcu12, vcu13, vcu14, ↓vcd0, ↓vcd1, ↓vcd2, opK_some]
    refine (list_draw _ τ3 g h o (bs.take m) (p' + 1) 3 hR4 (by omega) (by omega)).mono ?_
    rintro r τ4 ⟨q2, ps2, p2, rfl, h72, hq2, hqf2, hqg2, _, _, hR5⟩
    simp -implicitDefEqProofs (disch := omega) only [List.any_cons, List.any_nil, Nat.reduceEqDiff, List.map_cons, List.map_nil, Option.map_some, Option.map_none, List.nil_append, ↓reduceIte, vcu0, vcu1, vcu2, vcu3, vcu4, vcu5, vcu6, vcu7, vcu8, vcu9, vcu10, vcu11, vcu12, vcu13, vcu14, ↓vcd0, ↓vcd1, ↓vcd2, opK_some]
    refine fin_two Try.results29 ⟨q, ps, q2, ps2, ?_, h7, h72, hs3.trans hR5.sub, hR5.sub _ _ hqr, hq2⟩
    simp -implicitDefEqProofs (disch := omega) only [List.any_cons, List.any_nil, Nat.reduceEqDiff, List.map_cons, List.map_nil, Option.map_some, Option.map_none, List.nil_append, ↓reduceIte, vcu0, vcu1, vcu2, vcu3, vcu4, vcu5, vcu6, vcu7, vcu8, vcu9, vcu10, vcu11, vcu12, vcu13, vcu14, ↓vcd0, ↓vcd1, ↓vcd2]
  | false =>
    have emin : min (ps.length : Int) 6 = (min ps.length 6 : Nat) := by omega
    simp -implicitDefEqProofs (disch := omega) only [List.any_cons, List.any_nil, Nat.reduceEqDiff, List.map_cons, List.map_nil, Option.map_some, Option.map_none, List.nil_append, ↓reduceIte, vcu0, vcu1, vcu2, vcu3, vcu4, vcu5, vcu6, vcu7, vcu8, vcu9, vcu10, vcu11, vcu12, vcu13, vcu14, ↓vcd0, ↓vcd1, ↓vcd2, opK_some, emin]
    refine (perm_draw _ τ3 g h o (bs.take m) (p' + 1) (min ps.length 6) hR4 (by omega) (by omega)).mono ?_
    rintro r τ4 ⟨q2, ps2, p2, rfl, h72, hq2, hqf2, hqg2, _, _, hR5⟩
    simp -implicitDefEqProofs (disch := omega) only [List.any_cons, List.any_nil, Nat.reduceEqDiff, List.map_cons, List.map_nil, Option.map_some, Option.map_none, List.nil_append, ↓reduceIte, vcu0, vcu1, vcu2, vcu3, vcu4, vcu5, vcu6, vcu7, vcu8, vcu9, vcu10, vcu11, vcu12, vcu13, vcu14, ↓vcd0, ↓vcd1, ↓vcd2, opK_some]
    refine fin_two Try.results29 ⟨q, ps, q2, ps2, ?_, h7, by omega, hs3.trans hR5.sub, hR5.sub _ _ hqr, hq2⟩
    simp -implicitDefEqProofs (disch := omega) only [List.any_cons, List.any_nil, Nat.reduceEqDiff, List.map_cons, List.map_nil, Option.map_some, Option.map_none, List.nil_append, ↓reduceIte, vcu0, vcu1, vcu2, vcu3, vcu4, vcu5, vcu6, vcu7, vcu8, vcu9, vcu10, vcu11, vcu12, vcu13, vcu14, ↓vcd0, ↓vcd1, ↓vcd2, h72]
end Go.Proofs.Ytdgbaglhhhbbhaa
