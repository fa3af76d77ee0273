/- What the laws on calls ask, told of lists. -/
import Derived.Test.YtphacjkogompoaaCc
set_option linter.unusedSimpArgs false
set_option linter.unusedVariables false
set_option linter.unusedSectionVars false
namespace Go.Clos

theorem take_gc {cs : List Cl} {k : Nat} (h : k < cs.length) : cs.take (k + 1) = cs.take k ++ [gc cs k] := by
  rw [List.take_succ_eq_append_getElem h]; simp [gc, List.getD, h]
/-- one call more is possible -/
theorem CV_take {s : Sp} {cs : List Cl} {k : Nat} (hk : k < cs.length) : CV s (cs.take (k + 1)) ↔ CV s (cs.take k) ∧ Rg s (gc cs k) ∧ ∀ d ∈ cs.take k, ¬ Hit s (gc cs k) d := by
  rw [take_gc hk, CV_snoc]
theorem CV.take {s : Sp} {cs : List Cl} (h : CV s cs) (k : Nat) : CV s (cs.take k) := h.sub (List.take_sublist _ _)
theorem CV.tail {s : Sp} {cs : List Cl} (h : CV s cs) (k : Nat) : CV s (cs.drop k) := h.sub (List.drop_sublist _ _)
theorem CV_twice {s : Sp} {cs : List Cl} {c : Cl} (hc : c ∈ cs) : ¬ CV s (cs ++ [c]) := fun h => (CV_snoc.1 h).2.2 c hc (.inl rfl)
/-- how many of the first n calls go through a middle switch -/
def viaN (cs : List Cl) (v : Int) (n : Nat) : Nat := ((cs.take n).filter fun c => c.v = v).length
theorem viaN_zero (cs : List Cl) (v : Int) : viaN cs v 0 = 0 := rfl
theorem viaN_succ {cs : List Cl} {v : Int} {n : Nat} (h : n < cs.length) : viaN cs v (n + 1) = viaN cs v n + if (gc cs n).v = v then 1 else 0 := by
  unfold viaN
  rw [take_gc h, List.filter_append, List.length_append]
  by_cases e : (gc cs n).v = v <;> simp [e]
theorem viaN_le {s : Sp} {cs : List Cl} (h : CV s cs) (v : Int) (n : Nat) : (viaN cs v n : Int) ≤ s.O := by
  have := (h.take n).via v
  have := h.1.1
  unfold viaN; omega
/-- ascending numbers -/
def Asc (xs : List Int) : Prop := ∀ k, k + 1 < xs.length → xs.getD k 0 < xs.getD (k + 1) 0
theorem rng_asc (n : Nat) : (rng n).Pairwise fun x y => x < y := by
  unfold rng
  rw [List.pairwise_map]
  exact List.pairwise_lt_range.imp fun h => by omega
theorem freeV_asc (s : Sp) (cs : List Cl) (i o : Int) : Asc (freeV s cs i o) := fun k hk => by
  have h : (freeV s cs i o).Pairwise fun x y => x < y := (rng_asc _).sublist List.filter_sublist
  have := List.pairwise_iff_getElem.1 h k (k + 1) (by omega) hk (by omega)
  simpa [List.getD, hk, Nat.lt_of_succ_lt hk] using this
theorem freeV_length (s : Sp) (cs : List Cl) (i o : Int) (h : SV s) : (freeV s cs i o).length ≤ 5 := by
  unfold freeV freeL
  have := List.length_filter_le (fun v => decide (Free s cs i o v)) (rng s.M.toNat)
  rw [rng_length] at this
  have := h.2.2; omega
theorem gc_free {s : Sp} {cs : List Cl} {i o : Int} {k : Nat} (h : k < (freeV s cs i o).length) : Free s cs i o ((freeV s cs i o).getD k 0) :=
  mem_freeV.1 (by simp [List.getD, h])
/-- who has a call, told by inputs alone -/
theorem busy_in {s : Sp} {cs : List Cl} (h : CV s cs) (i : Int) : Busy cs i (-1) ↔ ∃ c ∈ cs, c.i = i := by
  constructor
  · rintro ⟨c, hc, e | e⟩
    · exact ⟨c, hc, e⟩
    · have := (h.2.1 c hc).2.1; omega
  · rintro ⟨c, hc, e⟩; exact ⟨c, hc, .inl e⟩
theorem drop_ok {s : Sp} {cs : List Cl} (h : CV s cs) (i : Int) : ((dropL cs i).length < cs.length ↔ Busy cs i (-1)) ∧ ¬ Busy (dropL cs i) i (-1) ∧ (Busy cs i (-1) → (dropL cs i).length + 1 = cs.length) ∧ (¬ Busy cs i (-1) → dropL cs i = cs) ∧ CV s (dropL cs i) := by
  have hd := h.sub (dropL_sub cs i)
  refine ⟨?_, fun hb => ?_, fun hb => dropL_len h ((busy_in h i).1 hb), fun hb => dropL_no fun c hc e => hb ((busy_in h i).2 ⟨c, hc, e⟩), hd⟩
  · rw [busy_in h]
    constructor
    · intro hl
      refine Classical.byContradiction fun hn => ?_
      rw [dropL_no fun c hc e => hn ⟨c, hc, e⟩] at hl
      omega
    · intro hb
      have := dropL_len h hb; omega
  · obtain ⟨c, hc, e⟩ := (busy_in hd i).1 hb
    exact dropL_gone hc e
/-- the lines of a further call -/
theorem put_drop {s : Sp} {cs : List Cl} {i o v : Int} (h : Free s cs i o v) : dropL (cs ++ [⟨i, o, v⟩]) i = cs :=
  dropL_snoc (c := ⟨i, o, v⟩) fun d hd e => h.lines.2.2.1 ⟨d, hd, .inl e⟩
/-- the numbers turned round -/
def turned (n : Nat) : List Int := (List.range n).map fun (k : Nat) => (n : Int) - 1 - k
theorem turned_length (n : Nat) : (turned n).length = n := by simp [turned]
theorem turned_getD {n k : Nat} (h : k < n) : (turned n).getD k 0 = (n : Int) - 1 - k := by simp [turned, List.getD, h]
theorem turned_ok (n : Nat) : (∀ x ∈ turned n, 0 ≤ x ∧ x < (turned n).length) ∧ (turned n).Nodup := by
  constructor
  · intro x hx
    simp only [turned, List.mem_map, List.mem_range] at hx
    obtain ⟨k, hk, rfl⟩ := hx
    rw [turned_length]; omega
  · unfold turned
    rw [List.nodup_iff_pairwise_ne, List.pairwise_map]
    exact (List.nodup_iff_pairwise_ne.1 List.nodup_range).imp fun h e => h (by omega)
end Go.Clos
