/- A further call, a call less, and calls for a whole list. -/
import Derived.Test.YtphacjkogompoaaCb
set_option linter.unusedSimpArgs false
set_option linter.unusedVariables false
set_option linter.unusedSectionVars false
namespace Go.Clos

/-- at how many of the first n places calls go through different middle switches -/
def movedN (xs ys : List Cl) (n : Nat) : Nat := ((List.range n).filter fun k => (gc xs k).v ≠ (gc ys k).v).length
theorem movedN_zero (xs ys : List Cl) : movedN xs ys 0 = 0 := rfl
theorem movedN_succ (xs ys : List Cl) (n : Nat) : movedN xs ys (n + 1) = movedN xs ys n + if (gc xs n).v ≠ (gc ys n).v then 1 else 0 := by
  unfold movedN
  rw [List.range_succ, List.filter_append, List.length_append]
  by_cases h : (gc xs n).v = (gc ys n).v <;> simp [h]
theorem movedN_le (xs ys : List Cl) (n : Nat) : movedN xs ys n ≤ n := by
  have := List.length_filter_le (fun k => decide ((gc xs k).v ≠ (gc ys k).v)) (List.range n)
  simpa [movedN] using this
theorem movedN_comm (xs ys : List Cl) (n : Nat) : movedN xs ys n = movedN ys xs n := by
  unfold movedN
  congr 1
  apply List.filter_congr
  intro k _
  by_cases h : (gc xs k).v = (gc ys k).v
  · simp [h]
  · simp [h, Ne.symm h]
theorem movedN_same {xs ys : List Cl} {n : Nat} (h : ∀ k, k < n → (gc xs k).v = (gc ys k).v) : movedN xs ys n = 0 := by
  unfold movedN
  rw [List.length_eq_zero_iff, List.filter_eq_nil_iff]
  intro k hk
  simp [h k (List.mem_range.1 hk)]
def moved (xs ys : List Cl) : Nat := movedN xs ys (min xs.length ys.length)
theorem moved_self (xs : List Cl) : moved xs xs = 0 := movedN_same fun _ _ => rfl
theorem moved_comm (xs ys : List Cl) : moved xs ys = moved ys xs := by unfold moved; rw [movedN_comm, Nat.min_comm]
theorem moved_le (xs ys : List Cl) : moved xs ys ≤ xs.length := Nat.le_trans (movedN_le _ _ _) (Nat.min_le_left _ _)
theorem gc_append {cs ds : List Cl} {k : Nat} (h : k < cs.length) : gc (cs ++ ds) k = gc cs k := by simp [gc, List.getD, List.getElem?_append_left h]
theorem gc_last {cs : List Cl} {c : Cl} : gc (cs ++ [c]) cs.length = c := by simp [gc, List.getD]
theorem moved_snoc (cs ds : List Cl) : moved cs (cs ++ ds) = 0 := movedN_same fun k hk => by rw [gc_append (by omega)]

/-- with a further call, if there are enough middle switches -/
def wayA (s : Sp) (cs : List Cl) (i : Int) : Int := firstN (usedI s cs (i / s.E)) s.M.toNat 0
def wayB (s : Sp) (cs : List Cl) (o : Int) : Int := firstN (usedO s cs (o / s.E)) s.M.toNat 0
def moveL (s : Sp) (cs : List Cl) (i o : Int) : List Cl :=
  match freeV s cs i o with
  | v :: _ => cs ++ [⟨i, o, v⟩]
  | [] => flip (wayA s cs i) (wayB s cs o) (chain s cs (wayA s cs i) (wayB s cs o) (o / s.E)) cs ++ [⟨i, o, wayA s cs i⟩]
section
variable {s : Sp} {cs : List Cl} {i o : Int} (hs : Enough s) (h : CV s cs) (hl : Lines s i o) (hb : ¬ Busy cs i o)
include hs h hl hb
theorem wayA_ok : (0 ≤ wayA s cs i ∧ wayA s cs i ≤ s.M - 1) ∧ wayA s cs i ∉ usedI s cs (i / s.E) := by
  have f1 := h.from_ (not_busyI hb)
  obtain ⟨⟨-, ⟨e1, e2⟩, -⟩, hm⟩ := hs
  obtain ⟨j, hj, h1, h2⟩ := firstN_some (used := usedI s cs (i / s.E)) (n := s.M.toNat) (by unfold usedI; rw [List.length_map]; omega)
  unfold wayA; rw [hj]; exact ⟨by omega, h2⟩
theorem wayB_ok : (0 ≤ wayB s cs o ∧ wayB s cs o ≤ s.M - 1) ∧ wayB s cs o ∉ usedO s cs (o / s.E) := by
  have f1 := h.to_ (not_busyO hb)
  obtain ⟨⟨-, ⟨e1, e2⟩, -⟩, hm⟩ := hs
  obtain ⟨j, hj, h1, h2⟩ := firstN_some (used := usedO s cs (o / s.E)) (n := s.M.toNat) (by unfold usedO; rw [List.length_map]; omega)
  unfold wayB; rw [hj]; exact ⟨by omega, h2⟩
theorem way_ne (hf : freeV s cs i o = []) : wayA s cs i ≠ wayB s cs o := fun e => by
  obtain ⟨a1, a2⟩ := wayA_ok hs h hl hb
  obtain ⟨b1, b2⟩ := wayB_ok hs h hl hb
  have := mem_freeV.2 ((free_iff h hl hb a1).2 ⟨a2, by rw [e]; exact b2⟩)
  rw [hf] at this; cases this
theorem way_free : ∀ l, l < cs.length → sw s true (gc cs l) = o / s.E → (gc cs l).v ≠ wayB s cs o := fun l hl2 e e2 =>
  (wayB_ok hs h hl hb).2 (mem_usedO.2 ⟨_, gc_mem hl2, e, e2⟩)
theorem chain_ok (hf : freeV s cs i o = []) : Closed s cs (wayA s cs i) (wayB s cs o) (o / s.E) (chain s cs (wayA s cs i) (wayB s cs o) (o / s.E)) :=
  chain_closed h (way_ne hs h hl hb hf) (way_free hs h hl hb)
theorem moveL_CV : CV s (moveL s cs i o) := by
  unfold moveL
  cases hf : freeV s cs i o with
  | cons v vs => exact mem_freeV.1 (by rw [hf]; simp)
  | nil =>
    obtain ⟨a1, a2⟩ := wayA_ok hs h hl hb
    obtain ⟨b1, b2⟩ := wayB_ok hs h hl hb
    exact flip_CV h hl hb a1 b1 a2 b2 (chain_ok hs h hl hb hf)
omit hs h hl hb in
theorem moveL_length : (moveL s cs i o).length = cs.length + 1 := by
  unfold moveL
  split
  · simp
  · simp [flip_length]
omit hs h hl hb in
theorem moveL_last : (gc (moveL s cs i o) cs.length).i = i ∧ (gc (moveL s cs i o) cs.length).o = o := by
  unfold moveL
  split
  · rw [gc_last]; exact ⟨rfl, rfl⟩
  · have := gc_last (cs := flip (wayA s cs i) (wayB s cs o) (chain s cs (wayA s cs i) (wayB s cs o) (o / s.E)) cs) (c := ⟨i, o, wayA s cs i⟩)
    rw [flip_length] at this
    rw [this]; exact ⟨rfl, rfl⟩
omit hs h hl hb in
theorem moveL_old {k : Nat} (hk : k < cs.length) : (gc (moveL s cs i o) k).i = (gc cs k).i ∧ (gc (moveL s cs i o) k).o = (gc cs k).o := by
  unfold moveL
  split
  · rw [gc_append hk]; exact ⟨rfl, rfl⟩
  · rw [gc_append (by rw [flip_length]; exact hk), flip_gc hk]
    split <;> exact ⟨rfl, rfl⟩
omit hs h hl hb in
theorem moveL_free (hf : freeV s cs i o ≠ []) : moved cs (moveL s cs i o) = 0 := by
  unfold moveL
  split
  · exact moved_snoc _ _
  · rename_i e; exact absurd e hf
theorem moveL_moved : (moved cs (moveL s cs i o) : Int) ≤ 2 * s.O - 1 := by
  obtain ⟨⟨o1, o2⟩, ⟨e1, e2⟩, -⟩ := h.1
  by_cases hf : freeV s cs i o = []
  · have hc := chain_ok hs h hl hb hf
    have hlen := hc.len h (way_ne hs h hl hb hf) (way_free hs h hl hb) ⟨Int.ediv_nonneg hl.2.1 (by omega), Int.ediv_lt_of_lt_mul (by omega) (by have := hl.2.2; omega)⟩
    have : moved cs (moveL s cs i o) ≤ (chain s cs (wayA s cs i) (wayB s cs o) (o / s.E)).length := by
      unfold moved movedN
      refine sub_len (List.Nodup.sublist List.filter_sublist List.nodup_range) fun k hk => ?_
      obtain ⟨h1, h2⟩ := List.mem_filter.1 hk
      rw [moveL_length, List.mem_range] at h1
      have hk : k < cs.length := by omega
      refine Classical.byContradiction fun hm => ?_
      unfold moveL at h2
      rw [hf] at h2
      simp only at h2
      rw [gc_append (by rw [flip_length]; exact hk), flip_gc hk, if_neg hm] at h2
      simp at h2
    omega
  · rw [moveL_free hf]; omega
end

/-- without the call from an input -/
def dropL (cs : List Cl) (i : Int) : List Cl := cs.filter fun c => c.i ≠ i
theorem dropL_sub (cs : List Cl) (i : Int) : (dropL cs i).Sublist cs := List.filter_sublist
theorem dropL_no {cs : List Cl} {i : Int} (h : ∀ c ∈ cs, c.i ≠ i) : dropL cs i = cs := List.filter_eq_self.2 fun c hc => by simpa using h c hc
theorem dropL_gone {cs : List Cl} {i : Int} {c : Cl} (h : c ∈ dropL cs i) : c.i ≠ i := by simpa using (List.mem_filter.1 h).2
theorem dropL_take (cs : List Cl) (i : Int) {k : Nat} (hk : k < cs.length) : dropL (cs.take (k + 1)) i = dropL (cs.take k) i ++ if (gc cs k).i = i then [] else [gc cs k] := by
  unfold dropL
  rw [List.take_add_one, gc_some hk, List.filter_append]
  congr 1
  by_cases h : (gc cs k).i = i <;> simp [h]
theorem dropL_len {s : Sp} {cs : List Cl} (h : CV s cs) {i : Int} (hi : ∃ c ∈ cs, c.i = i) : (dropL cs i).length + 1 = cs.length := by
  obtain ⟨c, hc, rfl⟩ := hi
  have hn := h.ins
  clear h
  induction cs with
  | nil => cases hc
  | cons d ds ih =>
    rw [List.map_cons, List.nodup_cons] at hn
    unfold dropL
    rcases List.mem_cons.1 hc with rfl | hc
    · have : dropL ds c.i = ds := dropL_no fun d hd e => hn.1 (List.mem_map.2 ⟨d, hd, e⟩)
      rw [List.filter_cons_of_neg (by simp)]
      unfold dropL at this; rw [this]; rfl
    · have hne : d.i ≠ c.i := fun e => hn.1 (List.mem_map.2 ⟨c, hc, e.symm⟩)
      have := ih hc hn.2
      rw [List.filter_cons_of_pos (by simpa using hne)]
      unfold dropL at this
      simp only [List.length_cons]; omega
theorem dropL_snoc {cs : List Cl} {c : Cl} (h : ∀ d ∈ cs, d.i ≠ c.i) : dropL (cs ++ [c]) c.i = cs := by
  have := dropL_no h
  unfold dropL at *
  rw [List.filter_append, this]; simp

/-- calls for the first lines of a list -/
def routeN (s : Sp) (p : List Int) : Nat → List Cl
  | 0 => []
  | k + 1 => moveL s (routeN s p k) k (p.getD k 0)
theorem routeN_length (s : Sp) (p : List Int) : ∀ k, (routeN s p k).length = k
  | 0 => rfl
  | k + 1 => by rw [routeN, moveL_length, routeN_length s p k]
theorem routeN_at (s : Sp) (p : List Int) : ∀ k, ∀ j, j < k → (gc (routeN s p k) j).i = j ∧ (gc (routeN s p k) j).o = p.getD j 0
  | 0, j, h => absurd h (by omega)
  | k + 1, j, h => by
    have hl := routeN_length s p k
    unfold routeN
    by_cases e : j = k
    · subst e
      have := moveL_last (s := s) (cs := routeN s p j) (i := j) (o := p.getD j 0)
      rwa [hl] at this
    · obtain ⟨a, b⟩ := moveL_old (s := s) (cs := routeN s p k) (i := k) (o := p.getD k 0) (k := j) (by omega)
      rw [a, b]
      exact routeN_at s p k j (by omega)
theorem routeN_CV {s : Sp} {p : List Int} (hs : Enough s) (hp : ∀ x ∈ p, 0 ≤ x ∧ x < p.length) (hn : p.Nodup) (hl : (p.length : Int) = s.O * s.E) : ∀ k, k ≤ p.length → CV s (routeN s p k) ∧ (k < p.length → Lines s k (p.getD k 0) ∧ ¬ Busy (routeN s p k) k (p.getD k 0))
  | k, hk => by
    have hfr : k < p.length → Lines s k (p.getD k 0) ∧ ¬ Busy (routeN s p k) k (p.getD k 0) := fun hlt => by
      have hm : ∀ j, j < p.length → p.getD j 0 = p[j]! := fun j hj => by simp [List.getD, hj]
      have hx := hp (p.getD k 0) (by simp [List.getD, hlt])
      refine ⟨⟨by omega, by omega⟩, ?_⟩
      rintro ⟨c, hc, e⟩
      obtain ⟨j, hj, rfl⟩ := mem_gc hc
      rw [routeN_length] at hj
      obtain ⟨e1, e2⟩ := routeN_at s p k j hj
      rcases e with e | e
      · rw [e1] at e; omega
      · rw [e2] at e
        have hjl : j < p.length := by omega
        have e3 : p[j] = p[k] := by simpa [List.getD, hjl, hlt] using e
        have := (List.getElem_inj hn).1 e3
        omega
    refine ⟨?_, hfr⟩
    cases k with
    | zero => exact CV_nil.2 hs.1
    | succ k =>
      obtain ⟨h1, h2⟩ := routeN_CV hs hp hn hl k (by omega)
      obtain ⟨h3, h4⟩ := h2 (by omega)
      exact moveL_CV hs h1 h3 h4
end Go.Clos
