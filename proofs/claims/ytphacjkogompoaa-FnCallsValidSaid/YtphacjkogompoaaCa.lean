/- Calls through networks of three stages: what they are, and how many. -/
import Derived.Test.YtphacjkogompoaaFacts
set_option linter.unusedSimpArgs false
set_option linter.unusedVariables false
namespace Go.Clos

structure Sp where
  O : Int
  E : Int
  M : Int
deriving DecidableEq

def SV (s : Sp) : Prop := (1 ≤ s.O ∧ s.O ≤ 4) ∧ (1 ≤ s.E ∧ s.E ≤ 3) ∧ (1 ≤ s.M ∧ s.M ≤ 5)
instance (s : Sp) : Decidable (SV s) := by unfold SV; infer_instance
def Rg (s : Sp) (c : Cl) : Prop := (0 ≤ c.i ∧ c.i ≤ s.O * s.E - 1) ∧ (0 ≤ c.o ∧ c.o ≤ s.O * s.E - 1) ∧ (0 ≤ c.v ∧ c.v ≤ s.M - 1)
instance (s : Sp) (c : Cl) : Decidable (Rg s c) := by unfold Rg; infer_instance
/-- two calls that are not possible at the same time -/
def Hit (s : Sp) (c d : Cl) : Prop := c.i = d.i ∨ c.o = d.o ∨ c.v = d.v ∧ (c.i / s.E = d.i / s.E ∨ c.o / s.E = d.o / s.E)
instance (s : Sp) (c d : Cl) : Decidable (Hit s c d) := by unfold Hit; infer_instance
theorem Hit.symm {s : Sp} {c d : Cl} (h : Hit s c d) : Hit s d c := by
  rcases h with h | h | ⟨h, g | g⟩
  · exact .inl h.symm
  · exact .inr (.inl h.symm)
  · exact .inr (.inr ⟨h.symm, .inl g.symm⟩)
  · exact .inr (.inr ⟨h.symm, .inr g.symm⟩)
def CV (s : Sp) (cs : List Cl) : Prop := SV s ∧ (∀ c ∈ cs, Rg s c) ∧ cs.Pairwise fun d c => ¬ Hit s c d
instance (s : Sp) (cs : List Cl) : Decidable (CV s cs) := by unfold CV; infer_instance
theorem CV_nil {s : Sp} : CV s [] ↔ SV s := by simp [CV]
theorem CV_snoc {s : Sp} {cs : List Cl} {c : Cl} : CV s (cs ++ [c]) ↔ CV s cs ∧ Rg s c ∧ ∀ d ∈ cs, ¬ Hit s c d := by
  unfold CV
  simp only [List.mem_append, List.mem_singleton, List.pairwise_append, List.pairwise_cons, List.Pairwise.nil]
  constructor
  · rintro ⟨h1, h2, h3, -, h4⟩
    exact ⟨⟨h1, fun d hd => h2 d (.inl hd), h3⟩, h2 c (.inr rfl), fun d hd => h4 d hd c rfl⟩
  · rintro ⟨⟨h1, h2, h3⟩, h4, h5⟩
    exact ⟨h1, fun d hd => hd.elim (h2 d) (fun e => e ▸ h4), h3, ⟨fun _ h => absurd h (by simp), trivial⟩, fun d hd e he => he ▸ h5 d hd⟩
theorem CV.sub {s : Sp} {cs ds : List Cl} (h : CV s cs) (hs : ds.Sublist cs) : CV s ds := ⟨h.1, fun c hc => h.2.1 c (hs.subset hc), h.2.2.sublist hs⟩
theorem CV.two {s : Sp} {cs : List Cl} (h : CV s cs) {k l : Nat} {c d : Cl} (hk : cs[k]? = some c) (hl : cs[l]? = some d) (hne : k ≠ l) : ¬ Hit s c d := by
  obtain ⟨hk1, rfl⟩ := List.getElem?_eq_some_iff.1 hk
  obtain ⟨hl1, rfl⟩ := List.getElem?_eq_some_iff.1 hl
  have := List.pairwise_iff_getElem.1 h.2.2
  rcases Nat.lt_or_ge k l with hlt | hge
  · exact fun hh => this k l hk1 hl1 hlt hh.symm
  · exact fun hh => this l k hl1 hk1 (by omega) hh
theorem CV.one {s : Sp} {cs : List Cl} (h : CV s cs) {k l : Nat} {c d : Cl} (hk : cs[k]? = some c) (hl : cs[l]? = some d) (hh : Hit s c d) : k = l :=
  Classical.byContradiction fun hne => h.two hk hl hne hh
theorem CV.of_index {s : Sp} {cs : List Cl} (h1 : SV s) (h2 : ∀ c ∈ cs, Rg s c) (h3 : ∀ (k l : Nat) (c d : Cl), cs[k]? = some c → cs[l]? = some d → l < k → ¬ Hit s c d) : CV s cs := by
  refine ⟨h1, h2, List.pairwise_iff_getElem.2 fun i j hi hj hij => ?_⟩
  exact h3 j i _ _ (List.getElem?_eq_getElem hj) (List.getElem?_eq_getElem hi) hij

/-- a list without the same twice is not longer than one that has all of it -/
theorem sub_len {α : Type} [DecidableEq α] : ∀ {xs ys : List α}, xs.Nodup → (∀ x ∈ xs, x ∈ ys) → xs.length ≤ ys.length
  | [], ys, _, _ => Nat.zero_le _
  | x :: xs, ys, h, hs => by
    rw [List.nodup_cons] at h
    have hx : x ∈ ys := hs x (by simp)
    have := sub_len (ys := ys.erase x) h.2 fun y hy => (List.mem_erase_of_ne (fun (e : y = x) => h.1 (by rw [← e]; exact hy))).2 (hs y (by simp [hy]))
    rw [List.length_erase_of_mem hx] at this
    have := List.length_pos_of_mem hx
    simp only [List.length_cons]; omega
def rng (n : Nat) : List Int := (List.range n).map fun (k : Nat) => (k : Int)
theorem mem_rng {n : Nat} {x : Int} : x ∈ rng n ↔ 0 ≤ x ∧ x < n := by
  simp only [rng, List.mem_map, List.mem_range]
  constructor
  · rintro ⟨k, h, rfl⟩; omega
  · rintro ⟨h1, h2⟩; exact ⟨x.toNat, by omega, by omega⟩
theorem rng_length (n : Nat) : (rng n).length = n := by simp [rng]
theorem rng_nodup (n : Nat) : (rng n).Nodup := by
  unfold rng
  rw [List.nodup_iff_pairwise_ne, List.pairwise_map]
  exact (List.nodup_iff_pairwise_ne.1 List.nodup_range).imp fun h e => h (by omega)
theorem rng_succ (n : Nat) : rng (n + 1) = rng n ++ [(n : Int)] := by simp [rng, List.range_succ]
theorem pig {n : Nat} {lo : Int} {xs : List Int} (h : xs.Nodup) (hx : ∀ x ∈ xs, lo ≤ x ∧ x < lo + n) : xs.length ≤ n := by
  have := sub_len (xs := xs) (ys := (rng n).map (lo + ·)) h fun x hm => List.mem_map.2 ⟨x - lo, mem_rng.2 (by have := hx x hm; omega), by omega⟩
  simpa [rng] using this
theorem nodup_map {α : Type} {f : α → Int} {xs : List α} (h : xs.Pairwise fun d c => f d ≠ f c) : (xs.map f).Nodup := by
  rw [List.nodup_iff_pairwise_ne, List.pairwise_map]; exact h

section
variable {s : Sp} {cs : List Cl} (h : CV s cs)
include h
theorem CV.pw {P : Cl → Cl → Prop} (hp : ∀ c d, ¬ Hit s c d → P d c) : cs.Pairwise P := h.2.2.imp fun {a b} hh => hp b a hh
theorem CV.ins : (cs.map (·.i)).Nodup := nodup_map (h.pw fun c d hh e => hh (.inl e.symm))
theorem CV.outs : (cs.map (·.o)).Nodup := nodup_map (h.pw fun c d hh e => hh (.inr (.inl e.symm)))
theorem CV.len : cs.length ≤ 12 := by
  have := pig (lo := 0) (n := (s.O * s.E).toNat) h.ins fun x hx => by
    obtain ⟨c, hc, rfl⟩ := List.mem_map.1 hx
    have := (h.2.1 c hc).1
    omega
  rw [List.length_map] at this
  obtain ⟨⟨o1, o2⟩, ⟨e1, e2⟩, -⟩ := h.1
  have h12 : s.O * s.E ≤ 4 * 3 := Int.mul_le_mul o2 e2 (by omega) (by omega)
  omega
/-- through each middle switch go at most as many calls as there are outer switches -/
theorem CV.via (v : Int) : (cs.filter fun c => c.v = v).length ≤ s.O.toNat := by
  obtain ⟨⟨o1, o2⟩, ⟨e1, e2⟩, -⟩ := h.1
  have hp : (cs.filter fun c => c.v = v).Pairwise fun d c => d.i / s.E ≠ c.i / s.E := by
    have hsub : (cs.filter fun c => decide (c.v = v)).Sublist cs := List.filter_sublist
    refine (h.2.2.sublist hsub).imp_of_mem fun {d c} hd hc hh e => ?_
    have h1 : d.v = v := by simpa using (List.mem_filter.1 hd).2
    have h2 : c.v = v := by simpa using (List.mem_filter.1 hc).2
    exact hh (.inr (.inr ⟨by rw [h1, h2], .inl e.symm⟩))
  have := pig (lo := 0) (n := s.O.toNat) (nodup_map hp) fun x hx => by
    obtain ⟨c, hc, rfl⟩ := List.mem_map.1 hx
    have := (h.2.1 c (List.mem_filter.1 hc).1).1
    have h1 : 0 ≤ c.i / s.E := Int.ediv_nonneg this.1 (by omega)
    have h2 : c.i / s.E < s.O := Int.ediv_lt_of_lt_mul (by omega) (by omega)
    omega
  simpa using this
/-- the calls from an outer switch, of which a line is free -/
theorem CV.from_ {i : Int} (hi : ∀ c ∈ cs, c.i ≠ i) : (cs.filter fun c => c.i / s.E = i / s.E).length + 1 ≤ s.E.toNat := by
  obtain ⟨⟨o1, o2⟩, ⟨e1, e2⟩, -⟩ := h.1
  have hsub : (cs.filter fun c => decide (c.i / s.E = i / s.E)).Sublist cs := List.filter_sublist
  have hn : (i :: (cs.filter fun c => decide (c.i / s.E = i / s.E)).map (·.i)).Nodup := by
    rw [List.nodup_cons]
    refine ⟨fun hm => ?_, (h.sub hsub).ins⟩
    obtain ⟨c, hc, e⟩ := List.mem_map.1 hm
    exact hi c (hsub.subset hc) e
  have := pig (lo := i / s.E * s.E) (n := s.E.toNat) hn fun x hx => by
    have key : ∀ y : Int, y / s.E = i / s.E → i / s.E * s.E ≤ y ∧ y < i / s.E * s.E + s.E.toNat := fun y e => by
      rw [← e]
      have h1 := Int.emod_nonneg y (show s.E ≠ 0 by omega)
      have h2 := Int.emod_lt_of_pos y (show 0 < s.E by omega)
      have h3 := Int.mul_ediv_add_emod y s.E
      rw [Int.mul_comm] at h3
      omega
    rcases List.mem_cons.1 hx with rfl | hx
    · exact key _ rfl
    · obtain ⟨c, hc, rfl⟩ := List.mem_map.1 hx
      exact key _ (by simpa using (List.mem_filter.1 hc).2)
  simpa using this
theorem CV.to_ {o : Int} (ho : ∀ c ∈ cs, c.o ≠ o) : (cs.filter fun c => c.o / s.E = o / s.E).length + 1 ≤ s.E.toNat := by
  obtain ⟨⟨o1, o2⟩, ⟨e1, e2⟩, -⟩ := h.1
  have hsub : (cs.filter fun c => decide (c.o / s.E = o / s.E)).Sublist cs := List.filter_sublist
  have hn : (o :: (cs.filter fun c => decide (c.o / s.E = o / s.E)).map (·.o)).Nodup := by
    rw [List.nodup_cons]
    refine ⟨fun hm => ?_, (h.sub hsub).outs⟩
    obtain ⟨c, hc, e⟩ := List.mem_map.1 hm
    exact ho c (hsub.subset hc) e
  have := pig (lo := o / s.E * s.E) (n := s.E.toNat) hn fun x hx => by
    have key : ∀ y : Int, y / s.E = o / s.E → o / s.E * s.E ≤ y ∧ y < o / s.E * s.E + s.E.toNat := fun y e => by
      rw [← e]
      have h1 := Int.emod_nonneg y (show s.E ≠ 0 by omega)
      have h2 := Int.emod_lt_of_pos y (show 0 < s.E by omega)
      have h3 := Int.mul_ediv_add_emod y s.E
      rw [Int.mul_comm] at h3
      omega
    rcases List.mem_cons.1 hx with rfl | hx
    · exact key _ rfl
    · obtain ⟨c, hc, rfl⟩ := List.mem_map.1 hx
      exact key _ (by simpa using (List.mem_filter.1 hc).2)
  simpa using this
end

/-- the middle switches that the calls of an outer switch use -/
def usedI (s : Sp) (cs : List Cl) (x : Int) : List Int := (cs.filter fun c => c.i / s.E = x).map (·.v)
def usedO (s : Sp) (cs : List Cl) (x : Int) : List Int := (cs.filter fun c => c.o / s.E = x).map (·.v)
theorem mem_usedI {s : Sp} {cs : List Cl} {x v : Int} : v ∈ usedI s cs x ↔ ∃ c ∈ cs, c.i / s.E = x ∧ c.v = v := by
  unfold usedI
  simp only [List.mem_map, List.mem_filter, decide_eq_true_eq]
  exact ⟨fun ⟨c, ⟨a, b⟩, d⟩ => ⟨c, a, b, d⟩, fun ⟨c, a, b, d⟩ => ⟨c, ⟨a, b⟩, d⟩⟩
theorem mem_usedO {s : Sp} {cs : List Cl} {x v : Int} : v ∈ usedO s cs x ↔ ∃ c ∈ cs, c.o / s.E = x ∧ c.v = v := by
  unfold usedO
  simp only [List.mem_map, List.mem_filter, decide_eq_true_eq]
  exact ⟨fun ⟨c, ⟨a, b⟩, d⟩ => ⟨c, a, b, d⟩, fun ⟨c, a, b, d⟩ => ⟨c, ⟨a, b⟩, d⟩⟩
/-- the first middle switch that is not used -/
def firstN (used : List Int) : Nat → Nat → Int
  | 0, _ => -1
  | n + 1, k => if (k : Int) ∈ used then firstN used n (k + 1) else k
theorem firstN_cases (used : List Int) : ∀ n k : Nat, (firstN used n k = -1 ∧ ∀ j, k ≤ j → j < k + n → (j : Int) ∈ used) ∨ ∃ j : Nat, firstN used n k = j ∧ k ≤ j ∧ j < k + n ∧ (j : Int) ∉ used
  | 0, k => .inl ⟨rfl, fun j h1 h2 => absurd h2 (by omega)⟩
  | n + 1, k => by
    unfold firstN
    by_cases h : (k : Int) ∈ used
    · rw [if_pos h]
      rcases firstN_cases used n (k + 1) with ⟨e, hj⟩ | ⟨j, e, h1, h2, h3⟩
      · refine .inl ⟨e, fun j h1 h2 => ?_⟩
        rcases Nat.eq_or_lt_of_le h1 with rfl | h1
        · exact h
        · exact hj j (by omega) (by omega)
      · exact .inr ⟨j, e, by omega, by omega, h3⟩
    · rw [if_neg h]; exact .inr ⟨k, rfl, by omega, by omega, h⟩
theorem firstN_some {used : List Int} {n : Nat} (h : used.length < n) : ∃ j : Nat, firstN used n 0 = j ∧ j < n ∧ (j : Int) ∉ used := by
  rcases firstN_cases used n 0 with ⟨-, hj⟩ | ⟨j, e, -, h2, h3⟩
  · exfalso
    have := sub_len (xs := rng n) (ys := used) (rng_nodup n) fun x hx => by
      obtain ⟨a, b⟩ := mem_rng.1 hx
      have := hj x.toNat (by omega) (by omega)
      rwa [Int.toNat_of_nonneg a] at this
    rw [rng_length] at this
    omega
  · exact ⟨j, e, by omega, h3⟩

/-- a call can go through a middle switch -/
def Free (s : Sp) (cs : List Cl) (i o v : Int) : Prop := CV s (cs ++ [⟨i, o, v⟩])
instance (s : Sp) (cs : List Cl) (i o v : Int) : Decidable (Free s cs i o v) := by unfold Free; infer_instance
/-- a line has a call -/
def Busy (cs : List Cl) (i o : Int) : Prop := ∃ c ∈ cs, c.i = i ∨ c.o = o
instance (cs : List Cl) (i o : Int) : Decidable (Busy cs i o) := by unfold Busy; infer_instance
def Lines (s : Sp) (i o : Int) : Prop := (0 ≤ i ∧ i ≤ s.O * s.E - 1) ∧ (0 ≤ o ∧ o ≤ s.O * s.E - 1)
instance (s : Sp) (i o : Int) : Decidable (Lines s i o) := by unfold Lines; infer_instance
theorem Free.lines {s : Sp} {cs : List Cl} {i o v : Int} (h : Free s cs i o v) : CV s cs ∧ Lines s i o ∧ ¬ Busy cs i o ∧ 0 ≤ v ∧ v ≤ s.M - 1 := by
  obtain ⟨a, ⟨b, c, d⟩, e⟩ := CV_snoc.1 h
  refine ⟨a, ⟨b, c⟩, ?_, d⟩
  rintro ⟨x, hx, h1 | h1⟩
  · exact e x hx (.inl h1.symm)
  · exact e x hx (.inr (.inl h1.symm))
theorem free_iff {s : Sp} {cs : List Cl} {i o v : Int} (h : CV s cs) (hl : Lines s i o) (hb : ¬ Busy cs i o) (hv : 0 ≤ v ∧ v ≤ s.M - 1) : Free s cs i o v ↔ v ∉ usedI s cs (i / s.E) ∧ v ∉ usedO s cs (o / s.E) := by
  unfold Free
  rw [CV_snoc, mem_usedI, mem_usedO]
  constructor
  · rintro ⟨-, -, e⟩
    exact ⟨fun ⟨c, hc, a, b⟩ => e c hc (.inr (.inr ⟨b.symm, .inl a.symm⟩)), fun ⟨c, hc, a, b⟩ => e c hc (.inr (.inr ⟨b.symm, .inr a.symm⟩))⟩
  · rintro ⟨n1, n2⟩
    refine ⟨h, ⟨hl.1, hl.2, hv⟩, fun d hd hh => ?_⟩
    rcases hh with e | e | ⟨e, e2 | e2⟩
    · exact hb ⟨d, hd, .inl e.symm⟩
    · exact hb ⟨d, hd, .inr e.symm⟩
    · exact n1 ⟨d, hd, e2.symm, e.symm⟩
    · exact n2 ⟨d, hd, e2.symm, e.symm⟩
def freeL (s : Sp) (cs : List Cl) (i o : Int) (n : Nat) : List Int := (rng n).filter fun v => Free s cs i o v
theorem freeL_succ (s : Sp) (cs : List Cl) (i o : Int) (n : Nat) : freeL s cs i o (n + 1) = freeL s cs i o n ++ (if Free s cs i o n then [(n : Int)] else []) := by
  unfold freeL
  rw [rng_succ, List.filter_append]
  congr 1
  by_cases h : Free s cs i o n <;> simp [h]
/-- the middle switches that are free -/
def freeV (s : Sp) (cs : List Cl) (i o : Int) : List Int := freeL s cs i o s.M.toNat
theorem mem_freeV {s : Sp} {cs : List Cl} {i o v : Int} : v ∈ freeV s cs i o ↔ Free s cs i o v := by
  unfold freeV freeL
  rw [List.mem_filter, mem_rng, decide_eq_true_eq]
  exact ⟨fun h => h.2, fun h => ⟨by have := h.lines.2.2.2; omega, h⟩⟩
theorem freeV_no {s : Sp} {cs : List Cl} {i o : Int} (h : ¬ (CV s cs ∧ Lines s i o ∧ ¬ Busy cs i o)) : freeV s cs i o = [] :=
  List.eq_nil_iff_forall_not_mem.2 fun v hv => h (by have := (mem_freeV.1 hv).lines; exact ⟨this.1, this.2.1, this.2.2.1⟩)
def Strict (s : Sp) : Prop := SV s ∧ 2 * s.E - 1 ≤ s.M
def Enough (s : Sp) : Prop := SV s ∧ s.E ≤ s.M
instance (s : Sp) : Decidable (Strict s) := by unfold Strict; infer_instance
instance (s : Sp) : Decidable (Enough s) := by unfold Enough; infer_instance
theorem Strict.enough {s : Sp} (h : Strict s) : Enough s := ⟨h.1, by have := h.1.2.1; have := h.2; omega⟩
theorem not_busyI {cs : List Cl} {i o : Int} (h : ¬ Busy cs i o) : ∀ c ∈ cs, c.i ≠ i := fun c hc e => h ⟨c, hc, .inl e⟩
theorem not_busyO {cs : List Cl} {i o : Int} (h : ¬ Busy cs i o) : ∀ c ∈ cs, c.o ≠ o := fun c hc e => h ⟨c, hc, .inr e⟩
/-- in a strict network there is always one that is free -/
theorem strict_free {s : Sp} {cs : List Cl} {i o : Int} (hs : Strict s) (h : CV s cs) (hl : Lines s i o) (hb : ¬ Busy cs i o) : freeV s cs i o ≠ [] := by
  have f1 := h.from_ (not_busyI hb)
  have f2 := h.to_ (not_busyO hb)
  obtain ⟨⟨-, ⟨e1, e2⟩, -⟩, hm⟩ := hs
  obtain ⟨j, -, hj, hn⟩ := firstN_some (used := usedI s cs (i / s.E) ++ usedO s cs (o / s.E)) (n := s.M.toNat) (by
    unfold usedI usedO
    rw [List.length_append, List.length_map, List.length_map]; omega)
  rw [List.mem_append] at hn
  have hv : 0 ≤ (j : Int) ∧ (j : Int) ≤ s.M - 1 := by omega
  exact List.ne_nil_of_mem (mem_freeV.2 ((free_iff h hl hb hv).2 ⟨fun e => hn (.inl e), fun e => hn (.inr e)⟩))
theorem SV.lines {s : Sp} (h : SV s) : 1 ≤ s.O * s.E ∧ s.O * s.E ≤ 12 := by
  obtain ⟨⟨o1, o2⟩, ⟨e1, e2⟩, -⟩ := h
  have h12 : s.O * s.E ≤ 4 * 3 := Int.mul_le_mul o2 e2 (by omega) (by omega)
  have h1 : 1 * 1 ≤ s.O * s.E := Int.mul_le_mul o1 e1 (by omega) (by omega)
  omega
/-- the numbers of a call that are divided are not below 0 -/
def Nng (c : Cl) : Prop := (0 ≤ c.i ∧ c.i ≤ 1000) ∧ (0 ≤ c.o ∧ c.o ≤ 1000)
theorem Rg.nng {s : Sp} {c : Cl} (hS : SV s) (h : Rg s c) : Nng c := by
  have := hS.lines
  obtain ⟨h1, h2, -⟩ := h
  exact ⟨⟨h1.1, by omega⟩, h2.1, by omega⟩
end Go.Clos
