/- Calls that meet while a chain is moved. -/
import Derived.Test.YtphacjkogompoaaCf
set_option linter.unusedSimpArgs false
set_option linter.unusedVariables false
set_option linter.unusedSectionVars false
namespace Go.Clos

/-- the chain so far, and the call that was moved last (at the start: the further call) -/
def Cur (s : Sp) (cs : List Cl) (a b o : Int) (ch : List Nat) (sd : Bool) (x : Int) (kk : Nat) : Prop :=
  (ch = [] ∧ sd = true ∧ x = o / s.E ∧ kk = cs.length) ∨ (kk ∈ ch ∧ x = sw s sd (gc cs kk) ∧ (gc cs kk).v = wantOf a b (!sd))
def halfway (s : Sp) (cs : List Cl) (a b i o : Int) (ch : List Nat) : List Cl := flip a b ch cs ++ [⟨i, o, a⟩]
theorem halfway_length (s : Sp) (cs : List Cl) (a b i o : Int) (ch : List Nat) : (halfway s cs a b i o ch).length = cs.length + 1 := by simp [halfway, flip_length]
theorem halfway_old {s : Sp} {cs : List Cl} {a b i o : Int} {ch : List Nat} {k : Nat} (h : k < cs.length) : gc (halfway s cs a b i o ch) k = if k ∈ ch then ⟨(gc cs k).i, (gc cs k).o, a + b - (gc cs k).v⟩ else gc cs k := by
  unfold halfway; rw [gc_append (by rw [flip_length]; exact h), flip_gc h]
theorem halfway_new {s : Sp} {cs : List Cl} {a b i o : Int} {ch : List Nat} : gc (halfway s cs a b i o ch) cs.length = ⟨i, o, a⟩ := by
  unfold halfway; have := gc_last (cs := flip a b ch cs) (c := ⟨i, o, a⟩); rwa [flip_length] at this
theorem hit_cases {s : Sp} {c d : Cl} (h : Hit s c d) : c.i = d.i ∨ c.o = d.o ∨ ∃ t, sw s t c = sw s t d ∧ c.v = d.v := by
  rcases h with h | h | ⟨h, g | g⟩
  · exact .inl h
  · exact .inr (.inl h)
  · exact .inr (.inr ⟨false, g, h⟩)
  · exact .inr (.inr ⟨true, g, h⟩)

section
variable {s : Sp} {cs : List Cl} {a b i o : Int} (h : CV s cs) (hb : ¬ Busy cs i o) (hab : a ≠ b) (hA : a ∉ usedI s cs (i / s.E)) (hB : b ∉ usedO s cs (o / s.E))
include h hb hab hA hB
theorem meets {ch : List Nat} {sd : Bool} {x : Int} {kk : Nat} (hi : Inv s cs a b (o / s.E) ch sd x) (hc : Cur s cs a b o ch sd x kk) {m : Nat} (hm : m < cs.length + 1) (hne : m ≠ kk) :
    Hit s (gc (halfway s cs a b i o ch) kk) (gc (halfway s cs a b i o ch) m) ↔ m < cs.length ∧ AtC s sd x (wantOf a b sd) (gc cs m) ∧ m ∉ ch := by
  have hAk : ∀ k, k < cs.length → sw s false (gc cs k) = i / s.E → (gc cs k).v ≠ a := fun k hk e e2 => hA (mem_usedI.2 ⟨_, gc_mem hk, e, e2⟩)
  have hBk : ∀ k, k < cs.length → sw s true (gc cs k) = o / s.E → (gc cs k).v ≠ b := fun k hk e e2 => hB (mem_usedO.2 ⟨_, gc_mem hk, e, e2⟩)
  have hbi := not_busyI hb
  have hbo := not_busyO hb
  have hw : a + b - wantOf a b (!sd) = wantOf a b sd := by cases sd <;> simp [wantOf] <;> omega
  rcases hc with ⟨rfl, rfl, rfl, rfl⟩ | ⟨hk, hx, hv⟩
  · have hml : m < cs.length := by omega
    rw [halfway_new, halfway_old hml, if_neg (by simp)]
    constructor
    · intro hh
      rcases hit_cases hh with e | e | ⟨t, e, e2⟩
      · exact absurd e.symm (hbi _ (gc_mem hml))
      · exact absurd e.symm (hbo _ (gc_mem hml))
      · cases t with
        | false => exact absurd e2.symm (hAk m hml e.symm)
        | true => exact ⟨hml, ⟨e.symm, e2.symm⟩, by simp⟩
    · rintro ⟨_, ⟨e1, e2⟩, _⟩
      exact hit_sw (sd := true) e1.symm e2.symm
  · have hkl := hi.lt kk hk
    rw [halfway_old hkl, if_pos hk]
    by_cases e : m = cs.length
    · subst e
      rw [halfway_new]
      constructor
      · intro hh
        rcases hit_cases hh with e | e | ⟨t, e, e2⟩
        · exact absurd e (hbi (gc cs kk) (gc_mem hkl))
        · exact absurd e (hbo (gc cs kk) (gc_mem hkl))
        · have hvb : (gc cs kk).v = b := by dsimp only at e2; omega
          cases t with
          | false =>
            obtain ⟨l, hl, f1, f2⟩ := hi.from_ kk hk hvb
            exact absurd f1 (hAk l (hi.lt l hl) (f2.trans e))
          | true => exact absurd hvb (hBk kk hkl e)
      · rintro ⟨e1, _⟩; omega
    · have hml : m < cs.length := by omega
      rw [halfway_old hml]
      have hno := h.two (gc_some hkl) (gc_some hml) (by omega)
      by_cases hmc : m ∈ ch
      · rw [if_pos hmc]
        constructor
        · intro hh
          rcases hit_cases hh with e | e | ⟨t, e, e2⟩
          · exact absurd (.inl e) hno
          · exact absurd (.inr (.inl e)) hno
          · exact absurd (hit_sw (c := gc cs kk) (d := gc cs m) (sd := t) e (by dsimp only at e2; omega)) hno
        · rintro ⟨_, _, e1⟩; exact absurd hmc e1
      · rw [if_neg hmc]
        constructor
        · intro hh
          rcases hit_cases hh with e | e | ⟨t, e, e2⟩
          · exact absurd (.inl e) hno
          · exact absurd (.inr (.inl e)) hno
          · refine ⟨hml, ?_, hmc⟩
            exact (hi.cl kk hk t m hml e.symm (by dsimp only at e2; omega)).elim (fun hh => absurd hh hmc) id
        · rintro ⟨_, ⟨e1, e2⟩, _⟩
          refine hit_sw (sd := sd) (hx.symm.trans e1.symm) ?_
          show a + b - (gc cs kk).v = (gc cs m).v
          rw [e2, hv, hw]
theorem cur_step {ch : List Nat} {sd : Bool} {x : Int} {k : Nat} (hn : nxt s cs ch sd x (wantOf a b sd) cs.length = some k) : Cur s cs a b o (ch ++ [k]) (!sd) (sw s (!sd) (gc cs k)) k := by
  obtain ⟨hk, ⟨k1, k2⟩, k3⟩ := nxt_some hn
  exact .inr ⟨by simp, rfl, by rw [k2, Bool.not_not]⟩
/-- the first call that meets the one that was moved last is the next of the chain -/
theorem meet_first {ch : List Nat} {sd : Bool} {x : Int} {kk : Nat} (hi : Inv s cs a b (o / s.E) ch sd x) (hc : Cur s cs a b o ch sd x kk) {z : Int}
    (hz : (z = -1 ∧ ∀ m, m < cs.length + 1 → m ≠ kk → ¬ Hit s (gc (halfway s cs a b i o ch) kk) (gc (halfway s cs a b i o ch) m)) ∨ ∃ m : Nat, z = m ∧ m < cs.length + 1 ∧ m ≠ kk ∧ Hit s (gc (halfway s cs a b i o ch) kk) (gc (halfway s cs a b i o ch) m)) :
    z = nI (nxt s cs ch sd x (wantOf a b sd) cs.length) := by
  have hM := fun m hm hne => meets h hb hab hA hB hi hc (m := m) hm hne
  cases hn : nxt s cs ch sd x (wantOf a b sd) cs.length with
  | none =>
    rcases hz with ⟨rfl, _⟩ | ⟨m, rfl, h1, h2, h3⟩
    · rfl
    · obtain ⟨g1, g2, g3⟩ := (hM m h1 h2).1 h3
      exact absurd (nxt_none hn m g1 g2) g3
  | some k =>
    obtain ⟨k1, k2, k3⟩ := nxt_some hn
    have hkk : k ≠ kk := by
      rintro rfl
      rcases hc with ⟨_, _, _, e⟩ | ⟨e, _⟩
      · omega
      · exact k3 e
    rcases hz with ⟨rfl, hall⟩ | ⟨m, rfl, h1, h2, h3⟩
    · exact absurd ((hM k (by omega) hkk).2 ⟨k1, k2, k3⟩) (hall k (by omega) hkk)
    · obtain ⟨g1, g2, g3⟩ := (hM m h1 h2).1 h3
      have : m = k := h.sw_one (sd := sd) g1 k1 (by rw [g2.1, k2.1]) (by rw [g2.2, k2.2])
      subst this; rfl
end
theorem halfway_nil (s : Sp) (cs : List Cl) (a b i o : Int) : halfway s cs a b i o [] = cs ++ [⟨i, o, a⟩] := by unfold halfway; rw [flip_nil]
theorem halfway_step {s : Sp} {cs : List Cl} {a b i o : Int} {ch : List Nat} {k : Nat} (hk : k < cs.length) (hm : k ∉ ch) :
    (halfway s cs a b i o ch).set k ⟨(gc cs k).i, (gc cs k).o, a + b - (gc cs k).v⟩ = halfway s cs a b i o (ch ++ [k]) ∧ gc (halfway s cs a b i o ch) k = gc cs k := by
  obtain ⟨h1, h2⟩ := flip_step (a := a) (b := b) hk hm
  constructor
  · unfold halfway
    rw [List.set_append_left _ _ (by rw [flip_length]; exact hk), h1]
  · rw [halfway_old hk, if_neg hm]
end Go.Clos
