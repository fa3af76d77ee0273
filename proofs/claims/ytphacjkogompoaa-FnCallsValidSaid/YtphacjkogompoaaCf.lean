/- The chain, step by step. -/
import Derived.Test.YtphacjkogompoaaCe
set_option linter.unusedSimpArgs false
set_option linter.unusedVariables false
set_option linter.unusedSectionVars false
namespace Go.Clos

theorem flip_nil (a b : Int) (cs : List Cl) : flip a b [] cs = cs := by
  apply List.ext_getElem?
  intro j
  unfold flip
  rw [List.getElem?_mapIdx]
  cases cs[j]? <;> simp
theorem flip_step {a b : Int} {ch : List Nat} {cs : List Cl} {k : Nat} (hk : k < cs.length) (hm : k ∉ ch) : (flip a b ch cs).set k ⟨(gc cs k).i, (gc cs k).o, a + b - (gc cs k).v⟩ = flip a b (ch ++ [k]) cs ∧ gc (flip a b ch cs) k = gc cs k := by
  refine ⟨?_, by rw [flip_gc hk, if_neg hm]⟩
  apply List.ext_getElem?
  intro j
  rw [List.getElem?_set]
  have hl := flip_length a b ch cs
  by_cases e : k = j
  · subst e
    rw [if_pos rfl, if_pos (by omega)]
    unfold flip
    rw [List.getElem?_mapIdx, gc_some hk]
    simp
  · rw [if_neg e]
    unfold flip
    rw [List.getElem?_mapIdx, List.getElem?_mapIdx]
    cases hj : cs[j]? with
    | none => rfl
    | some c =>
      have : j ≠ k := fun h => e h.symm
      simp [this]
/-- an index, or that there is none, as the reference writes it -/
def nI : Option Nat → Int
  | none => -1
  | some k => k
theorem nxt_succ (s : Sp) (cs : List Cl) (ch : List Nat) (sd : Bool) (x w : Int) (n : Nat) : nI (nxt s cs ch sd x w (n + 1)) = if AtC s sd x w (gc cs n) ∧ n ∉ ch then (n : Int) else nI (nxt s cs ch sd x w n) := by
  conv => lhs; rw [nxt]
  split <;> rfl
def chI (ch : List Nat) : List Int := ch.map fun (k : Nat) => (k : Int)
theorem chI_length (ch : List Nat) : (chI ch).length = ch.length := by simp [chI]
theorem chI_getD {ch : List Nat} {k : Nat} (h : k < ch.length) : (chI ch).getD k 0 = (ch.getD k 0 : Nat) := by simp [chI, List.getD, h]
theorem mem_chI {ch : List Nat} {k : Nat} : (k : Int) ∈ chI ch ↔ k ∈ ch := by
  simp only [chI, List.mem_map]
  constructor
  · rintro ⟨j, hj, e⟩
    have : j = k := by omega
    rw [← this]; exact hj
  · intro h; exact ⟨k, h, rfl⟩
theorem chI_snoc (ch : List Nat) (k : Nat) : chI (ch ++ [k]) = chI ch ++ [(k : Int)] := by simp [chI]
theorem go_none {s : Sp} {cs : List Cl} {a b : Int} {f : Nat} {ch : List Nat} {sd : Bool} {x : Int} (h : nxt s cs ch sd x (wantOf a b sd) cs.length = none) : go s cs a b f ch sd x = ch := by
  cases f with
  | zero => rfl
  | succ f => rw [go, h]
theorem go_some {s : Sp} {cs : List Cl} {a b : Int} {f : Nat} {ch : List Nat} {sd : Bool} {x : Int} {k : Nat} (h : nxt s cs ch sd x (wantOf a b sd) cs.length = some k) : go s cs a b (f + 1) ch sd x = go s cs a b f (ch ++ [k]) (!sd) (sw s (!sd) (gc cs k)) := by
  rw [go, h]
/-- there is room for a next one -/
theorem Inv.room {s : Sp} {cs : List Cl} {a b B : Int} {ch : List Nat} {sd : Bool} {x w : Int} {k : Nat} (hi : Inv s cs a b B ch sd x) (h : nxt s cs ch sd x w cs.length = some k) : ch.length < cs.length := by
  obtain ⟨h1, -, h3⟩ := nxt_some h
  have := sub_len (xs := k :: ch) (ys := List.range cs.length) (List.nodup_cons.2 ⟨h3, hi.nd⟩) fun y hy => by
    rcases List.mem_cons.1 hy with rfl | hy
    · exact List.mem_range.2 h1
    · exact List.mem_range.2 (hi.lt y hy)
  simp at this; omega
theorem wantOf_not (a b : Int) (sd : Bool) : wantOf a b (!sd) = a + b - wantOf a b sd := by cases sd <;> simp [wantOf] <;> omega
theorem usedI_take {s : Sp} {cs : List Cl} {x : Int} {k : Nat} (h : k < cs.length) : usedI s (cs.take (k + 1)) x = usedI s (cs.take k) x ++ if (gc cs k).i / s.E = x then [(gc cs k).v] else [] := by
  unfold usedI
  rw [take_gc h, List.filter_append, List.map_append]
  congr 1
  by_cases e : (gc cs k).i / s.E = x <;> simp [e]
theorem usedO_take {s : Sp} {cs : List Cl} {x : Int} {k : Nat} (h : k < cs.length) : usedO s (cs.take (k + 1)) x = usedO s (cs.take k) x ++ if (gc cs k).o / s.E = x then [(gc cs k).v] else [] := by
  unfold usedO
  rw [take_gc h, List.filter_append, List.map_append]
  congr 1
  by_cases e : (gc cs k).o / s.E = x <;> simp [e]
theorem used_length (s : Sp) (cs : List Cl) (x : Int) : (usedI s cs x).length ≤ cs.length ∧ (usedO s cs x).length ≤ cs.length := by
  unfold usedI usedO
  rw [List.length_map, List.length_map]
  exact ⟨List.length_filter_le _ _, List.length_filter_le _ _⟩
theorem firstN_step (used : List Int) (n k : Nat) : firstN used (n + 1) k = if (k : Int) ∈ used then firstN used n (k + 1) else k := rfl
end Go.Clos
