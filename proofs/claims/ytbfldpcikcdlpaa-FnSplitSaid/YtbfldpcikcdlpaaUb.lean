/- Load, of the program. -/
import Derived.Test.YtbfldpcikcdlpaaUa
set_option linter.unusedSimpArgs false
set_option linter.unusedVariables false
namespace Go.Proofs.Ytbfldpcikcdlpaa
open Go Go.Abs Go.RowKit
variable {w0 : World}

/-- what stands at a place -/
def en (T : List (List Int)) (i o : Nat) : Int := (T.getD i []).getD o 0
def bump (T : List (List Int)) (i o : Nat) : List (List Int) := T.set i ((T.getD i []).set o (en T i o + 1))
/-- a square table -/
def Sq (n : Nat) (T : List (List Int)) : Prop := T.length = n ∧ ∀ i, i < n → (T.getD i []).length = n
theorem bump_sq {n : Nat} {T : List (List Int)} (h : Sq n T) {i o : Nat} (hi : i < n) : Sq n (bump T i o) := by
  refine ⟨by simp [bump, h.1], fun j hj => ?_⟩
  unfold bump
  rw [getD_setL (by rw [h.1]; exact hi)]
  split
  · rw [List.length_set]; exact h.2 i hi
  · exact h.2 j hj
theorem en_bump {n : Nat} {T : List (List Int)} (h : Sq n T) {i o : Nat} (hi : i < n) (ho : o < n) (a b : Nat) : en (bump T i o) a b = if a = i ∧ b = o then en T i o + 1 else en T a b := by
  unfold en bump
  rw [getD_setL (by rw [h.1]; exact hi)]
  by_cases e : a = i
  · subst e
    rw [if_pos rfl, getD_set _ (by rw [h.2 a hi]; exact ho)]
    by_cases e2 : b = o
    · subst e2; rw [if_pos rfl, if_pos ⟨rfl, rfl⟩]; rfl
    · rw [if_neg e2, if_neg (fun hh => e2 hh.2)]
  · rw [if_neg e, if_neg (fun hh => e hh.1)]
/-- a list is added, as far as a place -/
def addP (T : List (List Int)) (p : List Int) : Nat → List (List Int)
  | 0 => T
  | j + 1 => bump (addP T p j) j (p.getD j 0).toNat
def zeroT (n : Nat) : List (List Int) := List.replicate n (List.replicate n 0)
def addL (n : Nat) (rows : List (List Int)) : Nat → List (List Int)
  | 0 => zeroT n
  | k + 1 => addP (addL n rows k) (rows.getD k []) n
theorem zeroT_sq (n : Nat) : Sq n (zeroT n) := ⟨by simp [zeroT], fun i hi => by simp [zeroT, List.getD, hi]⟩
/-- lists of so many numbers, each less -/
def InN (n : Nat) (p : List Int) : Prop := p.length = n ∧ ∀ j, j < n → (p.getD j 0).toNat < n
theorem addP_sq {n : Nat} {T : List (List Int)} (h : Sq n T) (p : List Int) : ∀ j, j ≤ n → Sq n (addP T p j)
  | 0, _ => h
  | j + 1, hj => bump_sq (addP_sq h p j (by omega)) (by omega)
theorem en_addP' {n : Nat} {T : List (List Int)} (h : Sq n T) {p : List Int} (hp : InN n p) : ∀ j, j ≤ n → ∀ a b, en (addP T p j) a b = en T a b + if a < j ∧ b = (p.getD a 0).toNat then 1 else 0
  | 0, _, a, b => by rw [addP, if_neg (by omega)]; omega
  | j + 1, hj, a, b => by
    have ih := en_addP' h hp j (by omega)
    rw [addP, en_bump (addP_sq h p j (by omega)) (by omega) (hp.2 j (by omega)), ih a b]
    by_cases e : a = j
    · by_cases e2 : b = (p.getD a 0).toNat
      · rw [if_pos ⟨e, by rw [e2, e]⟩, if_pos ⟨by omega, e2⟩, ih j, if_neg (by omega), ← e, ← e2]; omega
      · rw [if_neg (fun hh => e2 (by rw [hh.2, e])), if_neg (fun hh => e2 hh.2), if_neg (fun hh => e2 hh.2)]
    · rw [if_neg (fun hh => e hh.1)]
      congr 1
      by_cases h1 : a < j
      · by_cases e2 : b = (p.getD a 0).toNat
        · rw [if_pos ⟨h1, e2⟩, if_pos ⟨by omega, e2⟩]
        · rw [if_neg (fun hh => e2 hh.2), if_neg (fun hh => e2 hh.2)]
      · rw [if_neg (fun hh => h1 hh.1), if_neg (by omega)]
theorem en_addP {n : Nat} {T : List (List Int)} (h : Sq n T) {p : List Int} (hp : InN n p) (a b j : Nat) (hj : j ≤ n) : en (addP T p j) a b = en T a b + if a < j ∧ b = (p.getD a 0).toNat then 1 else 0 := en_addP' h hp j hj a b
/-- how many of the first k lists take a to b -/
def cntL (rows : List (List Int)) (a b : Nat) : Nat → Nat
  | 0 => 0
  | k + 1 => cntL rows a b k + if b = ((rows.getD k []).getD a 0).toNat then 1 else 0
theorem cntL_le (rows : List (List Int)) (a b : Nat) : ∀ k, cntL rows a b k ≤ k
  | 0 => Nat.le_refl _
  | k + 1 => by have := cntL_le rows a b k; simp only [cntL]; split <;> omega
theorem cntL_mono (rows : List (List Int)) (a b : Nat) {k : Nat} : ∀ {m}, k ≤ m → cntL rows a b k ≤ cntL rows a b m
  | 0, h => by obtain rfl : k = 0 := by omega
               exact Nat.le_refl _
  | m + 1, h => by
    by_cases e : k = m + 1
    · subst e; exact Nat.le_refl _
    · have := cntL_mono rows a b (k := k) (m := m) (by omega)
      simp only [cntL]; omega
theorem addL_sq (n : Nat) (rows : List (List Int)) : ∀ k, Sq n (addL n rows k)
  | 0 => zeroT_sq n
  | k + 1 => addP_sq (addL_sq n rows k) _ n (Nat.le_refl _)
theorem en_zero (n a b : Nat) : en (zeroT n) a b = 0 := by
  unfold en zeroT
  by_cases h : a < n
  · by_cases h2 : b < n
    · simp [List.getD, h, h2]
    · simp [List.getD, h, h2]
  · simp [List.getD, h]
theorem en_addL {n : Nat} {rows : List (List Int)} {a : Nat} (ha : a < n) (b : Nat) : ∀ k, (∀ i, i < k → InN n (rows.getD i [])) → en (addL n rows k) a b = cntL rows a b k
  | 0, _ => by simp [addL, en_zero, cntL]
  | k + 1, h => by
    rw [addL, en_addP (addL_sq n rows k) (h k (by omega)) a b n (Nat.le_refl _), en_addL ha b k (fun i hi => h i (by omega)), cntL]
    by_cases e : b = ((rows.getD k []).getD a 0).toNat
    · rw [if_pos ⟨ha, e⟩, if_pos e]; omega
    · rw [if_neg (fun hh => e hh.2), if_neg e]; omega
theorem valid_in {p : List Int} {n : Nat} (hV : Valid p) (hl : p.length = n) : InN n p ∧ ∀ j, j < n → 0 ≤ p.getD j 0 := by
  subst hl
  have : ∀ j, j < p.length → 0 ≤ p.getD j 0 ∧ p.getD j 0 < p.length := fun j hj => hV.1.1 _ (by simp [List.getD, hj])
  exact ⟨⟨rfl, fun j hj => by have := this j hj; omega⟩, fun j hj => (this j hj).1⟩

def LoadOk (ports : Int) (rows : List (List Int)) : Prop := (0 ≤ ports ∧ ports ≤ 6) ∧ (∀ i, i < rows.length → Valid (rows.getD i []) ∧ (rows.getD i []).length = ports.toNat) ∧ ∀ a, a < ports.toNat → ∀ b, b < ports.toNat → cntL rows a b rows.length ≤ 6
instance (ports : Int) (rows : List (List Int)) : Decidable (LoadOk ports rows) := by unfold LoadOk; infer_instance
def loadV (ports : Int) (rows : List (List Int)) : List (List Int) := if LoadOk ports rows then addL ports.toNat rows rows.length else []

theorem ints_len {σ : AHeap} {v : Value} {xs : List Int} (h : Ints .i64 σ v xs) : ∃ b z, v = .slice b xs.length z := by
  rcases h with ⟨rfl, rfl⟩ | ⟨g, o, rfl, _⟩
  · exact ⟨none, 0, rfl⟩
  · exact ⟨_, _, rfl⟩

theorem implLoad_at (σ : AHeap) (ports : Int) (h o : Nat) (rows : List (List Int)) (hv : RowsAt σ h o rows) (hl : rows.length ≤ 1048576) (hr : ∀ i, i < rows.length → (rows.getD i []).length ≤ 1048576) :
    ACall Try.prog w0 28 [.int .i64 ports, .slice (some ⟨h, o, none⟩) rows.length 1] σ fun r σ' => Sub σ σ' ∧ OwnTV σ σ' r (loadV ports rows) := by
  unfold loadV
  refine acall_go mixed Try.func28 rfl good28 ?_
  by_cases hlo : ports < 0
  · simp -implicitDefEqProofs (disch := omega) only [List.any_cons, List.any_nil, Nat.reduceEqDiff, List.map_cons, List.map_nil, Option.map_some, Option.map_none, List.nil_append, ↓reduceIte, vcu0, vcu1, vcu2, vcu3, vcu4, vcu5, vcu6, vcu7, vcu8, vcu9, vcu10, vcu11, vcu12, vcu13, vcu14, vcu15, vcu16, ↓vcd0, ↓vcd1, ↓vcd2, ↓vcd3]
    rw [if_neg (fun hh : LoadOk ports rows => by have := hh.1; omega)]
    refine fin_one Try.results28 ⟨Sub.refl _, .inl ⟨?_, rfl⟩⟩
    simp -implicitDefEqProofs (disch := omega) only [List.any_cons, List.any_nil, Nat.reduceEqDiff, List.map_cons, List.map_nil, Option.map_some, Option.map_none, List.nil_append, ↓reduceIte, vcu0, vcu1, vcu2, vcu3, vcu4, vcu5, vcu6, vcu7, vcu8, vcu9, vcu10, vcu11, vcu12, vcu13, vcu14, vcu15, vcu16, ↓vcd0, ↓vcd1, ↓vcd2, ↓vcd3]
  by_cases hhi : 6 < ports
  · simp -implicitDefEqProofs (disch := omega) only [List.any_cons, List.any_nil, Nat.reduceEqDiff, List.map_cons, List.map_nil, Option.map_some, Option.map_none, List.nil_append, ↓reduceIte, vcu0, vcu1, vcu2, vcu3, vcu4, vcu5, vcu6, vcu7, vcu8, vcu9, vcu10, vcu11, vcu12, vcu13, vcu14, vcu15, vcu16, ↓vcd0, ↓vcd1, ↓vcd2, ↓vcd3]
    rw [if_neg (fun hh : LoadOk ports rows => by have := hh.1; omega)]
    refine fin_one Try.results28 ⟨Sub.refl _, .inl ⟨?_, rfl⟩⟩
    simp -implicitDefEqProofs (disch := omega) only [List.any_cons, List.any_nil, Nat.reduceEqDiff, List.map_cons, List.map_nil, Option.map_some, Option.map_none, List.nil_append, ↓reduceIte, vcu0, vcu1, vcu2, vcu3, vcu4, vcu5, vcu6, vcu7, vcu8, vcu9, vcu10, vcu11, vcu12, vcu13, vcu14, vcu15, vcu16, ↓vcd0, ↓vcd1, ↓vcd2, ↓vcd3]
  obtain ⟨n, rfl⟩ : ∃ n : Nat, ports = n := ⟨ports.toNat, by omega⟩
  have hn : n ≤ 6 := by omega
  simp only [Int.toNat_natCast]
  simp -implicitDefEqProofs (disch := omega) only [List.any_cons, List.any_nil, Nat.reduceEqDiff, List.map_cons, List.map_nil, Option.map_some, Option.map_none, List.nil_append, ↓reduceIte, vcu0, vcu1, vcu2, vcu3, vcu4, vcu5, vcu6, vcu7, vcu8, vcu9, vcu10, vcu11, vcu12, vcu13, vcu14, vcu15, vcu16, ↓vcd0, ↓vcd1, ↓vcd2, ↓vcd3]
  refine r_make (kx := .i64) (ky := .i64) (l := n) (c := n) el23 (by simp -implicitDefEqProofs (disch := omega) only [List.any_cons, List.any_nil, Nat.reduceEqDiff, List.map_cons, List.map_nil, Option.map_some, Option.map_none, List.nil_append, ↓reduceIte, vcu0, vcu1, vcu2, vcu3, vcu4, vcu5, vcu6, vcu7, vcu8, vcu9, vcu10, vcu11, vcu12, vcu13, vcu14, vcu15, vcu16, ↓vcd0, ↓vcd1, ↓vcd2, ↓vcd3]) (by simp -implicitDefEqProofs (disch := omega) only [List.any_cons, List.any_nil, Nat.reduceEqDiff, List.map_cons, List.map_nil, Option.map_some, Option.map_none, List.nil_append, ↓reduceIte, vcu0, vcu1, vcu2, vcu3, vcu4, vcu5, vcu6, vcu7, vcu8, vcu9, vcu10, vcu11, vcu12, vcu13, vcu14, vcu15, vcu16, ↓vcd0, ↓vcd1, ↓vcd2, ↓vcd3]) (by omega) fun g τ hg hs he => ?_
  rw [azeros_nil] at he
  simp -implicitDefEqProofs (disch := omega) only [List.any_cons, List.any_nil, Nat.reduceEqDiff, List.map_cons, List.map_nil, Option.map_some, Option.map_none, List.nil_append, ↓reduceIte, vcu0, vcu1, vcu2, vcu3, vcu4, vcu5, vcu6, vcu7, vcu8, vcu9, vcu10, vcu11, vcu12, vcu13, vcu14, vcu15, vcu16, ↓vcd0, ↓vcd1, ↓vcd2, ↓vcd3]
  have hzl : (zeroT n).length = n := by simp [zeroT]
  refine vc_loop_c mixed (by kernel_rfl) [0, 1, 5, 19, 20] (fun m a σ' => ∃ (k : Nat) (q : Nat → Nat), m + k = n ∧ a 21 = .int .i64 k ∧ Sub σ σ' ∧ σ' g = some ⟨rowVs q ((zeroT n).take k) ++ List.replicate (n - k) (.slice none 0 0), false⟩ ∧
    (∀ i, i < k → σ' (q i) = some ⟨ints .i64 ((zeroT n).getD i []), false⟩ ∧ σ (q i) = none ∧ q i ≠ g) ∧ ∀ i j, i < k → j < k → q i = q j → i = j) n ⟨0, fun _ => 0, by simp, rfl, hs, by simpa [rowVs] using he, by simp, by simp⟩ ?_
  rintro m a σ' hc ⟨k, q, hk, h21, hsub, hgk, hall, hinj⟩
  simp -implicitDefEqProofs (disch := omega) only [List.any_cons, List.any_nil, Nat.reduceEqDiff, List.map_cons, List.map_nil, Option.map_some, Option.map_none, List.nil_append, ↓reduceIte, vcu0, vcu1, vcu2, vcu3, vcu4, vcu5, vcu6, vcu7, vcu8, vcu9, vcu10, vcu11, vcu12, vcu13, vcu14, vcu15, vcu16, ↓vcd0, ↓vcd1, ↓vcd2, ↓vcd3] at hc
  obtain ⟨h0, h1, h5, h19, h20, -⟩ := hc
  by_cases hlt : k < n
  · have htk : (zeroT n).take (k + 1) = (zeroT n).take k ++ [List.replicate n 0] := by
      rw [List.take_succ_eq_append_getElem (by omega)]; simp [zeroT]
    have hrow : (zeroT n).getD k [] = List.replicate n 0 := by simp [zeroT, List.getD, hlt]
    simp -implicitDefEqProofs (disch := omega) only [List.any_cons, List.any_nil, Nat.reduceEqDiff, List.map_cons, List.map_nil, Option.map_some, Option.map_none, List.nil_append, ↓reduceIte, vcu0, vcu1, vcu2, vcu3, vcu4, vcu5, vcu6, vcu7, vcu8, vcu9, vcu10, vcu11, vcu12, vcu13, vcu14, vcu15, vcu16, ↓vcd0, ↓vcd1, ↓vcd2, ↓vcd3, h0, h1, h5, h19, h20, h21]
    refine r_makeI (kx := .i64) (ky := .i64) (l := n) (c := n) el27 (by omega) (by simp -implicitDefEqProofs (disch := omega) only [List.any_cons, List.any_nil, Nat.reduceEqDiff, List.map_cons, List.map_nil, Option.map_some, Option.map_none, List.nil_append, ↓reduceIte, vcu0, vcu1, vcu2, vcu3, vcu4, vcu5, vcu6, vcu7, vcu8, vcu9, vcu10, vcu11, vcu12, vcu13, vcu14, vcu15, vcu16, ↓vcd0, ↓vcd1, ↓vcd2, ↓vcd3, h0]) (by simp -implicitDefEqProofs (disch := omega) only [List.any_cons, List.any_nil, Nat.reduceEqDiff, List.map_cons, List.map_nil, Option.map_some, Option.map_none, List.nil_append, ↓reduceIte, vcu0, vcu1, vcu2, vcu3, vcu4, vcu5, vcu6, vcu7, vcu8, vcu9, vcu10, vcu11, vcu12, vcu13, vcu14, vcu15, vcu16, ↓vcd0, ↓vcd1, ↓vcd2, ↓vcd3, h0]) (by omega) fun z τ3 nz s3 e3 => ?_
    have hne : z ≠ g := ne_of nz hgk
    simp -implicitDefEqProofs (disch := omega) only [List.any_cons, List.any_nil, Nat.reduceEqDiff, List.map_cons, List.map_nil, Option.map_some, Option.map_none, List.nil_append, ↓reduceIte, vcu0, vcu1, vcu2, vcu3, vcu4, vcu5, vcu6, vcu7, vcu8, vcu9, vcu10, vcu11, vcu12, vcu13, vcu14, vcu15, vcu16, ↓vcd0, ↓vcd1, ↓vcd2, ↓vcd3, h0, h1, h5, h19, h20, h21]
    refine r_set (g := g) (i := 0 + k) (by simp -implicitDefEqProofs (disch := omega) only [List.any_cons, List.any_nil, Nat.reduceEqDiff, List.map_cons, List.map_nil, Option.map_some, Option.map_none, List.nil_append, ↓reduceIte, vcu0, vcu1, vcu2, vcu3, vcu4, vcu5, vcu6, vcu7, vcu8, vcu9, vcu10, vcu11, vcu12, vcu13, vcu14, vcu15, vcu16, ↓vcd0, ↓vcd1, ↓vcd2, ↓vcd3, h5]) (by simp -implicitDefEqProofs (disch := omega) only [List.any_cons, List.any_nil, Nat.reduceEqDiff, List.map_cons, List.map_nil, Option.map_some, Option.map_none, List.nil_append, ↓reduceIte, vcu0, vcu1, vcu2, vcu3, vcu4, vcu5, vcu6, vcu7, vcu8, vcu9, vcu10, vcu11, vcu12, vcu13, vcu14, vcu15, vcu16, ↓vcd0, ↓vcd1, ↓vcd2, ↓vcd3]; rfl) co27 (by simp -implicitDefEqProofs (disch := omega) only [List.any_cons, List.any_nil, Nat.reduceEqDiff, List.map_cons, List.map_nil, Option.map_some, Option.map_none, List.nil_append, ↓reduceIte, vcu0, vcu1, vcu2, vcu3, vcu4, vcu5, vcu6, vcu7, vcu8, vcu9, vcu10, vcu11, vcu12, vcu13, vcu14, vcu15, vcu16, ↓vcd0, ↓vcd1, ↓vcd2, ↓vcd3]; rfl) (s3 _ _ hgk) (by simp [rowVs_length, hzl]; omega) fun τ4 k4 e4 => ?_
    simp -implicitDefEqProofs (disch := omega) only [List.any_cons, List.any_nil, Nat.reduceEqDiff, List.map_cons, List.map_nil, Option.map_some, Option.map_none, List.nil_append, ↓reduceIte, vcu0, vcu1, vcu2, vcu3, vcu4, vcu5, vcu6, vcu7, vcu8, vcu9, vcu10, vcu11, vcu12, vcu13, vcu14, vcu15, vcu16, ↓vcd0, ↓vcd1, ↓vcd2, ↓vcd3, Nat.zero_add] at e4
    rw [set_new (by rw [rowVs_length]; simp [hzl]; omega) hlt] at e4
    simp -implicitDefEqProofs (disch := omega) only [List.any_cons, List.any_nil, Nat.reduceEqDiff, List.map_cons, List.map_nil, Option.map_some, Option.map_none, List.nil_append, ↓reduceIte, vcu0, vcu1, vcu2, vcu3, vcu4, vcu5, vcu6, vcu7, vcu8, vcu9, vcu10, vcu11, vcu12, vcu13, vcu14, vcu15, vcu16, ↓vcd0, ↓vcd1, ↓vcd2, ↓vcd3, h0, h1, h5, h19, h20, h21]
    refine ⟨?_, m - 1, by omega, k + 1, fun i => if i = k then z else q i, by omega, by simp, k4.sub (hsub.trans s3) hg, ?_, fun i hi => ?_, fun i j hi hj => ?_⟩
    · simp [h0, h1, h5, h19, h20]
    · rw [e4, htk]
      have hkl : ((zeroT n).take k).length = k := by simp [hzl]; omega
      have := rowVs_push (q := q) (rows := (zeroT n).take k) (r := z) (row := List.replicate n 0)
      rw [hkl] at this
      rw [this]; unfold rowV; simp
    · dsimp only
      split
      · rename_i e; subst e
        exact ⟨by rw [hrow]; exact k4.at e3 hne, free_sub hsub nz, hne⟩
      · obtain ⟨b1, b2, b3⟩ := hall i (by omega)
        exact ⟨k4.at (s3 _ _ b1) b3, b2, b3⟩
    · dsimp only
      intro e
      split at e
      · split at e
        · omega
        · exact absurd e (ne_of nz (hall j (by omega)).1)
      · split at e
        · exact absurd e (ne_of' nz (hall i (by omega)).1)
        · exact hinj i j (by omega) (by omega) e
  have e2 : n = k := by omega
  subst e2
  have hO : OwnT σ σ' g q (addL n rows 0) := by
    refine ⟨by rw [hgk]; simp [zeroT, addL], hg, fun i hi => (hall i (by simpa [addL, zeroT] using hi)).1, fun i hi => (hall i (by simpa [addL, zeroT] using hi)).2.1, fun i hi => (hall i (by simpa [addL, zeroT] using hi)).2.2, fun i j hi hj => hinj i j (by simpa [addL, zeroT] using hi) (by simpa [addL, zeroT] using hj)⟩
  simp -implicitDefEqProofs (disch := omega) only [List.any_cons, List.any_nil, Nat.reduceEqDiff, List.map_cons, List.map_nil, Option.map_some, Option.map_none, List.nil_append, ↓reduceIte, vcu0, vcu1, vcu2, vcu3, vcu4, vcu5, vcu6, vcu7, vcu8, vcu9, vcu10, vcu11, vcu12, vcu13, vcu14, vcu15, vcu16, ↓vcd0, ↓vcd1, ↓vcd2, ↓vcd3, h0, h1, h5, h19, h20, h21]
  clear hgk hall hinj he hs hk h19 h20 h21 τ
  refine vc_loop_c mixed (by kernel_rfl) [0, 1, 5, 30, 31] (fun m a σ2 => ∃ k : Nat, m + k = rows.length ∧ a 32 = .int .i64 k ∧ Sub σ σ2 ∧ OwnT σ σ2 g q (addL n rows k) ∧ (∀ i, i < k → Valid (rows.getD i []) ∧ (rows.getD i []).length = n) ∧ ∀ a, a < n → ∀ b, b < n → cntL rows a b k ≤ 6) rows.length ⟨0, by simp, rfl, hsub, hO, by simp, by simp [cntL]⟩ ?_
  clear hO hsub
  rintro m2 a2 σ2 hc ⟨k, hk, h32, hsub, hO, hval, hcnt⟩
  simp -implicitDefEqProofs (disch := omega) only [List.any_cons, List.any_nil, Nat.reduceEqDiff, List.map_cons, List.map_nil, Option.map_some, Option.map_none, List.nil_append, ↓reduceIte, vcu0, vcu1, vcu2, vcu3, vcu4, vcu5, vcu6, vcu7, vcu8, vcu9, vcu10, vcu11, vcu12, vcu13, vcu14, vcu15, vcu16, ↓vcd0, ↓vcd1, ↓vcd2, ↓vcd3, h0, h1, h5] at hc
  obtain ⟨c0, c1, c5, c30, c31, -⟩ := hc
  by_cases hlt : k < rows.length
  · obtain ⟨v, hx, hi⟩ := (hv.sub hsub) k hlt
    have hrk := hr k hlt
    have hgo : addL n rows (k + 1) = addP (addL n rows k) (rows.getD k []) n := rfl
    have hcs : ∀ a b, cntL rows a b (k + 1) = cntL rows a b k + if b = ((rows.getD k []).getD a 0).toNat then 1 else 0 := fun _ _ => rfl
    have no : ¬ (Valid (rows.getD k []) ∧ (rows.getD k []).length = n) → ¬ LoadOk n rows := fun hn hh => hn (by simpa using hh.2.1 k hlt)
    generalize hrw : rows.getD k [] = p at hi hrk hgo hcs no
    obtain ⟨pb, pz, rfl⟩ := ints_len hi
    by_cases hlen : p.length = n
    · simp -implicitDefEqProofs (disch := omega) only [List.any_cons, List.any_nil, Nat.reduceEqDiff, List.map_cons, List.map_nil, Option.map_some, Option.map_none, List.nil_append, ↓reduceIte, vcu0, vcu1, vcu2, vcu3, vcu4, vcu5, vcu6, vcu7, vcu8, vcu9, vcu10, vcu11, vcu12, vcu13, vcu14, vcu15, vcu16, ↓vcd0, ↓vcd1, ↓vcd2, ↓vcd3, c0, c1, c5, c30, c31, h32, hx, hlen]
      have hvc := implValid_calls (w0 := w0) σ2 _ p hi (by omega)
      rw [hlen] at hvc
      refine hvc.mono ?_
      rintro r _ ⟨rfl, rfl⟩
      rename_i σ2
      by_cases hV : Valid p
      · rw [decide_eq_true hV]
        obtain ⟨hin, hnn⟩ := valid_in hV hlen
        have hsq := addL_sq n rows k
        simp -implicitDefEqProofs (disch := omega) only [List.any_cons, List.any_nil, Nat.reduceEqDiff, List.map_cons, List.map_nil, Option.map_some, Option.map_none, List.nil_append, ↓reduceIte, vcu0, vcu1, vcu2, vcu3, vcu4, vcu5, vcu6, vcu7, vcu8, vcu9, vcu10, vcu11, vcu12, vcu13, vcu14, vcu15, vcu16, ↓vcd0, ↓vcd1, ↓vcd2, ↓vcd3, opK_some, c0, c1, c5, c30, c31, h32, hlen]
        refine vc_loop_c mixed (by kernel_rfl) [0, 1, 5, 8, 30, 31, 32, 45, 46] (fun m3 a3 σ3 => ∃ j : Nat, m3 + j = n ∧ a3 47 = .int .i64 j ∧ Sub σ σ3 ∧ OwnT σ σ3 g q (addP (addL n rows k) p j) ∧ ∀ i, i < j → cntL rows i (p.getD i 0).toNat k < 6) n ⟨0, by simp, rfl, hsub, hO, by simp⟩ ?_
        rintro m3 a3 σ3 hc3 ⟨j, hj, h47, hsub3, hO3, hlow⟩
        simp -implicitDefEqProofs (disch := omega) only [List.any_cons, List.any_nil, Nat.reduceEqDiff, List.map_cons, List.map_nil, Option.map_some, Option.map_none, List.nil_append, ↓reduceIte, vcu0, vcu1, vcu2, vcu3, vcu4, vcu5, vcu6, vcu7, vcu8, vcu9, vcu10, vcu11, vcu12, vcu13, vcu14, vcu15, vcu16, ↓vcd0, ↓vcd1, ↓vcd2, ↓vcd3, c0, c1, c5, c30, c31, h32, hlen] at hc3
        obtain ⟨d0, d1, d5, d8, d30, d31, d32, d45, d46, -⟩ := hc3
        have hsqj := addP_sq hsq p j (by omega)
        by_cases hjl : j < n
        · have hgj := hO3.get (i := j) (by rw [hsqj.1]; exact hjl)
          have hrj := hO3.row j (by rw [hsqj.1]; exact hjl)
          have hrl := hsqj.2 j hjl
          have hpj := hin.2 j hjl
          have hp0 := hnn j hjl
          have hej : en (addP (addL n rows k) p j) j (p.getD j 0).toNat = cntL rows j (p.getD j 0).toNat k := by
            rw [en_addP hsq hin _ _ j (by omega), if_neg (by omega), en_addL hjl _ k (fun i hi => (valid_in (hval i hi).1 (hval i hi).2).1)]; omega
          have hib : ∃ e2 o2, pb = some ⟨e2, o2, none⟩ ∧ pz = 1 ∧ IntsAt .i64 σ3 e2 o2 p := by
            obtain ⟨v', hx', hi'⟩ := (hv.sub hsub3) k hlt
            rw [hrw] at hi'
            have hxx : v' = .slice pb p.length pz := by
              obtain ⟨v0, hx0, -⟩ := hv k hlt
              have r1 := ld_sub hsub hx0
              have r2 := ld_sub hsub3 hx0
              rw [r1] at hx; rw [r2] at hx'
              cases hx; cases hx'; rfl
            rw [hxx] at hi'
            rcases hi' with ⟨e, rfl⟩ | ⟨e2, o2, e, hat⟩
            · simp at hlen; omega
            · injection e with ea eb ec
              exact ⟨e2, o2, ea, ec, hat⟩
          obtain ⟨e2, o2, rfl, rfl, hat⟩ := hib
          have hpx := hat j (by omega)
          have hcl := cntL_le rows j (p.getD j 0).toNat k
          have hld : ld σ3 (q j) (0 + (p.getD j 0).toNat) = some (.int .i64 (cntL rows j (p.getD j 0).toNat k)) := by
            rw [own_at hrj (by rw [hrl]; exact hpj), ← hej]; rfl
          have hab : addP (addL n rows k) p (j + 1) = bump (addP (addL n rows k) p j) j (p.getD j 0).toNat := rfl
          unfold bump at hab
          rw [hej] at hab
          by_cases h6 : cntL rows j (p.getD j 0).toNat k = 6
          · rw [h6] at hld
            have hpl : p.getD j 0 < n := by omega
            simp -implicitDefEqProofs (disch := omega) only [List.any_cons, List.any_nil, Nat.reduceEqDiff, List.map_cons, List.map_nil, Option.map_some, Option.map_none, List.nil_append, ↓reduceIte, vcu0, vcu1, vcu2, vcu3, vcu4, vcu5, vcu6, vcu7, vcu8, vcu9, vcu10, vcu11, vcu12, vcu13, vcu14, vcu15, vcu16, ↓vcd0, ↓vcd1, ↓vcd2, ↓vcd3, d0, d1, d5, d8, d30, d31, d32, d45, d46, h47, hgj, hpx, hld, hrl, hlen]
            rw [if_neg (fun hh : LoadOk n rows => by
              have h7 := hh.2.2 j (by simpa using hjl) (p.getD j 0).toNat (by simpa using hpj)
              have := cntL_mono rows j (p.getD j 0).toNat (show k + 1 ≤ rows.length by omega)
              rw [hcs, if_pos rfl] at this; omega)]
            refine fin_one Try.results28 ⟨hsub3, .inl ⟨?_, rfl⟩⟩
            simp -implicitDefEqProofs (disch := omega) only [List.any_cons, List.any_nil, Nat.reduceEqDiff, List.map_cons, List.map_nil, Option.map_some, Option.map_none, List.nil_append, ↓reduceIte, vcu0, vcu1, vcu2, vcu3, vcu4, vcu5, vcu6, vcu7, vcu8, vcu9, vcu10, vcu11, vcu12, vcu13, vcu14, vcu15, vcu16, ↓vcd0, ↓vcd1, ↓vcd2, ↓vcd3]
          · have hpl : p.getD j 0 < n := by omega
            have h6' : ¬ ((cntL rows j (p.getD j 0).toNat k : Nat) : Int) = 6 := by omega
            simp -implicitDefEqProofs (disch := omega) only [List.any_cons, List.any_nil, Nat.reduceEqDiff, List.map_cons, List.map_nil, Option.map_some, Option.map_none, List.nil_append, ↓reduceIte, vcu0, vcu1, vcu2, vcu3, vcu4, vcu5, vcu6, vcu7, vcu8, vcu9, vcu10, vcu11, vcu12, vcu13, vcu14, vcu15, vcu16, ↓vcd0, ↓vcd1, ↓vcd2, ↓vcd3, d0, d1, d5, d8, d30, d31, d32, d45, d46, h47, hgj, hpx, hld, hrl, hlen, h6']
            refine r_setI (g := q j) (i := 0 + (p.getD j 0).toNat) (v := (cntL rows j (p.getD j 0).toNat k : Int) + 1) (by simp -implicitDefEqProofs (disch := omega) only [List.any_cons, List.any_nil, Nat.reduceEqDiff, List.map_cons, List.map_nil, Option.map_some, Option.map_none, List.nil_append, ↓reduceIte, vcu0, vcu1, vcu2, vcu3, vcu4, vcu5, vcu6, vcu7, vcu8, vcu9, vcu10, vcu11, vcu12, vcu13, vcu14, vcu15, vcu16, ↓vcd0, ↓vcd1, ↓vcd2, ↓vcd3]) (by simp -implicitDefEqProofs (disch := omega) only [List.any_cons, List.any_nil, Nat.reduceEqDiff, List.map_cons, List.map_nil, Option.map_some, Option.map_none, List.nil_append, ↓reduceIte, vcu0, vcu1, vcu2, vcu3, vcu4, vcu5, vcu6, vcu7, vcu8, vcu9, vcu10, vcu11, vcu12, vcu13, vcu14, vcu15, vcu16, ↓vcd0, ↓vcd1, ↓vcd2, ↓vcd3]) co3 hrj (by omega) fun τ5 k5 e5 => ?_
            rw [Nat.zero_add] at e5
            simp -implicitDefEqProofs (disch := omega) only [List.any_cons, List.any_nil, Nat.reduceEqDiff, List.map_cons, List.map_nil, Option.map_some, Option.map_none, List.nil_append, ↓reduceIte, vcu0, vcu1, vcu2, vcu3, vcu4, vcu5, vcu6, vcu7, vcu8, vcu9, vcu10, vcu11, vcu12, vcu13, vcu14, vcu15, vcu16, ↓vcd0, ↓vcd1, ↓vcd2, ↓vcd3, h47]
            refine ⟨?_, m3 - 1, by omega, j + 1, by omega, by simp, k5.sub hsub3 (hO3.free j (by rw [hsqj.1]; exact hjl)), ?_, fun i hi => ?_⟩
            · simp [d0, d1, d5, d8, d30, d31, d32, d45, d46, c0, c1, c5, c30, c31, h32]
            · rw [hab]
              exact hO3.write (by rw [hsqj.1]; exact hjl) (by simp) k5 e5
            · by_cases e : i = j
              · subst e
                have := hcnt i hjl _ hpj
                omega
              · exact hlow i (by omega)
        · have e : j = n := by omega
          subst e
          simp -implicitDefEqProofs (disch := omega) only [List.any_cons, List.any_nil, Nat.reduceEqDiff, List.map_cons, List.map_nil, Option.map_some, Option.map_none, List.nil_append, ↓reduceIte, vcu0, vcu1, vcu2, vcu3, vcu4, vcu5, vcu6, vcu7, vcu8, vcu9, vcu10, vcu11, vcu12, vcu13, vcu14, vcu15, vcu16, ↓vcd0, ↓vcd1, ↓vcd2, ↓vcd3, d0, d1, d5, d8, d30, d31, d32, d45, d46, h47, hlen]
          refine ⟨?_, m2 - 1, by omega, k + 1, by omega, by simp, hsub3, by rw [hgo]; exact hO3, fun i hi => ?_, fun a ha b hb => ?_⟩
          · simp [d0, d1, d5, d30, d31, c0, c1, c5, c30, c31, h0, h1, h5]
          · by_cases e : i = k
            · subst e; rw [hrw]; exact ⟨hV, hlen⟩
            · exact hval i (by omega)
          · rw [hcs]
            split
            · rename_i e
              have := hlow a ha
              rw [← e] at this; omega
            · exact hcnt a ha b hb
      · rw [decide_eq_false hV]
        simp -implicitDefEqProofs (disch := omega) only [List.any_cons, List.any_nil, Nat.reduceEqDiff, List.map_cons, List.map_nil, Option.map_some, Option.map_none, List.nil_append, ↓reduceIte, vcu0, vcu1, vcu2, vcu3, vcu4, vcu5, vcu6, vcu7, vcu8, vcu9, vcu10, vcu11, vcu12, vcu13, vcu14, vcu15, vcu16, ↓vcd0, ↓vcd1, ↓vcd2, ↓vcd3, opK_some]
        rw [if_neg (no (fun hh => hV hh.1))]
        refine fin_one Try.results28 ⟨hsub, .inl ⟨?_, rfl⟩⟩
        simp -implicitDefEqProofs (disch := omega) only [List.any_cons, List.any_nil, Nat.reduceEqDiff, List.map_cons, List.map_nil, Option.map_some, Option.map_none, List.nil_append, ↓reduceIte, vcu0, vcu1, vcu2, vcu3, vcu4, vcu5, vcu6, vcu7, vcu8, vcu9, vcu10, vcu11, vcu12, vcu13, vcu14, vcu15, vcu16, ↓vcd0, ↓vcd1, ↓vcd2, ↓vcd3]
    · have hlen' : ¬ (p.length : Int) = n := by omega
      simp -implicitDefEqProofs (disch := omega) only [List.any_cons, List.any_nil, Nat.reduceEqDiff, List.map_cons, List.map_nil, Option.map_some, Option.map_none, List.nil_append, ↓reduceIte, vcu0, vcu1, vcu2, vcu3, vcu4, vcu5, vcu6, vcu7, vcu8, vcu9, vcu10, vcu11, vcu12, vcu13, vcu14, vcu15, vcu16, ↓vcd0, ↓vcd1, ↓vcd2, ↓vcd3, c0, c1, c5, c30, c31, h32, hx, hlen', ne_eq, not_false_eq_true, decide_true]
      rw [if_neg (no (fun hh => hlen hh.2))]
      refine fin_one Try.results28 ⟨hsub, .inl ⟨?_, rfl⟩⟩
      simp -implicitDefEqProofs (disch := omega) only [List.any_cons, List.any_nil, Nat.reduceEqDiff, List.map_cons, List.map_nil, Option.map_some, Option.map_none, List.nil_append, ↓reduceIte, vcu0, vcu1, vcu2, vcu3, vcu4, vcu5, vcu6, vcu7, vcu8, vcu9, vcu10, vcu11, vcu12, vcu13, vcu14, vcu15, vcu16, ↓vcd0, ↓vcd1, ↓vcd2, ↓vcd3]
  · have e : k = rows.length := by omega
    subst e
    simp -implicitDefEqProofs (disch := omega) only [List.any_cons, List.any_nil, Nat.reduceEqDiff, List.map_cons, List.map_nil, Option.map_some, Option.map_none, List.nil_append, ↓reduceIte, vcu0, vcu1, vcu2, vcu3, vcu4, vcu5, vcu6, vcu7, vcu8, vcu9, vcu10, vcu11, vcu12, vcu13, vcu14, vcu15, vcu16, ↓vcd0, ↓vcd1, ↓vcd2, ↓vcd3, c0, c1, c5, c30, c31, h32]
    rw [if_pos ⟨⟨by omega, by omega⟩, by simpa using hval, by simpa using hcnt⟩]
    refine fin_one Try.results28 ⟨hsub, .inr ⟨g, q, ?_, hO⟩⟩
    simp -implicitDefEqProofs (disch := omega) only [List.any_cons, List.any_nil, Nat.reduceEqDiff, List.map_cons, List.map_nil, Option.map_some, Option.map_none, List.nil_append, ↓reduceIte, vcu0, vcu1, vcu2, vcu3, vcu4, vcu5, vcu6, vcu7, vcu8, vcu9, vcu10, vcu11, vcu12, vcu13, vcu14, vcu15, vcu16, ↓vcd0, ↓vcd1, ↓vcd2, ↓vcd3, c5]
    rw [(addL_sq n rows rows.length).1]
end Go.Proofs.Ytbfldpcikcdlpaa
