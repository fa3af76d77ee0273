/- The depth of a network. -/
import Derived.Test.YtnkpoflhdfchjaaNf
set_option linter.unusedSimpArgs false
set_option linter.unusedVariables false
namespace Go.Proofs.Ytnkpoflhdfchjaa
open Go Go.Abs Go.RowKit
variable {w0 : World}

/-- a comparator more: how long its lines are busy, how deep it is -/
def stepD (st : List Int × Int) (c : Int × Int) : List Int × Int :=
  let s := max (st.1.getD c.1.toNat 0) (st.1.getD c.2.toNat 0) + 1
  ((st.1.set c.1.toNat s).set c.2.toNat s, max st.2 s)
def busyD (n : Nat) (cs : List (Int × Int)) : List Int × Int := cs.foldl stepD (List.replicate n 0, 0)
theorem busyD_snoc (n : Nat) (cs : List (Int × Int)) (c : Int × Int) : busyD n (cs ++ [c]) = stepD (busyD n cs) c := by simp [busyD]
theorem foldD_length (cs : List (Int × Int)) : ∀ st, (cs.foldl stepD st).1.length = st.1.length := by
  induction cs with
  | nil => intro st; rfl
  | cons c cs ih => intro st; rw [List.foldl_cons, ih]; simp [stepD]
theorem busyD_length (n : Nat) (cs : List (Int × Int)) : (busyD n cs).1.length = n := by unfold busyD; rw [foldD_length]; simp
/-- at most as deep as there are comparators -/
def Low (st : List Int × Int) (d : Int) : Prop := (∀ x ∈ st.1, 0 ≤ x ∧ x ≤ d) ∧ 0 ≤ st.2 ∧ st.2 ≤ d
theorem getD_low {xs : List Int} {d : Int} (h : ∀ x ∈ xs, 0 ≤ x ∧ x ≤ d) (hd : 0 ≤ d) (i : Nat) : 0 ≤ xs.getD i 0 ∧ xs.getD i 0 ≤ d := by
  by_cases hi : i < xs.length
  · rw [getD_lt hi]; exact h _ (by simp)
  · simp [List.getD, List.getElem?_eq_none (Nat.le_of_not_lt hi), hd]
theorem low_step {st : List Int × Int} {d : Int} (h : Low st d) (hd : 0 ≤ d) (c : Int × Int) : Low (stepD st c) (d + 1) := by
  obtain ⟨h1, h2, h3⟩ := h
  have g1 := getD_low h1 hd c.1.toNat
  have g2 := getD_low h1 hd c.2.toNat
  unfold stepD Low
  dsimp only
  refine ⟨fun x hx => ?_, by omega, by omega⟩
  rcases List.mem_or_eq_of_mem_set hx with hx | rfl
  · rcases List.mem_or_eq_of_mem_set hx with hx | rfl
    · have := h1 x hx; omega
    · omega
  · omega
theorem low_busy (n : Nat) (cs : List (Int × Int)) : Low (busyD n cs) cs.length := by
  have : ∀ (cs : List (Int × Int)) (st : List Int × Int) (d : Int), 0 ≤ d → Low st d → Low (cs.foldl stepD st) (d + cs.length) := by
    intro cs
    induction cs with
    | nil => intro st d _ h; simpa using h
    | cons c cs ih =>
      intro st d hd h
      rw [List.foldl_cons]
      have := ih _ (d + 1) (by omega) (low_step h hd c)
      have e : d + ((c :: cs).length : Int) = d + 1 + (cs.length : Int) := by simp; omega
      rw [e]; exact this
  have h := this cs (List.replicate n 0, 0) 0 (by omega) ⟨fun x hx => by have := (List.mem_replicate.1 hx).2; omega, by omega, by omega⟩
  have e : (0 : Int) + cs.length = cs.length := by omega
  rw [e] at h; exact h
/-- more lines than there are make no difference -/
theorem busy_take {n : Nat} (hn : n ≤ 6) : ∀ (cs : List (Int × Int)), (∀ c ∈ cs, NVc n c) → ∀ st st' : List Int × Int, st.1.length = 6 → st'.1 = st.1.take n → st'.2 = st.2 → (cs.foldl stepD st').2 = (cs.foldl stepD st).2
  | [], _, _, _, _, _, h => h
  | c :: cs, hc, st, st', h6, h1, h2 => by
    have hN := hc c (by simp)
    unfold NVc at hN
    have hl : st'.1.length = n := by rw [h1, List.length_take]; omega
    have gg : ∀ i, i < n → st'.1.getD i 0 = st.1.getD i 0 := fun i hi => by
      rw [h1]; simp [List.getD, List.getElem?_take, hi]
    have e1 := gg c.1.toNat (by omega)
    have e2 := gg c.2.toNat (by omega)
    rw [List.foldl_cons, List.foldl_cons]
    refine busy_take hn cs (fun c hc' => hc c (by simp [hc'])) _ _ ?_ ?_ ?_
    · simp [stepD, h6]
    · unfold stepD
      dsimp only
      rw [e1, e2, h1, ← List.take_set, ← List.take_set]
    · unfold stepD
      dsimp only
      rw [e1, e2, h2]
def depV (lines : Int) (cs : List (Int × Int)) : Int := if NV lines cs then (busyD 6 cs).2 else -1
theorem dep_eq {lines : Int} {cs : List (Int × Int)} (h : NV lines cs) : (busyD lines.toNat cs).2 = (busyD 6 cs).2 := by
  have h1 := h.1
  refine busy_take (n := lines.toNat) (by omega) cs (fun c hc => ?_) _ _ (by simp) ?_ rfl
  · have := h.2 c hc; unfold NVc at this ⊢; omega
  · show List.replicate lines.toNat 0 = (List.replicate 6 0).take lines.toNat
    rw [List.take_replicate]; congr 1; omega

theorem implDepth_at (σ : AHeap) (lines : Int) (h o : Nat) (cs : List (Int × Int)) (hv : PairsAt σ h o cs) (hl : cs.length ≤ 1048576) (hf : Fits cs) (hr : InR lines) :
    ACall Try.prog w0 49 [.int .i64 lines, .slice (some ⟨h, o, none⟩) cs.length 2] σ fun r σ' => r = .int .i64 (depV lines cs) ∧ σ' = σ := by
  unfold depV
  refine acall_go mixed Try.func49 rfl good49 fun pr => ?_
  simp -implicitDefEqProofs (disch := omega) only [List.any_cons, List.any_nil, Nat.reduceEqDiff, List.map_cons, List.map_nil, Option.map_some, Option.map_none, List.nil_append, ↓reduceIte, vcu0, vcu1, vcu2, vcu3, vcu4, vcu5, vcu6, vcu7, vcu8, vcu9, vcu10, vcu11, vcu12, vcu13, vcu14, vcu15, vcu16, vcu17, vcu18, vcu19, vcu20, vcu21, vcu22, vcu23, vcu24, vcu25, vcu26, ↓vcd0, ↓vcd1, ↓vcd2, ↓vcd3]
  refine (implNV_at σ lines h o cs hv hl hf hr).mono ?_
  rintro r _ ⟨rfl, rfl⟩
  by_cases hN : NV lines cs
  · have hN1 := hN.1
    rw [decide_eq_true hN, if_pos hN]
    simp -implicitDefEqProofs (disch := omega) only [List.any_cons, List.any_nil, Nat.reduceEqDiff, List.map_cons, List.map_nil, Option.map_some, Option.map_none, List.nil_append, ↓reduceIte, vcu0, vcu1, vcu2, vcu3, vcu4, vcu5, vcu6, vcu7, vcu8, vcu9, vcu10, vcu11, vcu12, vcu13, vcu14, vcu15, vcu16, vcu17, vcu18, vcu19, vcu20, vcu21, vcu22, vcu23, vcu24, vcu25, vcu26, ↓vcd0, ↓vcd1, ↓vcd2, ↓vcd3, opK_some]
    rename_i σ
    refine r_new ze64 fun g τ1 ng s1 v1 => ?_
    replace v1 : τ1 g = some ⟨ints .i64 (busyD 6 []).1, false⟩ := v1
    simp -implicitDefEqProofs (disch := omega) only [List.any_cons, List.any_nil, Nat.reduceEqDiff, List.map_cons, List.map_nil, Option.map_some, Option.map_none, List.nil_append, ↓reduceIte, vcu0, vcu1, vcu2, vcu3, vcu4, vcu5, vcu6, vcu7, vcu8, vcu9, vcu10, vcu11, vcu12, vcu13, vcu14, vcu15, vcu16, vcu17, vcu18, vcu19, vcu20, vcu21, vcu22, vcu23, vcu24, vcu25, vcu26, ↓vcd0, ↓vcd1, ↓vcd2, ↓vcd3]
    refine vc_loop_c mixed (by kernel_rfl) [5, 14, 15] (fun m a σ' => ∃ k : Nat, m + k = cs.length ∧ a 16 = .int .i64 k ∧ a 6 = .int .i64 (busyD 6 (cs.take k)).2 ∧ Kept g τ1 σ' ∧ σ' g = some ⟨ints .i64 (busyD 6 (cs.take k)).1, false⟩) cs.length ⟨0, by simp, rfl, rfl, Kept.refl _ _, v1⟩ ?_
    rintro m a σ' hc ⟨k, hk, h16, h6, hkp, hgk⟩
    simp -implicitDefEqProofs (disch := omega) only [List.any_cons, List.any_nil, Nat.reduceEqDiff, List.map_cons, List.map_nil, Option.map_some, Option.map_none, List.nil_append, ↓reduceIte, vcu0, vcu1, vcu2, vcu3, vcu4, vcu5, vcu6, vcu7, vcu8, vcu9, vcu10, vcu11, vcu12, vcu13, vcu14, vcu15, vcu16, vcu17, vcu18, vcu19, vcu20, vcu21, vcu22, vcu23, vcu24, vcu25, vcu26, ↓vcd0, ↓vcd1, ↓vcd2, ↓vcd3] at hc
    obtain ⟨h5, h14, h15, -⟩ := hc
    have hsub := hkp.sub s1 ng
    by_cases hlt : k < cs.length
    · have hx := (hv.sub hsub).both hlt
      have hm := getD_mem hlt
      have ht := take_one hlt
      generalize cs.getD k (0, 0) = c at hx hm ht
      have hNc := hN.2 c hm
      obtain ⟨A, B⟩ := c
      unfold NVc at hNc
      dsimp only at hNc hx
      obtain ⟨a0, rfl⟩ : ∃ a0 : Nat, A = a0 := ⟨A.toNat, by omega⟩
      obtain ⟨b0, rfl⟩ : ∃ b0 : Nat, B = b0 := ⟨B.toNat, by omega⟩
      have hbl := busyD_length 6 (cs.take k)
      have hlow := low_busy 6 (cs.take k)
      have hsn := busyD_snoc 6 (cs.take k) ((a0 : Int), (b0 : Int))
      rw [← ht] at hsn
      have htl : ((cs.take k).length : Int) ≤ 20 := by simp; omega
      obtain ⟨hlow1, hlow2, hlow3⟩ := hlow
      generalize busyD 6 (cs.take k) = st at hgk hbl hlow1 hlow2 hlow3 hsn h6
      obtain ⟨ys, dp⟩ := st
      dsimp only at hgk hbl hlow1 hlow2 hlow3 h6
      unfold stepD at hsn
      simp only [Int.toNat_natCast] at hsn
      have x1 := own_at hgk (show a0 < ys.length by omega)
      have x2 := own_at hgk (show b0 < ys.length by omega)
      have w1 := getD_low hlow1 (by omega) a0
      have w2 := getD_low hlow1 (by omega) b0
      generalize ys.getD a0 0 = x at x1 hsn w1
      generalize ys.getD b0 0 = y at x2 hsn w2
      simp -implicitDefEqProofs (disch := omega) only [List.any_cons, List.any_nil, Nat.reduceEqDiff, List.map_cons, List.map_nil, Option.map_some, Option.map_none, List.nil_append, ↓reduceIte, vcu0, vcu1, vcu2, vcu3, vcu4, vcu5, vcu6, vcu7, vcu8, vcu9, vcu10, vcu11, vcu12, vcu13, vcu14, vcu15, vcu16, vcu17, vcu18, vcu19, vcu20, vcu21, vcu22, vcu23, vcu24, vcu25, vcu26, ↓vcd0, ↓vcd1, ↓vcd2, ↓vcd3, h5, h14, h15, h16, hx, co28]
      refine r_local (cs := #[.int .i64 a0, .int .i64 b0]) ze28 (by decide) (by simp -implicitDefEqProofs (disch := omega) only [List.any_cons, List.any_nil, Nat.reduceEqDiff, List.map_cons, List.map_nil, Option.map_some, Option.map_none, List.nil_append, ↓reduceIte, vcu0, vcu1, vcu2, vcu3, vcu4, vcu5, vcu6, vcu7, vcu8, vcu9, vcu10, vcu11, vcu12, vcu13, vcu14, vcu15, vcu16, vcu17, vcu18, vcu19, vcu20, vcu21, vcu22, vcu23, vcu24, vcu25, vcu26, ↓vcd0, ↓vcd1, ↓vcd2, ↓vcd3]) (by rw [co28]; rfl) rfl rfl (Nat.zero_lt_succ _) fun b τ hb hs2 e => ?_
      have l1 : ld τ b (0 + 0) = some (.int .i64 a0) := ld_of e rfl
      have l2 : ld τ b (0 + 1) = some (.int .i64 b0) := ld_of e rfl
      have x1' := ld_sub hs2 x1
      have x2' := ld_sub hs2 x2
      have hgτ := hs2 _ _ hgk
      have hbg := ne_of hb hgk
      have ecomm : (1 : Int) + max x y = max x y + 1 := by omega
      simp -implicitDefEqProofs (disch := omega) only [List.any_cons, List.any_nil, Nat.reduceEqDiff, List.map_cons, List.map_nil, Option.map_some, Option.map_none, List.nil_append, ↓reduceIte, vcu0, vcu1, vcu2, vcu3, vcu4, vcu5, vcu6, vcu7, vcu8, vcu9, vcu10, vcu11, vcu12, vcu13, vcu14, vcu15, vcu16, vcu17, vcu18, vcu19, vcu20, vcu21, vcu22, vcu23, vcu24, vcu25, vcu26, ↓vcd0, ↓vcd1, ↓vcd2, ↓vcd3, h5, h14, h15, h16, l1, l2, x1', x2', ecomm]
      refine region_tree mixed (quiets [0, 1, 2, 3, 4, 5, 6] (.one 7 (quiets [8] (.one 9 .stop)))) [([0, 1, 2, 3, 4, 5, 6], Sub (only τ b))] (by kernel_rfl) (by kernel_rfl) ?_ ?_
      · intro p hp
        simp only [List.mem_cons, List.not_mem_nil, or_false] at hp
        subst hp
        exact only_sub rfl
      refine tree_quiets (only τ b) _ _ _ sf1 (by kernel_rfl) (by kernel_rfl) ?_
      have l3 : ld (only τ b) b (0 + 0) = some (.int .i64 a0) := ld_of (by rw [only_at]; exact e) rfl
      have l4 : ld (only τ b) b (0 + 1) = some (.int .i64 b0) := ld_of (by rw [only_at]; exact e) rfl
      simp -implicitDefEqProofs (disch := omega) only [List.any_cons, List.any_nil, Nat.reduceEqDiff, List.map_cons, List.map_nil, Option.map_some, Option.map_none, List.nil_append, ↓reduceIte, vcu0, vcu1, vcu2, vcu3, vcu4, vcu5, vcu6, vcu7, vcu8, vcu9, vcu10, vcu11, vcu12, vcu13, vcu14, vcu15, vcu16, vcu17, vcu18, vcu19, vcu20, vcu21, vcu22, vcu23, vcu24, vcu25, vcu26, ↓vcd0, ↓vcd1, ↓vcd2, ↓vcd3, pickOps_nil, pickOps_cons, pickO_some, List.getElem?_cons_succ, List.getElem?_cons_zero, l3, l4, h5]
      refine tree_one rfl ?_
      refine r_setI (g := g) (i := 0 + a0) (v := max x y + 1) (by simp -implicitDefEqProofs (disch := omega) only [List.any_cons, List.any_nil, Nat.reduceEqDiff, List.map_cons, List.map_nil, Option.map_some, Option.map_none, List.nil_append, ↓reduceIte, vcu0, vcu1, vcu2, vcu3, vcu4, vcu5, vcu6, vcu7, vcu8, vcu9, vcu10, vcu11, vcu12, vcu13, vcu14, vcu15, vcu16, vcu17, vcu18, vcu19, vcu20, vcu21, vcu22, vcu23, vcu24, vcu25, vcu26, ↓vcd0, ↓vcd1, ↓vcd2, ↓vcd3]) (by simp -implicitDefEqProofs (disch := omega) only [List.any_cons, List.any_nil, Nat.reduceEqDiff, List.map_cons, List.map_nil, Option.map_some, Option.map_none, List.nil_append, ↓reduceIte, vcu0, vcu1, vcu2, vcu3, vcu4, vcu5, vcu6, vcu7, vcu8, vcu9, vcu10, vcu11, vcu12, vcu13, vcu14, vcu15, vcu16, vcu17, vcu18, vcu19, vcu20, vcu21, vcu22, vcu23, vcu24, vcu25, vcu26, ↓vcd0, ↓vcd1, ↓vcd2, ↓vcd3]) co3 hgτ (by omega) fun τ2 k2 e2 => ?_
      simp -implicitDefEqProofs (disch := omega) only [List.any_cons, List.any_nil, Nat.reduceEqDiff, List.map_cons, List.map_nil, Option.map_some, Option.map_none, List.nil_append, ↓reduceIte, vcu0, vcu1, vcu2, vcu3, vcu4, vcu5, vcu6, vcu7, vcu8, vcu9, vcu10, vcu11, vcu12, vcu13, vcu14, vcu15, vcu16, vcu17, vcu18, vcu19, vcu20, vcu21, vcu22, vcu23, vcu24, vcu25, vcu26, ↓vcd0, ↓vcd1, ↓vcd2, ↓vcd3]
      refine ⟨keep_of rfl ?_, ?_⟩
      · intro p hp
        simp only [List.mem_cons, List.not_mem_nil, or_false] at hp
        subst hp
        exact .inr (only_sub (by rw [e]; exact k2.at e hbg))
      refine tree_quiets _ _ _ _ sf0 (by kernel_rfl) (by kernel_rfl) ?_
      simp -implicitDefEqProofs (disch := omega) only [List.any_cons, List.any_nil, Nat.reduceEqDiff, List.map_cons, List.map_nil, Option.map_some, Option.map_none, List.nil_append, ↓reduceIte, vcu0, vcu1, vcu2, vcu3, vcu4, vcu5, vcu6, vcu7, vcu8, vcu9, vcu10, vcu11, vcu12, vcu13, vcu14, vcu15, vcu16, vcu17, vcu18, vcu19, vcu20, vcu21, vcu22, vcu23, vcu24, vcu25, vcu26, ↓vcd0, ↓vcd1, ↓vcd2, ↓vcd3, pickOps_nil, pickOps_cons, pickO_some, List.getElem?_cons_succ, List.getElem?_cons_zero, h5]
      refine tree_one rfl ?_
      refine r_setI (g := g) (i := 0 + b0) (v := max x y + 1) (by simp -implicitDefEqProofs (disch := omega) only [List.any_cons, List.any_nil, Nat.reduceEqDiff, List.map_cons, List.map_nil, Option.map_some, Option.map_none, List.nil_append, ↓reduceIte, vcu0, vcu1, vcu2, vcu3, vcu4, vcu5, vcu6, vcu7, vcu8, vcu9, vcu10, vcu11, vcu12, vcu13, vcu14, vcu15, vcu16, vcu17, vcu18, vcu19, vcu20, vcu21, vcu22, vcu23, vcu24, vcu25, vcu26, ↓vcd0, ↓vcd1, ↓vcd2, ↓vcd3]) (by simp -implicitDefEqProofs (disch := omega) only [List.any_cons, List.any_nil, Nat.reduceEqDiff, List.map_cons, List.map_nil, Option.map_some, Option.map_none, List.nil_append, ↓reduceIte, vcu0, vcu1, vcu2, vcu3, vcu4, vcu5, vcu6, vcu7, vcu8, vcu9, vcu10, vcu11, vcu12, vcu13, vcu14, vcu15, vcu16, vcu17, vcu18, vcu19, vcu20, vcu21, vcu22, vcu23, vcu24, vcu25, vcu26, ↓vcd0, ↓vcd1, ↓vcd2, ↓vcd3]) co3 e2 (by simp; omega) fun τ3 k3 e3 => ?_
      simp -implicitDefEqProofs (disch := omega) only [List.any_cons, List.any_nil, Nat.reduceEqDiff, List.map_cons, List.map_nil, Option.map_some, Option.map_none, List.nil_append, ↓reduceIte, vcu0, vcu1, vcu2, vcu3, vcu4, vcu5, vcu6, vcu7, vcu8, vcu9, vcu10, vcu11, vcu12, vcu13, vcu14, vcu15, vcu16, vcu17, vcu18, vcu19, vcu20, vcu21, vcu22, vcu23, vcu24, vcu25, vcu26, ↓vcd0, ↓vcd1, ↓vcd2, ↓vcd3]
      refine ⟨keep_of rfl ?_, tree_stop ?_⟩
      · intro p hp
        simp only [List.mem_cons, List.not_mem_nil, or_false] at hp
        subst hp
        exact .inl (by kernel_rfl)
      simp -implicitDefEqProofs (disch := omega) only [List.any_cons, List.any_nil, Nat.reduceEqDiff, List.map_cons, List.map_nil, Option.map_some, Option.map_none, List.nil_append, ↓reduceIte, vcu0, vcu1, vcu2, vcu3, vcu4, vcu5, vcu6, vcu7, vcu8, vcu9, vcu10, vcu11, vcu12, vcu13, vcu14, vcu15, vcu16, vcu17, vcu18, vcu19, vcu20, vcu21, vcu22, vcu23, vcu24, vcu25, vcu26, ↓vcd0, ↓vcd1, ↓vcd2, ↓vcd3, h5, h14, h15, h16, h6]
      refine ⟨⟨trivial, trivial, trivial, trivial⟩, m - 1, by omega, k + 1, by omega, by simp, by rw [hsn], ((hkp.trans hs2.kept).trans k2).trans k3, ?_⟩
      rw [e3, hsn, Nat.zero_add, Nat.zero_add]
    · simp -implicitDefEqProofs (disch := omega) only [List.any_cons, List.any_nil, Nat.reduceEqDiff, List.map_cons, List.map_nil, Option.map_some, Option.map_none, List.nil_append, ↓reduceIte, vcu0, vcu1, vcu2, vcu3, vcu4, vcu5, vcu6, vcu7, vcu8, vcu9, vcu10, vcu11, vcu12, vcu13, vcu14, vcu15, vcu16, vcu17, vcu18, vcu19, vcu20, vcu21, vcu22, vcu23, vcu24, vcu25, vcu26, ↓vcd0, ↓vcd1, ↓vcd2, ↓vcd3, h5, h14, h15, h16, h6]
      have e : k = cs.length := by omega
      subst e
      refine fin_drop Try.results49 σ hsub ⟨?_, rfl⟩
      simp -implicitDefEqProofs (disch := omega) only [List.any_cons, List.any_nil, Nat.reduceEqDiff, List.map_cons, List.map_nil, Option.map_some, Option.map_none, List.nil_append, ↓reduceIte, vcu0, vcu1, vcu2, vcu3, vcu4, vcu5, vcu6, vcu7, vcu8, vcu9, vcu10, vcu11, vcu12, vcu13, vcu14, vcu15, vcu16, vcu17, vcu18, vcu19, vcu20, vcu21, vcu22, vcu23, vcu24, vcu25, vcu26, ↓vcd0, ↓vcd1, ↓vcd2, ↓vcd3]
      rw [List.take_length]
  · rw [decide_eq_false hN, if_neg hN]
    simp -implicitDefEqProofs (disch := omega) only [List.any_cons, List.any_nil, Nat.reduceEqDiff, List.map_cons, List.map_nil, Option.map_some, Option.map_none, List.nil_append, ↓reduceIte, vcu0, vcu1, vcu2, vcu3, vcu4, vcu5, vcu6, vcu7, vcu8, vcu9, vcu10, vcu11, vcu12, vcu13, vcu14, vcu15, vcu16, vcu17, vcu18, vcu19, vcu20, vcu21, vcu22, vcu23, vcu24, vcu25, vcu26, ↓vcd0, ↓vcd1, ↓vcd2, ↓vcd3, opK_some]
    refine fin_one Try.results49 ⟨?_, rfl⟩
    simp -implicitDefEqProofs (disch := omega) only [List.any_cons, List.any_nil, Nat.reduceEqDiff, List.map_cons, List.map_nil, Option.map_some, Option.map_none, List.nil_append, ↓reduceIte, vcu0, vcu1, vcu2, vcu3, vcu4, vcu5, vcu6, vcu7, vcu8, vcu9, vcu10, vcu11, vcu12, vcu13, vcu14, vcu15, vcu16, vcu17, vcu18, vcu19, vcu20, vcu21, vcu22, vcu23, vcu24, vcu25, vcu26, ↓vcd0, ↓vcd1, ↓vcd2, ↓vcd3]

theorem specDepth_at (σ : AHeap) (lines : Int) (h o : Nat) (cs : List (Int × Int)) (hv : PairsAt σ h o cs) (hl : cs.length ≤ 1048576) (hf : Fits cs) (hr : InR lines) :
    ACall Try.prog w0 50 [.int .i64 lines, .slice (some ⟨h, o, none⟩) cs.length 2] σ fun r σ' => r = .int .i64 (depV lines cs) ∧ σ' = σ := by
  unfold depV
  refine acall_go mixed Try.func50 rfl good50 fun pr => ?_
  simp -implicitDefEqProofs (disch := omega) only [List.any_cons, List.any_nil, Nat.reduceEqDiff, List.map_cons, List.map_nil, Option.map_some, Option.map_none, List.nil_append, ↓reduceIte, vcu0, vcu1, vcu2, vcu3, vcu4, vcu5, vcu6, vcu7, vcu8, vcu9, vcu10, vcu11, vcu12, vcu13, vcu14, vcu15, vcu16, vcu17, vcu18, vcu19, vcu20, vcu21, vcu22, vcu23, vcu24, vcu25, vcu26, ↓vcd0, ↓vcd1, ↓vcd2, ↓vcd3]
  refine (specNV_at σ lines h o cs hv hl hf hr).mono ?_
  rintro r _ ⟨rfl, rfl⟩
  by_cases hN : NV lines cs
  · have hN1 := hN.1
    have hdep := dep_eq hN
    obtain ⟨n, rfl⟩ : ∃ n : Nat, lines = n := ⟨lines.toNat, by omega⟩
    simp only [Int.toNat_natCast] at hdep
    rw [decide_eq_true hN, if_pos hN, ← hdep]
    simp -implicitDefEqProofs (disch := omega) only [List.any_cons, List.any_nil, Nat.reduceEqDiff, List.map_cons, List.map_nil, Option.map_some, Option.map_none, List.nil_append, ↓reduceIte, vcu0, vcu1, vcu2, vcu3, vcu4, vcu5, vcu6, vcu7, vcu8, vcu9, vcu10, vcu11, vcu12, vcu13, vcu14, vcu15, vcu16, vcu17, vcu18, vcu19, vcu20, vcu21, vcu22, vcu23, vcu24, vcu25, vcu26, ↓vcd0, ↓vcd1, ↓vcd2, ↓vcd3, opK_some]
    rename_i σ
    refine r_makeI (kx := .i64) (ky := .i64) (l := n) (c := n) el31 (by omega) (by simp -implicitDefEqProofs (disch := omega) only [List.any_cons, List.any_nil, Nat.reduceEqDiff, List.map_cons, List.map_nil, Option.map_some, Option.map_none, List.nil_append, ↓reduceIte, vcu0, vcu1, vcu2, vcu3, vcu4, vcu5, vcu6, vcu7, vcu8, vcu9, vcu10, vcu11, vcu12, vcu13, vcu14, vcu15, vcu16, vcu17, vcu18, vcu19, vcu20, vcu21, vcu22, vcu23, vcu24, vcu25, vcu26, ↓vcd0, ↓vcd1, ↓vcd2, ↓vcd3]) (by simp -implicitDefEqProofs (disch := omega) only [List.any_cons, List.any_nil, Nat.reduceEqDiff, List.map_cons, List.map_nil, Option.map_some, Option.map_none, List.nil_append, ↓reduceIte, vcu0, vcu1, vcu2, vcu3, vcu4, vcu5, vcu6, vcu7, vcu8, vcu9, vcu10, vcu11, vcu12, vcu13, vcu14, vcu15, vcu16, vcu17, vcu18, vcu19, vcu20, vcu21, vcu22, vcu23, vcu24, vcu25, vcu26, ↓vcd0, ↓vcd1, ↓vcd2, ↓vcd3]) (by omega) fun g τ1 ng s1 v1 => ?_
    replace v1 : τ1 g = some ⟨ints .i64 (busyD n []).1, false⟩ := v1
    simp -implicitDefEqProofs (disch := omega) only [List.any_cons, List.any_nil, Nat.reduceEqDiff, List.map_cons, List.map_nil, Option.map_some, Option.map_none, List.nil_append, ↓reduceIte, vcu0, vcu1, vcu2, vcu3, vcu4, vcu5, vcu6, vcu7, vcu8, vcu9, vcu10, vcu11, vcu12, vcu13, vcu14, vcu15, vcu16, vcu17, vcu18, vcu19, vcu20, vcu21, vcu22, vcu23, vcu24, vcu25, vcu26, ↓vcd0, ↓vcd1, ↓vcd2, ↓vcd3]
    refine vc_loop_c mixed (by kernel_rfl) [1, 5] (fun m a σ' => ∃ k : Nat, m + k = cs.length ∧ a 7 = .int .i64 k ∧ a 6 = .int .i64 (busyD n (cs.take k)).2 ∧ Kept g τ1 σ' ∧ σ' g = some ⟨ints .i64 (busyD n (cs.take k)).1, false⟩) cs.length ⟨0, by simp, rfl, rfl, Kept.refl _ _, v1⟩ ?_
    rintro m a σ' hc ⟨k, hk, h7, h6, hkp, hgk⟩
    simp -implicitDefEqProofs (disch := omega) only [List.any_cons, List.any_nil, Nat.reduceEqDiff, List.map_cons, List.map_nil, Option.map_some, Option.map_none, List.nil_append, ↓reduceIte, vcu0, vcu1, vcu2, vcu3, vcu4, vcu5, vcu6, vcu7, vcu8, vcu9, vcu10, vcu11, vcu12, vcu13, vcu14, vcu15, vcu16, vcu17, vcu18, vcu19, vcu20, vcu21, vcu22, vcu23, vcu24, vcu25, vcu26, ↓vcd0, ↓vcd1, ↓vcd2, ↓vcd3] at hc
    obtain ⟨h1, h5, -⟩ := hc
    have hsub := hkp.sub s1 ng
    by_cases hlt : k < cs.length
    · obtain ⟨q1, q2⟩ := hv.sub hsub k hlt
      have hm := getD_mem hlt
      have ht := take_one hlt
      generalize hcc : cs.getD k (0, 0) = c at hm ht q1 q2
      have hNc := hN.2 c hm
      obtain ⟨A, B⟩ := c
      unfold NVc at hNc
      dsimp only at hNc q1 q2
      obtain ⟨a0, rfl⟩ : ∃ a0 : Nat, A = a0 := ⟨A.toNat, by omega⟩
      obtain ⟨b0, rfl⟩ : ∃ b0 : Nat, B = b0 := ⟨B.toNat, by omega⟩
      have hbl := busyD_length n (cs.take k)
      have hlow := low_busy n (cs.take k)
      have hsn := busyD_snoc n (cs.take k) ((a0 : Int), (b0 : Int))
      rw [← ht] at hsn
      have htl : ((cs.take k).length : Int) ≤ 20 := by simp; omega
      obtain ⟨hlow1, hlow2, hlow3⟩ := hlow
      generalize busyD n (cs.take k) = st at hgk hbl hlow1 hlow2 hlow3 hsn h6
      obtain ⟨ys, dp⟩ := st
      dsimp only at hgk hbl hlow1 hlow2 hlow3 h6
      unfold stepD at hsn
      simp only [Int.toNat_natCast] at hsn
      have x1 := own_at hgk (show a0 < ys.length by omega)
      have x2 := own_at hgk (show b0 < ys.length by omega)
      have w1 := getD_low hlow1 (by omega) a0
      have w2 := getD_low hlow1 (by omega) b0
      generalize ys.getD a0 0 = x at x1 hsn w1
      generalize ys.getD b0 0 = y at x2 hsn w2
      subst hbl
      simp -implicitDefEqProofs (disch := omega) only [List.any_cons, List.any_nil, Nat.reduceEqDiff, List.map_cons, List.map_nil, Option.map_some, Option.map_none, List.nil_append, ↓reduceIte, vcu0, vcu1, vcu2, vcu3, vcu4, vcu5, vcu6, vcu7, vcu8, vcu9, vcu10, vcu11, vcu12, vcu13, vcu14, vcu15, vcu16, vcu17, vcu18, vcu19, vcu20, vcu21, vcu22, vcu23, vcu24, vcu25, vcu26, ↓vcd0, ↓vcd1, ↓vcd2, ↓vcd3, h1, h5, h7, q1, q2, x1, x2, Nat.add_zero]
      refine r_setI (g := g) (i := 0 + a0) (v := max x y + 1) (by simp -implicitDefEqProofs (disch := omega) only [List.any_cons, List.any_nil, Nat.reduceEqDiff, List.map_cons, List.map_nil, Option.map_some, Option.map_none, List.nil_append, ↓reduceIte, vcu0, vcu1, vcu2, vcu3, vcu4, vcu5, vcu6, vcu7, vcu8, vcu9, vcu10, vcu11, vcu12, vcu13, vcu14, vcu15, vcu16, vcu17, vcu18, vcu19, vcu20, vcu21, vcu22, vcu23, vcu24, vcu25, vcu26, ↓vcd0, ↓vcd1, ↓vcd2, ↓vcd3, h5, q1]) (by simp -implicitDefEqProofs (disch := omega) only [List.any_cons, List.any_nil, Nat.reduceEqDiff, List.map_cons, List.map_nil, Option.map_some, Option.map_none, List.nil_append, ↓reduceIte, vcu0, vcu1, vcu2, vcu3, vcu4, vcu5, vcu6, vcu7, vcu8, vcu9, vcu10, vcu11, vcu12, vcu13, vcu14, vcu15, vcu16, vcu17, vcu18, vcu19, vcu20, vcu21, vcu22, vcu23, vcu24, vcu25, vcu26, ↓vcd0, ↓vcd1, ↓vcd2, ↓vcd3]) co3 hgk (by omega) fun τ3 k3 e3 => ?_
      obtain ⟨q1', q2'⟩ := hv.sub (k3.sub hsub ng) k hlt
      rw [hcc] at q1' q2'
      dsimp only at q1' q2'
      simp -implicitDefEqProofs (disch := omega) only [List.any_cons, List.any_nil, Nat.reduceEqDiff, List.map_cons, List.map_nil, Option.map_some, Option.map_none, List.nil_append, ↓reduceIte, vcu0, vcu1, vcu2, vcu3, vcu4, vcu5, vcu6, vcu7, vcu8, vcu9, vcu10, vcu11, vcu12, vcu13, vcu14, vcu15, vcu16, vcu17, vcu18, vcu19, vcu20, vcu21, vcu22, vcu23, vcu24, vcu25, vcu26, ↓vcd0, ↓vcd1, ↓vcd2, ↓vcd3, h1, h5, h7, q1', q2', Nat.add_zero]
      refine r_setI (g := g) (i := 0 + b0) (v := max x y + 1) (by simp -implicitDefEqProofs (disch := omega) only [List.any_cons, List.any_nil, Nat.reduceEqDiff, List.map_cons, List.map_nil, Option.map_some, Option.map_none, List.nil_append, ↓reduceIte, vcu0, vcu1, vcu2, vcu3, vcu4, vcu5, vcu6, vcu7, vcu8, vcu9, vcu10, vcu11, vcu12, vcu13, vcu14, vcu15, vcu16, vcu17, vcu18, vcu19, vcu20, vcu21, vcu22, vcu23, vcu24, vcu25, vcu26, ↓vcd0, ↓vcd1, ↓vcd2, ↓vcd3, h5, q2']) (by simp -implicitDefEqProofs (disch := omega) only [List.any_cons, List.any_nil, Nat.reduceEqDiff, List.map_cons, List.map_nil, Option.map_some, Option.map_none, List.nil_append, ↓reduceIte, vcu0, vcu1, vcu2, vcu3, vcu4, vcu5, vcu6, vcu7, vcu8, vcu9, vcu10, vcu11, vcu12, vcu13, vcu14, vcu15, vcu16, vcu17, vcu18, vcu19, vcu20, vcu21, vcu22, vcu23, vcu24, vcu25, vcu26, ↓vcd0, ↓vcd1, ↓vcd2, ↓vcd3]) co3 e3 (by simp; omega) fun τ4 k4 e4 => ?_
      simp -implicitDefEqProofs (disch := omega) only [List.any_cons, List.any_nil, Nat.reduceEqDiff, List.map_cons, List.map_nil, Option.map_some, Option.map_none, List.nil_append, ↓reduceIte, vcu0, vcu1, vcu2, vcu3, vcu4, vcu5, vcu6, vcu7, vcu8, vcu9, vcu10, vcu11, vcu12, vcu13, vcu14, vcu15, vcu16, vcu17, vcu18, vcu19, vcu20, vcu21, vcu22, vcu23, vcu24, vcu25, vcu26, ↓vcd0, ↓vcd1, ↓vcd2, ↓vcd3, h1, h5, h6, h7]
      refine ⟨⟨trivial, trivial, trivial⟩, m - 1, by omega, k + 1, by omega, by simp, by rw [hsn], (hkp.trans k3).trans k4, ?_⟩
      rw [e4, hsn, Nat.zero_add, Nat.zero_add]
    · simp -implicitDefEqProofs (disch := omega) only [List.any_cons, List.any_nil, Nat.reduceEqDiff, List.map_cons, List.map_nil, Option.map_some, Option.map_none, List.nil_append, ↓reduceIte, vcu0, vcu1, vcu2, vcu3, vcu4, vcu5, vcu6, vcu7, vcu8, vcu9, vcu10, vcu11, vcu12, vcu13, vcu14, vcu15, vcu16, vcu17, vcu18, vcu19, vcu20, vcu21, vcu22, vcu23, vcu24, vcu25, vcu26, ↓vcd0, ↓vcd1, ↓vcd2, ↓vcd3, h1, h5, h6, h7]
      have e : k = cs.length := by omega
      subst e
      refine fin_drop Try.results50 σ hsub ⟨?_, rfl⟩
      simp -implicitDefEqProofs (disch := omega) only [List.any_cons, List.any_nil, Nat.reduceEqDiff, List.map_cons, List.map_nil, Option.map_some, Option.map_none, List.nil_append, ↓reduceIte, vcu0, vcu1, vcu2, vcu3, vcu4, vcu5, vcu6, vcu7, vcu8, vcu9, vcu10, vcu11, vcu12, vcu13, vcu14, vcu15, vcu16, vcu17, vcu18, vcu19, vcu20, vcu21, vcu22, vcu23, vcu24, vcu25, vcu26, ↓vcd0, ↓vcd1, ↓vcd2, ↓vcd3]
      rw [List.take_length]
  · rw [decide_eq_false hN, if_neg hN]
    simp -implicitDefEqProofs (disch := omega) only [List.any_cons, List.any_nil, Nat.reduceEqDiff, List.map_cons, List.map_nil, Option.map_some, Option.map_none, List.nil_append, ↓reduceIte, vcu0, vcu1, vcu2, vcu3, vcu4, vcu5, vcu6, vcu7, vcu8, vcu9, vcu10, vcu11, vcu12, vcu13, vcu14, vcu15, vcu16, vcu17, vcu18, vcu19, vcu20, vcu21, vcu22, vcu23, vcu24, vcu25, vcu26, ↓vcd0, ↓vcd1, ↓vcd2, ↓vcd3, opK_some]
    refine fin_one Try.results50 ⟨?_, rfl⟩
    simp -implicitDefEqProofs (disch := omega) only [List.any_cons, List.any_nil, Nat.reduceEqDiff, List.map_cons, List.map_nil, Option.map_some, Option.map_none, List.nil_append, ↓reduceIte, vcu0, vcu1, vcu2, vcu3, vcu4, vcu5, vcu6, vcu7, vcu8, vcu9, vcu10, vcu11, vcu12, vcu13, vcu14, vcu15, vcu16, vcu17, vcu18, vcu19, vcu20, vcu21, vcu22, vcu23, vcu24, vcu25, vcu26, ↓vcd0, ↓vcd1, ↓vcd2, ↓vcd3]

theorem law20 (σ : AHeap) (lines : Int) (v : Value) (cs : List (Int × Int)) (hr : (Lit.int .i64 lines).wf = true) (hv : Pairs σ v cs) (hm : cs.length ≤ maxLen) (hw : ∀ z ∈ cs, (Lit.int .i64 z.1).wf = true ∧ (Lit.int .i64 z.2).wf = true) :
    ACall Try.prog w0 20 [.int .i64 lines, v] σ fun r _ => r = .bool true := by
  have hR := inR_of hr
  have hF : Fits cs := fun c hc => ⟨inR_of (hw c hc).1, inR_of (hw c hc).2⟩
  refine ACall.pairs_arg (pre := [_]) (by kernel_rfl) hv fun σ1 h o hs hg => ?_
  clear hv hs σ v
  refine acall_go mixed Try.func20 rfl good20 fun pr => ?_
  simp -implicitDefEqProofs (disch := omega) only [List.any_cons, List.any_nil, Nat.reduceEqDiff, List.map_cons, List.map_nil, Option.map_some, Option.map_none, List.nil_append, ↓reduceIte, vcu0, vcu1, vcu2, vcu3, vcu4, vcu5, vcu6, vcu7, vcu8, vcu9, vcu10, vcu11, vcu12, vcu13, vcu14, vcu15, vcu16, vcu17, vcu18, vcu19, vcu20, vcu21, vcu22, vcu23, vcu24, vcu25, vcu26, ↓vcd0, ↓vcd1, ↓vcd2, ↓vcd3, List.singleton_append, List.cons_append]
  refine (szComps_at σ1 h o cs 1048576 (by omega) hm).mono ?_
  rintro r _ ⟨rfl, rfl⟩
  by_cases hbig : 1048576 < cs.length
  · rw [if_pos (by omega)]
    simp -implicitDefEqProofs (disch := omega) only [List.any_cons, List.any_nil, Nat.reduceEqDiff, List.map_cons, List.map_nil, Option.map_some, Option.map_none, List.nil_append, ↓reduceIte, vcu0, vcu1, vcu2, vcu3, vcu4, vcu5, vcu6, vcu7, vcu8, vcu9, vcu10, vcu11, vcu12, vcu13, vcu14, vcu15, vcu16, vcu17, vcu18, vcu19, vcu20, vcu21, vcu22, vcu23, vcu24, vcu25, vcu26, ↓vcd0, ↓vcd1, ↓vcd2, ↓vcd3, opK_some]
    refine fin_one Try.results20 ?_
    simp -implicitDefEqProofs (disch := omega) only [List.any_cons, List.any_nil, Nat.reduceEqDiff, List.map_cons, List.map_nil, Option.map_some, Option.map_none, List.nil_append, ↓reduceIte, vcu0, vcu1, vcu2, vcu3, vcu4, vcu5, vcu6, vcu7, vcu8, vcu9, vcu10, vcu11, vcu12, vcu13, vcu14, vcu15, vcu16, vcu17, vcu18, vcu19, vcu20, vcu21, vcu22, vcu23, vcu24, vcu25, vcu26, ↓vcd0, ↓vcd1, ↓vcd2, ↓vcd3]
  · have hl : cs.length ≤ 1048576 := by omega
    rw [if_neg (by omega)]
    simp -implicitDefEqProofs (disch := omega) only [List.any_cons, List.any_nil, Nat.reduceEqDiff, List.map_cons, List.map_nil, Option.map_some, Option.map_none, List.nil_append, ↓reduceIte, vcu0, vcu1, vcu2, vcu3, vcu4, vcu5, vcu6, vcu7, vcu8, vcu9, vcu10, vcu11, vcu12, vcu13, vcu14, vcu15, vcu16, vcu17, vcu18, vcu19, vcu20, vcu21, vcu22, vcu23, vcu24, vcu25, vcu26, ↓vcd0, ↓vcd1, ↓vcd2, ↓vcd3, opK_some]
    refine (toComps_at _ h o cs hg hl).mono ?_
    rintro r τ1 ⟨g1, n1, rfl, s1, e1⟩
    simp -implicitDefEqProofs (disch := omega) only [List.any_cons, List.any_nil, Nat.reduceEqDiff, List.map_cons, List.map_nil, Option.map_some, Option.map_none, List.nil_append, ↓reduceIte, vcu0, vcu1, vcu2, vcu3, vcu4, vcu5, vcu6, vcu7, vcu8, vcu9, vcu10, vcu11, vcu12, vcu13, vcu14, vcu15, vcu16, vcu17, vcu18, vcu19, vcu20, vcu21, vcu22, vcu23, vcu24, vcu25, vcu26, ↓vcd0, ↓vcd1, ↓vcd2, ↓vcd3, opK_some]
    refine (specDepth_at _ lines g1 0 cs (pairsAt_own e1) hl hF hR).mono ?_
    rintro r _ ⟨rfl, rfl⟩
    simp -implicitDefEqProofs (disch := omega) only [List.any_cons, List.any_nil, Nat.reduceEqDiff, List.map_cons, List.map_nil, Option.map_some, Option.map_none, List.nil_append, ↓reduceIte, vcu0, vcu1, vcu2, vcu3, vcu4, vcu5, vcu6, vcu7, vcu8, vcu9, vcu10, vcu11, vcu12, vcu13, vcu14, vcu15, vcu16, vcu17, vcu18, vcu19, vcu20, vcu21, vcu22, vcu23, vcu24, vcu25, vcu26, ↓vcd0, ↓vcd1, ↓vcd2, ↓vcd3, opK_some]
    refine (toComps_at _ h o cs (hg.sub s1) hl).mono ?_
    rintro r τ2 ⟨g2, n2, rfl, s2, e2⟩
    simp -implicitDefEqProofs (disch := omega) only [List.any_cons, List.any_nil, Nat.reduceEqDiff, List.map_cons, List.map_nil, Option.map_some, Option.map_none, List.nil_append, ↓reduceIte, vcu0, vcu1, vcu2, vcu3, vcu4, vcu5, vcu6, vcu7, vcu8, vcu9, vcu10, vcu11, vcu12, vcu13, vcu14, vcu15, vcu16, vcu17, vcu18, vcu19, vcu20, vcu21, vcu22, vcu23, vcu24, vcu25, vcu26, ↓vcd0, ↓vcd1, ↓vcd2, ↓vcd3, opK_some]
    refine (implDepth_at _ lines g2 0 cs (pairsAt_own e2) hl hF hR).mono ?_
    rintro r _ ⟨rfl, rfl⟩
    simp -implicitDefEqProofs (disch := omega) only [List.any_cons, List.any_nil, Nat.reduceEqDiff, List.map_cons, List.map_nil, Option.map_some, Option.map_none, List.nil_append, ↓reduceIte, vcu0, vcu1, vcu2, vcu3, vcu4, vcu5, vcu6, vcu7, vcu8, vcu9, vcu10, vcu11, vcu12, vcu13, vcu14, vcu15, vcu16, vcu17, vcu18, vcu19, vcu20, vcu21, vcu22, vcu23, vcu24, vcu25, vcu26, ↓vcd0, ↓vcd1, ↓vcd2, ↓vcd3, opK_some, beq_self_eq_true]
    refine (toComps_at _ h o cs ((hg.sub s1).sub s2) hl).mono ?_
    rintro r τ3 ⟨g3, n3, rfl, s3, e3⟩
    simp -implicitDefEqProofs (disch := omega) only [List.any_cons, List.any_nil, Nat.reduceEqDiff, List.map_cons, List.map_nil, Option.map_some, Option.map_none, List.nil_append, ↓reduceIte, vcu0, vcu1, vcu2, vcu3, vcu4, vcu5, vcu6, vcu7, vcu8, vcu9, vcu10, vcu11, vcu12, vcu13, vcu14, vcu15, vcu16, vcu17, vcu18, vcu19, vcu20, vcu21, vcu22, vcu23, vcu24, vcu25, vcu26, ↓vcd0, ↓vcd1, ↓vcd2, ↓vcd3, opK_some]
    refine (eqComps_at _ g2 0 g3 0 cs cs (pairsAt_own (s3 _ _ e2)) (pairsAt_own e3) hl hl).mono ?_
    rintro r _ ⟨rfl, rfl⟩
    simp -implicitDefEqProofs (disch := omega) only [List.any_cons, List.any_nil, Nat.reduceEqDiff, List.map_cons, List.map_nil, Option.map_some, Option.map_none, List.nil_append, ↓reduceIte, vcu0, vcu1, vcu2, vcu3, vcu4, vcu5, vcu6, vcu7, vcu8, vcu9, vcu10, vcu11, vcu12, vcu13, vcu14, vcu15, vcu16, vcu17, vcu18, vcu19, vcu20, vcu21, vcu22, vcu23, vcu24, vcu25, vcu26, ↓vcd0, ↓vcd1, ↓vcd2, ↓vcd3, opK_some, decide_true]
    refine fin_one Try.results20 ?_
    simp -implicitDefEqProofs (disch := omega) only [List.any_cons, List.any_nil, Nat.reduceEqDiff, List.map_cons, List.map_nil, Option.map_some, Option.map_none, List.nil_append, ↓reduceIte, vcu0, vcu1, vcu2, vcu3, vcu4, vcu5, vcu6, vcu7, vcu8, vcu9, vcu10, vcu11, vcu12, vcu13, vcu14, vcu15, vcu16, vcu17, vcu18, vcu19, vcu20, vcu21, vcu22, vcu23, vcu24, vcu25, vcu26, ↓vcd0, ↓vcd1, ↓vcd2, ↓vcd3]


open Go.ChangeShapes Go.WideShapes Go.ChangeAt Go.RowKit

set_option maxRecDepth 100000 in
theorem lifted20 (os : Os) (started : os.Started) (H : Type) (enc : TypeId × Value → H) :
    ReturnsInHanded {} Try.checked os 20 .any (Rows.fnExactNetDepthSpec.pre6 enc Try.prog Try.f20 Rows.fnExactNetDepthRow.domain false) (Rows.fnExactNetDepthSpec.post enc Try.prog Try.f20 false true false false) := by
  refine returnsInHanded_of_change (C := Try.checked) own started (by kernel_rfl) Try.func20
    (ChangeSpec.witness6 (enc := enc) (C := Try.checked) false ⟨#[], #[.int .i64 0, .slice none 0 0], []⟩ 8 (by kernel_rfl) (by kernel_rfl) (by kernel_rfl) (by kernel_rfl)) ?_
  intro W base args ds gs before hval hW _ _
  have hW' := hW
  obtain ⟨p, q, hA, hV, -, -, -⟩ := hW'
  rw [Try.params20] at hA hval
  obtain ⟨v0, vs0, d0, ds0, p0, q0, hargs, rfl, rfl, h0, r0⟩ := trodAll_cons hA
  obtain ⟨v1, vs1, d1, ds1, p1, q1, rfl, rfl, rfl, h1, r1⟩ := trodAll_cons r0
  obtain ⟨rfl, rfl, rfl⟩ := trodAll_nil r1
  obtain ⟨rfl, rfl⟩ := trodVars_none hV
  obtain rfl : args = #[v0, v1] := by cases args; simp_all
  obtain ⟨z0, rfl, rfl, rfl, wz0⟩ := open_int Try.underlying3 (hval 0 3 v0 rfl rfl) h0
  obtain ⟨β1, σ1, a1, dd1, L1, U1, S1, R1, Y1⟩ := start_one (m := 4) (s := .slc (.rcd [.int .i64, .int .i64])) (by kernel_rfl) (Start.start W) (slice_cells Try.underlying44 (hval 1 44 v1 rfl rfl)) h1
  obtain ⟨zs1, I1, w1, m1⟩ := lay_pairs Y1
  refine ((law20 σ1 z0 a1 zs1 wz0 (I1) m1 w1).2 noProt β1 W [.int .i64 z0, v1] S1.rel (.cons (.int _ _) (.cons R1 (.nil _)))).mono fun e W' h => ?_
  obtain ⟨β', r, r', σ', -, rfl, hr, hrel, rfl⟩ := h
  cases hr
  exact ⟨_, rfl, law_post laidOut hW rfl rfl (by rw [Try.params20]; intro t ht; simp only [List.mem_cons, List.not_mem_nil, or_false, or_self] at ht; rcases ht with rfl | rfl <;> exact ⟨by kernel_rfl, of_decide_eq_true (by kernel_rfl)⟩) rfl Try.underlying4 hrel.below⟩

theorem facts20 : joinedFacts Try.prog 20 Try.f20 Rows.fnExactNetDepthSpec Rows.fnExactNetDepthRow = true := by
  unfold joinedFacts
  rw [mayE, liftsE, makeE]
  kernel_rfl

theorem proved20 : Rows.FnExactNetDepthSaid :=
  OpenClaim.holds_of_wide 20 Try.f20 rfl rfl rfl rfl rfl rfl rfl ⟨rfl, rfl, rfl, rfl, rfl⟩ rfl rfl rfl rfl rfl (by kernel_rfl) Try.func20 facts20 (of_decide_eq_true (by kernel_rfl))
    (by unfold Func.isWrapper; first | (rw [if_pos (by decide +kernel)]; kernel_rfl) | (rw [if_neg (by decide +kernel)]; exact ⟨rfl, rfl⟩))
    (fun os started H enc _ => lifted20 os started H enc)


end Go.Proofs.Ytnkpoflhdfchjaa
