/- Growing nil: cap, a part of nil, append with a number. -/
import Derived.Test.YtnkpoflhdfchjaaOh
set_option linter.unusedSimpArgs false
namespace Go.Abs
open Go.RowKit
variable {P : Program} {w0 : World} {n : NR} {a : AFrame} {σ : AHeap} {K : AFrame → AHeap → Prop}
variable {d : Option Tmp} {ty : TypeId} {pos : String} {af : Array Edge} {gd : Option (Nat × Bool)}

theorem aops_step {all : List Oper} {i : Nat} {l : List Nat} {o : Oper} (ho : all[i]? = some o) (hg : goodOp n.n all o = true) (hgu : o.guard = none) (h : AStep P w0 n o a σ fun a' σ' => AOps P w0 n all.toArray l a' σ' K) :
    AOps P w0 n all.toArray (i :: l) a σ K := AOps.cons (by simpa using ho) hg (fun _ => h) (fun ⟨_, _, hh, _⟩ => by rw [hgu] at hh; cases hh)
theorem relv_nil {β : Beta} {v : Value} (h : RelV β (.slice none 0 0) v) : v = .slice none 0 0 := by cases h; rfl
theorem step_cap_nil {x : Operand} {t e : TypeId} (hd : ∀ t, d = some t → t < n.n) (hx : okx x = true) (ht : P.underlying t = some (.slice e)) (hv : ev a x = .slice none 0 0) (h : K (aput a d (.int .i64 0)) σ) :
    AStep P w0 n ⟨d, .call ⟨.builtin .cap, #[x], #[t]⟩, ty, pos, af, gd⟩ a σ K :=
  .val hd fun β w act hH hF => by
    have h1 := hF.ev hx
    rw [hv] at h1
    have h2 := relv_nil h1
    exact ⟨β, .int .i64 0, .int .i64 0, σ, w, .refl _, by simp [execOp, resolve, invoke, builtin, Builtin.cap_, run_underlying ht, h2, goInt], .int _ _, hH, h⟩
theorem step_slice_nil {x y : Operand} {t e : TypeId} {k : IntKind} {i : TypeInfo} (hd : ∀ t, d = some t → t < n.n) (hx : okx x = true) (hy : okx y = true) (ht : P.underlying t = some (.slice e)) (hi : P.info? e = some i)
    (hv : ev a x = .slice none 0 0) (hu : ev a y = .int k 0) (h : K (aput a d (.slice none 0 0)) σ) : AStep P w0 n ⟨d, .slice t x none (some y) none, ty, pos, af, gd⟩ a σ K :=
  .val hd fun β w act hH hF => by
    have h1 := hF.ev hx
    rw [hv] at h1
    have h2 := relv_nil h1
    have h3 := hF.ev hy
    rw [hu] at h3
    have h4 := relv_int h3
    exact ⟨β, .slice none 0 0, .slice none 0 0, σ, w, .refl _, by simp [execOp, Instr.sliceAt, Instr.slice, run_underlying ht, h2, h4, Instr.sliceBounds, Instr.sliceBound, asIntOf, Go.sizeOf, run_of_info hi], .slcNil, hH, h⟩
theorem run_append_grow {t u e ty : TypeId} {i : TypeInfo} {z : Value} {ku k : IntKind} {m : Nat} (w : World) (ht : P.underlying t = some (.slice e)) (hu : P.underlying u = some (.int ku)) (hi : P.info? e = some i) (hz : i.zero = some z)
    (h0 : 0 < m) (hs : 0 < i.size) (hb : m * i.bytes ≤ 1099511627776) (hm : m ≤ 1099511627776) :
    (Builtin.append_ #[t, u] ty #[.slice none 0 0, .int k m]).run P w =
      .ok (.slice (some ⟨w.heap.size, 0, none⟩) m (grownCap w m 0 e)) (w.drew.alloc (.cells (Builtin.zeroCells z.cells m ++ Builtin.zeroCells z.cells (grownCap w m 0 e - m)) e)) := by
  have hn' : ¬ (m ≤ 0) := by omega
  have h63 : ¬ (9223372036854775807 < (m : Int)) := by omega
  have hwr : IntKind.i64.wrap (m : Int) = m := wrap_i64_ok (by omega)
  have h48 : ¬ (281474976710656 < (m : Int) * (i.bytes : Int)) := by
    have : ((m * i.bytes : Nat) : Int) ≤ 1099511627776 := by omega
    rw [Int.natCast_mul] at this; omega
  have h49 : ¬ (281474976710656 < Builtin.nextslicecap m 0 * i.bytes) := by
    have := growslice_fits (need := 0 + m) (old := 0) (by omega) (bytes := i.bytes) (by rw [Nat.zero_add]; omega)
    rw [Nat.zero_add] at this
    omega
  have hne : ¬ (m * i.size = 0) := by
    intro e0
    rcases Nat.mul_eq_zero.1 e0 with h | h <;> omega
  have hneg : ¬ ((m : Int) < 0) := by omega
  have hm0 : ¬ (m = 0) := by omega
  have hs0 : ¬ (i.size = 0) := by omega
  simp [Builtin.append_, run_underlying ht, run_underlying hu, Go.sizeOf, run_of_info hi, zeroValue, hz, asInt, asIntOf, hwr, hn', h63, h48, h49, hne, hneg, hm0, hs0, Question.forced, Builtin.firstCells, newRow, grownCap]
/-- append to nil of so many zeros: a new row; nothing is told of it -/
theorem step_grow_nil {x y : Operand} {t u e : TypeId} {z : Value} {i : TypeInfo} {ku k : IntKind} {m : Nat} (hd : ∀ t, d = some t → t < n.n) (hx : okx x = true) (hy : okx y = true)
    (ht : P.underlying t = some (.slice e)) (hu : P.underlying u = some (.int ku)) (hi : P.info? e = some i) (hz : i.zero = some z) (hzz : z.cells.size = i.size) (hs : 0 < i.size)
    (hxv : ev a x = .slice none 0 0) (hyv : ev a y = .int k m) (h0 : 0 < m) (hb : m * i.bytes ≤ 1099511627776) (hm : m ≤ 1099511627776)
    (hk : ∀ h, σ h = none → K (aput a d (.slice (some ⟨h, 0, none⟩) m i.size)) (σ.upd h (some ⟨[], false⟩))) :
    AStep P w0 n ⟨d, .call ⟨.builtin .append, #[x, y], #[t, u]⟩, ty, pos, af, gd⟩ a σ K :=
  .val hd fun β w act hH hF => by
    have rx := hF.ev hx
    rw [hxv] at rx
    have hvx := relv_nil rx
    have ry := hF.ev hy
    rw [hyv] at ry
    have hvy := relv_int ry
    have hr := run_append_grow (ty := ty) (k := k) w ht hu hi hz h0 hs hb hm
    have hcap := le_grownCap' w m 0 e
    generalize grownCap w m 0 e = nw at hr hcap
    generalize hC : Builtin.zeroCells z.cells m ++ Builtin.zeroCells z.cells (nw - m) = C at hr
    have hCs : C.size = nw * i.size := by
      rw [← hC]; simp [size_zeroCells, hzz]
      rw [← Nat.add_mul]; congr 1; omega
    have hD : RelH w0 n.pr β σ w.drew := hH.grow (hH.below.drew) (Nat.le_refl _) (fun _ _ => rfl)
    obtain ⟨h, a1, a2, a3⟩ := hD.alloc [] C e (nw * i.size) (by omega) (by simp) (fun j v hv => by simp at hv)
    refine ⟨_, .slice (some ⟨h, 0, none⟩) m i.size, _, _, _, le_bset a2 _, ?_, .slc (o := 0) (bset_same β h ⟨w.heap.size, 0, nw * i.size⟩) (by simp) hcap, a3, hk h a1⟩
    simp [execOp, resolve, invoke, builtin, hvx, hvy, hr]
theorem acode_vc (hm : P.follows .mixedOrders = true) {c : Code} {Q : AQ} (hg : goodC P n.n c = true) (h : vc P ⟨w0, n.pr⟩ n c a σ Q) : ACode P w0 n c a σ Q := vc_sound (w0 := ⟨w0, n.pr⟩) rfl hm c a σ Q hg h
theorem aops_vc1 {b : Base} {all : List Oper} {i : Nat} {l : List Nat} {o : Oper} (hpr : n.pr = b.pr) (ho : all[i]? = some o) (hg : goodOp n.n all o = true) (hgu : o.guard = none) (hs : statOk P o = true)
    (h : vcR P b false all [o] a σ fun a' σ' => AOps P b.w n all.toArray l a' σ' K) : AOps P b.w n all.toArray (i :: l) a σ K := by
  unfold vcR at h
  rw [hgu] at h
  refine aops_step ho hg hgu (vcOp_sound hpr hs (goodOp_dst hg) (vcOp_mono (fun a' σ' hh => ?_) h))
  unfold vcR at hh
  exact hh
end Go.Abs
