/- Parts. -/
import Derived.Test.YtafkndnmhhjdhaaDoorSHb
import Derived.Laws.Strings
import Derived.Below
import Derived.WalkSmall
set_option linter.unusedSimpArgs false
set_option linter.unusedVariables false
set_option linter.unusedSectionVars false
namespace Go.Abs
open Go.RowKit
variable {P : Program} {w0 : World} {σ : AHeap}
end Go.Abs
namespace Go.Clos
/-- a record of three numbers: a call (its input, its output, its middle switch) -/
structure Cl where
  i : Int
  o : Int
  v : Int
deriving DecidableEq
end Go.Clos
namespace Go.Abs
open Go.RowKit Go.ChangeShapes Go.WideShapes Go.ChangeAt Go.Clos
section
variable {P : Program} {w0 : World} {σ : AHeap}
theorem lds_three {h i : Nat} {u v w : Value} (h1 : ld σ h i = some u) (h2 : ld σ h (i + 1) = some v) (h3 : ld σ h (i + 2) = some w) : lds σ h i 3 = some [u, v, w] := by
  unfold ld at h1 h2 h3
  cases hσ : σ h with
  | none => rw [hσ] at h1; cases h1
  | some ob =>
    rw [hσ] at h1 h2 h3
    simp only [Option.bind_some] at h1 h2 h3
    obtain ⟨l1, g1⟩ := List.getElem?_eq_some_iff.1 h1
    obtain ⟨l2, g2⟩ := List.getElem?_eq_some_iff.1 h2
    obtain ⟨l3, g3⟩ := List.getElem?_eq_some_iff.1 h3
    rw [lds_of hσ (by omega)]
    congr 1
    rw [List.drop_eq_getElem_cons l1, List.drop_eq_getElem_cons l2, List.drop_eq_getElem_cons l3]
    simp [g1, g2, g3]
def cl0 : Cl := ⟨0, 0, 0⟩
end
section
variable {P : Program} {w0 : Base} {n : NR} {a : AFrame} {σ : AHeap} {K : AK} {Q : AQ} {q : Bool} {all os : List Oper}
variable {d : Nat} {dd : Option Tmp} {ty : TypeId} {pos : String} {af : Array Edge}
end
end Go.Abs
namespace Go.Abs
end Go.Abs
namespace Go.Abs
open Go.RowKit
variable {P : Program} {w0 : Base}
/-- a text by its bytes -/
def tx (xs : List UInt8) : ByteArray := ⟨xs.toArray⟩
theorem tx_of (s : ByteArray) : s = tx s.data.toList := by cases s; simp [tx]
theorem tx_list {xs : List UInt8} : (tx xs).data.toList = xs := by simp [tx]
theorem tx_inj {xs ys : List UInt8} : tx xs = tx ys ↔ xs = ys := ⟨fun h => by rw [← tx_list (xs := xs), h, tx_list], fun h => h ▸ rfl⟩
theorem tx_size {xs : List UInt8} : (tx xs).size = xs.length := by simp [tx, ByteArray.size]
theorem tx_nil : (ByteArray.mk #[]) = tx [] := rfl
theorem tx_empty : ByteArray.empty = tx [] := rfl
theorem tx_push {xs : List UInt8} {b : UInt8} : (tx xs).push b = tx (xs ++ [b]) := by simp [tx, ByteArray.push]
theorem tx_extract {xs : List UInt8} {i j : Nat} : (tx xs).extract i j = tx ((xs.drop i).take (j - i)) := by
  apply ByteArray.ext
  rw [ByteArray.data_extract]
  simp only [tx, List.extract_toArray]
theorem tx_append {xs ys : List UInt8} : tx xs ++ tx ys = tx (xs ++ ys) := by
  apply ByteArray.ext
  rw [ByteArray.data_append]; simp [tx]
theorem tx_toList {xs : List UInt8} : (tx xs).toList = xs := by rw [ByteArray.toList_eq, tx_list]
theorem foldl_tx (bs : List Int) : ∀ xs : List UInt8, bs.foldl (fun s n => ByteArray.push s (UInt8.ofNat n.toNat)) (tx xs) = tx (xs ++ bs.map fun n => UInt8.ofNat n.toNat) := by
  induction bs with
  | nil => intro xs; simp
  | cons b bs ih => intro xs; simp only [List.foldl_cons, tx_push, ih, List.map_cons, List.append_assoc, List.singleton_append]
theorem textOf_tx {bs : List Int} : textOf bs = tx (bs.map fun n => UInt8.ofNat n.toNat) := by
  have := foldl_tx bs []
  rw [List.nil_append] at this
  exact this
theorem abin_seql {t : TypeId} {xs ys : List UInt8} : abin P t .eql (.string (tx xs)) (.string (tx ys)) = some (.bool (decide (xs = ys))) := by
  simp only [abin, tx_toList]; congr 2; rw [Bool.eq_iff_iff]; simp
theorem abin_sneq {t : TypeId} {xs ys : List UInt8} : abin P t .neq (.string (tx xs)) (.string (tx ys)) = some (.bool (!decide (xs = ys))) := by
  simp only [abin, tx_toList]; congr 3; rw [Bool.eq_iff_iff]; simp
theorem abin_sadd {t : TypeId} {xs ys : List UInt8} (h : xs.length + ys.length ≤ 1099511627776) : abin P t .add (.string (tx xs)) (.string (tx ys)) = some (.string (tx (xs ++ ys))) := by
  simp only [abin, tx_size, tx_append]; rw [if_pos h]
theorem alenV_tx {t : TypeId} (h : P.underlying t = some .string) {xs : List UInt8} : alenV P t (.string (tx xs)) = some (.int .i64 (xs.length : Int)) := by rw [alenV_string h, tx_size]
theorem aslice_thi {t : TypeId} (h : P.underlying t = some .string) {xs : List UInt8} {k : IntKind} {u : Int} : aslice P t (.string (tx xs)) none (some (.int k u)) = some (0 ≤ u ∧ u ≤ xs.length, .string (tx (xs.take u.toNat))) := by
  simp [aslice, h, tx_size, tx_extract]
theorem aslice_tlo {t : TypeId} (h : P.underlying t = some .string) {xs : List UInt8} {k : IntKind} {l : Int} : aslice P t (.string (tx xs)) (some (.int k l)) none = some (0 ≤ l ∧ l ≤ xs.length, .string (tx (xs.drop l.toNat))) := by
  simp only [aslice, h, tx_size, tx_extract]
  rw [List.take_of_length_le (by rw [List.length_drop]; omega)]
theorem aslice_tlohi {t : TypeId} (h : P.underlying t = some .string) {xs : List UInt8} {k k' : IntKind} {l u : Int} : aslice P t (.string (tx xs)) (some (.int k l)) (some (.int k' u)) = some (0 ≤ l ∧ l ≤ u ∧ u ≤ xs.length, .string (tx ((xs.drop l.toNat).take (u.toNat - l.toNat)))) := by
  simp only [aslice, h, tx_size, tx_extract]
theorem aconvH_bytes {σ : AHeap} {s t e : TypeId} {h o z : Nat} {bs : List Int} {l : Nat} (hs : P.underlying s = some (.slice e)) (he : P.underlying e = some (.int .u8)) (ht : P.underlying t = some .string) (hl : lds σ h o l = some (bs.map (.int .u8))) :
    aconvH P σ s t (.slice (some ⟨h, o, none⟩) l z) = some (.string (tx (bs.map fun n => UInt8.ofNat n.toNat))) := by
  have key : ∀ bs : List Int, (bs.map (Value.int .u8)).mapM byteOf = some bs := by
    intro bs
    induction bs with
    | nil => rfl
    | cons b bs ih => rw [List.map_cons, List.mapM_cons, ih]; rfl
  simp only [aconvH, hs, he, ht, hl, Option.bind_some, key, Option.map_some, textOf_tx]
variable {q : Bool} {all os : List Oper} {a : AFrame} {σ : AHeap} {K : AK} {d : Nat} {ty : TypeId} {pos : String} {af : Array Edge}
/-- a byte of a text -/
def bindX (x y : Value) (k : Value → Prop) : Prop := ∃ xs k' i, x = .string (tx xs) ∧ y = .int k' i ∧ 0 ≤ i ∧ i < xs.length ∧ k (.int .u8 (xs.getD i.toNat 0).toNat)
theorem r_index {t : TypeId} {x y : Operand} (ht : P.underlying t = some .string) : vcR P w0 q all (⟨some d, .index t x y, ty, pos, af, none⟩ :: os) a σ K = bindX (ev a x) (ev a y) (stepK P w0 q all os a d σ K) := by
  rw [r_pureE (α := ByteArray × IntKind × Int) (p := fun z => ev a x = .string z.1 ∧ ev a y = .int z.2.1 z.2.2 ∧ 0 ≤ z.2.2 ∧ z.2.2 < z.1.size) (v := fun z => .int .u8 (z.1.data.toList.getD z.2.2.toNat 0).toNat) rfl fun K => by
    apply propext; constructor
    · rintro ⟨_, s, k, i, h1, h2, h3, h4, h5⟩; exact ⟨(s, k, i), ⟨h1, h2, h3, h4⟩, h5⟩
    · rintro ⟨⟨s, k, i⟩, ⟨h1, h2, h3, h4⟩, h5⟩; exact ⟨ht, s, k, i, h1, h2, h3, h4, h5⟩]
  apply propext; constructor
  · rintro ⟨⟨s, k, i⟩, ⟨h1, h2, h3, h4⟩, h5⟩
    refine ⟨s.data.toList, k, i, h1.trans ?_, h2, h3, ?_, h5⟩
    · rw [← tx_of]
    · have : (s.data.toList.length : Int) = s.size := by rw [Array.length_toList]; rfl
      rw [this]; exact h4
  · rintro ⟨xs, k, i, h1, h2, h3, h4, h5⟩
    refine ⟨(tx xs, k, i), ⟨h1, h2, h3, by rw [tx_size]; exact h4⟩, ?_⟩
    simp only [tx_list]
    exact h5
theorem bindX_some {xs : List UInt8} {k : IntKind} {i : Int} (hi : 0 ≤ i ∧ i < xs.length) : bindX (.string (tx xs)) (.int k i) (stepK P w0 q all os a d σ K) = vcR P w0 q all os (fset a d (.int .u8 (xs.getD i.toNat 0).toNat)) σ K := by
  apply propext; constructor
  · rintro ⟨xs', k', i', e1, e2, _, _, hk⟩; cases e2; rw [Value.string.injEq, tx_inj] at e1; subst e1; exact hk
  · intro hk; exact ⟨xs, k, i, rfl, rfl, hi.1, hi.2, hk⟩
theorem aslice_thi' {t : TypeId} (h : P.underlying t = some .string) : ∀ (xs : List UInt8) (k : IntKind) (u : Int), aslice P t (.string (tx xs)) none (some (.int k u)) = some (0 ≤ u ∧ u ≤ xs.length, .string (tx (xs.take u.toNat))) := fun _ _ _ => aslice_thi h
theorem aslice_tlo' {t : TypeId} (h : P.underlying t = some .string) : ∀ (xs : List UInt8) (k : IntKind) (l : Int), aslice P t (.string (tx xs)) (some (.int k l)) none = some (0 ≤ l ∧ l ≤ xs.length, .string (tx (xs.drop l.toNat))) := fun _ _ _ => aslice_tlo h
theorem aslice_tlohi' {t : TypeId} (h : P.underlying t = some .string) : ∀ (xs : List UInt8) (k k' : IntKind) (l u : Int), aslice P t (.string (tx xs)) (some (.int k l)) (some (.int k' u)) = some (0 ≤ l ∧ l ≤ u ∧ u ≤ xs.length, .string (tx ((xs.drop l.toNat).take (u.toNat - l.toNat)))) := fun _ _ _ _ _ => aslice_tlohi h
theorem alenV_tx' {t : TypeId} (h : P.underlying t = some .string) : ∀ (xs : List UInt8), alenV P t (.string (tx xs)) = some (.int .i64 (xs.length : Int)) := fun _ => alenV_tx h
theorem r_index' {t : TypeId} (ht : P.underlying t = some .string) : ∀ (w0 : Base) (q : Bool) (all os : List Oper) (a : AFrame) (σ : AHeap) (K : AK) (d : Nat) (ty : TypeId) (pos : String) (af : Array Edge) (x y : Operand),
    vcR P w0 q all (⟨some d, .index t x y, ty, pos, af, none⟩ :: os) a σ K = bindX (ev a x) (ev a y) (stepK P w0 q all os a d σ K) := fun _ _ _ _ _ _ _ _ _ _ _ _ _ => r_index ht
end Go.Abs
namespace Go.Abs
open Go.RowKit
section
variable {P : Program} {w0 : World} {σ : AHeap}
def TextsAt (σ : AHeap) (h o : Nat) (xs : List (List UInt8)) : Prop := ∀ i, i < xs.length → ld σ h (o + i) = some (.string (tx (xs.getD i [])))
def texts (xs : List (List UInt8)) : List Value := xs.map fun t => Value.string (tx t)
theorem texts_get {xs : List (List UInt8)} {i : Nat} (h : i < xs.length) : (texts xs)[i]? = some (.string (tx (xs.getD i []))) := by simp [texts, h, List.getD]
theorem textsAt_own {h : Nat} {xs : List (List UInt8)} {ro : Bool} (hσ : σ h = some ⟨texts xs, ro⟩) : TextsAt σ h 0 xs := by
  intro i hi
  unfold ld
  rw [hσ]
  simp only [Option.bind_some, Nat.zero_add]
  exact texts_get hi
end
section
variable {P : Program} {w0 : Base} {n : NR} {a : AFrame} {σ : AHeap} {K : AK} {Q : AQ} {q : Bool} {all os : List Oper}
variable {d : Nat} {dd : Option Tmp} {ty : TypeId} {pos : String} {af : Array Edge}
end
end Go.Abs
namespace Go.Dial
end Go.Dial
namespace Go.Abs
open Go.RowKit Go.ChangeShapes Go.WideShapes Go.ChangeAt Go.Dial
section
variable {P : Program} {w0 : World} {σ : AHeap}
theorem lay_text' {d : Dat} {vs : List Value} (h : Lay σ .str d vs) : ∃ xs : List UInt8, vs = [.string (tx xs)] ∧ xs.length ≤ maxLen := by
  generalize hc : vs = c at h
  cases h with
  | str hl => exact ⟨_, by rw [← tx_of], by rw [Array.length_toList]; exact hl⟩
end
section
variable {P : Program} {w0 : Base} {n : NR} {a : AFrame} {σ : AHeap} {K : AK} {Q : AQ} {q : Bool} {all os : List Oper}
variable {d : Nat} {dd : Option Tmp} {ty : TypeId} {pos : String} {af : Array Edge}
end
end Go.Abs
namespace Go.Abs
end Go.Abs
namespace Go.Abs
variable {w0 : World}
end Go.Abs
namespace Go.Dial
/-- a deed -/
structure Dd where
  k : Int
  l : Int
  t : List UInt8
deriving DecidableEq
end Go.Dial
namespace Go.Abs
open Go.RowKit Go.ChangeShapes Go.WideShapes Go.ChangeAt Go.Dial
section
variable {P : Program} {w0 : World} {σ : AHeap}
def dd0 : Dd := ⟨0, 0, []⟩
def ddc (c : Dd) : List Value := [.int .i64 c.k, .int .i64 c.l, .string (tx c.t)]
def dds (cs : List Dd) : List Value := cs.flatMap ddc
def DdsAt (σ : AHeap) (h o : Nat) (cs : List Dd) : Prop := ∀ i, i < cs.length → ld σ h (o + i * 3) = some (.int .i64 (cs.getD i dd0).k) ∧ ld σ h (o + i * 3 + 1) = some (.int .i64 (cs.getD i dd0).l) ∧ ld σ h (o + i * 3 + 2) = some (.string (tx (cs.getD i dd0).t))
def Dds (σ : AHeap) (v : Value) (cs : List Dd) : Prop := (v = .slice none 0 0 ∧ cs = []) ∨ ∃ h o, v = .slice (some ⟨h, o, none⟩) cs.length 3 ∧ DdsAt σ h o cs
theorem dds_cons (c : Dd) (cs : List Dd) : dds (c :: cs) = .int .i64 c.k :: .int .i64 c.l :: .string (tx c.t) :: dds cs := rfl
theorem dds_length (cs : List Dd) : (dds cs).length = cs.length * 3 := by
  induction cs with
  | nil => rfl
  | cons c cs ih => rw [dds_cons]; simp [ih]; omega
theorem dds_get : ∀ (cs : List Dd) (i : Nat), i < cs.length → (dds cs)[i * 3]? = some (.int .i64 (cs.getD i dd0).k) ∧ (dds cs)[i * 3 + 1]? = some (.int .i64 (cs.getD i dd0).l) ∧ (dds cs)[i * 3 + 2]? = some (.string (tx (cs.getD i dd0).t))
  | [], i, h => absurd h (by simp)
  | c :: cs, 0, _ => ⟨rfl, rfl, rfl⟩
  | c :: cs, i + 1, h => by
    have := dds_get cs i (by simpa using h)
    rw [dds_cons]
    have e1 : (i + 1) * 3 = i * 3 + 3 := by omega
    have e2 : i * 3 + 3 + 1 = i * 3 + 1 + 3 := by omega
    have e3 : i * 3 + 3 + 2 = i * 3 + 2 + 3 := by omega
    rw [e1, e2, e3]
    simpa using this
theorem ddsAt_own {h : Nat} {cs : List Dd} {ro : Bool} (hσ : σ h = some ⟨dds cs, ro⟩) : DdsAt σ h 0 cs := by
  intro i hi
  have := dds_get cs i hi
  unfold ld
  rw [hσ]
  simp only [Option.bind_some, Nat.zero_add]
  exact this
theorem DdsAt.sub {σ' : AHeap} {h o : Nat} {cs : List Dd} (hs : Sub σ σ') (hi : DdsAt σ h o cs) : DdsAt σ' h o cs := fun i hlt => ⟨ld_sub hs (hi i hlt).1, ld_sub hs (hi i hlt).2.1, ld_sub hs (hi i hlt).2.2⟩
theorem Dds.sub {σ' : AHeap} {v : Value} {cs : List Dd} (hs : Sub σ σ') (hi : Dds σ v cs) : Dds σ' v cs := hi.imp id fun ⟨h, o, e, hh⟩ => ⟨h, o, e, hh.sub hs⟩
theorem DdsAt.all {h o : Nat} {cs : List Dd} (hi : DdsAt σ h o cs) {i : Nat} (hlt : i < cs.length) : lds σ h (o + i * 3) 3 = some (ddc (cs.getD i dd0)) := lds_three (hi i hlt).1 (hi i hlt).2.1 (hi i hlt).2.2
theorem layR_dd {ds : List Dat} {cs : List Value} (h : LayR σ [.int .i64, .int .i64, .str] ds cs) : ∃ c : Dd, cs = ddc c ∧ c.t.length ≤ maxLen ∧ (Lit.int .i64 c.k).wf = true ∧ (Lit.int .i64 c.l).wf = true := by
  obtain ⟨e1, es1, c1, c2, _, rfl, h6, h7⟩ := h.cons_inv
  obtain ⟨e2, es2, c3, c4, _, rfl, h8, h9⟩ := h7.cons_inv
  obtain ⟨e3, es3, c5, c6, _, rfl, h10, h11⟩ := h9.cons_inv
  obtain ⟨_, rfl⟩ := h11.nil_inv
  obtain ⟨A, _, rfl, w1⟩ := h6.int_inv
  obtain ⟨B, _, rfl, w2⟩ := h8.int_inv
  obtain ⟨xs, rfl, w3⟩ := lay_text' h10
  exact ⟨⟨A, B, xs⟩, rfl, w3, w1, w2⟩
theorem layL_dds : ∀ (ds : List Dat) {cs : List Value}, LayL σ (.rcd [.int .i64, .int .i64, .str]) ds cs → ∃ zs : List Dd, cs = dds zs ∧ zs.length = ds.length ∧ ∀ z ∈ zs, z.t.length ≤ maxLen ∧ (Lit.int .i64 z.k).wf = true ∧ (Lit.int .i64 z.l).wf = true
  | [], cs, h => by
    rcases h.cases' with ⟨_, rfl⟩ | ⟨d, ds', c, c', e, _⟩
    · exact ⟨[], rfl, rfl, fun _ h => (by cases h)⟩
    · cases e
  | d :: ds, cs, h => by
    rcases h.cases' with ⟨e, _⟩ | ⟨d', ds', c, c', e, rfl, h1, h2⟩
    · cases e
    · cases e
      obtain ⟨zs, rfl, h3, h4⟩ := layL_dds ds h2
      obtain ⟨es, _, h5⟩ := h1.rcd_inv
      obtain ⟨A, rfl, w⟩ := layR_dd h5
      refine ⟨A :: zs, rfl, by simp [h3], fun z hz => ?_⟩
      rcases List.mem_cons.1 hz with rfl | hz
      · exact w
      · exact h4 z hz
theorem lay_dds {d : Dat} {v : Value} (h : Lay σ (.slc (.rcd [.int .i64, .int .i64, .str])) d [v]) : ∃ zs : List Dd, Dds σ v zs ∧ (∀ z ∈ zs, z.t.length ≤ maxLen ∧ (Lit.int .i64 z.k).wf = true ∧ (Lit.int .i64 z.l).wf = true) ∧ zs.length ≤ maxLen := by
  generalize hc : [v] = c at h
  cases h with
  | nil => cases hc; exact ⟨[], .inl ⟨rfl, rfl⟩, fun _ h => (by cases h), by simp⟩
  | slc hl hr hh =>
    cases hc
    obtain ⟨zs, rfl, h2, h3⟩ := layL_dds _ hh
    obtain ⟨ro, hr⟩ := hr
    exact ⟨zs, .inr ⟨_, 0, by rw [h2]; rfl, ddsAt_own hr⟩, h3, by omega⟩
theorem ACall.dds_arg {f : FuncId} {pre post : List Value} {v : Value} {cs : List Dd} {R : Value → AHeap → Prop} (hc : callable P f = true) (hv : Dds σ v cs)
    (h : ∀ σ1 g o, Sub σ σ1 → DdsAt σ1 g o cs → ACall P w0 f (pre ++ .slice (some ⟨g, o, none⟩) cs.length 3 :: post) σ1 R) : ACall P w0 f (pre ++ v :: post) σ R := by
  rcases hv with ⟨rfl, rfl⟩ | ⟨g, o, rfl, hg⟩
  · exact ACall.nil_arg hc fun g hg => h _ g 0 (sub_upd hg) (fun i hi => absurd hi (by simp))
  · exact h σ g o (Sub.refl _) hg
theorem ACall.dds_quiet {f : FuncId} {pre post : List Value} {v F : Value} {cs : List Dd} (hc : callable P f = true) (hv : Dds σ v cs)
    (h : ∀ σ1 g o, Sub σ σ1 → DdsAt σ1 g o cs → ACall P w0 f (pre ++ .slice (some ⟨g, o, none⟩) cs.length 3 :: post) σ1 fun r σ' => r = F ∧ σ' = σ1) : ACall P w0 f (pre ++ v :: post) σ fun r σ' => r = F ∧ σ' = σ :=
  ACall.dds_arg hc hv fun σ1 g o hs hg => (h σ1 g o hs hg).drop fun _ _ ⟨h1, h2⟩ => ⟨σ, h2 ▸ hs, h1, rfl⟩
/-- a row of deeds of one's own, or nil -/
def OwnD (β σ : AHeap) (v : Value) (cs : List Dd) : Prop := (v = .slice none 0 0 ∧ cs = []) ∨ ∃ g, v = .slice (some ⟨g, 0, none⟩) cs.length 3 ∧ σ g = some ⟨dds cs, false⟩ ∧ β g = none
theorem OwnD.dds {β σ : AHeap} {v : Value} {cs : List Dd} (h : OwnD β σ v cs) : Dds σ v cs := h.imp id fun ⟨g, e, hg, _⟩ => ⟨g, 0, e, ddsAt_own hg⟩
theorem OwnD.sub {β σ τ : AHeap} {v : Value} {cs : List Dd} (h : OwnD β σ v cs) (hs : Sub σ τ) : OwnD β τ v cs := h.imp id fun ⟨g, e, hg, hn⟩ => ⟨g, e, hs _ _ hg, hn⟩
end
section
variable {P : Program} {w0 : Base} {n : NR} {a : AFrame} {σ : AHeap} {K : AK} {Q : AQ} {q : Bool} {all os : List Oper}
variable {d : Nat} {dd : Option Tmp} {ty : TypeId} {pos : String} {af : Array Edge}
end
end Go.Abs
namespace Go.Abs
open Go.RowKit Go.ChangeShapes Go.WideShapes Go.ChangeAt Go.Dial Go.Clos
section
variable {P : Program} {w0 : World} {σ : AHeap}
end
end Go.Abs
namespace Go.Abs
open Go.RowKit
variable {P : Program} {w0 : World} {σ : AHeap}
theorem relL_scal {β : Beta} {xs ys : List Value} (h : RelL β xs ys) (hs : xs.all scal = true) : ys = xs := by
  refine List.ext_getElem? fun i => ?_
  rcases Nat.lt_or_ge i xs.length with hi | hi
  · obtain ⟨y, e1, e2⟩ := h.2 i xs[i] (by simp [hi])
    rw [List.all_eq_true] at hs
    have := e2.scal_eq (hs _ (List.getElem_mem hi))
    rw [e1, this]; simp [hi]
  · rw [List.getElem?_eq_none hi, List.getElem?_eq_none (by rw [← h.1]; exact hi)]
/-- a function whose arguments are plain and which leaves all that there was as it was -/
theorem ACall.shelf {f : FuncId} {args : List Value} {R : Value → Prop} (hc : callable P f = true) (ha : args.all scal = true)
    (h : ∀ w, Below w0.heap.size w0 w → Calls P f args.toArray w fun e w' => ∃ r r', e = .returned r' ∧ (∀ β, RelV β r r') ∧ Below w.heap.size w w' ∧ R r) :
    ACall P w0 f args σ fun r σ' => R r ∧ σ' = σ :=
  ⟨hc, fun pr β w args' hH hA => by
    have := relL_scal hA ha
    subst this
    exact (h w hH.below).mono fun e w' ⟨r, r', he, hr, hb, hR⟩ => ⟨β, r, r', σ, .refl _, he, hr β, hH.grow (hH.below.trans (hb.mono hH.below.size)) hb.size (fun k hk => hb.block k hk), hR, rfl⟩⟩
end Go.Abs
