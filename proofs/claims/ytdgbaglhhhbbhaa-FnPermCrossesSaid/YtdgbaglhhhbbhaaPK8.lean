/- crossOK, for all valid lists: by part lists. -/
import Derived.Test.YtdgbaglhhhbbhaaPLaw8
set_option linter.unusedSimpArgs false
set_option linter.unusedVariables false
namespace Go.Proofs.Ytdgbaglhhhbbhaa
open Go Go.Abs Go.RowKit

theorem crosss_0 : ((allV.drop 0).take 35).all crossOK = true := by kernel_rfl
theorem crosss_1 : ((allV.drop 35).take 35).all crossOK = true := by kernel_rfl
theorem crosss_2 : ((allV.drop 70).take 35).all crossOK = true := by kernel_rfl
theorem crosss_3 : ((allV.drop 105).take 35).all crossOK = true := by kernel_rfl
theorem crosss_4 : ((allV.drop 140).take 35).all crossOK = true := by kernel_rfl
theorem crosss_5 : ((allV.drop 175).take 35).all crossOK = true := by kernel_rfl
theorem crosss_6 : ((allV.drop 210).take 35).all crossOK = true := by kernel_rfl
theorem crosss_7 : ((allV.drop 245).take 35).all crossOK = true := by kernel_rfl
theorem crosss_8 : ((allV.drop 280).take 35).all crossOK = true := by kernel_rfl
theorem crosss_9 : ((allV.drop 315).take 35).all crossOK = true := by kernel_rfl
theorem crosss_10 : ((allV.drop 350).take 35).all crossOK = true := by kernel_rfl
theorem crosss_11 : ((allV.drop 385).take 35).all crossOK = true := by kernel_rfl
theorem crosss_12 : ((allV.drop 420).take 35).all crossOK = true := by kernel_rfl
theorem crosss_13 : ((allV.drop 455).take 35).all crossOK = true := by kernel_rfl
theorem crosss_14 : ((allV.drop 490).take 35).all crossOK = true := by kernel_rfl
theorem crosss_15 : ((allV.drop 525).take 35).all crossOK = true := by kernel_rfl
theorem crosss_16 : ((allV.drop 560).take 35).all crossOK = true := by kernel_rfl
theorem crosss_17 : ((allV.drop 595).take 35).all crossOK = true := by kernel_rfl
theorem crosss_18 : ((allV.drop 630).take 35).all crossOK = true := by kernel_rfl
theorem crosss_19 : ((allV.drop 665).take 35).all crossOK = true := by kernel_rfl
theorem crosss_20 : ((allV.drop 700).take 35).all crossOK = true := by kernel_rfl
theorem crosss_21 : ((allV.drop 735).take 35).all crossOK = true := by kernel_rfl
theorem crosss_22 : ((allV.drop 770).take 35).all crossOK = true := by kernel_rfl
theorem crosss_23 : ((allV.drop 805).take 35).all crossOK = true := by kernel_rfl
theorem crosss_24 : ((allV.drop 840).take 35).all crossOK = true := by kernel_rfl
theorem crosss_split {p : List Int → Bool} {l : List (List Int)} {n : Nat} (h1 : (l.take n).all p = true) (h2 : (l.drop n).all p = true) : l.all p = true := by
  rw [← List.take_append_drop n l, List.all_append, h1, h2]; rfl
theorem crosss_all : allV.all crossOK = true := by
  have e25 : (allV.drop 875).all crossOK = true := by kernel_rfl
  have e24 : (allV.drop 840).all crossOK = true := crosss_split (n := 35) crosss_24 (by rw [List.drop_drop]; exact e25)
  have e23 : (allV.drop 805).all crossOK = true := crosss_split (n := 35) crosss_23 (by rw [List.drop_drop]; exact e24)
  have e22 : (allV.drop 770).all crossOK = true := crosss_split (n := 35) crosss_22 (by rw [List.drop_drop]; exact e23)
  have e21 : (allV.drop 735).all crossOK = true := crosss_split (n := 35) crosss_21 (by rw [List.drop_drop]; exact e22)
  have e20 : (allV.drop 700).all crossOK = true := crosss_split (n := 35) crosss_20 (by rw [List.drop_drop]; exact e21)
  have e19 : (allV.drop 665).all crossOK = true := crosss_split (n := 35) crosss_19 (by rw [List.drop_drop]; exact e20)
  have e18 : (allV.drop 630).all crossOK = true := crosss_split (n := 35) crosss_18 (by rw [List.drop_drop]; exact e19)
  have e17 : (allV.drop 595).all crossOK = true := crosss_split (n := 35) crosss_17 (by rw [List.drop_drop]; exact e18)
  have e16 : (allV.drop 560).all crossOK = true := crosss_split (n := 35) crosss_16 (by rw [List.drop_drop]; exact e17)
  have e15 : (allV.drop 525).all crossOK = true := crosss_split (n := 35) crosss_15 (by rw [List.drop_drop]; exact e16)
  have e14 : (allV.drop 490).all crossOK = true := crosss_split (n := 35) crosss_14 (by rw [List.drop_drop]; exact e15)
  have e13 : (allV.drop 455).all crossOK = true := crosss_split (n := 35) crosss_13 (by rw [List.drop_drop]; exact e14)
  have e12 : (allV.drop 420).all crossOK = true := crosss_split (n := 35) crosss_12 (by rw [List.drop_drop]; exact e13)
  have e11 : (allV.drop 385).all crossOK = true := crosss_split (n := 35) crosss_11 (by rw [List.drop_drop]; exact e12)
  have e10 : (allV.drop 350).all crossOK = true := crosss_split (n := 35) crosss_10 (by rw [List.drop_drop]; exact e11)
  have e9 : (allV.drop 315).all crossOK = true := crosss_split (n := 35) crosss_9 (by rw [List.drop_drop]; exact e10)
  have e8 : (allV.drop 280).all crossOK = true := crosss_split (n := 35) crosss_8 (by rw [List.drop_drop]; exact e9)
  have e7 : (allV.drop 245).all crossOK = true := crosss_split (n := 35) crosss_7 (by rw [List.drop_drop]; exact e8)
  have e6 : (allV.drop 210).all crossOK = true := crosss_split (n := 35) crosss_6 (by rw [List.drop_drop]; exact e7)
  have e5 : (allV.drop 175).all crossOK = true := crosss_split (n := 35) crosss_5 (by rw [List.drop_drop]; exact e6)
  have e4 : (allV.drop 140).all crossOK = true := crosss_split (n := 35) crosss_4 (by rw [List.drop_drop]; exact e5)
  have e3 : (allV.drop 105).all crossOK = true := crosss_split (n := 35) crosss_3 (by rw [List.drop_drop]; exact e4)
  have e2 : (allV.drop 70).all crossOK = true := crosss_split (n := 35) crosss_2 (by rw [List.drop_drop]; exact e3)
  have e1 : (allV.drop 35).all crossOK = true := crosss_split (n := 35) crosss_1 (by rw [List.drop_drop]; exact e2)
  have e0 : (allV.drop 0).all crossOK = true := crosss_split (n := 35) crosss_0 (by rw [List.drop_drop]; exact e1)
  exact e0
end Go.Proofs.Ytdgbaglhhhbbhaa
