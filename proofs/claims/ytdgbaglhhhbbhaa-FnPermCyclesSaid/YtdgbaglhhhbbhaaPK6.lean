/- cycOK, for all valid lists: by part lists. -/
import Derived.Test.YtdgbaglhhhbbhaaPLaw6
set_option linter.unusedSimpArgs false
set_option linter.unusedVariables false
namespace Go.Proofs.Ytdgbaglhhhbbhaa
open Go Go.Abs Go.RowKit

theorem cycs_0 : ((allV.drop 0).take 35).all cycOK = true := by kernel_rfl
theorem cycs_1 : ((allV.drop 35).take 35).all cycOK = true := by kernel_rfl
theorem cycs_2 : ((allV.drop 70).take 35).all cycOK = true := by kernel_rfl
theorem cycs_3 : ((allV.drop 105).take 35).all cycOK = true := by kernel_rfl
theorem cycs_4 : ((allV.drop 140).take 35).all cycOK = true := by kernel_rfl
theorem cycs_5 : ((allV.drop 175).take 35).all cycOK = true := by kernel_rfl
theorem cycs_6 : ((allV.drop 210).take 35).all cycOK = true := by kernel_rfl
theorem cycs_7 : ((allV.drop 245).take 35).all cycOK = true := by kernel_rfl
theorem cycs_8 : ((allV.drop 280).take 35).all cycOK = true := by kernel_rfl
theorem cycs_9 : ((allV.drop 315).take 35).all cycOK = true := by kernel_rfl
theorem cycs_10 : ((allV.drop 350).take 35).all cycOK = true := by kernel_rfl
theorem cycs_11 : ((allV.drop 385).take 35).all cycOK = true := by kernel_rfl
theorem cycs_12 : ((allV.drop 420).take 35).all cycOK = true := by kernel_rfl
theorem cycs_13 : ((allV.drop 455).take 35).all cycOK = true := by kernel_rfl
theorem cycs_14 : ((allV.drop 490).take 35).all cycOK = true := by kernel_rfl
theorem cycs_15 : ((allV.drop 525).take 35).all cycOK = true := by kernel_rfl
theorem cycs_16 : ((allV.drop 560).take 35).all cycOK = true := by kernel_rfl
theorem cycs_17 : ((allV.drop 595).take 35).all cycOK = true := by kernel_rfl
theorem cycs_18 : ((allV.drop 630).take 35).all cycOK = true := by kernel_rfl
theorem cycs_19 : ((allV.drop 665).take 35).all cycOK = true := by kernel_rfl
theorem cycs_20 : ((allV.drop 700).take 35).all cycOK = true := by kernel_rfl
theorem cycs_21 : ((allV.drop 735).take 35).all cycOK = true := by kernel_rfl
theorem cycs_22 : ((allV.drop 770).take 35).all cycOK = true := by kernel_rfl
theorem cycs_23 : ((allV.drop 805).take 35).all cycOK = true := by kernel_rfl
theorem cycs_24 : ((allV.drop 840).take 35).all cycOK = true := by kernel_rfl
theorem cycs_split {p : List Int → Bool} {l : List (List Int)} {n : Nat} (h1 : (l.take n).all p = true) (h2 : (l.drop n).all p = true) : l.all p = true := by
  rw [← List.take_append_drop n l, List.all_append, h1, h2]; rfl
theorem cycs_all : allV.all cycOK = true := by
  have e25 : (allV.drop 875).all cycOK = true := by kernel_rfl
  have e24 : (allV.drop 840).all cycOK = true := cycs_split (n := 35) cycs_24 (by rw [List.drop_drop]; exact e25)
  have e23 : (allV.drop 805).all cycOK = true := cycs_split (n := 35) cycs_23 (by rw [List.drop_drop]; exact e24)
  have e22 : (allV.drop 770).all cycOK = true := cycs_split (n := 35) cycs_22 (by rw [List.drop_drop]; exact e23)
  have e21 : (allV.drop 735).all cycOK = true := cycs_split (n := 35) cycs_21 (by rw [List.drop_drop]; exact e22)
  have e20 : (allV.drop 700).all cycOK = true := cycs_split (n := 35) cycs_20 (by rw [List.drop_drop]; exact e21)
  have e19 : (allV.drop 665).all cycOK = true := cycs_split (n := 35) cycs_19 (by rw [List.drop_drop]; exact e20)
  have e18 : (allV.drop 630).all cycOK = true := cycs_split (n := 35) cycs_18 (by rw [List.drop_drop]; exact e19)
  have e17 : (allV.drop 595).all cycOK = true := cycs_split (n := 35) cycs_17 (by rw [List.drop_drop]; exact e18)
  have e16 : (allV.drop 560).all cycOK = true := cycs_split (n := 35) cycs_16 (by rw [List.drop_drop]; exact e17)
  have e15 : (allV.drop 525).all cycOK = true := cycs_split (n := 35) cycs_15 (by rw [List.drop_drop]; exact e16)
  have e14 : (allV.drop 490).all cycOK = true := cycs_split (n := 35) cycs_14 (by rw [List.drop_drop]; exact e15)
  have e13 : (allV.drop 455).all cycOK = true := cycs_split (n := 35) cycs_13 (by rw [List.drop_drop]; exact e14)
  have e12 : (allV.drop 420).all cycOK = true := cycs_split (n := 35) cycs_12 (by rw [List.drop_drop]; exact e13)
  have e11 : (allV.drop 385).all cycOK = true := cycs_split (n := 35) cycs_11 (by rw [List.drop_drop]; exact e12)
  have e10 : (allV.drop 350).all cycOK = true := cycs_split (n := 35) cycs_10 (by rw [List.drop_drop]; exact e11)
  have e9 : (allV.drop 315).all cycOK = true := cycs_split (n := 35) cycs_9 (by rw [List.drop_drop]; exact e10)
  have e8 : (allV.drop 280).all cycOK = true := cycs_split (n := 35) cycs_8 (by rw [List.drop_drop]; exact e9)
  have e7 : (allV.drop 245).all cycOK = true := cycs_split (n := 35) cycs_7 (by rw [List.drop_drop]; exact e8)
  have e6 : (allV.drop 210).all cycOK = true := cycs_split (n := 35) cycs_6 (by rw [List.drop_drop]; exact e7)
  have e5 : (allV.drop 175).all cycOK = true := cycs_split (n := 35) cycs_5 (by rw [List.drop_drop]; exact e6)
  have e4 : (allV.drop 140).all cycOK = true := cycs_split (n := 35) cycs_4 (by rw [List.drop_drop]; exact e5)
  have e3 : (allV.drop 105).all cycOK = true := cycs_split (n := 35) cycs_3 (by rw [List.drop_drop]; exact e4)
  have e2 : (allV.drop 70).all cycOK = true := cycs_split (n := 35) cycs_2 (by rw [List.drop_drop]; exact e3)
  have e1 : (allV.drop 35).all cycOK = true := cycs_split (n := 35) cycs_1 (by rw [List.drop_drop]; exact e2)
  have e0 : (allV.drop 0).all cycOK = true := cycs_split (n := 35) cycs_0 (by rw [List.drop_drop]; exact e1)
  exact e0
end Go.Proofs.Ytdgbaglhhhbbhaa
