import PyProof.Rows.All
import KE.OsGo
import KE.OsArgs
import PySem.Challenge.RW_ringfive_s02_mirror
open PySem PySem.W
set_option Elab.async false
namespace My
theorem ring_in {r : Int} (h0 : 0 ≤ r) (h1 : r < 5) : Rings.ringOf r = some ⟨[0, 0, 1, 1, 1].getD r.toNat 0, [1, 2, 1, 2, 3].getD r.toNat 0⟩ := by
  obtain rfl | rfl | rfl | rfl | rfl : r = 0 ∨ r = 1 ∨ r = 2 ∨ r = 3 ∨ r = 4 := by omega
  all_goals rfl
theorem ring_out {r : Int} (h : r < 0 ∨ 5 ≤ r) : Rings.ringOf r = none := by
  unfold Rings.ringOf
  split
  · have : 5 ≤ r.toNat := by omega
    exact List.getElem?_eq_none this
  · rfl
theorem end_list {ns ms : List Int} (h : ns = ms) : ofPy (.list (ns.map PyData.int)) = WData.list (ms.map WData.int) := by
  subst h; exact os_list rfl
theorem mirror_in {r a b : Int} (h0 : 0 ≤ r) (h1 : r < 5) : PyWrring.mirror r a b = [0, a + [0, 0, 1, 1, 1].getD r.toNat 0 * b, -b] := by
  show RingsNeutral.told (Rings.inRing r _) = _
  unfold Rings.inRing
  rw [ring_in h0 h1]
  generalize ([0, 0, 1, 1, 1] : List Int).getD r.toNat 0 = t
  generalize ([1, 2, 1, 2, 3] : List Int).getD r.toNat 0 = c
  rfl
theorem mirror_out {r a b : Int} (h : r < 0 ∨ 5 ≤ r) : PyWrring.mirror r a b = [-1] := by
  show RingsNeutral.told (Rings.inRing r _) = _
  unfold Rings.inRing
  rw [ring_out h]
  rfl
end My
theorem said : PySem.Challenge.rw_ringfive_s02_mirror.wellSaid = true := by decide +kernel
set_option maxRecDepth 100000 in
set_option maxHeartbeats 8000000 in
theorem PySem.Challenge.cw_ringfive_s02_mirror_holds : PySem.Challenge.rw_ringfive_s02_mirror.Holds := by
  open_ks with [.int 0, .int 0, .int 0]
  all_goals (os_open said with a w q e)
  all_goals (obtain ⟨r, a, b, z⟩ := a)
  all_goals have e0 := os_j_int (List.cons.inj e).1
  all_goals have e1 := os_j_int (List.cons.inj (List.cons.inj e).2).1
  all_goals have e2 := os_j_int (List.cons.inj (List.cons.inj (List.cons.inj e).2).2).1
  all_goals (subst e0 e1 e2)
  · exact My.end_list (My.mirror_in (by assumption) (by assumption)).symm
  · exact My.end_list (ns := [-1]) (My.mirror_out (by omega)).symm
  · exact My.end_list (ns := [-1]) (My.mirror_out (by omega)).symm
#print axioms PySem.Challenge.cw_ringfive_s02_mirror_holds
