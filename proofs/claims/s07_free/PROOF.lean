import PyProof.Rows.All
import KE.OsGo
import KE.OsArgs
import PySem.Challenge.RW_changedif_s07_free
set_option Elab.async false
namespace My
theorem free_eq {x m : Int} (xl : 0 ≤ x) (ml : 0 ≤ m) :
    PyKh287.free x m = if m = 0 then [-22, x] else if x = m then [0, 0] else [-1, x] := by
  have e : PyKh287.free x m = (Kh287.doing (.free x.toNat m.toNat)).value :: (Kh287.doing (.free x.toNat m.toNat)).now.toList.map Int.ofNat := rfl
  rw [e]
  simp only [Kh287.doing]
  by_cases h1 : m = 0
  · have h1' : m.toNat = 0 := by omega
    rw [if_pos h1', if_pos h1]
    simp [Kh287.say]
    omega
  · have h1' : ¬ m.toNat = 0 := by omega
    by_cases h2 : x = m
    · have h2' : ¬ x.toNat ≠ m.toNat := by omega
      rw [if_neg h1', if_neg h2', if_neg h1, if_pos h2]
      simp [Kh287.say]
    · have h2' : x.toNat ≠ m.toNat := by omega
      rw [if_neg h1', if_pos h2', if_neg h1, if_neg h2]
      simp [Kh287.say]
      omega
end My
open PySem PySem.W
set_option maxRecDepth 100000 in
set_option maxHeartbeats 8000000 in
theorem My.said : PySem.Challenge.rw_changedif_s07_free.wellSaid = true := by decide +kernel
set_option maxRecDepth 100000 in
set_option maxHeartbeats 8000000 in
theorem PySem.Challenge.cw_changedif_s07_free_holds : PySem.Challenge.rw_changedif_s07_free.Holds := by
  open_ks with [.int 0, .int 0]
  all_goals
    os_open My.said with a w q e
    obtain ⟨x, m, u⟩ := a
    have e1 : x = _ := (os_j_int (List.cons.inj e).1).symm
    have e2 : m = _ := (os_j_int (List.cons.inj (List.cons.inj e).2).1).symm
    subst e1 e2
    have w1 : (Codec.inInt 0 4294967295 x && (Codec.inInt 0 4294967295 m && true)) = true := w
    rw [Bool.and_eq_true, Bool.and_eq_true] at w1
    have bx := Codec.inInt_iff.mp w1.1
    have bm := Codec.inInt_iff.mp w1.2.1
    show _ = WData.list ((PyKh287.free x m).map WData.int)
    first
      | exact os_list (congrArg (List.map PyData.int) (show [-22, x] = PyKh287.free x m by rw [My.free_eq bx.1 bm.1, if_pos (by omega)]))
      | exact os_list (congrArg (List.map PyData.int) (show [-1, x] = PyKh287.free x m by rw [My.free_eq bx.1 bm.1, if_neg (by omega), if_neg (by omega)]))
      | exact os_list (congrArg (List.map PyData.int) (show [0, 0] = PyKh287.free x m by rw [My.free_eq bx.1 bm.1, if_neg (by omega), if_pos (by omega)]))
