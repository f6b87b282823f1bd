import PyProof.Rows.All
import KE.OsGo
import KE.OsArgs
import PySem.Challenge.RW_changedif_s05_below
set_option Elab.async false
namespace My
theorem below_eq {x n m : Int} (xl : 0 ≤ x) (nl : 0 ≤ n) (ml : 0 ≤ m) :
    PyKh287.below x n m = if n = 0 ∨ m < n then [-22, x] else if m - n < x then [-28, x] else [0, x + n] := by
  have e : PyKh287.below x n m = (Kh287.doing (.below x.toNat n.toNat m.toNat)).value :: (Kh287.doing (.below x.toNat n.toNat m.toNat)).now.toList.map Int.ofNat := rfl
  rw [e]
  simp only [Kh287.doing]
  have ex : ((x.toNat : Nat) : Int) = x := by omega
  by_cases h1 : n = 0 ∨ m < n
  · have h1' : n.toNat = 0 ∨ m.toNat < n.toNat := by omega
    rw [if_pos h1', if_pos h1]
    simp [Kh287.say]
    omega
  · have h1' : ¬ (n.toNat = 0 ∨ m.toNat < n.toNat) := by omega
    by_cases h2 : m - n < x
    · have h2' : m.toNat - n.toNat < x.toNat := by omega
      rw [if_neg h1', if_pos h2', if_neg h1, if_pos h2]
      simp [Kh287.say]
      omega
    · have h2' : ¬ m.toNat - n.toNat < x.toNat := by omega
      rw [if_neg h1', if_neg h2', if_neg h1, if_neg h2]
      simp [Kh287.say]
      omega
end My
open PySem PySem.W
set_option maxRecDepth 100000 in
set_option maxHeartbeats 8000000 in
theorem My.said : PySem.Challenge.rw_changedif_s05_below.wellSaid = true := by decide +kernel
set_option maxRecDepth 100000 in
set_option maxHeartbeats 8000000 in
theorem PySem.Challenge.cw_changedif_s05_below_holds : PySem.Challenge.rw_changedif_s05_below.Holds := by
  open_ks with [.int 0, .int 0, .int 0]
  all_goals
    os_open My.said with a w q e
    obtain ⟨x, n, m, u⟩ := a
    have e1 : x = _ := (os_j_int (List.cons.inj e).1).symm
    have e2 : n = _ := (os_j_int (List.cons.inj (List.cons.inj e).2).1).symm
    have e3 : m = _ := (os_j_int (List.cons.inj (List.cons.inj (List.cons.inj e).2).2).1).symm
    subst e1 e2 e3
    have w1 : (Codec.inInt 0 18446744073709551615 x && (Codec.inInt 0 18446744073709551615 n && (Codec.inInt 0 18446744073709551615 m && true))) = true := w
    rw [Bool.and_eq_true, Bool.and_eq_true, Bool.and_eq_true] at w1
    have bx := Codec.inInt_iff.mp w1.1
    have bn := Codec.inInt_iff.mp w1.2.1
    have bm := Codec.inInt_iff.mp w1.2.2.1
    show _ = WData.list ((PyKh287.below x n m).map WData.int)
    first
      | exact os_list (congrArg (List.map PyData.int) (show [-22, x] = PyKh287.below x n m by rw [My.below_eq bx.1 bn.1 bm.1, if_pos (by omega)]))
      | exact os_list (congrArg (List.map PyData.int) (show [-28, x] = PyKh287.below x n m by rw [My.below_eq bx.1 bn.1 bm.1, if_neg (by omega), if_pos (by omega)]))
      | exact os_list (congrArg (List.map PyData.int) (show [0, x + n] = PyKh287.below x n m by rw [My.below_eq bx.1 bn.1 bm.1, if_neg (by omega), if_neg (by omega)]))
