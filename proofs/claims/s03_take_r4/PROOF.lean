import PyProof.Rows.All
import KE.OsGo
import KE.OsArgs
import PySem.Challenge.RW_changedif_s03_take
set_option Elab.async false
namespace My
theorem p64 : (2 : Nat) ^ 64 = 18446744073709551616 := by decide
theorem p63 : (2 : Nat) ^ (64 - 1) = 9223372036854775808 := by decide
theorem i64 : (2 : Int) ^ 64 = 18446744073709551616 := by decide
theorem reg_eq (z : Int) : ((Kh287Neutral.reg 64 z : Nat) : Int) = z % 18446744073709551616 := by
  unfold Kh287Neutral.reg
  rw [i64]
  omega
theorem signed_reg {z : Int} (lo : -9223372036854775808 ≤ z) (hi : z ≤ 9223372036854775807) : Kh287.signed 64 (Kh287Neutral.reg 64 z) = z := by
  have := reg_eq z
  unfold Kh287.signed
  rw [p63, i64]
  split <;> omega
theorem back_reg {z : Int} (lo : -9223372036854775808 ≤ z) (hi : z ≤ 9223372036854775807) : Kh287Neutral.back 64 (Kh287Neutral.reg 64 z) = z := signed_reg lo hi
theorem back_wrap {z : Int} (lo : -9223372036854775808 ≤ z) (hi : z ≤ 9223372036854775807) : Kh287Neutral.back 64 (Kh287.wrap 64 z) = z := signed_reg lo hi
theorem take_eq {x n : Int} (xl : -9223372036854775808 ≤ x) (xh : x ≤ 9223372036854775807) (nl : -9223372036854775808 ≤ n) (nh : n ≤ 9223372036854775807) :
    PyKh287.take x n = if n < 1 then [-22, x] else if x < n then [-28, x] else [0, x - n] := by
  have e : PyKh287.take x n = (Kh287.doing (.take (Kh287Neutral.reg 64 x) (Kh287Neutral.reg 64 n))).value :: (Kh287.doing (.take (Kh287Neutral.reg 64 x) (Kh287Neutral.reg 64 n))).now.toList.map (Kh287Neutral.back 64) := rfl
  rw [e]
  simp only [Kh287.doing, signed_reg xl xh, signed_reg nl nh]
  by_cases h1 : n < 1
  · simp [h1, Kh287.say, back_reg xl xh]
  · by_cases h2 : x < n
    · simp [h1, h2, Kh287.say, back_reg xl xh]
    · simp [h1, h2, Kh287.say, back_wrap (z := x - n) (by omega) (by omega)]
end My
open PySem PySem.W
set_option maxRecDepth 100000 in
set_option maxHeartbeats 8000000 in
theorem My.said : PySem.Challenge.rw_changedif_s03_take.wellSaid = true := by decide +kernel
set_option maxRecDepth 100000 in
set_option maxHeartbeats 8000000 in
theorem PySem.Challenge.cw_changedif_s03_take_holds : PySem.Challenge.rw_changedif_s03_take.Holds := by
  open_ks with [.int 0, .int 0]
  all_goals
    os_open My.said with a w q e
    obtain ⟨x, n, u⟩ := a
    have e1 : x = _ := (os_j_int (List.cons.inj e).1).symm
    have e2 : n = _ := (os_j_int (List.cons.inj (List.cons.inj e).2).1).symm
    subst e1 e2
    have w1 : (Codec.inInt (-9223372036854775808) 9223372036854775807 x && (Codec.inInt (-9223372036854775808) 9223372036854775807 n && true)) = true := w
    rw [Bool.and_eq_true, Bool.and_eq_true] at w1
    have bx := Codec.inInt_iff.mp w1.1
    have bn := Codec.inInt_iff.mp w1.2.1
    show _ = WData.list ((PyKh287.take x n).map WData.int)
    first
      | exact os_list (congrArg (List.map PyData.int) (show [-22, x] = PyKh287.take x n by rw [My.take_eq bx.1 bx.2 bn.1 bn.2, if_pos (by omega)]))
      | exact os_list (congrArg (List.map PyData.int) (show [-28, x] = PyKh287.take x n by rw [My.take_eq bx.1 bx.2 bn.1 bn.2, if_neg (by omega), if_pos (by omega)]))
      | exact os_list (congrArg (List.map PyData.int) (show [0, x - n] = PyKh287.take x n by rw [My.take_eq bx.1 bx.2 bn.1 bn.2, if_neg (by omega), if_neg (by omega)]))
