import PyProof.Rows.All
import KE.OsGo
import KE.OsArgs
import PySem.Challenge.RW_changedif_s02_if32
set_option Elab.async false
namespace My
def withSign (n size : Int) : Int := if Int.fdiv size 2 ≤ Int.fmod n size then Int.fmod n size - size else Int.fmod n size
def over (x c s : Int) : Bool := withSign (x - c) s != x - c
def less (x c s : Int) : Bool := decide (Int.fmod x s < Int.fmod c s)
def same (x c s : Int) : Bool := Int.fmod (x - c) s == 0
def high (x c s : Int) : Bool := decide (Int.fdiv s 2 ≤ Int.fmod (x - c) s)
def lessS (x c s : Int) : Bool := high x c s != over x c s
def ones (d : Int) : Int := 0 + Int.fmod (Int.fdiv d (2 ^ 0)) 2 + Int.fmod (Int.fdiv d (2 ^ 1)) 2 + Int.fmod (Int.fdiv d (2 ^ 2)) 2 + Int.fmod (Int.fdiv d (2 ^ 3)) 2 + Int.fmod (Int.fdiv d (2 ^ 4)) 2 + Int.fmod (Int.fdiv d (2 ^ 5)) 2 + Int.fmod (Int.fdiv d (2 ^ 6)) 2 + Int.fmod (Int.fdiv d (2 ^ 7)) 2
def even (x c s : Int) : Bool := Int.fmod (ones (Int.fmod (x - c) s)) 2 == 0
def asksE (x c h s : Int) : Bool :=
  if h = 0 then over x c s else if h = 2 then less x c s else if h = 4 then same x c s else if h = 6 then less x c s || same x c s
  else if h = 8 then high x c s else if h = 10 then even x c s else if h = 12 then lessS x c s else lessS x c s || same x c s
def asks (x c h s : Int) : Bool := if Int.fmod h 2 = 1 then ! asksE x c (h - 1) s else asksE x c h s
theorem even_tree (x c s : Int) : ((0 + (((x - c).fmod s).fdiv (2 ^ ((0 : Int) + ((0 : Nat) : Int)).toNat)).fmod 2 +
                      (((x - c).fmod s).fdiv (2 ^ ((0 : Int) + ((0 + 1 : Nat) : Int)).toNat)).fmod 2 +
                    (((x - c).fmod s).fdiv (2 ^ ((0 : Int) + ((0 + 1 + 1 : Nat) : Int)).toNat)).fmod 2 +
                  (((x - c).fmod s).fdiv (2 ^ ((0 : Int) + ((0 + 1 + 1 + 1 : Nat) : Int)).toNat)).fmod 2 +
                (((x - c).fmod s).fdiv (2 ^ ((0 : Int) + ((0 + 1 + 1 + 1 + 1 : Nat) : Int)).toNat)).fmod 2 +
              (((x - c).fmod s).fdiv (2 ^ ((0 : Int) + ((0 + 1 + 1 + 1 + 1 + 1 : Nat) : Int)).toNat)).fmod 2 +
            (((x - c).fmod s).fdiv (2 ^ ((0 : Int) + ((0 + 1 + 1 + 1 + 1 + 1 + 1 : Nat) : Int)).toNat)).fmod 2 +
          (((x - c).fmod s).fdiv (2 ^ ((0 : Int) + ((0 + 1 + 1 + 1 + 1 + 1 + 1 + 1 : Nat) : Int)).toNat)).fmod 2).fmod
      2 == 0) = even x c s := rfl
theorem withSign_hi {n s : Int} (h : Int.fdiv s 2 ≤ Int.fmod n s) : Int.fmod n s - s = withSign n s := by unfold withSign; rw [if_pos h]
theorem withSign_lo {n s : Int} (h : ¬ Int.fdiv s 2 ≤ Int.fmod n s) : Int.fmod n s = withSign n s := by unfold withSign; rw [if_neg h]

/- the specification, over whole numbers -/
theorem fm (x : Int) : Int.fmod x 4294967296 = x % 4294967296 := Int.fmod_eq_emod_of_nonneg x (by decide)
theorem half : Int.fdiv 4294967296 2 = 2147483648 := by decide
theorem p32 : (2 : Nat) ^ 32 = 4294967296 := by decide
theorem p31 : (2 : Nat) ^ (32 - 1) = 2147483648 := by decide
theorem i32 : (2 : Int) ^ 32 = 4294967296 := by decide
theorem reg_eq (z : Int) : ((Kh287Neutral.reg 32 z : Nat) : Int) = z % 4294967296 := by
  unfold Kh287Neutral.reg
  rw [i32]
  omega
theorem reg_lt (z : Int) : Kh287Neutral.reg 32 z < 4294967296 := by
  have := reg_eq z
  omega
theorem signed_reg {z : Int} (lo : -2147483648 ≤ z) (hi : z ≤ 2147483647) : Kh287.signed 32 (Kh287Neutral.reg 32 z) = z := by
  have := reg_eq z
  unfold Kh287.signed
  rw [p31, i32]
  split <;> omega
theorem back_reg {z : Int} (lo : -2147483648 ≤ z) (hi : z ≤ 2147483647) : Kh287Neutral.back 32 (Kh287Neutral.reg 32 z) = z := signed_reg lo hi
theorem diff_eq (x c : Int) : ((Kh287.diff 32 (Kh287Neutral.reg 32 x) (Kh287Neutral.reg 32 c) : Nat) : Int) = (x - c) % 4294967296 := by
  have a := reg_eq x
  have b := reg_eq c
  unfold Kh287.diff
  rw [p32]
  omega
theorem withSign_eq (n : Int) : withSign n 4294967296 = if 2147483648 ≤ n % 4294967296 then n % 4294967296 - 4294967296 else n % 4294967296 := by
  unfold withSign
  rw [half, fm]
theorem signed_diff (x c : Int) : Kh287.signed 32 (Kh287.diff 32 (Kh287Neutral.reg 32 x) (Kh287Neutral.reg 32 c)) = withSign (x - c) 4294967296 := by
  have d := diff_eq x c
  rw [withSign_eq]
  unfold Kh287.signed
  rw [p31, i32]
  split <;> split <;> omega
theorem back_sum (x a : Int) : Kh287Neutral.back 32 ((Kh287Neutral.reg 32 x + Kh287Neutral.reg 32 a) % 2 ^ 32) = withSign (x + a) 4294967296 := by
  have e1 := reg_eq x
  have e2 := reg_eq a
  rw [withSign_eq]
  unfold Kh287Neutral.back
  rw [p31, p32, i32]
  split <;> split <;> omega
theorem over_eq {x c : Int} (xl : -2147483648 ≤ x) (xh : x ≤ 2147483647) (cl : -2147483648 ≤ c) (ch : c ≤ 2147483647) :
    Kh287.over 32 (Kh287Neutral.reg 32 x) (Kh287Neutral.reg 32 c) = over x c 4294967296 := by
  unfold Kh287.over over
  rw [signed_diff, signed_reg xl xh, signed_reg cl ch]
theorem less_eq (x c : Int) : Kh287.less (Kh287Neutral.reg 32 x) (Kh287Neutral.reg 32 c) = less x c 4294967296 := by
  have e1 := reg_eq x
  have e2 := reg_eq c
  unfold Kh287.less less
  rw [fm, fm]
  exact decide_eq_decide.mpr (by omega)
theorem same_eq (x c : Int) : Kh287.same 32 (Kh287Neutral.reg 32 x) (Kh287Neutral.reg 32 c) = same x c 4294967296 := by
  have d := diff_eq x c
  unfold Kh287.same same
  rw [fm, Bool.eq_iff_iff, beq_iff_eq, beq_iff_eq]
  omega
theorem high_eq (x c : Int) : Kh287.below 32 (Kh287Neutral.reg 32 x) (Kh287Neutral.reg 32 c) = high x c 4294967296 := by
  have d := diff_eq x c
  unfold Kh287.below high
  rw [fm, half, p31]
  exact decide_eq_decide.mpr (by omega)
theorem bit_eq (d k : Nat) : (if d.testBit k = true then 1 else 0 : Nat) = d / 2 ^ k % 2 := by
  rw [Nat.testBit_eq_decide_div_mod_eq]
  have := Nat.mod_two_eq_zero_or_one (d / 2 ^ k)
  by_cases h : d / 2 ^ k % 2 = 1
  · simp [h]
  · have h0 : d / 2 ^ k % 2 = 0 := by omega
    simp [h0]
theorem count_eq (p : Nat → Bool) : ((List.range 8).filter p).length = (if p 0 = true then 1 else 0 : Nat) + (if p 1 = true then 1 else 0) + (if p 2 = true then 1 else 0) + (if p 3 = true then 1 else 0) + (if p 4 = true then 1 else 0) + (if p 5 = true then 1 else 0) + (if p 6 = true then 1 else 0) + (if p 7 = true then 1 else 0) := by
  have e : List.range 8 = [0, 1, 2, 3, 4, 5, 6, 7] := by decide
  rw [e]
  cases h0 : p 0 <;> cases h1 : p 1 <;> cases h2 : p 2 <;> cases h3 : p 3 <;> cases h4 : p 4 <;> cases h5 : p 5 <;> cases h6 : p 6 <;> cases h7 : p 7 <;> simp [List.filter, h0, h1, h2, h3, h4, h5, h6, h7]
theorem fdiv_cast (d k : Nat) : Int.fmod (Int.fdiv (d : Int) (2 ^ k)) 2 = ((d / 2 ^ k % 2 : Nat) : Int) := by
  have e : (2 : Int) ^ k = ((2 ^ k : Nat) : Int) := by simp
  rw [e, Int.fdiv_eq_ediv_of_nonneg _ (Int.natCast_nonneg _), Int.fmod_eq_emod_of_nonneg _ (by decide)]
  rfl
theorem ones_eq (d : Nat) : ones (d : Int) = ((((List.range 8).filter fun k => d.testBit k).length : Nat) : Int) := by
  unfold ones
  rw [count_eq]
  simp only [bit_eq, fdiv_cast]
  omega
theorem even_eq (x c : Int) : Kh287.even 32 (Kh287Neutral.reg 32 x) (Kh287Neutral.reg 32 c) = even x c 4294967296 := by
  have d := diff_eq x c
  unfold Kh287.even even
  rw [fm, ← d, ones_eq, Int.fmod_eq_emod_of_nonneg _ (by decide), Bool.eq_iff_iff, beq_iff_eq, beq_iff_eq]
  omega
theorem asked_eq {x c h : Int} (xl : -2147483648 ≤ x) (xh : x ≤ 2147483647) (cl : -2147483648 ≤ c) (ch : c ≤ 2147483647) (h0 : 0 ≤ h) (h1 : h ≤ 15) :
    Kh287.asked 32 h.toNat (Kh287Neutral.reg 32 x) (Kh287Neutral.reg 32 c) = asks x c h 4294967296 := by
  obtain ⟨n, rfl⟩ : ∃ n : Nat, h = (n : Int) := ⟨h.toNat, by omega⟩
  have hn : n ≤ 15 := by omega
  rw [Int.toNat_natCast]
  unfold Kh287.asked
  rw [over_eq xl xh cl ch, less_eq, same_eq, high_eq, even_eq]
  match n, hn with
  | 0, _ | 1, _ | 2, _ | 3, _ | 4, _ | 5, _ | 6, _ | 7, _ | 8, _ | 9, _ | 10, _ | 11, _ | 12, _ | 13, _ | 14, _ | 15, _ => rfl
  | n + 16, h => omega
theorem spec_eq {x c a h : Int} (xl : -2147483648 ≤ x) (xh : x ≤ 2147483647) (cl : -2147483648 ≤ c) (ch : c ≤ 2147483647) (h0 : 0 ≤ h) :
    PyKh287.if32 x c a h = [x, if h ≤ 15 ∧ asks x c h 4294967296 = true then withSign (x + a) 4294967296 else x] := by
  show [Kh287.signed 32 (Kh287Neutral.reg 32 x), Kh287Neutral.back 32 (Kh287.changed 32 h.toNat (Kh287Neutral.reg 32 x) (Kh287Neutral.reg 32 c) (Kh287Neutral.reg 32 a))] = _
  rw [signed_reg xl xh]
  unfold Kh287.changed
  by_cases hh : h ≤ 15
  · rw [asked_eq xl xh cl ch h0 hh]
    have : h.toNat ≤ 15 := by omega
    by_cases q : asks x c h 4294967296 = true
    · rw [if_pos ⟨this, q⟩, if_pos ⟨hh, q⟩, back_sum]
    · rw [if_neg (fun z => q z.2), if_neg (fun z => q z.2), back_reg xl xh]
  · have : ¬ h.toNat ≤ 15 := by omega
    rw [if_neg (fun z => this z.1), if_neg (fun z => hh z.1), back_reg xl xh]
theorem tree_over {x c h s : Int} (e : h = 0) : over x c s = asksE x c h s := by
  subst e
  rfl
theorem tree_less {x c h s : Int} (e : h = 2) : less x c s = asksE x c h s := by
  subst e
  rfl
theorem tree_same {x c h s : Int} (e : h = 4) : same x c s = asksE x c h s := by
  subst e
  rfl
theorem tree_less_yes {x c h s : Int} (e : h = 6) (q : less x c s = true) : less x c s = asksE x c h s := by
  subst e
  show less x c s = (less x c s || same x c s)
  rw [q, Bool.true_or]
theorem tree_less_no {x c h s : Int} (e : h = 6) (q : ¬ less x c s = true) : same x c s = asksE x c h s := by
  subst e
  show same x c s = (less x c s || same x c s)
  rw [Bool.eq_false_iff.mpr q, Bool.false_or]
theorem tree_high {x c h s : Int} (e : h = 8) : high x c s = asksE x c h s := by
  subst e
  rfl
theorem tree_even {x c h s : Int} (e : h = 10) : even x c s = asksE x c h s := by
  subst e
  rfl
theorem tree_lessS {x c h s : Int} (e : h = 12) : lessS x c s = asksE x c h s := by
  subst e
  rfl
theorem asksE_else {x c h s : Int} (e0 : h ≠ 0) (e1 : h ≠ 2) (e2 : h ≠ 4) (e3 : h ≠ 6) (e4 : h ≠ 8) (e5 : h ≠ 10) (e6 : h ≠ 12) : asksE x c h s = (lessS x c s || same x c s) := by
  unfold asksE
  rw [if_neg e0, if_neg e1, if_neg e2, if_neg e3, if_neg e4, if_neg e5, if_neg e6]
theorem tree_else_yes {x c h s : Int} (q : lessS x c s = true) (e : h ≠ 0 ∧ h ≠ 2 ∧ h ≠ 4 ∧ h ≠ 6 ∧ h ≠ 8 ∧ h ≠ 10 ∧ h ≠ 12) : lessS x c s = asksE x c h s := by
  rw [asksE_else e.1 e.2.1 e.2.2.1 e.2.2.2.1 e.2.2.2.2.1 e.2.2.2.2.2.1 e.2.2.2.2.2.2, q, Bool.true_or]
theorem tree_else_no {x c h s : Int} (q : ¬ lessS x c s = true) (e : h ≠ 0 ∧ h ≠ 2 ∧ h ≠ 4 ∧ h ≠ 6 ∧ h ≠ 8 ∧ h ≠ 10 ∧ h ≠ 12) : same x c s = asksE x c h s := by
  rw [asksE_else e.1 e.2.1 e.2.2.1 e.2.2.2.1 e.2.2.2.2.1 e.2.2.2.2.2.1 e.2.2.2.2.2.2, Bool.eq_false_iff.mpr q, Bool.false_or]
theorem tree_less_not {x c h s : Int} (e : h = 6) (q : less x c s = false) : same x c s = asksE x c h s := tree_less_no e (by rw [q]; decide)
theorem tree_else_not {x c h s : Int} (q : lessS x c s = false) (e : h ≠ 0 ∧ h ≠ 2 ∧ h ≠ 4 ∧ h ≠ 6 ∧ h ≠ 8 ∧ h ≠ 10 ∧ h ≠ 12) : same x c s = asksE x c h s := tree_else_no (by rw [q]; decide) e
theorem tree_odd {x c h s : Int} (e : Int.fmod h 2 = 1) : (! asksE x c (h - 1) s) = asks x c h s := by
  unfold asks
  rw [if_pos e]
theorem tree_not_odd {x c h s : Int} (e : ¬ Int.fmod h 2 = 1) : asksE x c h s = asks x c h s := by
  unfold asks
  rw [if_neg e]
theorem end_above {x c a h : Int} (xl : -2147483648 ≤ x) (xh : x ≤ 2147483647) (cl : -2147483648 ≤ c) (ch : c ≤ 2147483647) (h0 : 0 ≤ h) (hh : 15 < h) : [x, x] = PyKh287.if32 x c a h := by
  rw [spec_eq xl xh cl ch h0, if_neg (fun z => by omega)]
theorem end_yes {x c a h : Int} (xl : -2147483648 ≤ x) (xh : x ≤ 2147483647) (cl : -2147483648 ≤ c) (ch : c ≤ 2147483647) (h0 : 0 ≤ h) (hh : h ≤ 15) (q : asks x c h 4294967296 = true) : [x, withSign (x + a) 4294967296] = PyKh287.if32 x c a h := by
  rw [spec_eq xl xh cl ch h0, if_pos ⟨hh, q⟩]
theorem end_no {x c a h : Int} (xl : -2147483648 ≤ x) (xh : x ≤ 2147483647) (cl : -2147483648 ≤ c) (ch : c ≤ 2147483647) (h0 : 0 ≤ h) (q : ¬ asks x c h 4294967296 = true) : [x, x] = PyKh287.if32 x c a h := by
  rw [spec_eq xl xh cl ch h0, if_neg (fun z => q z.2)]
end My
open PySem PySem.W
set_option maxRecDepth 100000 in
set_option maxHeartbeats 8000000 in
theorem My.said : PySem.Challenge.rw_changedif_s02_if32.wellSaid = true := by decide +kernel
set_option maxRecDepth 100000 in
set_option maxHeartbeats 8000000 in
theorem PySem.Challenge.cw_changedif_s02_if32_holds : PySem.Challenge.rw_changedif_s02_if32.Holds := by
  k_with "tree" => first
    | exact My.even_tree _ _ _
    | exact My.withSign_hi (by omega)
    | exact My.withSign_lo (by omega)
    | exact My.tree_over (by omega)
    | exact My.tree_less (by omega)
    | exact My.tree_same (by omega)
    | exact My.tree_less_yes (by omega) (by assumption)
    | exact My.tree_less_no (by omega) (by assumption)
    | exact My.tree_less_not (by omega) (by assumption)
    | exact My.tree_high (by omega)
    | exact My.tree_even (by omega)
    | exact My.tree_lessS (by omega)
    | exact My.tree_else_yes (by assumption) (by omega)
    | exact My.tree_else_no (by assumption) (by omega)
    | exact My.tree_else_not (by assumption) (by omega)
    | exact My.tree_odd (by omega)
    | exact My.tree_not_odd (by omega)
  k_with "call ref" => k_call_rec "is_as_how_asks" My.asks (fun (_ _ _ s : Int) => s = 4294967296) (fun (_ _ _ _ : Int) => 4)
  k_with "call ref" => k_call_rec "is_as_even_how_asks" My.asksE (fun (_ _ _ s : Int) => s = 4294967296) (fun (_ _ _ _ : Int) => 3)
  k_with "call ref" => k_call_rec "is_less_with_sign" My.lessS (fun (_ _ s : Int) => s = 4294967296) (fun (_ _ _ : Int) => 2)
  k_with "call ref" => k_call_rec "is_over" My.over (fun (_ _ s : Int) => s = 4294967296) (fun (_ _ _ : Int) => 1)
  k_with "call ref" => k_call_by "is_even" My.even (fun (_ _ s : Int) => s = 4294967296)
  k_with "call ref" => k_call_by "is_high" My.high (fun (_ _ s : Int) => s = 4294967296)
  k_with "call ref" => k_call_by "is_same" My.same (fun (_ _ s : Int) => s = 4294967296)
  k_with "call ref" => k_call_by "is_less" My.less (fun (_ _ s : Int) => s = 4294967296)
  k_with "call ref" => k_call_by "with_sign" My.withSign (fun (_ s : Int) => s = 4294967296)
  open_ks with [.int 0, .int 0, .int 0, .int 0]
  all_goals
    os_open My.said with a w q e
    obtain ⟨x, c, y, h, u⟩ := a
    have e1 : x = _ := (os_j_int (List.cons.inj e).1).symm
    have e2 : c = _ := (os_j_int (List.cons.inj (List.cons.inj e).2).1).symm
    have e3 : y = _ := (os_j_int (List.cons.inj (List.cons.inj (List.cons.inj e).2).2).1).symm
    have e4 : h = _ := (os_j_int (List.cons.inj (List.cons.inj (List.cons.inj (List.cons.inj e).2).2).2).1).symm
    subst e1 e2 e3 e4
    have w1 : (Codec.inInt (-2147483648) 2147483647 x && (Codec.inInt (-2147483648) 2147483647 c && (Codec.inInt (-2147483648) 2147483647 y && (Codec.inInt 0 4294967295 h && true)))) = true := w
    rw [Bool.and_eq_true, Bool.and_eq_true, Bool.and_eq_true, Bool.and_eq_true] at w1
    have bx := Codec.inInt_iff.mp w1.1
    have bc := Codec.inInt_iff.mp w1.2.1
    have bh := Codec.inInt_iff.mp w1.2.2.2.1
    show _ = WData.list ((PyKh287.if32 x c y h).map WData.int)
    first
      | exact os_list (congrArg (List.map PyData.int) (My.end_above bx.1 bx.2 bc.1 bc.2 bh.1 (by omega)))
      | exact os_list (congrArg (List.map PyData.int) (My.end_yes bx.1 bx.2 bc.1 bc.2 bh.1 (by omega) (by assumption)))
      | exact os_list (congrArg (List.map PyData.int) (My.end_no bx.1 bx.2 bc.1 bc.2 bh.1 (by assumption)))
      | exact os_list (congrArg (List.map PyData.int) (My.end_no bx.1 bx.2 bc.1 bc.2 bh.1 (Bool.eq_false_iff.mp (by assumption))))
