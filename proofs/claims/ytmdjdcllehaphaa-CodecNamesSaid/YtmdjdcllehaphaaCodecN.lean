/- Plain mathematics of layer 7: the examples of CodecNames. No program is named. Own work. -/
import Derived.Test.YtmdjdcllehaphaaCodecE
import Derived.KernelRfl
set_option linter.unusedVariables false
namespace Go.Proofs.Ytmdjdcllehaphaa
namespace Codec

theorem kinds_num (n : Int) : kinds 6 (.mk 1 n [] []) = true := rfl
theorem enc_num (n : Int) : enc 6 (.mk 1 n [] []) = 1 :: code (fold n) := rfl
theorem read_0 (t : List UInt8) : read 0 t = none := by rw [read]
theorem read_nil (d : Nat) : read d [] = none := by cases d <;> simp [read]
theorem read_no {d : Nat} {x : UInt8} {t : List UInt8} (h : coded t = none) : read (d + 1) (x :: t) = none := by rw [read, h]
theorem read_1 {d : Nat} {t : List UInt8} {n m : Nat} (h : coded t = some (n, m)) : read (d + 1) (1 :: t) = some (.mk 1 (unfold_ n) [] [], m + 1) := by rw [read, h]; rfl
theorem read_x {d : Nat} {x : UInt8} {t : List UInt8} {n m : Nat} (h : coded t = some (n, m)) (h1 : x.toNat = 0 ∨ x.toNat = 4) : read (d + 1) (x :: t) = none := by
  rw [read, h]
  rcases h1 with h1 | h1 <;> simp [h1]
theorem read_2 {d : Nat} {t : List UInt8} {n m : Nat} (h : coded t = some (n, m)) (hl : t.length - m < n) : read (d + 1) (2 :: t) = none := by rw [read, h]; exact if_pos hl
theorem read_3 {d : Nat} {t : List UInt8} {n m : Nat} (h : coded t = some (n + 1, m)) (hr : read d (t.drop m) = none) : read (d + 1) (3 :: t) = none := by
  have : reads d (n + 1) (t.drop m) = none := by rw [reads, hr]
  rw [read, h]
  show (match reads d (n + 1) (t.drop m) with
    | none => none
    | some (l, u) => some (V.mk 3 0 [] l, m + 1 + u)) = none
  rw [this]
theorem next_no {t : List UInt8} (h : read 6 t = none) : next t = (V.zero, 0, 12) ∧ decode t = (V.zero, 12) := by
  have h2 : next t = (V.zero, 0, 12) := by unfold next; rw [h]
  refine ⟨h2, ?_⟩
  unfold decode
  rw [h2, if_pos (.inl (by decide))]
theorem two_one : read 6 [3, 2, 1, 0] = none := by
  have h1 : read 5 [1, 0] = some (.mk 1 0 [] [], 2) := read_1 (d := 4) (t := [0]) (n := 0) (m := 1) rfl
  have h2 : reads 5 2 [1, 0] = none := by
    rw [reads, h1]
    show (match reads 5 1 [] with
      | none => none
      | some (l, q) => some (V.mk 1 0 [] [] :: l, 2 + q)) = none
    rw [show reads 5 1 [] = none by rw [reads, read_nil]]
  rw [read, show coded [2, 1, 0] = some (2, 1) from rfl]
  show (match reads 5 2 [1, 0] with
    | none => none
    | some (l, u) => some (V.mk 3 0 [] l, 1 + 1 + u)) = none
  rw [h2]
theorem ref_0 : next [] = (V.zero, 0, 12) ∧ decode [] = (V.zero, 12) := next_no (read_nil 6)
theorem ref_1 : next [1] = (V.zero, 0, 12) ∧ decode [1] = (V.zero, 12) := next_no (read_no rfl)
theorem ref_2 : next [0, 0] = (V.zero, 0, 12) ∧ decode [0, 0] = (V.zero, 12) := next_no (read_x (n := 0) (m := 1) rfl (.inl rfl))
theorem ref_3 : next [4, 0] = (V.zero, 0, 12) ∧ decode [4, 0] = (V.zero, 12) := next_no (read_x (n := 0) (m := 1) rfl (.inr rfl))
theorem ref_4 : next [1, 128] = (V.zero, 0, 12) ∧ decode [1, 128] = (V.zero, 12) := next_no (read_no rfl)
theorem ref_5 : next [1, 255, 255, 255, 255, 255, 255, 255, 255, 255, 2] = (V.zero, 0, 12) ∧ decode [1, 255, 255, 255, 255, 255, 255, 255, 255, 255, 2] = (V.zero, 12) := next_no (read_no (by decide +kernel))
theorem ref_6 : next [1, 255, 255, 255, 255, 255, 255, 255, 255, 255, 129, 0] = (V.zero, 0, 12) ∧ decode [1, 255, 255, 255, 255, 255, 255, 255, 255, 255, 129, 0] = (V.zero, 12) := next_no (read_no (by decide +kernel))
theorem ref_7 : next [2, 1] = (V.zero, 0, 12) ∧ decode [2, 1] = (V.zero, 12) := next_no (read_2 (n := 1) (m := 1) rfl (by decide))
theorem ref_8 : next [2, 128, 0] = (V.zero, 0, 12) ∧ decode [2, 128, 0] = (V.zero, 12) := next_no (read_no rfl)
theorem ref_9 : next [3, 1] = (V.zero, 0, 12) ∧ decode [3, 1] = (V.zero, 12) := next_no (read_3 (n := 0) (m := 1) rfl (read_nil 5))
theorem ref_10 : next [3, 2, 1, 0] = (V.zero, 0, 12) ∧ decode [3, 2, 1, 0] = (V.zero, 12) := next_no (two_one)
theorem ref_11 : next [3, 255, 255, 255, 255, 255, 255, 255, 255, 255, 1] = (V.zero, 0, 12) ∧ decode [3, 255, 255, 255, 255, 255, 255, 255, 255, 255, 1] = (V.zero, 12) := next_no (read_3 (n := 18446744073709551614) (m := 10) (by decide +kernel) (read_nil 5))
theorem ref_12 : next [3, 1, 3, 1, 3, 1, 3, 1, 3, 1, 3, 1, 3, 0] = (V.zero, 0, 12) ∧ decode [3, 1, 3, 1, 3, 1, 3, 1, 3, 1, 3, 1, 3, 0] = (V.zero, 12) := next_no (read_3 (n := 0) (m := 1) rfl (read_3 (n := 0) (m := 1) rfl (read_3 (n := 0) (m := 1) rfl (read_3 (n := 0) (m := 1) rfl (read_3 (n := 0) (m := 1) rfl (read_3 (n := 0) (m := 1) rfl (read_0 _)))))))
theorem long_next : next [1, 0, 0] = (v0, 2, 0) := by
  unfold next
  rw [show read 6 [1, 0, 0] = some (.mk 1 0 [] [], 2) from read_1 (d := 5) (t := [0, 0]) (n := 0) (m := 1) rfl]
  rfl
theorem long_decode : decode [1, 0, 0] = (V.zero, 12) := by
  unfold decode
  rw [long_next, if_pos (.inr (by decide))]
theorem num_0 : kinds 6 (.mk 1 (9223372036854775807) [] []) = true ∧ enc 6 (.mk 1 (9223372036854775807) [] []) = [1, 254, 255, 255, 255, 255, 255, 255, 255, 255, 1] := by
  refine ⟨kinds_num _, ?_⟩
  rw [enc_num, show fold (9223372036854775807) = 18446744073709551614 by decide +kernel, code_big (by omega), show 18446744073709551614 / 128 = 144115188075855871 by omega, code_big (by omega), show 144115188075855871 / 128 = 1125899906842623 by omega, code_big (by omega), show 1125899906842623 / 128 = 8796093022207 by omega, code_big (by omega), show 8796093022207 / 128 = 68719476735 by omega, code_big (by omega), show 68719476735 / 128 = 536870911 by omega, code_big (by omega), show 536870911 / 128 = 4194303 by omega, code_big (by omega), show 4194303 / 128 = 32767 by omega, code_big (by omega), show 32767 / 128 = 255 by omega, code_big (by omega), show 255 / 128 = 1 by omega, code_small (by omega)]
  decide +kernel
theorem num_1 : kinds 6 (.mk 1 (-9223372036854775808) [] []) = true ∧ enc 6 (.mk 1 (-9223372036854775808) [] []) = [1, 255, 255, 255, 255, 255, 255, 255, 255, 255, 1] := by
  refine ⟨kinds_num _, ?_⟩
  rw [enc_num, show fold (-9223372036854775808) = 18446744073709551615 by decide +kernel, code_big (by omega), show 18446744073709551615 / 128 = 144115188075855871 by omega, code_big (by omega), show 144115188075855871 / 128 = 1125899906842623 by omega, code_big (by omega), show 1125899906842623 / 128 = 8796093022207 by omega, code_big (by omega), show 8796093022207 / 128 = 68719476735 by omega, code_big (by omega), show 68719476735 / 128 = 536870911 by omega, code_big (by omega), show 536870911 / 128 = 4194303 by omega, code_big (by omega), show 4194303 / 128 = 32767 by omega, code_big (by omega), show 32767 / 128 = 255 by omega, code_big (by omega), show 255 / 128 = 1 by omega, code_small (by omega)]
  decide +kernel
theorem num_2 : kinds 6 (.mk 1 (63) [] []) = true ∧ enc 6 (.mk 1 (63) [] []) = [1, 126] := by
  refine ⟨kinds_num _, ?_⟩
  rw [enc_num, show fold (63) = 126 by decide +kernel, code_small (by omega)]
  decide +kernel
theorem num_3 : kinds 6 (.mk 1 (64) [] []) = true ∧ enc 6 (.mk 1 (64) [] []) = [1, 128, 1] := by
  refine ⟨kinds_num _, ?_⟩
  rw [enc_num, show fold (64) = 128 by decide +kernel, code_big (by omega), show 128 / 128 = 1 by omega, code_small (by omega)]
  decide +kernel
theorem num_4 : kinds 6 (.mk 1 (-64) [] []) = true ∧ enc 6 (.mk 1 (-64) [] []) = [1, 127] := by
  refine ⟨kinds_num _, ?_⟩
  rw [enc_num, show fold (-64) = 127 by decide +kernel, code_small (by omega)]
  decide +kernel
theorem no_text : kinds 6 (.mk 2 0 [] []) = true ∧ enc 6 (.mk 2 0 [] []) = [2, 0] := by
  refine ⟨rfl, ?_⟩
  show 2 :: (code 0 ++ []) = _
  rw [code_0]; rfl
theorem no_list : kinds 6 (.mk 3 0 [] []) = true ∧ enc 6 (.mk 3 0 [] []) = [3, 0] := by
  refine ⟨rfl, ?_⟩
  show 3 :: (code 0 ++ []) = _
  rw [code_0]; rfl
/-- Lists in lists, n deep. -/
def deepV : Nat → V
  | 0 => .mk 3 0 [] []
  | n + 1 => .mk 3 0 [] [deepV n]
theorem deep_6 : check (deepV 5) = 0 := by
  unfold check
  rw [show kinds 6 (deepV 5) = true from rfl, if_neg (by simp), if_neg]
  show ¬ 3000 < (3 :: (code 1 ++ ((3 :: (code 1 ++ ((3 :: (code 1 ++ ((3 :: (code 1 ++ ((3 :: (code 1 ++ ((3 :: (code 0 ++ [])) ++ []))) ++ []))) ++ []))) ++ []))) ++ []))).length
  rw [code_0, code_1]
  simp
theorem deep_7 : check (deepV 6) = 8 := by
  unfold check
  rw [show kinds 6 (deepV 6) = false from rfl, if_pos rfl]
end Codec
end Go.Proofs.Ytmdjdcllehaphaa
