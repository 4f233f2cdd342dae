/- The walk of 'WordsOrder': true for any two numbers; nothing that was there turns. -/
import Derived.Test.YtkknlfmkhckgcabAlive
import Derived.Test.YtkknlfmkhckgcabOrderMath
import Derived.WalkLawsBesides
namespace Go.Proofs.Ytkknlfmkhckgcab
set_option linter.unusedVariables false
open Go.RowKit

theorem conv_seg {W : World} {g len cap : Nat} {zs : List Int} (h : Seg W (some ⟨g, 0, none⟩) zs) (hz : zs.length = len) :
    (convert 22 9 (.slice (some ⟨g, 0, none⟩) len cap)).run Try.prog W = .ok (.string (strOfNums zs)) W := by
  refine run_convert_bytes_arg W 22 5 Try.underlying22 Try.underlying5 g 0 len cap zs hz (fun i hi => ?_) 9 Try.underlying9
  rcases h with rfl | ⟨b, off, e, hc⟩
  · simp at hz; omega
  · cases e
    have := hc i (by omega)
    simpa using this

theorem PutLong_seg (n : Int) (h0 : 0 ≤ n) (h1 : n ≤ 18446744073709551615) (W : World) :
    Calls Try.prog 12 #[.int .u64 n] W fun e W' => ∃ g, e = .returned (.slice (some ⟨g, 0, none⟩) 8 8) ∧ Seg W' (some ⟨g, 0, none⟩) (bytesOf n 8) ∧ Below W.heap.size W W' := by
  refine (PutLong_any n h0 h1 W).mono ?_
  rintro e W' ⟨rfl, hown, hb⟩
  exact ⟨_, rfl, seg_own hown (bytesOf_length _ _), hb⟩

theorem Put_seg (n : Int) (h0 : 0 ≤ n) (h1 : n ≤ 4294967295) (W : World) :
    Calls Try.prog 11 #[.int .u32 n] W fun e W' => ∃ g, e = .returned (.slice (some ⟨g, 0, none⟩) 4 4) ∧ Seg W' (some ⟨g, 0, none⟩) (bytesOf n 4) ∧ Below W.heap.size W W' := by
  refine (Put_any n h0 h1 W).mono ?_
  rintro e W' ⟨rfl, hown, hb⟩
  exact ⟨_, rfl, seg_own hown (bytesOf_length _ _), hb⟩

set_option maxRecDepth 100000 in
set_option maxHeartbeats 1000000 in
theorem order_walk (n m : Int) (w : World) (hn0 : 0 ≤ n) (hn1 : n ≤ 18446744073709551615) (hm0 : 0 ≤ m) (hm1 : m ≤ 18446744073709551615) :
    Calls Try.prog 4 #[.int .u64 n, .int .u64 m] w fun e w' => e = .returned (.bool true) ∧ Below w.heap.size w w' := by
  have l8 := less_bytesOf 8 n m hn0 (by omega) hm0 (by omega)
  have l4 := less_bytesOf 4 (n % 4294967296) (m % 4294967296) (by omega) (by omega) (by omega) (by omega)
  have L8 : Hid (Op.bytesLess (strOfNums (bytesOf n 8)).toList (strOfNums (bytesOf m 8)).toList = decide (n < m)) := l8
  have L4 : Hid (Op.bytesLess (strOfNums (bytesOf (n % 4294967296) 4)).toList (strOfNums (bytesOf (m % 4294967296) 4)).toList = decide (n % 4294967296 < m % 4294967296)) := l4
  clear l8 l4
  go_enter Try.func4, Try.ntmps4
  go_wp2_with fail
  refine (PutLong_seg n hn0 hn1 _).mono ?_
  rintro e w1 ⟨ga, rfl, sa, b1⟩
  go_wp2_with fail
  refine (PutLong_seg m hm0 hm1 _).mono ?_
  rintro e w2 ⟨gb, rfl, sb, b2⟩
  have sa2 := sa.below b2
  have B2 := b1.trans (b2.mono b1.size)
  clear sa b1 b2
  go_wp2_with fail
  refine (Put_seg (n % 4294967296) (by omega) (by omega) _).mono ?_
  rintro e w3 ⟨gc, rfl, sc, b3⟩
  have sa3 := sa2.below b3
  have sb3 := sb.below b3
  have B3 := B2.trans (b3.mono B2.size)
  clear sa2 sb b3 B2
  go_wp2_with fail
  refine (Put_seg (m % 4294967296) (by omega) (by omega) _).mono ?_
  rintro e w4 ⟨gd, rfl, sd, b4⟩
  have sa4 := sa3.below b4
  have sb4 := sb3.below b4
  have sc4 := sc.below b4
  have B4 := B3.trans (b4.mono B3.size)
  clear sa3 sb3 sc b4 B3
  go_wp2_with fail
  refine (alive_any _).mono ?_
  rintro e w5 ⟨rfl, b5⟩
  have ka := conv_seg (cap := 8) (sa4.below b5) (bytesOf_length n 8)
  have kb := conv_seg (cap := 8) (sb4.below b5) (bytesOf_length m 8)
  have kc := conv_seg (cap := 4) (sc4.below b5) (bytesOf_length (n % 4294967296) 4)
  have kd := conv_seg (cap := 4) (sd.below b5) (bytesOf_length (m % 4294967296) 4)
  have B5 := B4.trans (b5.mono B4.size)
  clear sa4 sb4 sc4 sd b5 B4
  have q8 := L8.out
  have q4 := L4.out
  clear L8 L4
  have t8 : (decide (n < m) == decide (n < m)) = true := by simp
  have t4 : (decide (n % 4294967296 < m % 4294967296) == decide (n % 4294967296 < m % 4294967296)) = true := by simp
  go_wp2
  go_ret
  exact ⟨rfl, B5⟩
end Go.Proofs.Ytkknlfmkhckgcab
