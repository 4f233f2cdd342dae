/- The walk of 'HandlesSum': true for any two handles that may be; nothing that was there turns. -/
import Derived.Test.YtcpciodcecpibabHAlive
import Derived.Test.YtcpciodcecpibabHKeep
namespace Go.Proofs.Ytcpciodcecpibab
set_option linter.unusedVariables false
open Go.RowKit

/-- The numbers of the four handles. -/
def afN (n m : Int) (t : Nat) : Int := if t % 2 = 0 then n else m
def gfN (x y : Int) (t : Nat) : Int := if t < 2 then x else y
/-- The sums so far, against one another. -/
def accN (n m x y : Int) : Nat → Nat
  | 0 => 0
  | t + 1 => accN n m x y t ^^^ sumN (hd (afN n m t) (gfN x y t))

theorem acc_lt (n m x y : Int) (t : Nat) : accN n m x y t < 4294967296 := by
  induction t with
  | zero => show 0 < 4294967296; omega
  | succ t ih => exact Nat.xor_lt_two_pow (n := 32) ih (sumN_lt (byt_hd _ _))

theorem acc_four (n m x y : Int) : accN n m x y 4 = 0 := by
  have := sums_four n m x y
  simpa [accN, afN, gfN] using this

theorem get_sum (n g : Int) : getN ((hB n g).drop 12) = (sumN (hd n g) : Int) ∧ getE ((hB n g).drop 12) = 0 := by
  have hs := sumZ_lt (byt_hd n g)
  rw [hB_drop]
  refine ⟨?_, by simp [getE, bytesOf_length]⟩
  unfold getN
  rw [if_neg (by rw [bytesOf_length]; omega), List.take_of_length_le (by rw [bytesOf_length]; omega), be_bytesOf 4 _ hs.1 (by omega)]
  rfl

/-- What stays: the four handles. -/
structure Ls (w W : World) (L : Nat) (n m x y : Int) : Prop where
  l : W.heap[L]? = some (.cells #[.int .i64 n, .int .u32 x, .int .i64 m, .int .u32 x, .int .i64 n, .int .u32 y, .int .i64 m, .int .u32 y] 32)
  below : Below w.heap.size w W
theorem Ls.next {w W W' : World} {L : Nat} {n m x y : Int} (a : Ls w W L n m x y) (hb : Below W.heap.size W W') : Ls w W' L n m x y :=
  ⟨(hb.block _ (Array.getElem?_eq_some_iff.1 a.l).1).trans a.l, a.below.trans (hb.mono a.below.size)⟩
theorem Ls.at {w W : World} {L : Nat} {n m x y : Int} (a : Ls w W L n m x y) (t : Nat) (ht : t < 4) : W.cell? ⟨L, t * 2, none⟩ = some (.int .i64 (afN n m t)) ∧ W.cell? ⟨L, t * 2 + 1, none⟩ = some (.int .u32 (gfN x y t)) := by
  simp only [World.cell?, a.l]
  match t, ht with
  | 0, _ => exact ⟨rfl, rfl⟩
  | 1, _ => exact ⟨rfl, rfl⟩
  | 2, _ => exact ⟨rfl, rfl⟩
  | 3, _ => exact ⟨rfl, rfl⟩

set_option maxRecDepth 100000 in
set_option maxHeartbeats 2000000 in
theorem hsum_walk (n o x y : Int) (w : World) (h0 : 0 ≤ n) (h1 : n ≤ 65535) (o0 : 0 ≤ o) (o1 : o ≤ 65535) (x0 : 0 ≤ x) (x1 : x ≤ 4294967295) (y0 : 0 ≤ y) (y1 : y ≤ 4294967295) :
    Calls Try.prog 4 #[.int .u16 n, .int .u16 o, .agg #[.int .u32 x, .int .u32 y]] w fun e w' => e = .returned (.bool true) ∧ Below w.heap.size w w' := by
  have hB1 : Below w.heap.size w (w.alloc (.cells #[.int .u32 x, .int .u32 y] 24)) := (Below.refl _ _).alloc (Nat.le_refl _) _
  have hh1 := World.alloc_heap_new w (.cells #[.int .u32 x, .int .u32 y] 24)
  have hn : 0 ≤ n % 512 ∧ n % 512 < 512 := by omega
  have ho : 0 ≤ o % 512 ∧ o % 512 < 512 := by omega
  obtain ⟨a, ha⟩ : ∃ a, n % 512 = a := ⟨_, rfl⟩
  obtain ⟨b, hb⟩ : ∃ b, o % 512 = b := ⟨_, rfl⟩
  rw [ha] at hn
  rw [hb] at ho
  go_enter Try.func4, Try.ntmps4
  by_cases hx : a = 0 ∨ b = 0 ∨ a = b
  · have halive : ∀ W, Below w.heap.size w W → Calls Try.prog 6 #[] W fun e w' => e = .returned (.bool true) ∧ Below w.heap.size w w' := fun W hW => by
      refine (alive_any W).mono ?_
      rintro e w' ⟨rfl, hb⟩
      exact ⟨rfl, hW.trans (hb.mono hW.size)⟩
    rcases hx with rfl | rfl | rfl
    · go_wp2_with fail
      refine (halive _ hB1).mono ?_
      rintro e w' ⟨rfl, hB2⟩
      go_wp2
      go_ret
      exact ⟨rfl, hB2⟩
    · by_cases ha0 : a = 0
      · subst ha0
        go_wp2_with fail
        refine (halive _ hB1).mono ?_
        rintro e w' ⟨rfl, hB2⟩
        go_wp2
        go_ret
        exact ⟨rfl, hB2⟩
      · have q1 : (a * 2 == 0) = false := by rw [beq_eq_false_iff_ne]; omega
        go_wp2_with fail
        refine (halive _ hB1).mono ?_
        rintro e w' ⟨rfl, hB2⟩
        go_wp2
        go_ret
        exact ⟨rfl, hB2⟩
    · by_cases ha0 : a = 0
      · subst ha0
        go_wp2_with fail
        refine (halive _ hB1).mono ?_
        rintro e w' ⟨rfl, hB2⟩
        go_wp2
        go_ret
        exact ⟨rfl, hB2⟩
      · have q1 : (a * 2 == 0) = false := by rw [beq_eq_false_iff_ne]; omega
        go_wp2_with fail
        refine (halive _ hB1).mono ?_
        rintro e w' ⟨rfl, hB2⟩
        go_wp2
        go_ret
        exact ⟨rfl, hB2⟩
  · have ha0 : a ≠ 0 := fun e => hx (.inl e)
    have hb0 : b ≠ 0 := fun e => hx (.inr (.inl e))
    have hab : a ≠ b := fun e => hx (.inr (.inr e))
    clear hx
    obtain ⟨N, hN⟩ : ∃ N, a * 2 = N := ⟨_, rfl⟩
    obtain ⟨M, hM⟩ : ∃ M, b * 2 = M := ⟨_, rfl⟩
    have q1 : (N == 0) = false := by rw [beq_eq_false_iff_ne]; omega
    have q2 : (M == 0) = false := by rw [beq_eq_false_iff_ne]; omega
    have q3 : (N == M) = false := by rw [beq_eq_false_iff_ne]; omega
    have hNb : 1 ≤ N ∧ N ≤ 1024 := by omega
    have hMb : 1 ≤ M ∧ M ≤ 1024 := by omega
    clear ha0 hb0 hab
    go_wp2
    simp only [ha, hb]
    clear ha hb hN hM hn ho q1 q2 q3
    have S0 : Ls w ((w.alloc (.cells #[.int .u32 x, .int .u32 y] 24)).alloc (.cells #[.int .i64 N, .int .u32 x, .int .i64 M, .int .u32 x, .int .i64 N, .int .u32 y, .int .i64 M, .int .u32 y] 32)) (w.heap.size + 1) N M x y := by
      have hs1 : (w.alloc (.cells #[.int .u32 x, .int .u32 y] 24)).heap.size = w.heap.size + 1 := by simp
      have hl := World.alloc_heap_new (w.alloc (.cells #[.int .u32 x, .int .u32 y] 24)) (.cells #[.int .i64 N, .int .u32 x, .int .i64 M, .int .u32 x, .int .i64 N, .int .u32 y, .int .i64 M, .int .u32 y] 32)
      rw [hs1] at hl
      exact ⟨hl, hB1.alloc hB1.size _⟩
    go_loopw [10, 11] (fun v i wr => ∃ t : Nat, t ≤ 4 ∧ i = .int .i64 t ∧ v = .int .u32 (accN N M x y t : Nat) ∧ Ls w wr (w.heap.size + 1) N M x y) (fun _ i _ => 4 - (intOf i).toNat)
    case atStart => exact ⟨0, by omega, rfl, rfl, S0⟩
    case round =>
      obtain ⟨t, ht, rfl, rfl, S⟩ := hrel
      clear S0 hB1 hh1
      by_cases htl : t < 4
      · obtain ⟨c0, c1⟩ := S.at t htl
        have hal : 1 ≤ afN N M t ∧ afN N M t ≤ 1024 := by unfold afN; split <;> assumption
        have hgl : 0 ≤ gfN x y t ∧ gfN x y t ≤ 4294967295 := by unfold gfN; split <;> exact ⟨by assumption, by assumption⟩
        have hacc := acc_lt N M x y t
        have hnx : Hid (accN N M x y (t + 1) = accN N M x y t ^^^ sumN (hd (afN N M t) (gfN x y t))) := rfl
        have hsl := sumN_lt (byt_hd (afN N M t) (gfN x y t))
        obtain ⟨hg1, hg2⟩ := get_sum (afN N M t) (gfN x y t)
        have hput := fun w => hput_yes (afN N M t) (gfN x y t) w hal.1 hal.2 hgl.1 hgl.2
        have hxo := u32_xor_nat (accN N M x y t) (sumN (hd (afN N M t) (gfN x y t))) hacc hsl
        have hlB := hB_length (afN N M t) (gfN x y t)
        have hbB := byt_hB (afN N M t) (gfN x y t)
        have hget := fun G w hs => get_any (some ⟨G, 12, none⟩) 4 4 ((hB (afN N M t) (gfN x y t)).drop 12) w (by omega) (by omega) (by rw [List.length_drop, hlB]) (hbB.drop' 12) hs
        rw [hg1, hg2] at hget
        clear hg1 hg2 hal hgl
        generalize hq2 : accN N M x y (t + 1) = a2 at *
        have HQ : Hid (accN N M x y (t + 1) = a2) := hq2
        clear hq2
        generalize accN N M x y t = a1 at *
        generalize sumN (hd (afN N M t) (gfN x y t)) = sm at *
        generalize hB (afN N M t) (gfN x y t) = B at *
        generalize afN N M t = A at *
        generalize gfN x y t = Q at *
        go_wp2_with fail
        refine (hput wr).mono ?_
        rintro e W2 ⟨G, rfl, hown, hb2⟩
        have S2 := S.next hb2
        have hsg := (seg_own hown hlB).drop 12
        rw [Nat.zero_add] at hsg
        clear hput hown hb2 c0 c1 S
        go_wp2_with fail
        refine (hget G W2 hsg).mono ?_
        rintro e w' ⟨rfl, rfl⟩
        rw [← hnx.out] at hxo
        clear hget hsg
        go_wp2
        go_roundw
        case rel => exact ⟨t + 1, by omega, by go_num, by rw [HQ.out], S2⟩
        case measure => simp [intOf]; omega
      · obtain rfl : t = 4 := by omega
        rw [acc_four]
        go_wp2_with fail
        refine (alive_any wr).mono ?_
        rintro e W2 ⟨rfl, hb2⟩
        have hB2 := S.below.trans (hb2.mono S.below.size)
        go_wp2
        go_ret
        exact ⟨rfl, hB2⟩
end Go.Proofs.Ytcpciodcecpibab
