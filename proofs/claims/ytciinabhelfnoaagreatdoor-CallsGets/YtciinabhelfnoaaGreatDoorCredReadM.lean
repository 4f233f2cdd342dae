/- The closure that reads step by step ('inTurn'): what it answers, and what it leaves, by what the step leaves. -/
import Derived.RangeFuncBox
import Derived.Test.YtciinabhelfnoaaGreatDoorRows
import Derived.Test.YtciinabhelfnoaaGreatDoorCredCellsCallCellsSameClM
import Derived.Outline
namespace Go.Proofs.YtciinabhelfnoaaGreatDoor
set_option linter.unusedVariables false
open Go.RowKit

/-- What a step leaves (its size, its error), and what is left behind it. -/
def Rd (h4 h5 : Nat) (a : Option Addr) (len cap : Nat) (R : Nat → Int → World → Prop) (e : Ending) (W' : World) : Prop :=
  ∃ sz er W1, R sz er W1 ∧ e = .returned (.int .i64 er) ∧ ((er ≠ 0 ∧ W' = W1.setCell ⟨h5, 0, none⟩ (.int .i64 er)) ∨
    (er = 0 ∧ ∃ b off o', a = some ⟨b, off, none⟩ ∧ (o' = off + sz ∨ len = sz) ∧ W' = W1.setCell ⟨h4, 0, none⟩ (.slice (some ⟨b, o', none⟩) (len - sz) (cap - sz))))

/-- What must be true of what a step leaves. -/
def RdOk (h4 h5 : Nat) (a : Option Addr) (len cap : Nat) (R : Nat → Int → World → Prop) : Prop :=
  ∀ sz er W1, R sz er W1 → Boxed W1 h4 22 (.slice a len cap) ∧ Boxed W1 h5 30 (.int .i64 0) ∧ (er = 0 → sz ≤ len ∧ ∃ b off, a = some ⟨b, off, none⟩)

set_option maxRecDepth 100000 in
set_option maxHeartbeats 1000000 in
theorem read_number (p : Value) (h4 h5 : Nat) (a : Option Addr) (len cap : Nat) (W : World) (hlc : len ≤ cap) (hm : cap ≤ 9223372036854775807) (hb4 : Boxed W h4 22 (.slice a len cap)) (hb5 : Boxed W h5 30 (.int .i64 0)) (R : Nat → Int → World → Prop)
    (ht : Calls Tryz.prog 90 #[.slice a len cap, p] W fun e W' => ∃ sz er, e = .returned (.tuple #[.int .i64 (sz : Nat), .int .i64 er]) ∧ R sz er W') (hR : RdOk h4 h5 a len cap R) :
    Calls Tryz.prog 89 #[.func (.func 90) #[] #[p], .pointer (some ⟨h5, 0, none⟩), .pointer (some ⟨h4, 0, none⟩)] W (Rd h4 h5 a len cap R) := by
  have c4 := hb4.cell
  have c5 := hb5.cell
  go_enter Tryz.func89, Tryz.ntmps89
  go_wp2_with fail
  refine ht.mono ?_
  rintro e W1 ⟨sz, er, rfl, hr⟩
  obtain ⟨k4, k5, kz⟩ := hR sz er W1 hr
  clear hR ht c4 c5 hb4 hb5
  have d4 := k4.cell
  have d5 := k5.cell
  have f4 := k4.frozen
  have f5 := k5.frozen
  have d5' := (k5.set (.int .i64 er)).cell
  by_cases h0 : er = 0
  · subst h0
    obtain ⟨hsz, b, off, rfl⟩ := kz rfl
    clear kz d5'
    have hsz' : sz ≤ cap := by omega
    by_cases hcs : cap = sz
    · subst hcs
      obtain rfl : len = cap := by omega
      go_wp2
      go_ret
      exact ⟨len, 0, W1, hr, rfl, .inr ⟨rfl, b, off, off, rfl, .inr rfl, by simp⟩⟩
    · go_wp2
      go_ret
      exact ⟨sz, 0, W1, hr, rfl, .inr ⟨rfl, b, off, _, rfl, .inl rfl, rfl⟩⟩
  · have hx : (er != 0) = true := by simp [h0]
    have H0 : Hid (er ≠ 0) := h0
    clear h0 kz
    go_wp2
    go_ret
    exact ⟨sz, er, W1, hr, rfl, .inl ⟨H0.out, rfl⟩⟩

set_option maxHeartbeats 400000 in
theorem kept_number (p : Value) (h4 h5 : Nat) (er : Int) (W : World) (h0 : er ≠ 0) (hb5 : Boxed W h5 30 (.int .i64 er)) :
    Calls Tryz.prog 89 #[.func (.func 90) #[] #[p], .pointer (some ⟨h5, 0, none⟩), .pointer (some ⟨h4, 0, none⟩)] W fun e W' => e = .returned (.int .i64 er) ∧ W' = W := by
  have c5 := hb5.cell
  have hx : (er != 0) = true := by simp [h0]
  clear h0
  go_enter Tryz.func89, Tryz.ntmps89
  go_wp2
  go_ret
  exact ⟨rfl, rfl⟩

set_option maxRecDepth 100000 in
set_option maxHeartbeats 1000000 in
theorem read_machine (p : Value) (h4 h5 : Nat) (a : Option Addr) (len cap : Nat) (W : World) (hlc : len ≤ cap) (hm : cap ≤ 9223372036854775807) (hb4 : Boxed W h4 22 (.slice a len cap)) (hb5 : Boxed W h5 30 (.int .i64 0)) (R : Nat → Int → World → Prop)
    (ht : Calls Tryz.prog 91 #[.slice a len cap, p] W fun e W' => ∃ sz er, e = .returned (.tuple #[.int .i64 (sz : Nat), .int .i64 er]) ∧ R sz er W') (hR : RdOk h4 h5 a len cap R) :
    Calls Tryz.prog 89 #[.func (.func 91) #[] #[p], .pointer (some ⟨h5, 0, none⟩), .pointer (some ⟨h4, 0, none⟩)] W (Rd h4 h5 a len cap R) := by
  have c4 := hb4.cell
  have c5 := hb5.cell
  go_enter Tryz.func89, Tryz.ntmps89
  go_wp2_with fail
  refine ht.mono ?_
  rintro e W1 ⟨sz, er, rfl, hr⟩
  obtain ⟨k4, k5, kz⟩ := hR sz er W1 hr
  clear hR ht c4 c5 hb4 hb5
  have d4 := k4.cell
  have d5 := k5.cell
  have f4 := k4.frozen
  have f5 := k5.frozen
  have d5' := (k5.set (.int .i64 er)).cell
  by_cases h0 : er = 0
  · subst h0
    obtain ⟨hsz, b, off, rfl⟩ := kz rfl
    clear kz d5'
    have hsz' : sz ≤ cap := by omega
    by_cases hcs : cap = sz
    · subst hcs
      obtain rfl : len = cap := by omega
      go_wp2
      go_ret
      exact ⟨len, 0, W1, hr, rfl, .inr ⟨rfl, b, off, off, rfl, .inr rfl, by simp⟩⟩
    · go_wp2
      go_ret
      exact ⟨sz, 0, W1, hr, rfl, .inr ⟨rfl, b, off, _, rfl, .inl rfl, rfl⟩⟩
  · have hx : (er != 0) = true := by simp [h0]
    have H0 : Hid (er ≠ 0) := h0
    clear h0 kz
    go_wp2
    go_ret
    exact ⟨sz, er, W1, hr, rfl, .inl ⟨H0.out, rfl⟩⟩

set_option maxHeartbeats 400000 in
theorem kept_machine (p : Value) (h4 h5 : Nat) (er : Int) (W : World) (h0 : er ≠ 0) (hb5 : Boxed W h5 30 (.int .i64 er)) :
    Calls Tryz.prog 89 #[.func (.func 91) #[] #[p], .pointer (some ⟨h5, 0, none⟩), .pointer (some ⟨h4, 0, none⟩)] W fun e W' => e = .returned (.int .i64 er) ∧ W' = W := by
  have c5 := hb5.cell
  have hx : (er != 0) = true := by simp [h0]
  clear h0
  go_enter Tryz.func89, Tryz.ntmps89
  go_wp2
  go_ret
  exact ⟨rfl, rfl⟩

set_option maxRecDepth 100000 in
set_option maxHeartbeats 1000000 in
theorem read_room (p : Value) (q : Value) (h4 h5 : Nat) (a : Option Addr) (len cap : Nat) (W : World) (hlc : len ≤ cap) (hm : cap ≤ 9223372036854775807) (hb4 : Boxed W h4 22 (.slice a len cap)) (hb5 : Boxed W h5 30 (.int .i64 0)) (R : Nat → Int → World → Prop)
    (ht : Calls Tryz.prog 93 #[.slice a len cap, p, q] W fun e W' => ∃ sz er, e = .returned (.tuple #[.int .i64 (sz : Nat), .int .i64 er]) ∧ R sz er W') (hR : RdOk h4 h5 a len cap R) :
    Calls Tryz.prog 89 #[.func (.func 93) #[] #[p, q], .pointer (some ⟨h5, 0, none⟩), .pointer (some ⟨h4, 0, none⟩)] W (Rd h4 h5 a len cap R) := by
  have c4 := hb4.cell
  have c5 := hb5.cell
  go_enter Tryz.func89, Tryz.ntmps89
  go_wp2_with fail
  refine ht.mono ?_
  rintro e W1 ⟨sz, er, rfl, hr⟩
  obtain ⟨k4, k5, kz⟩ := hR sz er W1 hr
  clear hR ht c4 c5 hb4 hb5
  have d4 := k4.cell
  have d5 := k5.cell
  have f4 := k4.frozen
  have f5 := k5.frozen
  have d5' := (k5.set (.int .i64 er)).cell
  by_cases h0 : er = 0
  · subst h0
    obtain ⟨hsz, b, off, rfl⟩ := kz rfl
    clear kz d5'
    have hsz' : sz ≤ cap := by omega
    by_cases hcs : cap = sz
    · subst hcs
      obtain rfl : len = cap := by omega
      go_wp2
      go_ret
      exact ⟨len, 0, W1, hr, rfl, .inr ⟨rfl, b, off, off, rfl, .inr rfl, by simp⟩⟩
    · go_wp2
      go_ret
      exact ⟨sz, 0, W1, hr, rfl, .inr ⟨rfl, b, off, _, rfl, .inl rfl, rfl⟩⟩
  · have hx : (er != 0) = true := by simp [h0]
    have H0 : Hid (er ≠ 0) := h0
    clear h0 kz
    go_wp2
    go_ret
    exact ⟨sz, er, W1, hr, rfl, .inl ⟨H0.out, rfl⟩⟩

set_option maxHeartbeats 400000 in
theorem kept_room (p : Value) (q : Value) (h4 h5 : Nat) (er : Int) (W : World) (h0 : er ≠ 0) (hb5 : Boxed W h5 30 (.int .i64 er)) :
    Calls Tryz.prog 89 #[.func (.func 93) #[] #[p, q], .pointer (some ⟨h5, 0, none⟩), .pointer (some ⟨h4, 0, none⟩)] W fun e W' => e = .returned (.int .i64 er) ∧ W' = W := by
  have c5 := hb5.cell
  have hx : (er != 0) = true := by simp [h0]
  clear h0
  go_enter Tryz.func89, Tryz.ntmps89
  go_wp2
  go_ret
  exact ⟨rfl, rfl⟩

set_option maxRecDepth 100000 in
set_option maxHeartbeats 1000000 in
theorem read_end (h4 h5 : Nat) (a : Option Addr) (len cap : Nat) (W : World) (hlc : len ≤ cap) (hm : cap ≤ 9223372036854775807) (hb4 : Boxed W h4 22 (.slice a len cap)) (hb5 : Boxed W h5 30 (.int .i64 0)) (R : Nat → Int → World → Prop)
    (ht : Calls Tryz.prog 82 #[.slice a len cap] W fun e W' => ∃ sz er, e = .returned (.tuple #[.int .i64 (sz : Nat), .int .i64 er]) ∧ R sz er W') (hR : RdOk h4 h5 a len cap R) :
    Calls Tryz.prog 89 #[.func (.func 82) #[] #[], .pointer (some ⟨h5, 0, none⟩), .pointer (some ⟨h4, 0, none⟩)] W (Rd h4 h5 a len cap R) := by
  have c4 := hb4.cell
  have c5 := hb5.cell
  go_enter Tryz.func89, Tryz.ntmps89
  go_wp2_with fail
  refine ht.mono ?_
  rintro e W1 ⟨sz, er, rfl, hr⟩
  obtain ⟨k4, k5, kz⟩ := hR sz er W1 hr
  clear hR ht c4 c5 hb4 hb5
  have d4 := k4.cell
  have d5 := k5.cell
  have f4 := k4.frozen
  have f5 := k5.frozen
  have d5' := (k5.set (.int .i64 er)).cell
  by_cases h0 : er = 0
  · subst h0
    obtain ⟨hsz, b, off, rfl⟩ := kz rfl
    clear kz d5'
    have hsz' : sz ≤ cap := by omega
    by_cases hcs : cap = sz
    · subst hcs
      obtain rfl : len = cap := by omega
      go_wp2
      go_ret
      exact ⟨len, 0, W1, hr, rfl, .inr ⟨rfl, b, off, off, rfl, .inr rfl, by simp⟩⟩
    · go_wp2
      go_ret
      exact ⟨sz, 0, W1, hr, rfl, .inr ⟨rfl, b, off, _, rfl, .inl rfl, rfl⟩⟩
  · have hx : (er != 0) = true := by simp [h0]
    have H0 : Hid (er ≠ 0) := h0
    clear h0 kz
    go_wp2
    go_ret
    exact ⟨sz, er, W1, hr, rfl, .inl ⟨H0.out, rfl⟩⟩

set_option maxHeartbeats 400000 in
theorem kept_end (h4 h5 : Nat) (er : Int) (W : World) (h0 : er ≠ 0) (hb5 : Boxed W h5 30 (.int .i64 er)) :
    Calls Tryz.prog 89 #[.func (.func 82) #[] #[], .pointer (some ⟨h5, 0, none⟩), .pointer (some ⟨h4, 0, none⟩)] W fun e W' => e = .returned (.int .i64 er) ∧ W' = W := by
  have c5 := hb5.cell
  have hx : (er != 0) = true := by simp [h0]
  clear h0
  go_enter Tryz.func89, Tryz.ntmps89
  go_wp2
  go_ret
  exact ⟨rfl, rfl⟩

end Go.Proofs.YtciinabhelfnoaaGreatDoor
