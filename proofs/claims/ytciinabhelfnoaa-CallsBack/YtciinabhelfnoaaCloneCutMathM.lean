/- 'bytes.Clone': the same bytes in memory of their own (none for none); nothing that was there turns. -/
import Derived.Test.YtciinabhelfnoaaRows
import Derived.Test.YtciinabhelfnoaaBase
import Derived.Outline
import Derived.Maps.AppendAt
import Derived.Test.YtciinabhelfnoaaPiecesGrowM
import Derived.Test.YtciinabhelfnoaaTakenM
namespace Go.Proofs.Ytciinabhelfnoaa
set_option linter.unusedVariables false
open Go.RowKit

theorem infoC : (Try.prog.info? 5).map (fun i => (i.zero, i.size, i.bytes)) = some (some (.int .u8 0), 1, 1) := by kernel_rfl

set_option maxRecDepth 100000 in
set_option maxHeartbeats 400000 in
theorem clone_any (a : Option Addr) (len cap : Nat) (zs : List Int) (w : World) (hlc : len ≤ cap) (hm : len ≤ 140737488355328) (hz : zs.length = len) (hs : Seg w a zs) (hnil : a = none → len = 0 ∧ cap = 0) :
    Calls Try.prog 42 #[.slice a len cap] w fun e w' => ∃ v, e = .returned v ∧ w'.ownsRow w.heap.size 5 1 v len (zs.map (Value.int .u8)) ∧ Below w.heap.size w w' := by
  obtain ⟨i0, hi, hz0, hz1, hz2⟩ := info_parts infoC
  cases a with
  | none =>
    obtain ⟨rfl, rfl⟩ := hnil rfl
    obtain rfl : zs = [] := List.length_eq_zero_iff.1 hz
    have he : ∀ w : World, (binOp .eql 26 (.slice none 0 0) (.slice none 0 0)).run Try.prog w = .ok (.bool true) w := fun _ => rfl
    go_enter Try.func42, Try.ntmps42
    go_wp2
    go_ret
    exact ⟨_, rfl, ⟨rfl, .inl ⟨rfl, rfl⟩⟩, Below.refl _ _⟩
  | some ad =>
    have he : ∀ w : World, (binOp .eql 26 (.slice (some ad) len cap) (.slice none 0 0)).run Try.prog w = .ok (.bool false) w := fun _ => rfl
    go_enter Try.func42, Try.ntmps42
    have hown0 : (w.alloc (.cells #[] 5)).ownsRow w.heap.size 5 1 (.slice (some ⟨w.heap.size, 0, none⟩) 0 0) 0 [] := ⟨rfl, .inr ⟨w.heap.size, 0, #[], rfl, Nat.le_refl _, by show (w.heap.push _)[w.heap.size]? = _; simp, Nat.le_refl _, by unfold maxLen; omega, rfl, rfl⟩⟩
    have hB0 : Below w.heap.size w (w.alloc (.cells #[] 5)) := (Below.refl _ _).alloc (Nat.le_refl _) _
    have hs1 := hs.below hB0
    go_wp2_with (at_builtin; refine wpList_append_own _ rfl _ _ 26 rfl w.heap.size 5 i0 (.int .u8 0) 1 1 Try.underlying26 hi hz0 hz1 hz2 rfl (by decide) (.slice (some ⟨w.heap.size, 0, none⟩) 0 0) 0 _ rfl hown0 ad len cap (zs.map (Value.int .u8)) rfl (by simp [hz]) (seg_news hs1) (news_one zs) (by unfold maxLen; omega) (by omega) hB0.size ?_; intro v' w4 hown4 hgrow4 _)
    go_ret
    rw [Nat.zero_add, List.nil_append] at hown4
    exact ⟨_, rfl, hown4, hB0.grown hgrow4 hB0.size (fun k e => by cases e; exact Nat.le_refl _)⟩
end Go.Proofs.Ytciinabhelfnoaa

/- What is got of so many bytes: the error, the bytes, how many they are (the mathematics; no function is named). -/
namespace Go.Proofs.Ytciinabhelfnoaa
set_option linter.unusedVariables false
open Go.RowKit

/-- The error, the bytes, how many they are with the padding: so many of these bytes, as they stand ahead. -/
def cutZ (zs : List Int) (n : Nat) : List Int := if fixE zs n = 0 then zs.take n else []
def cutL (zs : List Int) (n : Nat) : Nat := if fixE zs n = 0 then n + padN n else 0

/-- The same, of any number. -/
def fxE (zs : List Int) (n : Int) : Int := if n < 0 ∨ 65536 < n then 1 else fixE zs n.toNat
def fxZ (zs : List Int) (n : Int) : List Int := if n < 0 ∨ 65536 < n then [] else cutZ zs n.toNat
def fxL (zs : List Int) (n : Int) : Nat := if n < 0 ∨ 65536 < n then 0 else cutL zs n.toNat

theorem fixE_len {zs : List Int} {n : Nat} (h : fixE zs n = 0) : n + padN n ≤ zs.length := by
  unfold fixE at h
  split at h
  · cases h
  · omega



theorem fixE_cases (zs : List Int) (n : Nat) : fixE zs n = 0 ∨ fixE zs n = 4 ∨ fixE zs n = 5 := by
  unfold fixE
  split
  · exact .inr (.inl rfl)
  · split
    · exact .inl rfl
    · exact .inr (.inr rfl)
end Go.Proofs.Ytciinabhelfnoaa
