/- 'PutFixed' of the program: the bytes and their padding in memory of their own; nothing that was there turns. -/
import Derived.Test.YtcpciodcecpibaaDoorPad
import Derived.Test.YtcpciodcecpibaaDoorOpqBytes
import Derived.Laws.CopyOwn
import Derived.Maps.AppendAt
namespace Go.Proofs.YtcpciodcecpibaaDoor
set_option linter.unusedVariables false
open Go.RowKit

theorem infoP : (Tryd.prog.info? 5).map (fun i => (i.zero, i.size, i.bytes)) = some (some (.int .u8 0), 1, 1) := by kernel_rfl
theorem infoPs : (Tryd.prog.info? 5).map (·.size) = some 1 := by kernel_rfl

theorem own_full {w : World} {base e g n : Nat} {xs : List Value} (h : w.ownsRow base e 1 (.slice (some ⟨g, 0, none⟩) n n) n xs) : w.heap[g]? = some (.cells xs.toArray e (0, 0)) ∧ base ≤ g := by
  rcases h.2 with ⟨h1, _⟩ | ⟨g', cap, cur, hv, hg, hh, _, _, hsz, hx⟩
  · cases h1
  · cases hv
    have : cur.toList = xs := by rw [← hx, List.take_of_length_le (by simp [hsz])]
    rw [← this]
    exact ⟨by simpa using hh, hg⟩

theorem full_own {w : World} {base e g n : Nat} {xs : List Value} (h : w.heap[g]? = some (.cells xs.toArray e (0, 0))) (hb : base ≤ g) (hn : xs.length = n) (hm : n ≤ maxLen) : w.ownsRow base e 1 (.slice (some ⟨g, 0, none⟩) n n) n xs :=
  ⟨by omega, .inr ⟨g, n, xs.toArray, rfl, hb, h, Nat.le_refl _, hm, by simp [hn], by simp [← hn]⟩⟩

theorem made_splice (zs : List Int) : splice (madeCells (Value.int .u8 0).cells (zs.length + padN zs.length)).toList 0 (zs.map (Value.int .u8)) = (padded zs).map (Value.int .u8) := by
  rw [show (Value.int .u8 0).cells = #[.int .u8 0] from rfl, toList_madeCells_one]
  simp [splice, padded]

set_option maxRecDepth 100000 in
set_option maxHeartbeats 400000 in
theorem putfixed_any (a : Option Addr) (len cap : Nat) (zs : List Int) (w : World) (hlc : len ≤ cap) (hm : len ≤ 1048576) (hz : zs.length = len) (hs : Seg w a zs) (hnil : a = none → len = 0 ∧ cap = 0) :
    Calls Tryd.prog 11 #[.slice a len cap] w fun e w' => e = .returned (.slice (some ⟨w.heap.size, 0, none⟩) (len + padN len) (len + padN len)) ∧
      w'.ownsRow w.heap.size 5 1 (.slice (some ⟨w.heap.size, 0, none⟩) (len + padN len) (len + padN len)) (len + padN len) ((padded zs).map (Value.int .u8)) ∧ Below w.heap.size w w' := by
  obtain ⟨i0, hi, hz0, hz1, hz2⟩ := info_parts infoP
  have hp := padN_lt len
  obtain ⟨X, HX⟩ : ∃ X, Hid (X = zs.map (Value.int .u8)) := ⟨_, rfl⟩
  have hXl : X.length = len := by rw [HX.out, List.length_map, hz]
  have hX1 : ∀ v ∈ X, v.oneCell' = true := by rw [HX.out]; exact news_one zs
  have hXs : ∀ W, Below w.heap.size w W → 0 < X.length → ∃ ad, a = some ad ∧ ∀ j v, X[j]? = some v → W.cell? (ad.add j) = some v := by
    intro W hW h0
    cases a with
    | none => have := (hnil rfl).1; omega
    | some ad => exact ⟨ad, rfl, by rw [HX.out]; exact seg_news (hs.below hW)⟩
  obtain ⟨C, HC⟩ : ∃ C, Hid (C = (madeCells (Value.int .u8 0).cells ((len + padN len) * 1)).toList) := ⟨_, rfl⟩
  have hCl : C.length = len + padN len := by rw [HC.out]; simp [size_madeCells]
  have HS : Hid (splice C 0 X = (padded zs).map (Value.int .u8)) := by
    show _ = _
    rw [HC.out, HX.out, Nat.mul_one, ← hz, made_splice]
  have HL : Hid (((padded zs).map (Value.int .u8)).length = len + padN len) := by
    show _ = _
    rw [List.length_map, padded_length, hz]
  clear hs
  go_enter Tryd.func11, Tryd.ntmps11
  go_wp2_with (first
    | (go_at_call 37; refine (pad_nat len _ (by omega)).mono ?_; rintro e w' ⟨rfl, hw'⟩; subst w')
    | (at_make; refine wpList_make_full _ rfl _ _ 25 rfl _ 5 i0 (.int .u8 0) 1 Tryd.underlying25 hi hz0 hz1 .i64 .i64 _ _ (len + padN len) rfl rfl (by simp) (by simp) (by rw [hz2]; omega) (by unfold maxLen; omega) (Nat.le_refl _) ?_; intro w1 hown1 hgrow1; rw [← HC.out] at hown1; obtain ⟨hh1, _⟩ := own_full hown1; have hB1 : Below w.heap.size w w1 := (Below.refl _ _).grown hgrow1 (Nat.le_refl _) (by simp))
    | (refine wpList_copy_splice rfl _ _ 25 25 rfl 5 Tryd.underlying25 infoPs _ _ (len + padN len) (len + padN len) len cap rfl rfl w.heap.size 0 C 5 hh1 X (by rw [hXl]; show len = min len (len + padN len); omega) (fun h => ⟨rfl, hXs _ hB1 h⟩) (by omega) hX1 w.heap.size w hB1 (Nat.le_refl _) ?_; intro w2 HG2 hB2))
  rw [HS.out] at HG2
  go_ret
  exact ⟨rfl, full_own HG2.out (Nat.le_refl _) HL.out (by unfold maxLen; omega), hB2⟩
end Go.Proofs.YtcpciodcecpibaaDoor
