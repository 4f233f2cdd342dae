/- 'of' of the law: the bytes of a handle that may be; nothing that was there turns. -/
import Derived.Test.YtcpciodcecpibabHPut
import Derived.Test.YtcpciodcecpibabPieces
import Derived.WalkSmall
namespace Go.Proofs.Ytcpciodcecpibab
set_option linter.unusedVariables false
open Go.RowKit

theorem own_block {W W' : World} {base e G n c : Nat} {xs : List Value} (h : W.ownsRow base e 1 (.slice (some ⟨G, 0, none⟩) n c) n xs) (hG : W'.heap[G]? = W.heap[G]?) : W'.ownsRow base e 1 (.slice (some ⟨G, 0, none⟩) n c) n xs := by
  obtain ⟨h1, h2⟩ := h
  refine ⟨h1, ?_⟩
  rcases h2 with ⟨h2, _⟩ | ⟨g, cap, cur, hv, hg, hh, r⟩
  · cases h2
  · cases hv
    exact .inr ⟨_, _, cur, rfl, hg, hG.trans hh, r⟩

theorem hand_set' {W : World} {k : Nat} {a b : Value} {t : TypeId} (h : W.heap[k]? = some (.cells #[a, b] t)) (x y : Int) : ((W.setCell ⟨k, 0, none⟩ (.int .i64 x)).setCell ⟨k, 1, none⟩ (.int .u32 y)).heap[k]? = some (.cells #[.int .i64 x, .int .u32 y] t) := by
  have h1 := setCell_same (k := 0) h (.int .i64 x)
  have h2 := setCell_same (k := 1) h1 (.int .u32 y)
  exact h2

set_option maxRecDepth 100000 in
set_option maxHeartbeats 2000000 in
theorem of_any (n g : Int) (w : World) (h0 : 0 ≤ n) (h1 : n ≤ 65535) (h2 : 0 ≤ g) (h3 : g ≤ 4294967295) :
    Calls Try.prog 5 #[.int .u16 n, .int .u32 g] w fun e w' => ∃ G, e = .returned (.tuple #[.slice (some ⟨G, 0, none⟩) 16 16, .agg #[.int .i64 (1 + n % 1024), .int .u32 g], .bool true]) ∧
      w'.ownsRow w.heap.size 5 1 (.slice (some ⟨G, 0, none⟩) 16 16) 16 ((hB (1 + n % 1024) g).map (Value.int .u8)) ∧ Below w.heap.size w w' := by
  have hput := fun w => hput_yes (1 + n % 1024) g w (by omega) (by omega) h2 h3
  have hh1 := World.alloc_heap_new w (.cells #[.int .i64 0, .int .u32 0] 27)
  have hb1 : Below w.heap.size w (w.alloc (.cells #[.int .i64 0, .int .u32 0] 27)) := (Below.refl _ _).alloc (Nat.le_refl _) _
  have hs1 : (w.alloc (.cells #[.int .i64 0, .int .u32 0] 27)).heap.size = w.heap.size + 1 := by simp
  have hm : 0 ≤ n % 1024 ∧ n % 1024 < 1024 := by omega
  obtain ⟨k, hk⟩ : ∃ k, n % 1024 = k := ⟨_, rfl⟩
  rw [hk] at hput hm
  rw [hk]
  have hh2 := World.alloc_heap_new (w.alloc (.cells #[.int .i64 0, .int .u32 0] 27)) (.cells #[.int .i64 (1 + k), .int .u32 g] 27)
  have hb2 : Below (w.alloc (.cells #[.int .i64 0, .int .u32 0] 27)).heap.size (w.alloc (.cells #[.int .i64 0, .int .u32 0] 27)) ((w.alloc (.cells #[.int .i64 0, .int .u32 0] 27)).alloc (.cells #[.int .i64 (1 + k), .int .u32 g] 27)) := (Below.refl _ _).alloc (Nat.le_refl _) _
  have hh1' := (hb2.block _ (by omega)).trans hh1
  have hB2 := hb1.trans (hb2.mono (by omega))
  rw [hs1] at hh2
  clear hh1 hb1 hs1 hb2
  go_enter Try.func5, Try.ntmps5
  go_wp2_with fail
  refine (hput _).mono ?_
  rintro e W3 ⟨G, rfl, hown, hb3⟩
  clear hput hk
  generalize ((w.alloc (.cells #[.int .i64 0, .int .u32 0] 27)).alloc (.cells #[.int .i64 (1 + k), .int .u32 g] 27)) = W2 at *
  have hl1 := (Array.getElem?_eq_some_iff.1 hh1').1
  have hl2 := (Array.getElem?_eq_some_iff.1 hh2).1
  have k1 := (hb3.block _ hl1).trans hh1'
  have k2 := (hb3.block _ hl2).trans hh2
  have hB3 := hB2.trans (hb3.mono hB2.size)
  have hGlow : w.heap.size < G := by
    have := own_low (k := G) hown rfl
    omega
  replace hown := own_base hown hB2.size
  have f0 : W3.frozen? ⟨w.heap.size, 0, none⟩ = false := by simp [World.frozen?, k1]
  have f1 : W3.frozen? ⟨w.heap.size, 1, none⟩ = false := by simp [World.frozen?, k1]
  have c0 : W3.cell? ⟨w.heap.size, 0, none⟩ = some (.int .i64 0) := by simp [World.cell?, k1]
  have c1 : W3.cell? ⟨w.heap.size, 1, none⟩ = some (.int .u32 0) := by simp [World.cell?, k1]
  have d0 : W3.cell? ⟨w.heap.size + 1, 0, none⟩ = some (.int .i64 (1 + k)) := by simp [World.cell?, k2]
  have d1 : W3.cell? ⟨w.heap.size + 1, 1, none⟩ = some (.int .u32 g) := by simp [World.cell?, k2]
  clear hh1' hh2 hb3 k2 hl2 hl1 hB2
  go_wp2_with fail
  go_region
  have hW4 : ((W3.setCell ⟨w.heap.size, 0, none⟩ (.int .i64 (1 + k))).setCell ⟨w.heap.size, 1, none⟩ (.int .u32 g)).drew.heap[w.heap.size]? = some (.cells #[.int .i64 (1 + k), .int .u32 g] 27) := hand_set' k1 _ _
  have hG4 : ((W3.setCell ⟨w.heap.size, 0, none⟩ (.int .i64 (1 + k))).setCell ⟨w.heap.size, 1, none⟩ (.int .u32 g)).drew.heap[G]? = W3.heap[G]? := by
    show ((W3.setCell ⟨w.heap.size, 0, none⟩ (.int .i64 (1 + k))).setCell ⟨w.heap.size, 1, none⟩ (.int .u32 g)).heap[G]? = _
    rw [Below.heap_setCell _ _ _ _ (show G ≠ w.heap.size by omega), Below.heap_setCell _ _ _ _ (show G ≠ w.heap.size by omega)]
  have hB4 : Below w.heap.size w ((W3.setCell ⟨w.heap.size, 0, none⟩ (.int .i64 (1 + k))).setCell ⟨w.heap.size, 1, none⟩ (.int .u32 g)).drew := ((hB3.setCell (p := ⟨w.heap.size, 0, none⟩) (Nat.le_refl _) _).setCell (p := ⟨w.heap.size, 1, none⟩) (Nat.le_refl _) _).trans ⟨rfl, rfl, rfl, Nat.le_refl _, fun _ _ => rfl⟩
  generalize ((W3.setCell ⟨w.heap.size, 0, none⟩ (.int .i64 (1 + k))).setCell ⟨w.heap.size, 1, none⟩ (.int .u32 g)).drew = W4 at *
  have hown4 := own_block hown hG4
  have e0 : W4.cell? ⟨w.heap.size, 0, none⟩ = some (.int .i64 (1 + k)) := by simp [World.cell?, hW4]
  have e1 : W4.cell? ⟨w.heap.size, 1, none⟩ = some (.int .u32 g) := by simp [World.cell?, hW4]
  clear c0 c1 d0 d1 f0 f1 hown k1 hB3 hG4 hW4
  go_wp2_with fail
  refine bodyPost_ret (v := .tuple #[.slice (some ⟨G, 0, none⟩) 16 16, .agg #[.int .i64 (1 + k), .int .u32 g], .bool true]) (by simp [results, Try.results5, go_sem, e0, e1]) rfl ?_
  exact ⟨G, rfl, hown4, hB4⟩
end Go.Proofs.Ytcpciodcecpibab
