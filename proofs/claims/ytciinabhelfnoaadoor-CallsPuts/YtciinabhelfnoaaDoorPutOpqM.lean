/- 'Put' of the program: the number of the bytes, they, and their padding, in memory of their own; nothing that was there turns. -/
import Derived.Test.YtciinabhelfnoaaDoorPutFixedM
import Derived.Test.YtciinabhelfnoaaDoorConcatM
import Derived.Test.YtciinabhelfnoaaDoorPut4M
namespace Go.Proofs.YtciinabhelfnoaaDoor
set_option linter.unusedVariables false
open Go.RowKit

/-- Bytes with their number ahead and their padding behind. -/
def opBytes (zs : List Int) : List Int := bytesOf (zs.length : Int) 4 ++ padded zs

theorem opBytes_length (zs : List Int) : (opBytes zs).length = 4 + (zs.length + padN zs.length) := by rw [opBytes, List.length_append, bytesOf_length, padded_length]

theorem own_mem {w : World} {base e g n cap : Nat} {zs : List Int} (h : w.ownsRow base e 1 (.slice (some ⟨g, 0, none⟩) n cap) n (zs.map (Value.int .u8))) (hz : zs.length = n) : (Part.mk (some ⟨g, 0, none⟩) n cap zs).In w :=
  ⟨hz, seg_own h hz, by simp⟩

theorem Part.In.below {p : Part} {w w' : World} (h : p.In w) (hb : Below w.heap.size w w') : p.In w' := ⟨h.len, h.seg.below hb, h.nil⟩

set_option maxRecDepth 100000 in
set_option maxHeartbeats 400000 in
theorem putopq_any (a : Option Addr) (len cap : Nat) (zs : List Int) (w : World) (hlc : len ≤ cap) (hm : len ≤ 1048576) (hz : zs.length = len) (hs : Seg w a zs) (hnil : a = none → len = 0 ∧ cap = 0) :
    Calls Tryd.prog 17 #[.slice a len cap] w fun e w' => ∃ v, e = .returned v ∧ w'.ownsRow w.heap.size 5 1 v (4 + (len + padN len)) ((opBytes zs).map (Value.int .u8)) ∧ Below w.heap.size w w' := by
  have hp := padN_lt len
  go_enter Tryd.func17, Tryd.ntmps17
  go_wp2_with fail
  refine (Put_any (len : Int) (by omega) (by omega) w).mono ?_
  rintro e w1 ⟨rfl, hown1, hB1⟩
  go_wp2_with fail
  refine (putfixed_any a len cap zs w1 hlc hm hz (hs.below hB1) hnil).mono ?_
  rintro e w2 ⟨rfl, hown2, hB2⟩
  have hown1' := own_below hown1 hB2
  have hB3 := hB1.trans (hB2.mono hB1.size)
  have hc3 := own_mem hown1' (bytesOf_length _ 4)
  have hd3 := own_mem hown2 (by rw [padded_length, hz])
  generalize w1.heap.size = g1 at *
  generalize hg0 : w.heap.size = g0 at *
  go_wp2_with fail
  have hal : Below w2.heap.size w2 (w2.alloc (.cells #[.slice (some ⟨g0, 0, none⟩) 4 4, .slice (some ⟨g1, 0, none⟩) (len + padN len) (len + padN len)] 26)) := (Below.refl _ _).alloc (Nat.le_refl _) _
  have hB4 : Below g0 w (w2.alloc (.cells #[.slice (some ⟨g0, 0, none⟩) 4 4, .slice (some ⟨g1, 0, none⟩) (len + padN len) (len + padN len)] 26)) := hB3.alloc (by rw [← hg0]; exact hB3.size) _
  have hk0 : (w2.alloc (.cells #[.slice (some ⟨g0, 0, none⟩) 4 4, .slice (some ⟨g1, 0, none⟩) (len + padN len) (len + padN len)] 26)).cell? ⟨w2.heap.size, 0, none⟩ = some (.slice (some ⟨g0, 0, none⟩) 4 4) := by simp
  have hk1 : (w2.alloc (.cells #[.slice (some ⟨g0, 0, none⟩) 4 4, .slice (some ⟨g1, 0, none⟩) (len + padN len) (len + padN len)] 26)).cell? ⟨w2.heap.size, 1, none⟩ = some (.slice (some ⟨g1, 0, none⟩) (len + padN len) (len + padN len)) := by simp
  have hc4 := hc3.below hal
  have hd4 := hd3.below hal
  generalize (w2.alloc (.cells #[.slice (some ⟨g0, 0, none⟩) 4 4, .slice (some ⟨g1, 0, none⟩) (len + padN len) (len + padN len)] 26)) = w4 at *
  have hall : allOf [Part.mk (some ⟨g0, 0, none⟩) 4 4 (bytesOf (len : Int) 4), Part.mk (some ⟨g1, 0, none⟩) (len + padN len) (len + padN len) (padded zs)] = opBytes zs := by
    simp [allOf, opBytes, hz]
  have hln : (opBytes zs).length = 4 + (len + padN len) := by rw [opBytes_length, hz]
  refine (concat_any [Part.mk (some ⟨g0, 0, none⟩) 4 4 (bytesOf (len : Int) 4), Part.mk (some ⟨g1, 0, none⟩) (len + padN len) (len + padN len) (padded zs)] w2.heap.size 2 w4 rfl (by omega) ?_ ?_ (by rw [hall, hln]; omega)).mono ?_
  · intro i hi
    match i, hi with
    | 0, _ => exact hk0
    | 1, _ => exact hk1
  · intro p hp
    simp only [List.mem_cons, List.not_mem_nil, or_false] at hp
    rcases hp with rfl | rfl
    · exact hc4
    · exact hd4
  rintro e w5 ⟨v, rfl, hown5, hB5⟩
  rw [hall, hln] at hown5
  have hsz : g0 ≤ w4.heap.size := by rw [← hg0]; exact hB4.size
  clear hall hln hk0 hk1 hc4 hd4 hc3 hd3 hown1 hown1' hown2
  go_wp2
  go_ret
  exact ⟨v, rfl, own_base hown5 (by rw [hg0]; exact hsz), by rw [hg0]; exact hB4.trans (hB5.mono hsz)⟩
end Go.Proofs.YtciinabhelfnoaaDoor
