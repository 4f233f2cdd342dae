/- The walk of 'HandlesBack': true for any handle that may be, any cut; nothing that was there turns. -/
import Derived.Test.YtcpciodcecpibaaHAlive
namespace Go.Proofs.Ytcpciodcecpibaa
set_option linter.unusedVariables false
open Go.RowKit

/-- What stays: a handle, its bytes. -/
structure Ah (w W : World) (h G : Nat) (n g : Int) : Prop where
  h : W.heap[h]? = some (.cells #[.int .i64 n, .int .u32 g] 27)
  own : W.ownsRow w.heap.size 5 1 (.slice (some ⟨G, 0, none⟩) 16 16) 16 ((hB n g).map (Value.int .u8))
  below : Below w.heap.size w W
theorem Ah.next {w W W' : World} {h G : Nat} {n g : Int} (a : Ah w W h G n g) (hb : Below W.heap.size W W') : Ah w W' h G n g :=
  ⟨(hb.block _ (Array.getElem?_eq_some_iff.1 a.h).1).trans a.h, own_below a.own hb, a.below.trans (hb.mono a.below.size)⟩
theorem Ah.seg {w W : World} {h G : Nat} {n g : Int} (a : Ah w W h G n g) : Seg W (some ⟨G, 0, none⟩) (hB n g) := seg_own a.own (hB_length n g)
theorem Ah.new {w W : World} {G : Nat} {n g : Int} (ho : W.ownsRow w.heap.size 5 1 (.slice (some ⟨G, 0, none⟩) 16 16) 16 ((hB n g).map (Value.int .u8))) (hb : Below w.heap.size w W) : Ah w (W.alloc (.cells #[.int .i64 n, .int .u32 g] 27)) W.heap.size G n g :=
  have hb2 : Below W.heap.size W (W.alloc (.cells #[.int .i64 n, .int .u32 g] 27)) := (Below.refl _ _).alloc (Nat.le_refl _) _
  ⟨World.alloc_heap_new W _, own_below ho hb2, hb.trans (hb2.mono hb.size)⟩
theorem Ah.alloc {w W : World} {h G : Nat} {n g : Int} (a : Ah w W h G n g) (o : Obj) : Ah w (W.alloc o) h G n g := a.next ((Below.refl _ _).alloc (Nat.le_refl _) o)

/-- Blocks of unlike types are two. -/
theorem own_ne {W : World} {base e G n c h : Nat} {xs : List Value} {cs : Array Value} {t : TypeId} {fz : Nat × Nat} (ho : W.ownsRow base e 1 (.slice (some ⟨G, 0, none⟩) n c) n xs) (hh : W.heap[h]? = some (.cells cs t fz)) (ht : e ≠ t) : G ≠ h := by
  rintro rfl
  rcases ho.2 with ⟨h2, _⟩ | ⟨g, cap, cur, hv, hg, hk, r⟩
  · cases h2
  · cases hv
    rw [hk] at hh
    cases hh
    exact ht rfl

set_option maxRecDepth 100000 in
set_option maxHeartbeats 2000000 in
theorem hback_walk (n g c : Int) (w : World) (h0 : 0 ≤ n) (h1 : n ≤ 65535) (h2 : 0 ≤ g) (h3 : g ≤ 4294967295) (h4 : 0 ≤ c) (h5 : c ≤ 255) :
    Calls Try.prog 4 #[.int .u16 n, .int .u32 g, .int .u8 c] w fun e w' => e = .returned (.bool true) ∧ Below w.heap.size w w' := by
  obtain ⟨i0, hi, hz0, hz1, hz2⟩ := info_parts infoB
  have hof := of_any n g w h0 h1 h2 h3
  have hm : 1 ≤ 1 + n % 1024 ∧ 1 + n % 1024 ≤ 1024 := by omega
  generalize 1 + n % 1024 = m at *
  obtain ⟨k, hk, hk16⟩ : ∃ k : Nat, c % 16 = (k : Int) ∧ k < 16 := ⟨(c % 16).toNat, by omega, by omega⟩
  obtain ⟨p1, p2, p3⟩ := hg_put hm.1 hm.2 h2 h3
  obtain ⟨q1, q2, q3⟩ := hg_bad (hg_len (zs := (hB m g).take k) (by rw [List.length_take, hB_length]; omega))
  have hcb : Byt [c] := byt_of_all (by simp; omega)
  obtain ⟨r1, r2, r3⟩ := hg_bad (hg_len (zs := hB m g ++ [c]) (by rw [List.length_append, hB_length]; simp))
  have gk := fun G w hs => hget_any (some ⟨G, 0, none⟩) k 16 ((hB m g).take k) w (by omega) (by omega) (by rw [List.length_take, hB_length]; omega) ((byt_hB m g).take k) hs (by simp)
  have gb := fun G w hs => hget_any (some ⟨G, 0, none⟩) 16 16 (hB m g) w (by omega) (by omega) (hB_length m g) (byt_hB m g) hs (by simp)
  have gl := fun a cap w hlc hm' hs hn => hget_any a 17 cap (hB m g ++ [c]) w hlc hm' (by rw [List.length_append, hB_length]; rfl) ((byt_hB m g).append hcb) hs hn
  rw [p1, p2, p3] at gb
  rw [q1, q2, q3] at gk
  rw [r1, r2, r3] at gl
  have heq : ∀ w, (binOp .eql 27 (.agg #[.int .i64 m, .int .u32 g]) (.agg #[.int .i64 m, .int .u32 g])).run Try.prog w = .ok (.bool true) w := fun w => by rw [hand_eql]; simp
  clear p1 p2 p3 q1 q2 q3 r1 r2 r3 hcb
  go_enter Try.func4, Try.ntmps4
  go_wp2_with fail
  refine hof.mono ?_
  rintro e W1 ⟨G, rfl, hown, hB1⟩
  have A2 := Ah.new hown hB1
  clear hof hown hB1
  go_wp2_with fail
  generalize W1.alloc (.cells #[.int .i64 m, .int .u32 g] 27) = W2 at *
  generalize W1.heap.size = h at *
  refine (gk G _ (A2.seg.take k)).mono ?_
  rintro e W3 ⟨rfl, hb3⟩
  have A3 := (A2.next hb3).alloc (.cells #[.int .i64 0, .int .u32 0] 27)
  clear gk hb3 A2 hk
  go_wp2_with fail
  generalize W3.alloc (.cells #[.int .i64 0, .int .u32 0] 27) = W4 at *
  refine (gb G _ A3.seg).mono ?_
  rintro e W5 ⟨rfl, hb5⟩
  have A5 := (A3.next hb5).alloc (.cells #[.int .i64 m, .int .u32 g] 27)
  have hh5 := World.alloc_heap_new W5 (.cells #[.int .i64 m, .int .u32 g] 27)
  clear gb hb5 A3
  have hs5 : (W5.alloc (.cells #[.int .i64 m, .int .u32 g] 27)).heap.size = W5.heap.size + 1 := by simp
  have A7 := A5.alloc (.cells #[.int .u8 c] 5)
  have sc := seg_lit (W5.alloc (.cells #[.int .i64 m, .int .u32 g] 27)) 5 [c]
  have hb7 : Below (W5.alloc (.cells #[.int .i64 m, .int .u32 g] 27)).heap.size (W5.alloc (.cells #[.int .i64 m, .int .u32 g] 27)) ((W5.alloc (.cells #[.int .i64 m, .int .u32 g] 27)).alloc (.cells #[.int .u8 c] 5)) := (Below.refl _ _).alloc (Nat.le_refl _) _
  have hh7 := (hb7.block _ (Array.getElem?_eq_some_iff.1 hh5).1).trans hh5
  have hlow := own_low (k := G) A7.own rfl
  simp only [List.map_cons, List.map_nil] at sc
  rw [hs5] at sc
  have hG1 := own_ne A7.own hh7 (by decide)
  have hG2 := own_ne A7.own A7.h (by decide)
  clear A5 hh5 hb7 hs5
  go_wp2_with (at_builtin; refine wpList_append_own _ rfl _ _ 22 rfl w.heap.size 5 i0 (.int .u8 0) 1 1 Try.underlying22 hi hz0 hz1 hz2 rfl (by decide) (.slice (some ⟨G, 0, none⟩) 16 16) 16 _ rfl A7.own ⟨W5.heap.size + 1, 0, none⟩ 1 1 [.int .u8 c] rfl rfl (seg_news (zs := [c]) sc) (by simp [Value.oneCell']) (by unfold maxLen; omega) (by omega) A7.below.size ?_; intro v8 W8 hown8 hgrow8 hold8)
  have hh8 := (hgrow8.block _ (Array.getElem?_eq_some_iff.1 hh7).1 (fun e => hG1 (by cases e; rfl))).trans hh7
  have hk8 := (hgrow8.block _ (Array.getElem?_eq_some_iff.1 A7.h).1 (fun e => hG2 (by cases e; rfl))).trans A7.h
  have hB8 : Below w.heap.size w W8 := A7.below.grown hgrow8 A7.below.size (fun k e => by cases e; exact hlow)
  obtain ⟨g8, c8, rfl, hc8, hd8, he8⟩ := own_shape hown8 (by omega)
  have hown9 : W8.ownsRow w.heap.size 5 1 (.slice (some ⟨g8, 0, none⟩) 17 c8) 17 ((hB m g ++ [c]).map (Value.int .u8)) := by
    rw [List.map_append]
    exact hown8
  have hs8 := seg_own hown9 (by rw [List.length_append, hB_length]; rfl)
  clear A7 hh7 sc hown8 hown9 hgrow8 hold8 hG1 hG2 hlow
  refine (gl _ c8 W8 hc8 hd8 hs8 (by simp)).mono ?_
  rintro e W9 ⟨rfl, hb9⟩
  have hb10 : Below W8.heap.size W8 (W9.alloc (.cells #[.int .i64 0, .int .u32 0] 27)) := hb9.alloc hb9.size _
  have hh10 := (hb10.block _ (Array.getElem?_eq_some_iff.1 hh8).1).trans hh8
  have hk10 := (hb10.block _ (Array.getElem?_eq_some_iff.1 hk8).1).trans hk8
  have hB10 := hB8.trans (hb10.mono hB8.size)
  clear gl hs8 hb9 hb10 hh8 hk8 hB8
  go_wp2_with fail
  generalize W9.alloc (.cells #[.int .i64 0, .int .u32 0] 27) = W10 at *
  refine (alive_any W10).mono ?_
  rintro e W11 ⟨rfl, hb11⟩
  have hh11 := (hb11.block _ (Array.getElem?_eq_some_iff.1 hh10).1).trans hh10
  have hk11 := (hb11.block _ (Array.getElem?_eq_some_iff.1 hk10).1).trans hk10
  have hB11 := hB10.trans (hb11.mono hB10.size)
  have c0 : W11.cell? ⟨h, 0, none⟩ = some (.int .i64 m) := by simp [World.cell?, hk11]
  have c1 : W11.cell? ⟨h, 1, none⟩ = some (.int .u32 g) := by simp [World.cell?, hk11]
  have d0 : W11.cell? ⟨W5.heap.size, 0, none⟩ = some (.int .i64 m) := by simp [World.cell?, hh11]
  have d1 : W11.cell? ⟨W5.heap.size, 1, none⟩ = some (.int .u32 g) := by simp [World.cell?, hh11]
  clear hh10 hk10 hB10 hb11 hh11 hk11
  go_wp2
  go_ret
  exact ⟨rfl, hB11⟩
end Go.Proofs.Ytcpciodcecpibaa
