/- The document's bytes of a handle; nothing that was there turns. -/
import Derived.Test.YtcpciodcecpibaaDoorRefSum
import Derived.Test.YtcpciodcecpibaaDoorRefPut4
import Derived.Test.YtcpciodcecpibaaDoorLits
import Derived.Test.YtcpciodcecpibaaDoorPieces
import Derived.Test.YtcpciodcecpibaaDoorHTold
namespace Go.Proofs.YtcpciodcecpibaaDoor
set_option linter.unusedVariables false
open Go.RowKit

theorem infoB8 : (Tryd.prog.info? 5).map (fun i => (i.zero, i.size, i.bytes)) = some (some (.int .u8 0), 1, 1) := by kernel_rfl

set_option maxRecDepth 100000 in
set_option maxHeartbeats 2000000 in
theorem refbytes_any (n g : Int) (w : World) (h0 : 0 ≤ n) (h1 : n ≤ 4294967295) (h2 : 0 ≤ g) (h3 : g ≤ 4294967295) :
    Calls Tryd.prog 12 #[.int .u32 n, .int .u32 g] w fun e w' => ∃ G c, e = .returned (.slice (some ⟨G, 0, none⟩) 16 c) ∧ 16 ≤ c ∧
      w'.ownsRow w.heap.size 5 1 (.slice (some ⟨G, 0, none⟩) 16 c) 16 ((hB n g).map (Value.int .u8)) ∧ Below w.heap.size w w' := by
  obtain ⟨i0, hi, hz0, hz1, hz2⟩ := info_parts infoB8
  have kc := Lib.run_convert_bytes_const (P := Tryd.prog) w 25 5 #[.int .u8 119, .int .u8 104, .int .u8 114, .int .u8 102] 4 4 Tryd.underlying25 Tryd.underlying5
  have sl := seg_litm w 5 (4, 5) [119, 104, 114, 102]
  have hB1 : Below w.heap.size w (w.alloc (.cells (([119, 104, 114, 102] : List Int).map (Value.int .u8)).toArray 5 (4, 5))) := (Below.refl _ _).alloc (Nat.le_refl _) _
  simp only [List.map_cons, List.map_nil] at sl hB1
  have hsu := sumZ_lt (byt_hd n g)
  go_enter Tryd.func12, Tryd.ntmps12
  go_wp2_with fail
  generalize (w.alloc (.cells #[.int .u8 119, .int .u8 104, .int .u8 114, .int .u8 102] 5 (4, 5))) = W1 at *
  refine (refPut_seg n h0 h1 W1).mono ?_
  rintro e W2 ⟨g2, rfl, sp2, hb2⟩
  have sl2 := sl.below hb2
  have hB2 := hB1.trans (hb2.mono hB1.size)
  clear sl hb2 hB1 kc
  go_wp2_with (at_builtin; refine wpList_append_grows _ rfl _ _ 25 rfl 5 i0 (.int .u8 0) 1 1 Tryd.underlying25 hi hz0 hz1 hz2 rfl (by decide) (some ⟨w.heap.size, 0, none⟩) 4 4 (vz [119, 104, 114, 102]) rfl (by simp) rfl (fun b e => by cases e; exact seg_news sl2) ⟨g2, 0, none⟩ 4 4 (vz (bytesOf n 4)) rfl (by rw [vz4]) (seg_news sp2) (vz_one _) (by omega) (by unfold maxLen; omega) (by omega) ?_; intro v3 W3 hown3 hgrow3)
  have hB3 : Below w.heap.size w W3 := hB2.grown hgrow3 hB2.size (by simp)
  obtain ⟨g3, c3, rfl, hc3, hd3, he3⟩ := own_shape hown3 (by omega)
  replace hown3 := own_base hown3 hB2.size
  rw [show vz [119, 104, 114, 102] ++ vz (bytesOf n 4) = vz ([119, 104, 114, 102] ++ bytesOf n 4) from (List.map_append).symm] at hown3
  clear sl2 sp2 hgrow3 hB2
  refine (refPut_seg g h2 h3 W3).mono ?_
  rintro e W4 ⟨g4, rfl, sp4, hb4⟩
  have hown4 := own_below hown3 hb4
  have hB4 := hB3.trans (hb4.mono hB3.size)
  have hq4 := own_low (k := g3) hown4 rfl
  clear hown3 hb4 hB3
  go_wp2_with (at_builtin; refine wpList_append_own _ rfl _ _ 25 rfl w.heap.size 5 i0 (.int .u8 0) 1 1 Tryd.underlying25 hi hz0 hz1 hz2 rfl (by decide) (.slice (some ⟨g3, 0, none⟩) 8 c3) 8 _ rfl hown4 ⟨g4, 0, none⟩ 4 4 (vz (bytesOf g 4)) rfl (by rw [vz4]) (seg_news sp4) (vz_one _) (by unfold maxLen; omega) (by omega) hB4.size ?_; intro v5 W5 hown5 hgrow5 _)
  have hB5 : Below w.heap.size w W5 := hB4.grown hgrow5 hB4.size (fun k e => by cases e; exact hq4)
  obtain ⟨g5, c5, rfl, hc5, hd5, he5⟩ := own_shape hown5 (by omega)
  rw [show vz ([119, 104, 114, 102] ++ bytesOf n 4) ++ vz (bytesOf g 4) = vz (hd n g) from by rw [hd, ← List.append_assoc]; exact (List.map_append).symm] at hown5
  have hs5 := seg_own hown5 (hd_length n g)
  clear sp4 hgrow5 hown4 hB4 hq4
  refine (refsum_any _ 12 c5 (hd n g) W5 (by omega) (hd_length n g) (byt_hd n g) hs5).mono ?_
  rintro e w' ⟨rfl, rfl⟩
  go_wp2_with fail
  refine (refPut_seg (sumZ (hd n g)) hsu.1 hsu.2 _).mono ?_
  rintro e W6 ⟨g6, rfl, sp6, hb6⟩
  have hown6 := own_below hown5 hb6
  have hB6 := hB5.trans (hb6.mono hB5.size)
  have hq6 := own_low (k := g5) hown6 rfl
  clear hown5 hb6 hB5 hs5
  go_wp2_with (at_builtin; refine wpList_append_own _ rfl _ _ 25 rfl w.heap.size 5 i0 (.int .u8 0) 1 1 Tryd.underlying25 hi hz0 hz1 hz2 rfl (by decide) (.slice (some ⟨g5, 0, none⟩) 12 c5) 12 _ rfl hown6 ⟨g6, 0, none⟩ 4 4 (vz (bytesOf (sumZ (hd n g)) 4)) rfl (by rw [vz4]) (seg_news sp6) (vz_one _) (by unfold maxLen; omega) (by omega) hB6.size ?_; intro v7 W7 hown7 hgrow7 _)
  have hB7 : Below w.heap.size w W7 := hB6.grown hgrow7 hB6.size (fun k e => by cases e; exact hq6)
  obtain ⟨g7, c7, rfl, hc7, hd7, he7⟩ := own_shape hown7 (by omega)
  rw [show vz (hd n g) ++ vz (bytesOf (sumZ (hd n g)) 4) = vz (hB n g) from (List.map_append).symm] at hown7
  clear hown6 hgrow7 sp6 hB6
  go_ret
  exact ⟨g7, c7, rfl, hc7, hown7, hB7⟩
end Go.Proofs.YtcpciodcecpibaaDoor
