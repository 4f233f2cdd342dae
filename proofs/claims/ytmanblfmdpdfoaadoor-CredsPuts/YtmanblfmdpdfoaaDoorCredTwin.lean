/- 'TwinCred', 'LeftCred'; nothing that was there turns. -/
import Derived.Test.YtmanblfmdpdfoaaDoorRows
import Derived.Outline
import Derived.WalkSmall
import Derived.Test.YtmanblfmdpdfoaaDoorSame4SameCr
import Derived.Test.YtmanblfmdpdfoaaDoorTwin4
import Derived.Test.YtmanblfmdpdfoaaDoorLeft4
import Derived.Test.YtmanblfmdpdfoaaDoorCredCells
import Derived.Deep.RegionWith
namespace Go.Proofs.YtmanblfmdpdfoaaDoor
set_option linter.unusedVariables false
open Go.RowKit

set_option maxHeartbeats 1000000 in
theorem leftcred_true (u g : Int) (gb : Nat) (a : Option Addr) (len ca : Nat) (gs : List Int) (w : World) (hl : len ≤ 1048576) (hz : gs.length = len) (ha : Seg4 w a gs) (ht : IsTwin4 w gb gs) :
    Calls Tryd.prog 10 #[.agg #[.int .u32 u, .int .u32 g, .slice (some ⟨gb, 0, none⟩) len (len + 1)], .agg #[.int .u32 u, .int .u32 g, .slice a len ca]] w fun e w' => e = .returned (.bool true) ∧ Below w.heap.size w w' := by
  have hB : Below w.heap.size w ((w.alloc (.cells #[.int .u32 u, .int .u32 g, .slice (some ⟨gb, 0, none⟩) len (len + 1)] 25)).alloc (.cells #[.int .u32 u, .int .u32 g, .slice a len ca] 25)) := ((Below.refl _ _).alloc (Nat.le_refl _) _).alloc (by simp) _
  have ha' := ha.below hB
  have ht' := ht.below hB
  have q1 : (u == u) = true := by simp
  have q2 : (g == g) = true := by simp
  go_enter Tryd.func10, Tryd.ntmps10
  go_wp2_with fail
  refine (left4 gb len a ca gs _ hl hz ha' ht').mono ?_
  rintro e w' ⟨rfl, n, rfl⟩
  have hB' := below_drewN hB n
  go_wp2
  go_ret
  exact ⟨rfl, hB'⟩

set_option maxRecDepth 100000 in
set_option maxHeartbeats 1000000 in
theorem twincred_any (u g : Int) (a : Option Addr) (len cap : Nat) (gs : List Int) (w : World) (hl : len ≤ 1048576) (hz : gs.length = len) (hs : Seg4 w a gs) :
    Calls Tryd.prog 6 #[.agg #[.int .u32 u, .int .u32 g, .slice a len cap]] w fun e w' => ∃ gb, e = .returned (.agg #[.int .u32 u, .int .u32 g, .slice (some ⟨gb, 0, none⟩) len (len + 1)]) ∧ Below w.heap.size w w' ∧
      w'.ownsRow w.heap.size 22 1 (.slice (some ⟨gb, 0, none⟩) (len + 1) (len + 1)) (len + 1) ((gs ++ [77]).map (Value.int .u32)) := by
  go_enter Tryd.func6, Tryd.ntmps6
  go_wp2_with fail
  obtain ⟨⟨k0, k1, k2⟩, kz, hsz, hB⟩ := cred_cells w (.int .u32 u) (.int .u32 g) (.slice a len cap) (.int .u32 0) (.int .u32 0) (.slice none 0 0) 25 _ rfl
  have hs2 := hs.below hB
  generalize (w.alloc (.cells #[.int .u32 u, .int .u32 g, .slice a len cap] 25)).alloc (.cells #[.int .u32 0, .int .u32 0, .slice none 0 0] 25) = W at *
  obtain ⟨h, hh⟩ : ∃ h, h = w.heap.size := ⟨_, rfl⟩
  rw [← hh] at k0 k1 k2 kz hsz hB ⊢
  have HH : Hid (h = w.heap.size) := hh
  clear hh
  go_region_with (go_at_call 19; refine (twin4_any a len cap gs _ hl hz (by exact hs2)).mono ?_; rintro e w' ⟨rfl, hb, hown⟩; have q0 := (hb.cell (p := ⟨h, 0, none⟩) (by show h < W.heap.size; omega)).trans k0; have q1 := (hb.cell (p := ⟨h, 1, none⟩) (by show h < W.heap.size; omega)).trans k1; have q2 := (hb.cell (p := ⟨h, 2, none⟩) (by show h < W.heap.size; omega)).trans k2; have qz := (hb.block (h + 1) hsz).trans kz; obtain ⟨z0, z1, z2, y0, y1, y2⟩ := cred_at qz)
  all_goals
    have hf := cred_set qz (.int .u32 u) (.int .u32 g) (.slice (some ⟨W.heap.size, 0, none⟩) len (len + 1))
    have hk := kept_cred (W := w') (h := h + 1) (.int .u32 u) (.int .u32 g) (.slice (some ⟨W.heap.size, 0, none⟩) len (len + 1))
    clear q0 q1 q2 z0 z1 z2 y0 y1 y2 k0 k1 k2
    have hfin : Below h w (((w'.setCell ⟨h + 1, 0, none⟩ (.int .u32 u)).setCell ⟨h + 1, 1, none⟩ (.int .u32 g)).setCell ⟨h + 1, 2, none⟩ (.slice (some ⟨W.heap.size, 0, none⟩) len (len + 1))) := by
      have hb' : Below W.heap.size W w' := (below_drew W).trans hb
      have := hb'.size
      exact (hB.trans (hb'.mono (by omega))).trans (hk.below (fun k e => by omega) (by omega))
    have hfo : (((w'.setCell ⟨h + 1, 0, none⟩ (.int .u32 u)).setCell ⟨h + 1, 1, none⟩ (.int .u32 g)).setCell ⟨h + 1, 2, none⟩ (.slice (some ⟨W.heap.size, 0, none⟩) len (len + 1))).ownsRow h 22 1 (.slice (some ⟨W.heap.size, 0, none⟩) (len + 1) (len + 1)) (len + 1) ((gs ++ [77]).map (Value.int .u32)) :=
      own_base (own_kept hown hk (fun g hg e => by simp [Value.ownBlock] at hg; omega)) (by show h ≤ W.heap.size; omega)
    clear hk hown hb qz
    generalize ((w'.setCell ⟨h + 1, 0, none⟩ (.int .u32 u)).setCell ⟨h + 1, 1, none⟩ (.int .u32 g)).setCell ⟨h + 1, 2, none⟩ (.slice (some ⟨W.heap.size, 0, none⟩) len (len + 1)) = Wf at *
    obtain ⟨z0, z1, z2, _, _, _⟩ := cred_at hf
    go_wp2
    refine bodyPost_ret (v := .agg #[.int .u32 u, .int .u32 g, .slice (some ⟨W.heap.size, 0, none⟩) len (len + 1)]) (by simp [results, Tryd.results6, go_sem, z0, z1, z2]) rfl ⟨_, rfl, ?_, ?_⟩
    · rw [← HH.out]; exact hfin
    · rw [← HH.out]; exact hfo
end Go.Proofs.YtmanblfmdpdfoaaDoor
