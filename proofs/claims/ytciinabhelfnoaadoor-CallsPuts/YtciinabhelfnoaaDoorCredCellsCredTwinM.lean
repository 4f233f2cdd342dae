/- Three cells of one who calls; nothing is claimed of the program here. -/
import Derived.Test.YtciinabhelfnoaaDoorBookBase
import Derived.Test.YtciinabhelfnoaaDoorRows
import Derived.Outline
import Derived.WalkSmall
import Derived.Test.YtciinabhelfnoaaDoorTwin4Left4M
import Derived.Deep.RegionWith
namespace Go.Proofs.YtciinabhelfnoaaDoor
set_option linter.unusedVariables false
open Go.RowKit

theorem cred_cells (w : World) (x y z x' y' z' : Value) (t : TypeId) : ∀ W, W = (w.alloc (.cells #[x, y, z] t)).alloc (.cells #[x', y', z'] t) →
    (W.cell? ⟨w.heap.size, 0, none⟩ = some x ∧ W.cell? ⟨w.heap.size, 1, none⟩ = some y ∧ W.cell? ⟨w.heap.size, 2, none⟩ = some z) ∧ W.heap[w.heap.size + 1]? = some (.cells #[x', y', z'] t) ∧ w.heap.size + 1 < W.heap.size ∧ Below w.heap.size w W := by
  rintro W rfl
  refine ⟨⟨by simp, by simp, by simp⟩, ?_, by simp, ((Below.refl _ _).alloc (Nat.le_refl _) _).alloc (by simp) _⟩
  have := heap_alloc_new (w.alloc (.cells #[x, y, z] t)) (.cells #[x', y', z'] t)
  simpa using this

theorem cred_at {W : World} {h : Nat} {x y z : Value} {t : TypeId} (hh : W.heap[h]? = some (.cells #[x, y, z] t)) :
    W.cell? ⟨h, 0, none⟩ = some x ∧ W.cell? ⟨h, 1, none⟩ = some y ∧ W.cell? ⟨h, 2, none⟩ = some z ∧ W.frozen? ⟨h, 0, none⟩ = false ∧ W.frozen? ⟨h, 1, none⟩ = false ∧ W.frozen? ⟨h, 2, none⟩ = false := by
  refine ⟨?_, ?_, ?_, ?_, ?_, ?_⟩ <;> simp [World.cell?, World.frozen?, hh]

theorem cred_set {W : World} {h : Nat} {x y z : Value} {t : TypeId} (hh : W.heap[h]? = some (.cells #[x, y, z] t)) (x' y' z' : Value) :
    (((W.setCell ⟨h, 0, none⟩ x').setCell ⟨h, 1, none⟩ y').setCell ⟨h, 2, none⟩ z').heap[h]? = some (.cells #[x', y', z'] t) := by
  rw [setCell_same (setCell_same (setCell_same hh x') y') z']
  rfl

theorem below_drew (W : World) : Below W.heap.size W W.drew := ⟨rfl, rfl, rfl, Nat.le_refl _, fun _ _ => rfl⟩

theorem kept_one {W : World} {h k : Nat} (x : Value) : Kept (fun b => b = h) W (W.setCell ⟨h, k, none⟩ x) := (Kept.refl (fun b => b = h) W).setCell (p := ⟨h, k, none⟩) (.inl rfl) _
theorem kept_cred {W : World} {h : Nat} (x' y' z' : Value) : Kept (fun b => b = h) W (((W.setCell ⟨h, 0, none⟩ x').setCell ⟨h, 1, none⟩ y').setCell ⟨h, 2, none⟩ z') :=
  (kept_one x').trans ((kept_one y').trans (kept_one z'))
end Go.Proofs.YtciinabhelfnoaaDoor

/- 'TwinCred', 'LeftCred'; nothing that was there turns. -/
namespace Go.Proofs.YtciinabhelfnoaaDoor
set_option linter.unusedVariables false
open Go.RowKit

set_option maxHeartbeats 1000000 in
theorem leftcred_true (u g : Int) (gb : Nat) (a : Option Addr) (len ca : Nat) (gs : List Int) (w : World) (hl : len ≤ 1048576) (hz : gs.length = len) (ha : Seg4 w a gs) (ht : IsTwin4 w gb gs) :
    Calls Tryd.prog 21 #[.agg #[.int .u32 u, .int .u32 g, .slice (some ⟨gb, 0, none⟩) len (len + 1)], .agg #[.int .u32 u, .int .u32 g, .slice a len ca]] w fun e w' => e = .returned (.bool true) ∧ Below w.heap.size w w' := by
  have hB : Below w.heap.size w ((w.alloc (.cells #[.int .u32 u, .int .u32 g, .slice (some ⟨gb, 0, none⟩) len (len + 1)] 25)).alloc (.cells #[.int .u32 u, .int .u32 g, .slice a len ca] 25)) := ((Below.refl _ _).alloc (Nat.le_refl _) _).alloc (by simp) _
  have ha' := ha.below hB
  have ht' := ht.below hB
  have q1 : (u == u) = true := by simp
  have q2 : (g == g) = true := by simp
  go_enter Tryd.func21, Tryd.ntmps21
  go_wp2_with fail
  refine (left4 gb len a ca gs _ hl hz ha' ht').mono ?_
  rintro e w' ⟨rfl, n, rfl⟩
  have hB' := below_drewN hB n
  go_wp2
  go_ret
  exact ⟨rfl, hB'⟩

set_option maxRecDepth 100000 in
set_option maxHeartbeats 1000000 in
theorem twincred_any (u g : Int) (a : Option Addr) (len cap : Nat) (gs : List Int) (w : World) (hl : len ≤ 1048576) (hz : gs.length = len) (hs : Seg4 w a gs) :
    Calls Tryd.prog 13 #[.agg #[.int .u32 u, .int .u32 g, .slice a len cap]] w fun e w' => ∃ gb, e = .returned (.agg #[.int .u32 u, .int .u32 g, .slice (some ⟨gb, 0, none⟩) len (len + 1)]) ∧ Below w.heap.size w w' ∧
      w'.ownsRow w.heap.size 22 1 (.slice (some ⟨gb, 0, none⟩) (len + 1) (len + 1)) (len + 1) ((gs ++ [77]).map (Value.int .u32)) := by
  go_enter Tryd.func13, Tryd.ntmps13
  go_wp2_with fail
  obtain ⟨⟨k0, k1, k2⟩, kz, hsz, hB⟩ := cred_cells w (.int .u32 u) (.int .u32 g) (.slice a len cap) (.int .u32 0) (.int .u32 0) (.slice none 0 0) 25 _ rfl
  have hs2 := hs.below hB
  generalize (w.alloc (.cells #[.int .u32 u, .int .u32 g, .slice a len cap] 25)).alloc (.cells #[.int .u32 0, .int .u32 0, .slice none 0 0] 25) = W at *
  obtain ⟨h, hh⟩ : ∃ h, h = w.heap.size := ⟨_, rfl⟩
  rw [← hh] at k0 k1 k2 kz hsz hB ⊢
  have HH : Hid (h = w.heap.size) := hh
  clear hh
  go_region_with (go_at_call 46; refine (twin4_any a len cap gs _ hl hz (by exact hs2)).mono ?_; rintro e w' ⟨rfl, hb, hown⟩; have q0 := (hb.cell (p := ⟨h, 0, none⟩) (by show h < W.heap.size; omega)).trans k0; have q1 := (hb.cell (p := ⟨h, 1, none⟩) (by show h < W.heap.size; omega)).trans k1; have q2 := (hb.cell (p := ⟨h, 2, none⟩) (by show h < W.heap.size; omega)).trans k2; have qz := (hb.block (h + 1) hsz).trans kz; obtain ⟨z0, z1, z2, y0, y1, y2⟩ := cred_at qz)
  all_goals
    have hf := cred_set qz (.int .u32 u) (.int .u32 g) (.slice (some ⟨W.heap.size, 0, none⟩) len (len + 1))
    have hk := kept_cred (W := w') (h := h + 1) (.int .u32 u) (.int .u32 g) (.slice (some ⟨W.heap.size, 0, none⟩) len (len + 1))
    clear q0 q1 q2 z0 z1 z2 y0 y1 y2 k0 k1 k2
    have hfin : Below h w (((w'.setCell ⟨h + 1, 0, none⟩ (.int .u32 u)).setCell ⟨h + 1, 1, none⟩ (.int .u32 g)).setCell ⟨h + 1, 2, none⟩ (.slice (some ⟨W.heap.size, 0, none⟩) len (len + 1))) := by
      have hb' : Below W.heap.size W w' := (below_drew W).trans hb
      have := hb'.size
      exact (hB.trans (hb'.mono (by omega))).trans (hk.below (fun k e => by omega) (by omega))
    have hfo : (((w'.setCell ⟨h + 1, 0, none⟩ (.int .u32 u)).setCell ⟨h + 1, 1, none⟩ (.int .u32 g)).setCell ⟨h + 1, 2, none⟩ (.slice (some ⟨W.heap.size, 0, none⟩) len (len + 1))).ownsRow h 22 1 (.slice (some ⟨W.heap.size, 0, none⟩) (len + 1) (len + 1)) (len + 1) ((gs ++ [77]).map (Value.int .u32)) :=
      own_base (own_kept hown hk (fun g hg e => by simp [Value.ownBlock] at hg; omega)) (by show h ≤ W.heap.size; omega)
    clear hk hown hb qz
    generalize ((w'.setCell ⟨h + 1, 0, none⟩ (.int .u32 u)).setCell ⟨h + 1, 1, none⟩ (.int .u32 g)).setCell ⟨h + 1, 2, none⟩ (.slice (some ⟨W.heap.size, 0, none⟩) len (len + 1)) = Wf at *
    obtain ⟨z0, z1, z2, _, _, _⟩ := cred_at hf
    go_wp2
    refine bodyPost_ret (v := .agg #[.int .u32 u, .int .u32 g, .slice (some ⟨W.heap.size, 0, none⟩) len (len + 1)]) (by simp [results, Tryd.results13, go_sem, z0, z1, z2]) rfl ⟨_, rfl, ?_, ?_⟩
    · rw [← HH.out]; exact hfin
    · rw [← HH.out]; exact hfo
end Go.Proofs.YtciinabhelfnoaaDoor
