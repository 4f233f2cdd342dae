/- 'numbers', 'Get' of the program: the handle that bytes are, or the error; nothing that was there turns. -/
import Derived.Test.YtcpciodcecpibabHPut
import Derived.Test.YtcpciodcecpibabGetFixed
namespace Go.Proofs.Ytcpciodcecpibab
set_option linter.unusedVariables false
open Go.RowKit

theorem seg_cells {W : World} {k : Nat} {zs : List Int} {t : TypeId} (h : W.heap[k]? = some (.cells (vz zs).toArray t)) : Seg W (some ⟨k, 0, none⟩) zs := by
  refine .inr ⟨_, _, rfl, fun i hi => ?_⟩
  simp only [World.cell?, h]
  simp [vz, List.getElem?_eq_getElem hi]

theorem results_row_tmp {P : Program} {fn : Func} {p u : Tmp} {ty : TypeId} (h : fn.results = #[.cell p ty, .tmp u]) (tmps : Array Value) (w : World) (g : Nat) (t : TypeId) (cs : Array Value) (fr : Nat × Nat) (d : TypeDesc)
    (hp : tmps.getD p undef = .pointer (some ⟨g, 0, none⟩)) (hg : w.heap[g]? = some (.cells cs t fr)) (hu : P.underlying ty = some d) (hd : (match d with | .struct _ | .array _ _ => true | _ => false) = true) (hi : (P.info? ty).map (·.size) = some cs.size) :
    (results fn tmps).run P w = .ok (.tuple #[.agg cs, tmps.getD u undef]) w := by
  rw [results_cell_tmp h, hp]
  simp only [asAddr, Sem.run_pure, Result.andThen_ok, run_loadVar_row w g t ty cs fr d hg hu hd hi]

theorem hand_set {W : World} {k : Nat} {a b : Value} {t : TypeId} (h : W.heap[k]? = some (.cells #[a, b] t)) (x y : Int) : ((W.setCell ⟨k, 0, none⟩ (.int .i64 x)).setCell ⟨k, 1, none⟩ (.int .u32 y)).heap[k]? = some (.cells #[.int .i64 x, .int .u32 y] t) := by
  have h1 := setCell_same (k := 0) h (.int .i64 x)
  have h2 := setCell_same (k := 1) h1 (.int .u32 y)
  exact h2

set_option maxRecDepth 100000 in
set_option maxHeartbeats 1000000 in
theorem numbers_any (zs : List Int) (w : World) (hz : zs.length = 16) (hb : Byt zs) :
    Calls Try.prog 15 #[.agg (vz zs).toArray] w fun e w' => e = .returned (.agg #[.int .i64 (nodeOf zs), .int .u32 (genOf zs)]) ∧ Below w.heap.size w w' := by
  have hN := nodeOf_lt hb
  have hG := genOf_lt hb
  have g4 : getN (zs.drop 4) = nodeOf zs := by simp [getN, nodeOf, hz]
  have e4 : getE (zs.drop 4) = 0 := by simp [getE, hz]
  have g8 : getN (zs.drop 8) = genOf zs := by simp [getN, genOf, hz]
  have e8 : getE (zs.drop 8) = 0 := by simp [getE, hz]
  have hB0 : Below w.heap.size w (w.alloc (.cells (vz zs).toArray 42)) := (Below.refl _ _).alloc (Nat.le_refl _) _
  have hh0 := World.alloc_heap_new w (.cells (vz zs).toArray 42)
  go_enter Try.func15, Try.ntmps15
  have hB1 := hB0.alloc hB0.size (.cells #[.int .i64 0, .int .u32 0] 27)
  have hs1 : (w.alloc (.cells (vz zs).toArray 42)).heap.size = w.heap.size + 1 := by simp
  have hh1 := World.alloc_heap_new (w.alloc (.cells (vz zs).toArray 42)) (.cells #[.int .i64 0, .int .u32 0] 27)
  rw [hs1] at hh1
  have hsz := (Array.getElem?_eq_some_iff.1 hh1).1
  have hseg := (seg_cells hh0).below ((Below.refl _ _).alloc (Nat.le_refl _) (.cells #[.int .i64 0, .int .u32 0] 27))
  have hget4 := get_any (some ⟨w.heap.size, 0 + 4, none⟩) 12 12 (zs.drop 4) _ (by omega) (by omega) (by simp [hz]) (hb.drop' 4) (hseg.drop 4)
  have hget8 := get_any (some ⟨w.heap.size, 0 + 8, none⟩) 8 8 (zs.drop 8) _ (by omega) (by omega) (by simp [hz]) (hb.drop' 8) (hseg.drop 8)
  rw [g4, e4] at hget4
  rw [g8, e8] at hget8
  clear g4 e4 g8 e8 hh0 hB0 hs1 hseg
  generalize nodeOf zs = x at *
  generalize genOf zs = y at *
  go_wp2_with fail
  generalize ((w.alloc (.cells (vz zs).toArray 42)).alloc (.cells #[.int .i64 0, .int .u32 0] 27)) = W1 at *
  have c0 : W1.cell? ⟨w.heap.size + 1, 0, none⟩ = some (.int .i64 0) := by simp [World.cell?, hh1]
  have c1 : W1.cell? ⟨w.heap.size + 1, 1, none⟩ = some (.int .u32 0) := by simp [World.cell?, hh1]
  refine hget4.mono ?_
  rintro e w' ⟨rfl, rfl⟩
  go_wp2_with fail
  refine hget8.mono ?_
  rintro e w'' ⟨rfl, rfl⟩
  clear hget4 hget8
  have f0 : w''.frozen? ⟨w.heap.size + 1, 0, none⟩ = false := by simp [World.frozen?, hh1]
  have f1 : w''.frozen? ⟨w.heap.size + 1, 1, none⟩ = false := by simp [World.frozen?, hh1]
  go_wp2
  refine bodyPost_ret (results_cell_row (p := 2) (ty := 27) rfl _ _ (w.heap.size + 1) 27 _ (0, 0) _ (by rfl) (hand_set hh1 x y) Try.underlying27 rfl (by kernel_rfl)) rfl ⟨rfl, ?_⟩
  exact (hB1.setCell (p := ⟨w.heap.size + 1, 0, none⟩) (by show _ ≤ w.heap.size + 1; omega) _).setCell (p := ⟨w.heap.size + 1, 1, none⟩) (by show _ ≤ w.heap.size + 1; omega) _

theorem fix16 (zs : List Int) : (zs.length < 16 → fixE zs 16 = 4) ∧ (16 ≤ zs.length → fixE zs 16 = 0 ∧ cutL zs 16 = 16 ∧ cutZ zs 16 = zs.take 16) := by
  refine ⟨fun h => ?_, fun h => ?_⟩
  · unfold fixE
    rw [if_pos (by show zs.length < 16 + padN 16; rw [show padN 16 = 0 from rfl]; omega)]
  · have h1 : fixE zs 16 = 0 := by
      rw [fixE_form (by rw [show padN 16 = 0 from rfl]; omega), show padN 16 = 0 from rfl, List.take_zero]
      rfl
    exact ⟨h1, by rw [cutL, if_pos h1]; rfl, by rw [cutZ, if_pos h1]⟩

set_option maxRecDepth 100000 in
set_option maxHeartbeats 2000000 in
theorem hget_len (a : Option Addr) (len cap : Nat) (zs : List Int) (w : World) (hlc : len ≤ cap) (hm : cap ≤ 9223372036854775807) (hz : zs.length = len) (hb : Byt zs) (hs : Seg w a zs) (hnil : a = none → len = 0 ∧ cap = 0) (h16 : len ≠ 16) :
    Calls Try.prog 9 #[.slice a len cap] w fun e w' => e = .returned (.tuple #[.agg #[.int .i64 0, .int .u32 0], .int .i64 5]) ∧ Below w.heap.size w w' := by
  have hB1 : Below w.heap.size w (w.alloc (.cells #[.int .i64 0, .int .u32 0] 27)) := (Below.refl _ _).alloc (Nat.le_refl _) _
  have hh1 := World.alloc_heap_new w (.cells #[.int .i64 0, .int .u32 0] 27)
  have hlt1 := (Array.getElem?_eq_some_iff.1 hh1).1
  have hg := getfixed_nat a len cap 16 zs (w.alloc (.cells #[.int .i64 0, .int .u32 0] 27)) hlc hm hz hb (hs.below hB1) hnil (by omega)
  obtain ⟨hfs, hfl⟩ := fix16 zs
  go_enter Try.func9, Try.ntmps9
  by_cases hlt : len < 16
  · have he := hfs (by omega)
    rw [he] at hg
    clear hfs hfl he
    generalize cutL zs 16 = n at *
    generalize cutZ zs 16 = cs at *
    go_wp2_with fail
    generalize w.alloc (.cells #[.int .i64 0, .int .u32 0] 27) = W1 at *
    refine hg.mono ?_
    rintro e W2 ⟨v, rfl, hown, hb2⟩
    have hB2 := hB1.trans (hb2.mono hB1.size)
    have hh2 := (hb2.block _ hlt1).trans hh1
    have f0 : W2.frozen? ⟨w.heap.size, 0, none⟩ = false := by simp [World.frozen?, hh2]
    have f1 : W2.frozen? ⟨w.heap.size, 1, none⟩ = false := by simp [World.frozen?, hh2]
    have c0 : W2.cell? ⟨w.heap.size, 0, none⟩ = some (.int .i64 0) := by simp [World.cell?, hh2]
    have c1 : W2.cell? ⟨w.heap.size, 1, none⟩ = some (.int .u32 0) := by simp [World.cell?, hh2]
    clear hg hown hb2 hB1 hh1 hlt1
    go_wp2
    refine bodyPost_ret (results_row_tmp (p := 2) (u := 3) (ty := 27) rfl _ _ w.heap.size 27 _ (0, 0) _ (by rfl) (hand_set hh2 0 0) Try.underlying27 rfl (by kernel_rfl)) rfl ⟨rfl, ?_⟩
    exact (hB2.setCell (p := ⟨w.heap.size, 0, none⟩) (Nat.le_refl _) _).setCell (p := ⟨w.heap.size, 1, none⟩) (Nat.le_refl _) _
  · obtain ⟨he, hl, hc⟩ := hfl (by omega)
    rw [he, hl] at hg
    clear hfs hfl he hl hc
    generalize cutZ zs 16 = cs at *
    have hne : ((16 : Int) != (len : Int)) = true := by simp; omega
    go_wp2_with fail
    generalize w.alloc (.cells #[.int .i64 0, .int .u32 0] 27) = W1 at *
    refine hg.mono ?_
    rintro e W2 ⟨v, rfl, hown, hb2⟩
    have hB2 := hB1.trans (hb2.mono hB1.size)
    have hh2 := (hb2.block _ hlt1).trans hh1
    have f0 : W2.frozen? ⟨w.heap.size, 0, none⟩ = false := by simp [World.frozen?, hh2]
    have f1 : W2.frozen? ⟨w.heap.size, 1, none⟩ = false := by simp [World.frozen?, hh2]
    have c0 : W2.cell? ⟨w.heap.size, 0, none⟩ = some (.int .i64 0) := by simp [World.cell?, hh2]
    have c1 : W2.cell? ⟨w.heap.size, 1, none⟩ = some (.int .u32 0) := by simp [World.cell?, hh2]
    clear hg hown hb2 hB1 hh1 hlt1
    go_wp2
    refine bodyPost_ret (results_row_tmp (p := 2) (u := 3) (ty := 27) rfl _ _ w.heap.size 27 _ (0, 0) _ (by rfl) (hand_set hh2 0 0) Try.underlying27 rfl (by kernel_rfl)) rfl ⟨rfl, ?_⟩
    exact (hB2.setCell (p := ⟨w.heap.size, 0, none⟩) (Nat.le_refl _) _).setCell (p := ⟨w.heap.size, 1, none⟩) (Nat.le_refl _) _
end Go.Proofs.Ytcpciodcecpibab
