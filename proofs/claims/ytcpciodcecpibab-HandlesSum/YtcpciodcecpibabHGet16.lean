/- 'Get' of the program at sixteen bytes. -/
import Derived.Test.YtcpciodcecpibabHGet
import Derived.BigQuiet
import Derived.WalkSmall
import Derived.Deep.QuietTactic
namespace Go.Proofs.Ytcpciodcecpibab
set_option linter.unusedVariables false
open Go.RowKit

theorem splice16 (zs : List Int) (h : zs.length = 16) : splice (#[.int .u8 0, .int .u8 0, .int .u8 0, .int .u8 0, .int .u8 0, .int .u8 0, .int .u8 0, .int .u8 0, .int .u8 0, .int .u8 0, .int .u8 0, .int .u8 0, .int .u8 0, .int .u8 0, .int .u8 0, .int .u8 0] : Array Value).toList 0 (vz zs) = vz zs := by
  have hl : (vz zs).length = 16 := by rw [vz_length, h]
  unfold splice
  rw [hl]
  simp

/-- Where 'Get' stands: the answer's place, the array, the handle. -/
structure Hg (w W : World) (A H : Nat) (zs : List Int) (x y : Int) : Prop where
  res : W.heap[w.heap.size]? = some (.cells #[.int .i64 0, .int .u32 0] 27)
  all : W.heap[A]? = some (.cells (vz zs).toArray 42)
  h : W.heap[H]? = some (.cells #[.int .i64 x, .int .u32 y] 27)
  below : Below w.heap.size w W

theorem Hg.at {w W : World} {A H : Nat} {zs : List Int} {x y : Int} (h : Hg w W A H zs x y) : W.cell? ⟨H, 0, none⟩ = some (.int .i64 x) ∧ W.cell? ⟨H, 1, none⟩ = some (.int .u32 y) ∧ W.rangeAt A 0 (vz zs) := by
  refine ⟨by simp [World.cell?, h.h], by simp [World.cell?, h.h], fun j v hv => ?_⟩
  rw [Nat.zero_add]
  simp only [World.cell?, h.all]
  simpa using hv
theorem Hg.next {w W W' : World} {A H : Nat} {zs : List Int} {x y : Int} (h : Hg w W A H zs x y) (hb : Below W.heap.size W W') : Hg w W' A H zs x y :=
  ⟨(hb.block _ (Array.getElem?_eq_some_iff.1 h.res).1).trans h.res, (hb.block _ (Array.getElem?_eq_some_iff.1 h.all).1).trans h.all, (hb.block _ (Array.getElem?_eq_some_iff.1 h.h).1).trans h.h, h.below.trans (hb.mono h.below.size)⟩

set_option maxRecDepth 100000 in
set_option maxHeartbeats 2000000 in
theorem hget_16 (a : Option Addr) (cap : Nat) (zs : List Int) (w : World) (hlc : 16 ≤ cap) (hm : cap ≤ 9223372036854775807) (hz : zs.length = 16) (hb : Byt zs) (hs : Seg w a zs) :
    Calls Try.prog 9 #[.slice a 16 cap] w fun e w' => e = .returned (.tuple #[.agg #[.int .i64 (hgN zs), .int .u32 (hgG zs)], .int .i64 (hgE zs)]) ∧ Below w.heap.size w w' := by
  have hB1 : Below w.heap.size w (w.alloc (.cells #[.int .i64 0, .int .u32 0] 27)) := (Below.refl _ _).alloc (Nat.le_refl _) _
  have hh1 := World.alloc_heap_new w (.cells #[.int .i64 0, .int .u32 0] 27)
  have hlt1 := (Array.getElem?_eq_some_iff.1 hh1).1
  have hnil : a = none → 16 = 0 ∧ cap = 0 := by
    rintro rfl
    rcases hs with h | ⟨b, o, e, _⟩
    · rw [h] at hz; simp at hz
    · cases e
  have hg := getfixed_nat a 16 cap 16 zs (w.alloc (.cells #[.int .i64 0, .int .u32 0] 27)) hlc hm hz hb (hs.below hB1) hnil (by omega)
  obtain ⟨he, hl, hc⟩ := (fix16 zs).2 (by omega)
  rw [List.take_of_length_le (by omega)] at hc
  rw [he, hl, hc, hz] at hg
  clear he hl hc hs hnil
  obtain ⟨X, HX⟩ : ∃ X, Hid (X = vz zs) := ⟨_, rfl⟩
  have hXl : X.length = 16 := by rw [HX.out, vz_length, hz]
  have hX1 : ∀ v ∈ X, v.oneCell' = true := by rw [HX.out]; exact vz_one zs
  have hsp : Hid (splice (#[.int .u8 0, .int .u8 0, .int .u8 0, .int .u8 0, .int .u8 0, .int .u8 0, .int .u8 0, .int .u8 0, .int .u8 0, .int .u8 0, .int .u8 0, .int .u8 0, .int .u8 0, .int .u8 0, .int .u8 0, .int .u8 0] : Array Value).toList 0 X = vz zs) := by
    show _ = _
    rw [HX.out]
    exact splice16 zs hz
  have hxs : (vz zs).toArray.size = 16 := by rw [List.size_toArray, vz_length, hz]
  have hN := nodeOf_lt hb
  have hnum := fun w => numbers_any zs w hz hb
  generalize hE : hgE zs = E
  generalize hN' : hgN zs = N
  generalize hG' : hgG zs = G
  go_enter Try.func9, Try.ntmps9
  go_wp2_with fail
  generalize w.alloc (.cells #[.int .i64 0, .int .u32 0] 27) = W1 at *
  refine hg.mono ?_
  rintro e W2 ⟨v, rfl, hown, hb2⟩
  have hB2 := hB1.trans (hb2.mono hB1.size)
  have hh2 := (hb2.block _ hlt1).trans hh1
  obtain ⟨g2, c2, rfl, hc2, hd2, he2⟩ := own_shape hown (by decide)
  have hseg2 := seg_own hown hz
  have hsA : (W2.alloc (.cells #[.int .u8 0, .int .u8 0, .int .u8 0, .int .u8 0, .int .u8 0, .int .u8 0, .int .u8 0, .int .u8 0, .int .u8 0, .int .u8 0, .int .u8 0, .int .u8 0, .int .u8 0, .int .u8 0, .int .u8 0, .int .u8 0] 42)).heap.size = W2.heap.size + 1 := by simp
  have hA := World.alloc_heap_new W2 (.cells #[.int .u8 0, .int .u8 0, .int .u8 0, .int .u8 0, .int .u8 0, .int .u8 0, .int .u8 0, .int .u8 0, .int .u8 0, .int .u8 0, .int .u8 0, .int .u8 0, .int .u8 0, .int .u8 0, .int .u8 0, .int .u8 0] 42)
  have hbA : Below W2.heap.size W2 (W2.alloc (.cells #[.int .u8 0, .int .u8 0, .int .u8 0, .int .u8 0, .int .u8 0, .int .u8 0, .int .u8 0, .int .u8 0, .int .u8 0, .int .u8 0, .int .u8 0, .int .u8 0, .int .u8 0, .int .u8 0, .int .u8 0, .int .u8 0] 42)) := (Below.refl _ _).alloc (Nat.le_refl _) _
  have hsegA := hseg2.below hbA
  have hsrc : ∀ j v, X[j]? = some v → (W2.alloc (.cells #[.int .u8 0, .int .u8 0, .int .u8 0, .int .u8 0, .int .u8 0, .int .u8 0, .int .u8 0, .int .u8 0, .int .u8 0, .int .u8 0, .int .u8 0, .int .u8 0, .int .u8 0, .int .u8 0, .int .u8 0, .int .u8 0] 42)).cell? ((⟨g2, 0, none⟩ : Addr).add j) = some v := by rw [HX.out]; exact seg_news hsegA
  clear hg hown hb2 hB1 hh1 hlt1 hseg2 hsegA
  go_wp2_with (first
    | (refine wpList_copy_splice rfl _ _ 25 25 rfl 5 Try.underlying25 infoT _ _ 16 16 16 c2 rfl rfl W2.heap.size 0 (#[.int .u8 0, .int .u8 0, .int .u8 0, .int .u8 0, .int .u8 0, .int .u8 0, .int .u8 0, .int .u8 0, .int .u8 0, .int .u8 0, .int .u8 0, .int .u8 0, .int .u8 0, .int .u8 0, .int .u8 0, .int .u8 0] : Array Value).toList 42 hA X (hXl.trans (by rfl)) (fun _ => ⟨rfl, _, rfl, hsrc⟩) (by rw [hXl]; decide) hX1 W2.heap.size W2 hbA (Nat.le_refl _) ?_; intro W3 HG3 hb3; have ha3 : W3.heap[W2.heap.size]? = some (.cells (vz zs).toArray 42) := (by rw [← hsp.out]; exact HG3.out))
    | (refine wpList_load_row rfl _ _ rfl W2.heap.size rfl 42 _ (0, 0) _ ha3 Try.underlying42 rfl (by rw [hxs]; kernel_rfl) ?_)
    | (go_at_call 15; refine (hnum _).mono ?_; rintro e W4 ⟨rfl, hb4⟩))
  have H5 : Hg w (W4.alloc (.cells #[.int .i64 (nodeOf zs), .int .u32 (genOf zs)] 27)) W2.heap.size W4.heap.size zs (nodeOf zs) (genOf zs) := by
    have hw2 := (Array.getElem?_eq_some_iff.1 hh2).1
    have hl3 := (Array.getElem?_eq_some_iff.1 ha3).1
    have hb5 : Below W4.heap.size W4 (W4.alloc (.cells #[.int .i64 (nodeOf zs), .int .u32 (genOf zs)] 27)) := (Below.refl _ _).alloc (Nat.le_refl _) _
    have hb34 := hb4.trans (hb5.mono hb4.size)
    exact ⟨(hb34.block _ (by omega)).trans ((hb3.block _ hw2).trans hh2), (hb34.block _ hl3).trans ha3, World.alloc_heap_new _ _, hB2.trans ((hb3.mono hB2.size).trans (hb34.mono (by omega)))⟩
  generalize W4.heap.size = H at *
  generalize W2.heap.size = A at *
  generalize (W4.alloc (.cells #[.int .i64 (nodeOf zs), .int .u32 (genOf zs)] 27)) = W5 at *
  clear hA hbA hsA hsrc HG3 hb3 ha3 hb4 hnum hsp HX hXl hX1 hB2 hh2 he2 hc2 hd2
  clear X
  have hgok2 : hgok zs = (okN (nodeOf zs) && decide (zs = hB (nodeOf zs) (genOf zs))) := by simp [hgok, hz, okN]
  have hG := genOf_lt hb
  have hNN : Hid (hgN zs = N) := hN'
  have hGG : Hid (hgG zs = G) := hG'
  have hEE : Hid (hgE zs = E) := hE
  have hin : Hid (hgok zs = true → hgE zs = 0 ∧ hgN zs = nodeOf zs ∧ hgG zs = genOf zs) := fun h => by simp [hgE, hgN, hgG, h]
  have hout : Hid (hgok zs = false → hgE zs = 5 ∧ hgN zs = 0 ∧ hgG zs = 0) := hg_bad
  clear hE hN' hG'
  by_cases ho : okN (nodeOf zs) = true
  · have hm : ∀ w, Calls Try.prog 10 #[.int .i64 (nodeOf zs)] w fun e w' => e = .returned (.bool true) ∧ w' = w := fun w => by
      have := maybe_any (nodeOf zs) w
      rwa [ho] at this
    have hno : 1 ≤ nodeOf zs ∧ nodeOf zs ≤ 1024 := by
      simp only [okN, Bool.and_eq_true, decide_eq_true_eq] at ho
      exact ho
    have ht := fun w => htold_any (nodeOf zs) (genOf zs) w hno.1 hno.2 hG.1 hG.2
    have hnq := fun w => arr_neq (hB (nodeOf zs) (genOf zs)) zs (hB_length _ _) hz w
    have hdd : Hid (hgok zs = decide (hB (nodeOf zs) (genOf zs) = zs)) := by
      show _ = _
      rw [hgok2, ho, Bool.true_and]
      exact decide_eq_decide.2 ⟨fun h => h.symm, fun h => h.symm⟩
    have hu48 : Try.prog.underlying 42 = some (.array 16 5) := Try.underlying42
    have hi48 : (Try.prog.info? 42).map (·.size) = some (vz zs).length := by rw [vz_length, hz]; kernel_rfl
    clear hgok2 ho hno
    generalize nodeOf zs = x at *
    generalize genOf zs = y at *
    generalize vz (hB x y) = Y at *
    generalize decide (hB x y = zs) = q at *
    have D5 : Below W5.heap.size W5 W5.drew := ⟨rfl, rfl, rfl, Nat.le_refl _, fun _ _ => rfl⟩
    have H6 := H5.next D5
    have S6 := H6.at
    cases q with
    | false =>
      obtain ⟨r1, r2, r3⟩ := hout.out hdd.out
      have hN1 := hNN.out.symm.trans r2
      have hG1 := hGG.out.symm.trans r3
      have hE1 := hEE.out.symm.trans r1
      subst hN1 hG1 hE1
      replace hnq : ∀ w, (binOp .neq 42 (.agg Y.toArray) (.agg (vz zs).toArray)).run Try.prog w = .ok (.bool true) w := hnq
      clear r1 r2 r3 hNN hGG hEE hin hout hdd D5
      go_region_held3 (fun w' => w'.cell? ⟨H, 0, none⟩ = some (.int .i64 x) ∧ w'.cell? ⟨H, 1, none⟩ = some (.int .u32 y) ∧ w'.rangeAt A 0 (vz zs)) (first | with_reducible exact S6 | with_reducible exact S7) (first
        | (go_at_call 11; refine (ht _).mono ?_; rintro e W7 ⟨rfl, hb7⟩; have H7 := H6.next hb7; have S7 := H7.at)
        | (go_at_call 10; refine (hm _).mono ?_; rintro e w' ⟨rfl, hw'⟩; subst w'))
      clear S6 H6 H5 hm ht hnq hb7 hu48 hi48
      have f0 : W7.frozen? ⟨w.heap.size, 0, none⟩ = false := by simp [World.frozen?, H7.res]
      have f1 : W7.frozen? ⟨w.heap.size, 1, none⟩ = false := by simp [World.frozen?, H7.res]
      have c0 : W7.cell? ⟨w.heap.size, 0, none⟩ = some (.int .i64 0) := by simp [World.cell?, H7.res]
      have c1 : W7.cell? ⟨w.heap.size, 1, none⟩ = some (.int .u32 0) := by simp [World.cell?, H7.res]
      clear S7
      go_wp2
      refine bodyPost_ret (results_row_tmp (p := 2) (u := 3) (ty := 27) rfl _ _ w.heap.size 27 _ (0, 0) _ (by rfl) (hand_set H7.res 0 0) Try.underlying27 rfl (by kernel_rfl)) rfl ⟨rfl, ?_⟩
      exact (H7.below.setCell (p := ⟨w.heap.size, 0, none⟩) (Nat.le_refl _) _).setCell (p := ⟨w.heap.size, 1, none⟩) (Nat.le_refl _) _
    | true =>
      obtain ⟨r1, r2, r3⟩ := hin.out hdd.out
      have hN1 := hNN.out.symm.trans r2
      have hG1 := hGG.out.symm.trans r3
      have hE1 := hEE.out.symm.trans r1
      subst hN1 hG1 hE1
      replace hnq : ∀ w, (binOp .neq 42 (.agg Y.toArray) (.agg (vz zs).toArray)).run Try.prog w = .ok (.bool false) w := hnq
      clear r1 r2 r3 hNN hGG hEE hin hout hdd D5
      go_region_held3 (fun w' => w'.cell? ⟨H, 0, none⟩ = some (.int .i64 N) ∧ w'.cell? ⟨H, 1, none⟩ = some (.int .u32 G) ∧ w'.rangeAt A 0 (vz zs)) (first | with_reducible exact S6 | with_reducible exact S7) (first
        | (go_at_call 11; refine (ht _).mono ?_; rintro e W7 ⟨rfl, hb7⟩; have H7 := H6.next hb7; have S7 := H7.at)
        | (go_at_call 10; refine (hm _).mono ?_; rintro e w' ⟨rfl, hw'⟩; subst w'))
      clear S6 H6 H5 hm ht hnq hb7 hu48 hi48
      have f0 : W7.frozen? ⟨w.heap.size, 0, none⟩ = false := by simp [World.frozen?, H7.res]
      have f1 : W7.frozen? ⟨w.heap.size, 1, none⟩ = false := by simp [World.frozen?, H7.res]
      have c0 : W7.cell? ⟨w.heap.size, 0, none⟩ = some (.int .i64 0) := by simp [World.cell?, H7.res]
      have c1 : W7.cell? ⟨w.heap.size, 1, none⟩ = some (.int .u32 0) := by simp [World.cell?, H7.res]
      obtain ⟨h0, h1, -⟩ := S7
      go_wp2
      refine bodyPost_ret (results_row_tmp (p := 2) (u := 3) (ty := 27) rfl _ _ w.heap.size 27 _ (0, 0) _ (by rfl) (hand_set H7.res N G) Try.underlying27 rfl (by kernel_rfl)) rfl ⟨rfl, ?_⟩
      exact (H7.below.setCell (p := ⟨w.heap.size, 0, none⟩) (Nat.le_refl _) _).setCell (p := ⟨w.heap.size, 1, none⟩) (Nat.le_refl _) _
  · have ho : okN (nodeOf zs) = false := by simpa using ho
    have hk : hgok zs = false := by rw [hgok2, ho]; rfl
    obtain ⟨r1, r2, r3⟩ := hout.out hk
    have hN1 := hNN.out.symm.trans r2
    have hG1 := hGG.out.symm.trans r3
    have hE1 := hEE.out.symm.trans r1
    subst hN1 hG1 hE1
    clear r1 r2 r3 hk hgok2 hNN hGG hEE hin hout
    have hm : ∀ w, Calls Try.prog 10 #[.int .i64 (nodeOf zs)] w fun e w' => e = .returned (.bool false) ∧ ∃ n, w' = w.drewN n := fun w => by
      refine (maybe_any (nodeOf zs) w).mono ?_
      rintro e w' ⟨rfl, rfl⟩
      rw [ho]
      exact ⟨rfl, 0, rfl⟩
    clear ho
    generalize nodeOf zs = x at *
    generalize genOf zs = y at *
    have c0 : W5.cell? ⟨H, 0, none⟩ = some (.int .i64 x) := by simp [World.cell?, H5.h]
    go_quiet (first | (go_at_call 10; refine Calls.quiet_of (hm _)))
    have H6 := H5.next (below_drewN (Below.refl _ W5) nq)
    generalize W5.drewN nq = W6 at *
    have f0 : W6.frozen? ⟨w.heap.size, 0, none⟩ = false := by simp [World.frozen?, H6.res]
    have f1 : W6.frozen? ⟨w.heap.size, 1, none⟩ = false := by simp [World.frozen?, H6.res]
    have c0 : W6.cell? ⟨w.heap.size, 0, none⟩ = some (.int .i64 0) := by simp [World.cell?, H6.res]
    have c1 : W6.cell? ⟨w.heap.size, 1, none⟩ = some (.int .u32 0) := by simp [World.cell?, H6.res]
    clear H5 hm
    go_wp2
    refine bodyPost_ret (results_row_tmp (p := 2) (u := 3) (ty := 27) rfl _ _ w.heap.size 27 _ (0, 0) _ (by rfl) (hand_set H6.res 0 0) Try.underlying27 rfl (by kernel_rfl)) rfl ⟨rfl, ?_⟩
    exact (H6.below.setCell (p := ⟨w.heap.size, 0, none⟩) (Nat.le_refl _) _).setCell (p := ⟨w.heap.size, 1, none⟩) (Nat.le_refl _) _

theorem hget_any (a : Option Addr) (len cap : Nat) (zs : List Int) (w : World) (hlc : len ≤ cap) (hm : cap ≤ 9223372036854775807) (hz : zs.length = len) (hb : Byt zs) (hs : Seg w a zs) (hnil : a = none → len = 0 ∧ cap = 0) :
    Calls Try.prog 9 #[.slice a len cap] w fun e w' => e = .returned (.tuple #[.agg #[.int .i64 (hgN zs), .int .u32 (hgG zs)], .int .i64 (hgE zs)]) ∧ Below w.heap.size w w' := by
  by_cases h : len = 16
  · subst h
    exact hget_16 a cap zs w hlc hm hz hb hs
  · obtain ⟨h1, h2, h3⟩ := hg_bad (hg_len (zs := zs) (by omega))
    rw [h1, h2, h3]
    exact hget_len a len cap zs w hlc hm hz hb hs hnil h
end Go.Proofs.Ytcpciodcecpibab
