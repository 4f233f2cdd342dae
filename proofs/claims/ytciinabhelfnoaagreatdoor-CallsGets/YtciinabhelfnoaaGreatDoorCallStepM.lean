/- 'Get' of a call: its eleven steps: each meets the error, or leaves what is known behind it. -/
import Derived.Test.YtciinabhelfnoaaGreatDoorCallReadOwnVal4M
import Derived.Test.YtciinabhelfnoaaGreatDoorOpqBytesOpqMathAgainMathM
namespace Go.Proofs.YtciinabhelfnoaaGreatDoor
set_option linter.unusedVariables false
open Go.RowKit

/-- What every step leaves. -/
def StepPost (w : World) (h : Nat) (zs : List Int) (k : Nat) (e : Ending) (W' : World) : Prop :=
  ∃ er, e = .returned (.int .i64 er) ∧ ((er ≠ 0 ∧ er = firstE (clEs zs) ∧ Below w.heap.size w W') ∨ (er = 0 ∧ ∃ y, Rt w h y W' ∧ At zs (k + 1) y))

theorem cell_first {W : World} {h k : Nat} {xs : Array Value} {t : TypeId} (hc : W.heap[h]? = some (.cells xs t)) (hk : k ≠ 0) (v : Value) : (W.setCell ⟨h, k, none⟩ v).cell? ⟨h, 0, none⟩ = W.cell? ⟨h, 0, none⟩ ∧ (W.setCell ⟨h, k, none⟩ v).frozen? ⟨h, 0, none⟩ = false := by
  have e := setCell_same (k := k) hc v
  refine ⟨?_, by simp [World.frozen?, e]⟩
  simp only [World.cell?, e, hc]
  simp [hk]

/-- A number of the call is read. -/
theorem num_field {w : World} {h : Nat} {y : RS} {W : World} (R : Rt w h y W) (o : Nat) (ho : o ≠ 0) {old : Value} (hc : W.cell? ⟨h, o, none⟩ = some old) (up : Int → RS) (hput : ∀ v, Rt w h (up v) (W.setCell ⟨h, o, none⟩ (.int .u32 v)))
    (hsame : ∀ v, (up v).a = y.a ∧ (up v).len = y.len ∧ (up v).cap = y.cap ∧ (up v).zs = y.zs) :
    Calls Tryz.prog 51 #[.pointer (some ⟨h, 0, none⟩), .pointer (some ⟨h, o, none⟩)] W fun e W' => e = .returned (.int .i64 (getE y.zs)) ∧ ((getE y.zs ≠ 0 ∧ W' = W) ∨
      (getE y.zs = 0 ∧ ∃ a', Rt w h { up (be (y.zs.take 4)) with a := a', len := y.len - 4, cap := y.cap - 4, zs := y.zs.drop 4 } W')) := by
  have c0 : W.cell? ⟨h, 0, none⟩ = some (.slice y.a y.len y.cap) := R.cell 0 rfl
  refine (rnumber_any R h o old hc (R.frozen o) (fun v => ((cell_first R.cells ho v).1).trans c0) (fun v => (cell_first R.cells ho v).2)).mono ?_
  rintro e W' ⟨rfl, ⟨hne, rfl⟩ | ⟨he, h4, a', hs, hn, rfl⟩⟩
  · exact ⟨rfl, .inl ⟨hne, rfl⟩⟩
  · obtain ⟨e1, e2, e3, e4⟩ := hsame (be (y.zs.take 4))
    have := (hput (be (y.zs.take 4))).adv 4 (by rw [e2]; exact h4) a' (by rw [e4]; exact hs) (by rw [e2, e3]; exact hn)
    rw [e2, e3, e4] at this
    exact ⟨rfl, .inr ⟨he, a', this⟩⟩


set_option maxRecDepth 100000 in
set_option maxHeartbeats 400000 in
theorem step_xid {w : World} {h : Nat} {zs : List Int} {y : RS} {W : World} (R : Rt w h y W) (A : At zs 0 y) : Calls Tryz.prog 12 #[.pointer (some ⟨h, 0, none⟩)] W (StepPost w h zs 0) := by
  have hn := num_field R 1 (by decide) (R.cell 1 rfl) (fun v => { y with x := v }) (fun v => R.put (z := { y with x := v }) 1 _ rfl R.owns R.left) (fun v => ⟨rfl, rfl, rfl, rfl⟩)
  have hst := fun hne => A.stop (er := getE y.zs) (es := (clEs zs).drop 1) (by rw [A.z]; rfl) hne
  have hgo := fun he a' => cat0 A he a' (y.len - 4) (y.cap - 4)
  have hl := R.lt
  have hB := R.below
  clear R A
  go_enter Tryz.func12, Tryz.ntmps12
  go_wp2_with fail
  refine hn.mono ?_
  rintro e W' ⟨rfl, hh⟩
  go_wp2
  go_ret
  rcases hh with ⟨hne, rfl⟩ | ⟨he, a', R'⟩
  · exact ⟨_, rfl, .inl ⟨hne, hst hne, hB⟩⟩
  · exact ⟨_, rfl, .inr ⟨he, _, R', hgo he a'⟩⟩

set_option maxRecDepth 100000 in
set_option maxHeartbeats 400000 in
theorem step_prog {w : World} {h : Nat} {zs : List Int} {y : RS} {W : World} (R : Rt w h y W) (A : At zs 3 y) : Calls Tryz.prog 15 #[.pointer (some ⟨h, 0, none⟩)] W (StepPost w h zs 3) := by
  have hn := num_field R 2 (by decide) (R.cell 2 rfl) (fun v => { y with p := v }) (fun v => R.put (z := { y with p := v }) 2 _ rfl R.owns R.left) (fun v => ⟨rfl, rfl, rfl, rfl⟩)
  have hst := fun hne => A.stop (er := getE y.zs) (es := (clEs zs).drop 4) (by rw [A.z]; rfl) hne
  have hgo := fun he a' => cat3 A he a' (y.len - 4) (y.cap - 4)
  have hl := R.lt
  have hB := R.below
  clear R A
  go_enter Tryz.func15, Tryz.ntmps15
  go_wp2_with fail
  refine hn.mono ?_
  rintro e W' ⟨rfl, hh⟩
  go_wp2
  go_ret
  rcases hh with ⟨hne, rfl⟩ | ⟨he, a', R'⟩
  · exact ⟨_, rfl, .inl ⟨hne, hst hne, hB⟩⟩
  · exact ⟨_, rfl, .inr ⟨he, _, R', hgo he a'⟩⟩

set_option maxRecDepth 100000 in
set_option maxHeartbeats 400000 in
theorem step_vers {w : World} {h : Nat} {zs : List Int} {y : RS} {W : World} (R : Rt w h y W) (A : At zs 4 y) : Calls Tryz.prog 16 #[.pointer (some ⟨h, 0, none⟩)] W (StepPost w h zs 4) := by
  have hn := num_field R 3 (by decide) (R.cell 3 rfl) (fun v => { y with v := v }) (fun v => R.put (z := { y with v := v }) 3 _ rfl R.owns R.left) (fun v => ⟨rfl, rfl, rfl, rfl⟩)
  have hst := fun hne => A.stop (er := getE y.zs) (es := (clEs zs).drop 5) (by rw [A.z]; rfl) hne
  have hgo := fun he a' => cat4 A he a' (y.len - 4) (y.cap - 4)
  have hl := R.lt
  have hB := R.below
  clear R A
  go_enter Tryz.func16, Tryz.ntmps16
  go_wp2_with fail
  refine hn.mono ?_
  rintro e W' ⟨rfl, hh⟩
  go_wp2
  go_ret
  rcases hh with ⟨hne, rfl⟩ | ⟨he, a', R'⟩
  · exact ⟨_, rfl, .inl ⟨hne, hst hne, hB⟩⟩
  · exact ⟨_, rfl, .inr ⟨he, _, R', hgo he a'⟩⟩

set_option maxRecDepth 100000 in
set_option maxHeartbeats 400000 in
theorem step_proc {w : World} {h : Nat} {zs : List Int} {y : RS} {W : World} (R : Rt w h y W) (A : At zs 5 y) : Calls Tryz.prog 17 #[.pointer (some ⟨h, 0, none⟩)] W (StepPost w h zs 5) := by
  have hn := num_field R 4 (by decide) (R.cell 4 rfl) (fun v => { y with c := v }) (fun v => R.put (z := { y with c := v }) 4 _ rfl R.owns R.left) (fun v => ⟨rfl, rfl, rfl, rfl⟩)
  have hst := fun hne => A.stop (er := getE y.zs) (es := (clEs zs).drop 6) (by rw [A.z]; rfl) hne
  have hgo := fun he a' => cat5 A he a' (y.len - 4) (y.cap - 4)
  have hl := R.lt
  have hB := R.below
  clear R A
  go_enter Tryz.func17, Tryz.ntmps17
  go_wp2_with fail
  refine hn.mono ?_
  rintro e W' ⟨rfl, hh⟩
  go_wp2
  go_ret
  rcases hh with ⟨hne, rfl⟩ | ⟨he, a', R'⟩
  · exact ⟨_, rfl, .inl ⟨hne, hst hne, hB⟩⟩
  · exact ⟨_, rfl, .inr ⟨he, _, R', hgo he a'⟩⟩

/-- A number that is fixed is read. -/
def FixPost (w : World) (h : Nat) (y : RS) (want : Int) (e : Ending) (W' : World) : Prop :=
  e = .returned (.int .i64 (fxnE y.zs want)) ∧ ((fxnE y.zs want ≠ 0 ∧ Below w.heap.size w W') ∨ (fxnE y.zs want = 0 ∧ ∃ a', Rt w h { y with a := a', len := y.len - 4, cap := y.cap - 4, zs := y.zs.drop 4 } W'))

theorem cell_far {W : World} {h X : Nat} (hne : h ≠ X) (v : Value) : (W.setCell ⟨X, 0, none⟩ v).cell? ⟨h, 0, none⟩ = W.cell? ⟨h, 0, none⟩ ∧ (W.setCell ⟨X, 0, none⟩ v).frozen? ⟨h, 0, none⟩ = W.frozen? ⟨h, 0, none⟩ :=
  have e := Below.heap_setCell W ⟨X, 0, none⟩ v h hne
  ⟨World.cell?_of_block e, World.frozen?_of_block e⟩

set_option maxRecDepth 100000 in
set_option maxHeartbeats 1000000 in
theorem rfixed_any {w : World} {h : Nat} {y : RS} {W : World} (R : Rt w h y W) (want : Int) : Calls Tryz.prog 52 #[.pointer (some ⟨h, 0, none⟩), .int .u32 want] W (FixPost w h y want) := by
  have R1 := R.next ((Below.refl _ _).alloc (Nat.le_refl _) (.cells #[.int .u32 0] 24))
  have B := Boxed.new W 24 (.int .u32 0)
  have hlt := R.lt
  have hne : h ≠ W.heap.size := by omega
  have c0 : (W.alloc (.cells #[.int .u32 0] 24)).cell? ⟨h, 0, none⟩ = some (.slice y.a y.len y.cap) := R1.cell 0 rfl
  have hn := rnumber_any R1 W.heap.size 0 (.int .u32 0) B.cell B.frozen (fun v => (cell_far hne v).1.trans c0) (fun v => (cell_far hne v).2.trans (R1.frozen 0))
  by_cases hl : y.len < 4
  · have hE := ((getNE R.len).1 hl).2
    have hX : fxnE y.zs want = 4 := by rw [fxnE, if_pos (by rw [R.len]; exact hl)]
    have hB1 := R1.below
    have HX : Hid (fxnE y.zs want = 4) := hX
    rw [hE] at hn
    clear hE hX R R1 B c0
    go_enter Tryz.func52, Tryz.ntmps52
    go_wp2_with fail
    refine hn.mono ?_
    rintro e W' ⟨rfl, ⟨_, rfl⟩ | ⟨he, _⟩⟩
    · go_wp2
      go_ret
      exact ⟨by rw [HX.out]; rfl, .inl ⟨by rw [HX.out]; decide, hB1⟩⟩
    · exact absurd he (by decide)
  · have hE := ((getNE R.len).2 (by omega)).2
    have hX : fxnE y.zs want = if be (y.zs.take 4) = want then 0 else 5 := by rw [fxnE, if_neg (by rw [R.len]; exact hl)]
    have HX : Hid (fxnE y.zs want = if be (y.zs.take 4) = want then 0 else 5) := hX
    rw [hE] at hn
    have hbox : ∀ a' v, Rt w h y ((W.alloc (.cells #[.int .u32 0] 24)).setCell ⟨W.heap.size, 0, none⟩ v) ∧ (((W.alloc (.cells #[.int .u32 0] 24)).setCell ⟨W.heap.size, 0, none⟩ v).setCell ⟨h, 0, none⟩ a').cell? ⟨W.heap.size, 0, none⟩ = some v := fun a' v => by
      refine ⟨R.next (((Below.refl _ _).alloc (Nat.le_refl _) _).setCell (Nat.le_refl _) _), ?_⟩
      exact (World.cell?_of_block (Below.heap_setCell _ ⟨h, 0, none⟩ a' W.heap.size (by simpa using Ne.symm hne))).trans (B.set v).cell
    generalize be (y.zs.take 4) = nn at *
    clear hE hX R R1 B c0
    go_enter Tryz.func52, Tryz.ntmps52
    go_wp2_with fail
    refine hn.mono ?_
    rintro e W' ⟨rfl, ⟨he, _⟩ | ⟨_, h4, a', hs, hnl, hw⟩⟩
    · exact absurd rfl he
    · obtain ⟨R2, c2⟩ := hbox (.slice a' (y.len - 4) (y.cap - 4)) (.int .u32 nn)
      have R3 := R2.adv 4 h4 a' hs hnl
      rw [← hw] at R3 c2
      clear hbox R2 hw hn
      by_cases hq : nn = want
      · have H0 : Hid (fxnE y.zs want = 0) := HX.out.trans (if_pos hq)
        subst hq
        clear HX
        go_wp2
        go_ret
        exact ⟨by rw [H0.out]; rfl, .inr ⟨H0.out, a', R3⟩⟩
      · have hq' : (nn != want) = true := by simp [hq]
        have H5 : Hid (fxnE y.zs want = 5) := HX.out.trans (if_neg hq)
        clear HX
        go_wp2
        go_ret
        exact ⟨by rw [H5.out]; rfl, .inl ⟨by rw [H5.out]; decide, R3.below⟩⟩


set_option maxRecDepth 100000 in
set_option maxHeartbeats 400000 in
theorem step_kind {w : World} {h : Nat} {zs : List Int} {y : RS} {W : World} (R : Rt w h y W) (A : At zs 1 y) : Calls Tryz.prog 13 #[.pointer (some ⟨h, 0, none⟩)] W (StepPost w h zs 1) := by
  have hn := rfixed_any R 0
  have hst := fun hne => A.stop (er := fxnE y.zs 0) (es := (clEs zs).drop 2) (by rw [A.z]; rfl) hne
  have hgo := fun he a' => cat1 A he a' (y.len - 4) (y.cap - 4)
  clear R A
  go_enter Tryz.func13, Tryz.ntmps13
  go_wp2_with fail
  refine hn.mono ?_
  rintro e W' ⟨rfl, hh⟩
  go_wp2
  go_ret
  rcases hh with ⟨hne, hB⟩ | ⟨he, a', R'⟩
  · exact ⟨_, rfl, .inl ⟨hne, hst hne, hB⟩⟩
  · exact ⟨_, rfl, .inr ⟨he, _, R', hgo he a'⟩⟩

set_option maxRecDepth 100000 in
set_option maxHeartbeats 400000 in
theorem step_form {w : World} {h : Nat} {zs : List Int} {y : RS} {W : World} (R : Rt w h y W) (A : At zs 2 y) : Calls Tryz.prog 14 #[.pointer (some ⟨h, 0, none⟩)] W (StepPost w h zs 2) := by
  have hn := rfixed_any R 2
  have hst := fun hne => A.stop (er := fxnE y.zs 2) (es := (clEs zs).drop 3) (by rw [A.z]; rfl) hne
  have hgo := fun he a' => cat2 A he a' (y.len - 4) (y.cap - 4)
  clear R A
  go_enter Tryz.func14, Tryz.ntmps14
  go_wp2_with fail
  refine hn.mono ?_
  rintro e W' ⟨rfl, hh⟩
  go_wp2
  go_ret
  rcases hh with ⟨hne, hB⟩ | ⟨he, a', R'⟩
  · exact ⟨_, rfl, .inl ⟨hne, hst hne, hB⟩⟩
  · exact ⟨_, rfl, .inr ⟨he, _, R', hgo he a'⟩⟩

set_option maxRecDepth 100000 in
set_option maxHeartbeats 400000 in
theorem step_proofFlavor {w : World} {h : Nat} {zs : List Int} {y : RS} {W : World} (R : Rt w h y W) (A : At zs 8 y) : Calls Tryz.prog 20 #[.pointer (some ⟨h, 0, none⟩)] W (StepPost w h zs 8) := by
  have hn := rfixed_any R 0
  have hst := fun hne => A.stop (er := fxnE y.zs 0) (es := (clEs zs).drop 9) (by rw [A.z]; rfl) hne
  have hgo := fun he a' => cat8 A he a' (y.len - 4) (y.cap - 4)
  clear R A
  go_enter Tryz.func20, Tryz.ntmps20
  go_wp2_with fail
  refine hn.mono ?_
  rintro e W' ⟨rfl, hh⟩
  go_wp2
  go_ret
  rcases hh with ⟨hne, hB⟩ | ⟨he, a', R'⟩
  · exact ⟨_, rfl, .inl ⟨hne, hst hne, hB⟩⟩
  · exact ⟨_, rfl, .inr ⟨he, _, R', hgo he a'⟩⟩

set_option maxRecDepth 100000 in
set_option maxHeartbeats 400000 in
theorem step_flavor {w : World} {h : Nat} {zs : List Int} {y : RS} {W : World} (R : Rt w h y W) (A : At zs 6 y) : Calls Tryz.prog 18 #[.pointer (some ⟨h, 0, none⟩)] W (StepPost w h zs 6) := by
  have hn := num_field R 5 (by decide) (R.cell 5 rfl) (fun v => { y with f := v }) (fun v => R.put (z := { y with f := v }) 5 _ rfl R.owns R.left) (fun v => ⟨rfl, rfl, rfl, rfl⟩)
  have hst := fun hne => A.stop (er := flvE y.zs) (es := (clEs zs).drop 7) (by rw [A.z]; rfl) hne
  have hgo := fun he a' => cat6 A he a' (y.len - 4) (y.cap - 4)
  have hB := R.below
  have hrl := R.len
  by_cases hl : y.len < 4
  · have hE := ((getNE R.len).1 hl).2
    have hX : flvE y.zs = 4 := by rw [flvE, if_pos (by rw [R.len]; exact hl)]
    rw [hE] at hn
    rw [hX] at hst
    clear R A hE hX hgo
    go_enter Tryz.func18, Tryz.ntmps18
    go_wp2_with fail
    refine hn.mono ?_
    rintro e W' ⟨rfl, ⟨_, rfl⟩ | ⟨he, _⟩⟩
    · go_wp2
      go_ret
      exact ⟨_, rfl, .inl ⟨by decide, hst (by decide), hB⟩⟩
    · exact absurd he (by decide)
  · have hE := ((getNE R.len).2 (by omega)).2
    have hX : flvE y.zs = if 1 < be (y.zs.take 4) then 5 else 0 := by rw [flvE, if_neg (by rw [R.len]; exact hl)]
    rw [hE] at hn
    rw [hX] at hst hgo
    generalize be (y.zs.take 4) = nn at *
    clear R A hE hX
    go_enter Tryz.func18, Tryz.ntmps18
    go_wp2_with fail
    refine hn.mono ?_
    rintro e W' ⟨rfl, ⟨he, _⟩ | ⟨_, a', R'⟩⟩
    · exact absurd rfl he
    · have c5 : W'.cell? ⟨h, 5, none⟩ = some (.int .u32 nn) := R'.cell 5 rfl
      clear hn
      by_cases hq : 1 < nn
      · rw [if_pos hq] at hst
        replace hst := hst (by decide)
        go_wp2
        go_ret
        exact ⟨_, rfl, .inl ⟨by decide, hst, R'.below⟩⟩
      · rw [if_neg hq] at hgo
        replace hgo := hgo rfl
        go_wp2
        go_ret
        exact ⟨_, rfl, .inr ⟨rfl, _, R', hgo a'⟩⟩

/-- Bytes with their length are read. -/
def ToldPost (w : World) (h : Nat) (y : RS) (W : World) (oe : Int) (ol : Nat) (oz : List Int) (e : Ending) (W' : World) : Prop :=
  (oe ≠ 0 ∧ e = .returned (.tuple #[.slice none 0 0, .int .i64 oe]) ∧ Below w.heap.size w W') ∨
    (oe = 0 ∧ ∃ v, e = .returned (.tuple #[v, .int .i64 0]) ∧ W'.ownsRow W.heap.size 5 1 v oz.length (oz.map (Value.int .u8)) ∧
      ∃ a', Rt w h { y with a := a', len := y.len - ol, cap := y.cap - ol, zs := y.zs.drop ol } W')

set_option maxRecDepth 100000 in
set_option maxHeartbeats 1000000 in
theorem rtold_any {w : World} {h : Nat} {y : RS} {W : World} (R : Rt w h y W) : Calls Tryz.prog 54 #[.pointer (some ⟨h, 0, none⟩)] W (ToldPost w h y W (opE y.zs 400) (opL y.zs 400) (opZ y.zs 400)) := by
  have c0 : W.cell? ⟨h, 0, none⟩ = some (.slice y.a y.len y.cap) := R.cell 0 rfl
  have hg := getopq_any y.a y.len y.cap 400 y.zs W R.lc R.hm R.len R.byt R.segW (by decide) (by decide)
  by_cases he : opE y.zs 400 = 0
  · have hol : opL y.zs 400 ≤ y.len := by rw [← R.len]; exact (op_again R.byt he).2.1
    obtain ⟨a', hcut, hs', hn'⟩ := cut_nil R.seg R.len R.lc R.nil (opL y.zs 400) hol
    rw [he] at hg ⊢
    have hadv := fun (W1 : World) (R1 : Rt w h y W1) => R1.adv _ hol a' hs' hn'
    generalize opL y.zs 400 = ol at *
    have hls : ol ≤ y.len := hol
    clear he hs' hn'
    go_enter Tryz.func54, Tryz.ntmps54
    go_wp2_with fail
    refine hg.mono ?_
    rintro e W1 ⟨v, rfl, ho, hb⟩
    have R1 := R.next hb
    have c1 : W1.cell? ⟨h, 0, none⟩ = some (.slice y.a y.len y.cap) := R1.cell 0 rfl
    have f1 : W1.frozen? ⟨h, 0, none⟩ = false := R1.frozen 0
    have R2 := hadv W1 R1
    have hk := kept_one (W := W1) (h := h) (k := 0) (.slice a' (y.len - ol) (y.cap - ol))
    have ho2 := bo hk ho R.lt
    clear hg hk c0
    go_wp2
    go_ret2
    exact .inr ⟨rfl, v, rfl, ho2, a', R2⟩
  · have HE : Hid (opE y.zs 400 ≠ 0) := he
    have hx : (opE y.zs 400 != 0) = true := by simp [he]
    generalize opE y.zs 400 = oe at *
    clear he
    go_enter Tryz.func54, Tryz.ntmps54
    go_wp2_with fail
    refine hg.mono ?_
    rintro e W1 ⟨v, rfl, ho, hb⟩
    have R1 := R.next hb
    clear hg c0
    go_wp2
    go_ret2
    exact .inl ⟨HE.out, rfl, R1.below⟩

/-- Nothing is told. -/
def NotPost (w : World) (h : Nat) (y : RS) (e : Ending) (W' : World) : Prop :=
  e = .returned (.int .i64 (notE y.zs)) ∧ ((notE y.zs ≠ 0 ∧ Below w.heap.size w W') ∨ (notE y.zs = 0 ∧ ∃ a', Rt w h { y with a := a', len := y.len - opL y.zs 400, cap := y.cap - opL y.zs 400, zs := y.zs.drop (opL y.zs 400) } W'))

set_option maxRecDepth 100000 in
set_option maxHeartbeats 1000000 in
theorem rnothing_any {w : World} {h : Nat} {y : RS} {W : World} (R : Rt w h y W) : Calls Tryz.prog 53 #[.pointer (some ⟨h, 0, none⟩)] W (NotPost w h y) := by
  have ht := rtold_any R
  have hbd : opE y.zs 400 = 0 → (opZ y.zs 400).length ≤ 400 := fun he => by have := (op_again R.byt he).2.2.1; omega
  clear R
  go_enter Tryz.func53, Tryz.ntmps53
  go_wp2_with fail
  refine ht.mono ?_
  rintro e W1 (⟨he, rfl, hB⟩ | ⟨he, v, rfl, ho, a', R1⟩)
  · have hX : notE y.zs = opE y.zs 400 := by rw [notE, if_neg he]
    have HE : Hid (opE y.zs 400 ≠ 0) := he
    have hx : (opE y.zs 400 == 0) = false := by simp [he]
    have HX : Hid (notE y.zs = opE y.zs 400) := hX
    generalize opE y.zs 400 = oe at *
    clear he hX ht hbd
    go_wp2
    go_ret
    exact ⟨by rw [HX.out]; rfl, .inl ⟨by rw [HX.out]; exact HE.out, hB⟩⟩
  · have hX : notE y.zs = if opZ y.zs 400 = [] then 0 else 5 := by rw [notE, if_pos he]
    obtain ⟨b, c, rfl, _, hlc, hcm, hnil⟩ := own_val ho rfl
    have hbd' := hbd he
    clear he ht hbd ho
    by_cases hq : opZ y.zs 400 = []
    · have HX : Hid (notE y.zs = 0) := hX.trans (if_pos hq)
      have hq0 : (opZ y.zs 400).length = 0 := by rw [hq]; rfl
      rw [hq0]
      clear hq hq0 hbd' hlc hnil hX
      go_wp2
      go_ret
      exact ⟨by rw [HX.out]; rfl, .inr ⟨HX.out, a', R1⟩⟩
    · have HX : Hid (notE y.zs = 5) := hX.trans (if_neg hq)
      have hq0 : 0 < (opZ y.zs 400).length := List.length_pos_iff.2 hq
      have hB := R1.below
      generalize (opZ y.zs 400).length = ln at *
      clear hq R1 hnil hX
      go_wp2
      go_ret
      exact ⟨by rw [HX.out]; rfl, .inl ⟨by rw [HX.out]; decide, hB⟩⟩

set_option maxRecDepth 100000 in
set_option maxHeartbeats 400000 in
theorem step_proof {w : World} {h : Nat} {zs : List Int} {y : RS} {W : World} (R : Rt w h y W) (A : At zs 9 y) : Calls Tryz.prog 21 #[.pointer (some ⟨h, 0, none⟩)] W (StepPost w h zs 9) := by
  have hn := rnothing_any R
  have hst := fun hne => A.stop (er := notE y.zs) (es := (clEs zs).drop 10) (by rw [A.z]; rfl) hne
  have hgo := fun he a' => cat9 A he a' (y.len - opL y.zs 400) (y.cap - opL y.zs 400)
  clear R A
  go_enter Tryz.func21, Tryz.ntmps21
  go_wp2_with fail
  refine hn.mono ?_
  rintro e W' ⟨rfl, hh⟩
  go_wp2
  go_ret
  rcases hh with ⟨hne, hB⟩ | ⟨he, a', R'⟩
  · exact ⟨_, rfl, .inl ⟨hne, hst hne, hB⟩⟩
  · exact ⟨_, rfl, .inr ⟨he, _, R', hgo he a'⟩⟩

set_option maxRecDepth 100000 in
set_option maxHeartbeats 1000000 in
theorem step_body {w : World} {h : Nat} {zs : List Int} {y : RS} {W : World} (R : Rt w h y W) (A : At zs 10 y) : Calls Tryz.prog 22 #[.pointer (some ⟨h, 0, none⟩)] W (StepPost w h zs 10) := by
  have c0 : W.cell? ⟨h, 0, none⟩ = some (.slice y.a y.len y.cap) := R.cell 0 rfl
  have hcl := clone_any y.a y.len y.cap y.zs W R.lc (by have := R.sm; omega) R.len R.segW R.nil
  go_enter Tryz.func22, Tryz.ntmps22
  go_wp2_with fail
  refine hcl.mono ?_
  rintro e W1 ⟨v, rfl, ho, hb⟩
  have R1 := R.next hb
  obtain ⟨ba, bc, rfl, _, _, _, _⟩ := own_val ho R.len
  have c1 : W1.cell? ⟨h, 11, none⟩ = some (.slice y.ba y.bl y.bc) := R1.cell 11 rfl
  have f1 : W1.frozen? ⟨h, 11, none⟩ = false := R1.frozen 11
  have R2 := R1.put (z := { y with ba := ba, bl := y.len, bc := bc, bs := y.zs }) 11 (.slice ba y.len bc) rfl ⟨R1.ownG, own_base ho R.lt, R1.glen, R.len⟩ R1.left
  clear hcl c0 ho hb R R1
  go_wp2
  go_ret
  exact ⟨_, rfl, .inr ⟨rfl, _, R2, cat10 A ba y.len bc⟩⟩
end Go.Proofs.YtciinabhelfnoaaGreatDoor
