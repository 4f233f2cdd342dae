/- 'Get' of a call: its step of who calls. -/
import Derived.Test.YtciinabhelfnoaaGreatDoorCallStepM
namespace Go.Proofs.YtciinabhelfnoaaGreatDoor
set_option linter.unusedVariables false
open Go.RowKit

theorem byt_opZ {zs : List Int} {most : Int} (hb : Byt zs) : Byt (opZ zs most) := by
  unfold opZ
  split
  · exact (byt_drop hb 4).take _
  · intro i; simp

/-- The five cells of who calls are set, whatever they are. -/
theorem five_below {w W : World} {h : Nat} (hB : Below w.heap.size w W) (hh : w.heap.size ≤ h) (s m u g l : Value) : Below w.heap.size w (((((W.setCell ⟨h, 7, none⟩ s).setCell ⟨h, 6, none⟩ m).setCell ⟨h, 8, none⟩ u).setCell ⟨h, 9, none⟩ g).setCell ⟨h, 10, none⟩ l) :=
  ((((hB.setCell hh _).setCell hh _).setCell hh _).setCell hh _).setCell hh _
theorem Rt.five {w : World} {h : Nat} {y : RS} {W : World} (R : Rt w h y W) (s : Int) (m : ByteArray) (u g : Int) (ga : Option Addr) (gl gc : Nat) (gs : List Int) (ho : W.ownsRow (h + 1) 24 1 (.slice ga gl gc) gl (gs.map (Value.int .u32))) (hl : gs.length = gl) :
    Rt w h { y with s := s, m := m, u := u, g := g, ga := ga, gl := gl, gc := gc, gs := gs } (((((W.setCell ⟨h, 7, none⟩ (.int .u32 s)).setCell ⟨h, 6, none⟩ (.string m)).setCell ⟨h, 8, none⟩ (.int .u32 u)).setCell ⟨h, 9, none⟩ (.int .u32 g)).setCell ⟨h, 10, none⟩ (.slice ga gl gc)) := by
  have R1 := R.put (z := { y with s := s }) 7 (.int .u32 s) rfl R.owns R.left
  have o1 := bo (kept_one (W := W) (h := h) (k := 7) (.int .u32 s)) ho (by omega)
  have R2 := R1.put (z := { y with s := s, m := m }) 6 (.string m) rfl R1.owns R1.left
  have o2 := bo (kept_one (h := h) (k := 6) (.string m)) o1 (by omega)
  have R3 := R2.put (z := { y with s := s, m := m, u := u }) 8 (.int .u32 u) rfl R2.owns R2.left
  have o3 := bo (kept_one (h := h) (k := 8) (.int .u32 u)) o2 (by omega)
  have R4 := R3.put (z := { y with s := s, m := m, u := u, g := g }) 9 (.int .u32 g) rfl R3.owns R3.left
  have o4 := bo (kept_one (h := h) (k := 9) (.int .u32 g)) o3 (by omega)
  exact R4.put (z := { y with s := s, m := m, u := u, g := g, ga := ga, gl := gl, gc := gc, gs := gs }) 10 (.slice ga gl gc) rfl ⟨o4, R4.ownB, hl, R4.blen⟩ R4.left

set_option maxRecDepth 100000 in
set_option maxHeartbeats 2000000 in
theorem step_who {w : World} {h : Nat} {zs : List Int} {y : RS} {W : World} (R : Rt w h y W) (A : At zs 7 y) : Calls Tryz.prog 19 #[.pointer (some ⟨h, 0, none⟩)] W (StepPost w h zs 7) := by
  have c5 : W.cell? ⟨h, 5, none⟩ = some (.int .u32 y.f) := R.cell 5 rfl
  have hst := fun hne => A.stop (er := whoE y.zs y.f) (es := (clEs zs).drop 8) (by rw [whoE_z A]; rfl) hne
  by_cases hf : y.f = 0
  · have hn := rnothing_any R
    have hgo := fun he a' => cat7n A hf he a' (y.len - opL y.zs 400) (y.cap - opL y.zs 400)
    have hX : whoE y.zs y.f = notE y.zs := by rw [whoE, if_pos hf]
    rw [hX] at hst
    rw [hf] at c5
    clear R A hf hX
    go_enter Tryz.func19, Tryz.ntmps19
    go_wp2_with fail
    refine hn.mono ?_
    rintro e W' ⟨rfl, hh⟩
    go_wp2
    go_ret
    rcases hh with ⟨hne, hB⟩ | ⟨he, a', R'⟩
    · exact ⟨_, rfl, .inl ⟨hne, hst hne, hB⟩⟩
    · exact ⟨_, rfl, .inr ⟨he, _, R', hgo he a'⟩⟩
  · have ht := rtold_any R
    have hx : (y.f == 0) = false := by simp [hf]
    have HF : Hid (y.f ≠ 0) := hf
    have hbyt := R.byt
    have hlt := R.lt
    have hhw := R.hh
    clear R hf
    go_enter Tryz.func19, Tryz.ntmps19
    go_wp2_with fail
    refine ht.mono ?_
    rintro e W1 (⟨he, rfl, hB⟩ | ⟨he, v, rfl, ho, a', R1⟩)
    · have hX : whoE y.zs y.f = opE y.zs 400 := by rw [whoE, if_neg HF.out, if_neg he]
      rw [hX] at hst
      have HE : Hid (opE y.zs 400 ≠ 0) := he
      have hx2 : (opE y.zs 400 != 0) = true := by simp [he]
      generalize opE y.zs 400 = oe at *
      clear he hX ht A hx c5
      go_wp2
      go_ret
      exact ⟨_, rfl, .inl ⟨HE.out, hst HE.out, hB⟩⟩
    · have hX : whoE y.zs y.f = crE (opZ y.zs 400) := by rw [whoE, if_neg HF.out, if_pos he]
      rw [hX] at hst
      have hgo := fun hc ga gl gc => cat7w A HF.out he hc a' (y.len - opL y.zs 400) (y.cap - opL y.zs 400) ga gl gc
      obtain ⟨b, c, rfl, sb, hlc, hcm, _⟩ := own_val ho rfl
      have hz4 : (opZ y.zs 400).length ≤ 400 := by have := (op_again hbyt he).2.2.1; omega
      have hg := cget_any b (opZ y.zs 400).length c (opZ y.zs 400) W1 hlc hcm rfl (byt_opZ hbyt) sb
      clear he hX ht A hx c5 ho sb hbyt
      generalize opZ y.zs 400 = oz at *
      generalize hol : oz.length = ol at *
      go_wp2_with fail
      refine hg.mono ?_
      rintro e W2 ⟨v2, rfl, ho2, hb2⟩
      have R2 := R1.next hb2
      obtain ⟨a2, k2, rfl, _, _, _, _⟩ := own_val4 ho2 rfl
      have hlt1 := R1.lt
      have k7 : W2.cell? ⟨h, 7, none⟩ = some (.int .u32 y.s) := R2.cell 7 rfl
      have k6 : W2.cell? ⟨h, 6, none⟩ = some (.string y.m) := R2.cell 6 rfl
      have k8 : W2.cell? ⟨h, 8, none⟩ = some (.int .u32 y.u) := R2.cell 8 rfl
      have k9 : W2.cell? ⟨h, 9, none⟩ = some (.int .u32 y.g) := R2.cell 9 rfl
      have kA : W2.cell? ⟨h, 10, none⟩ = some (.slice y.ga y.gl y.gc) := R2.cell 10 rfl
      have f7 : W2.frozen? ⟨h, 7, none⟩ = false := R2.frozen 7
      have f6 : W2.frozen? ⟨h, 6, none⟩ = false := R2.frozen 6
      have f8 : W2.frozen? ⟨h, 8, none⟩ = false := R2.frozen 8
      have f9 : W2.frozen? ⟨h, 9, none⟩ = false := R2.frozen 9
      have fA : W2.frozen? ⟨h, 10, none⟩ = false := R2.frozen 10
      by_cases hc : crE oz = 0
      · have e1 : cgS oz = crS oz := by rw [cgS, if_pos hc]
        have e2 : cgM oz = crM oz := by rw [cgM, if_pos hc]
        have e3 : cgU oz = crU oz := by rw [cgU, if_pos hc]
        have e4 : cgG oz = crG oz := by rw [cgG, if_pos hc]
        have e5 : cgL oz = crL oz := by rw [cgL, if_pos hc]
        rw [e5] at ho2
        rw [e1, e2, e3, e4, e5, hc]
        have R3 := R2.five (crS oz) (strOfNums (crM oz)) (crU oz) (crG oz) a2 (crL oz).length k2 (crL oz) (own_base ho2 hlt1) rfl
        replace hgo := hgo hc a2 (crL oz).length k2
        clear e1 e2 e3 e4 e5 hc hst hg ho2 R1 hb2
        generalize crS oz = S at *
        generalize crU oz = U at *
        generalize crG oz = G at *
        generalize crL oz = L at *
        generalize strOfNums (crM oz) = M at *
        generalize L.length = ll at *
        go_wp2
        go_ret
        exact ⟨_, rfl, .inr ⟨rfl, _, R3, hgo⟩⟩
      · have hB3 := five_below R2.below hhw (.int .u32 (cgS oz)) (.string (strOfNums (cgM oz))) (.int .u32 (cgU oz)) (.int .u32 (cgG oz)) (.slice a2 (cgL oz).length k2)
        have HS : Hid (crE oz = firstE (clEs zs)) := hst hc
        have HC : Hid (crE oz ≠ 0) := hc
        clear hc hst hg ho2 R1 hb2 hgo
        generalize cgS oz = S at *
        generalize cgU oz = U at *
        generalize cgG oz = G at *
        generalize (cgL oz).length = L at *
        generalize strOfNums (cgM oz) = M at *
        generalize crE oz = E at *
        go_wp2
        go_ret
        exact ⟨_, rfl, .inl ⟨HC.out, HS.out, hB3⟩⟩
end Go.Proofs.YtciinabhelfnoaaGreatDoor
