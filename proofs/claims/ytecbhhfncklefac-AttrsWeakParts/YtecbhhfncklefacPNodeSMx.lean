/- 'node' of the reader: what is told of a node, next; nothing but the reader turns. -/
import Derived.Test.YtecbhhfncklefacPNodeMMx
namespace Go.Proofs.Ytecbhhfncklefac
set_option linter.unusedVariables false
open Go.RowKit

theorem sz_kind : (Try.prog.info? 23).map (·.size) = some 1 := by kernel_rfl
theorem sz_u32 : (Try.prog.info? 22).map (·.size) = some 1 := by kernel_rfl
theorem sz_u64 : (Try.prog.info? 24).map (·.size) = some 1 := by kernel_rfl
theorem at_info : (Try.prog.info? 28).map (·.size) = some 14 := by kernel_rfl
def attV (x : Atr) : Value := .agg #[.int .u32 x.kind, .int .u32 x.mode, .int .u32 x.links, .int .u32 x.user, .int .u32 x.group, .int .u64 x.size, .int .u64 x.used, .int .u64 x.id, .int .u32 x.rs, .int .u32 x.rn, .int .u32 x.ws, .int .u32 x.wn, .int .u32 x.ts, .int .u32 x.tn]
theorem bad_attr {s : Rd} (he : s.e = 0) (hl : 84 ≤ s.r.length) (hp : (midRaw (rawOf s.r) && amay (ofRaw (rawOf s.r))) = false) : Aft attrC s zeroA ⟨s.r, s.n, 5⟩ := by
  have h := (attr_got s.r s.n).2.1 hl hp
  rw [← Rd.clean s he] at h
  exact ⟨h.symm, fun h0 => by cases h0⟩
theorem short_attr {s : Rd} (he : s.e = 0) (hl : s.r.length < 84) : Aft attrC s zeroA ⟨s.r, s.n, 4⟩ := by
  have h := (attr_got s.r s.n).1 hl
  rw [← Rd.clean s he] at h
  exact ⟨h.symm, fun h0 => by cases h0⟩
theorem good_attr {s : Rd} (he : s.e = 0) (hl : 84 ≤ s.r.length) (hp : (midRaw (rawOf s.r) && amay (ofRaw (rawOf s.r))) = true) : Aft attrC s (ofRaw (rawOf s.r)) (s.at 84) := by
  have h := (attr_got s.r s.n).2.2 hl hp
  rw [← Rd.clean s he] at h
  exact ⟨by rw [h]; rfl, fun _ => by rw [h]; rfl⟩
theorem p_attr (r : List Int) : (midRaw (rawOf r) && amay (ofRaw (rawOf r))) = ((n8 r 36 == 0 && n8 r 44 == 1) && (kok (n4 r 0) && decide (n4 r 4 ≤ 4095) && tok (n4 r 64) && tok (n4 r 72) && tok (n4 r 80))) := rfl

set_option maxRecDepth 100000 in
set_option maxHeartbeats 8000000 in
theorem rdnode_short (W : World) (h : Nat) (a : Option Addr) (len cap : Nat) (zs : List Int) (s : Rd) (R : Rb W h a len cap zs s) (he : s.e = 0) (hlen : s.r.length < 84) :
    Calls Try.prog 33 #[.pointer (some ⟨h, 0, none⟩)] W (Got attrC attV W h a len cap zs s) := by
  have hn := R.on.n
  have hzl := R.len
  have hlc := R.lc
  have hmx := R.max
  have hrl : s.r.length = len - s.n := by rw [R.on.r, List.length_drop, hzl]
  have hbyt : Byt s.r := by rw [R.on.r]; exact byt_tail R.byt s.n
  have hqh : W.heap.size ≠ h := Nat.ne_of_gt R.lt
  have hB1 : Below W.heap.size W (W.alloc (.cells #[.int .u32 0, .int .u32 0, .int .u32 0, .int .u32 0, .int .u32 0, .int .u64 0, .int .u64 0, .int .u64 0, .int .u32 0, .int .u32 0, .int .u32 0, .int .u32 0, .int .u32 0, .int .u32 0] 28)) := (Below.refl _ _).alloc (Nat.le_refl _) _
  have N0 : Nd W h a len cap zs W.heap.size 28 (W.alloc (.cells #[.int .u32 0, .int .u32 0, .int .u32 0, .int .u32 0, .int .u32 0, .int .u64 0, .int .u64 0, .int .u64 0, .int .u32 0, .int .u32 0, .int .u32 0, .int .u32 0, .int .u32 0, .int .u32 0] 28)) s #[.int .u32 0, .int .u32 0, .int .u32 0, .int .u32 0, .int .u32 0, .int .u64 0, .int .u64 0, .int .u64 0, .int .u32 0, .int .u32 0, .int .u32 0, .int .u32 0, .int .u32 0, .int .u32 0] := ⟨grown_below hB1 _, R.next hB1, World.alloc_heap_new W _⟩
  clear R hB1
  have hd := short_attr he hlen
  have hwr : IntKind.i64.wrap ((len : Int) - (s.n : Int)) = (len : Int) - (s.n : Int) := by rw [IntKind.wrap_i64]; omega
  have hge : decide ((84 : Int) ≤ IntKind.i64.wrap ((len : Int) - (s.n : Int))) = false := by rw [hwr]; simp; omega
  clear hwr
  go_enter Try.func33, Try.ntmps33
  go_wp2_with fail
  generalize (W.alloc (.cells #[.int .u32 0, .int .u32 0, .int .u32 0, .int .u32 0, .int .u32 0, .int .u64 0, .int .u64 0, .int .u64 0, .int .u32 0, .int .u32 0, .int .u32 0, .int .u32 0, .int .u32 0, .int .u32 0] 28)) = W1 at *
  have N1 := N0.next (below_draw W1)
  obtain ⟨c0, c1⟩ := N1.R.c
  have S0 := And.intro c0 c1
  refine wp_region_held_drew (S := fun w' => w'.cell? ⟨h, 0, none⟩ = some (.slice a len cap) ∧ w'.cell? ⟨h, 1, none⟩ = some (.int .i64 (s.n : Int))) (by kernel_rfl) (by assumption) (fun hHeld => ?_)
  refine wpAnyH_take (i := 0) (v := ?v0) rfl (by kernel_rfl) (by kernel_rfl) (by kernel_rfl) (fun _ _ _ h => h) (Or.inl ⟨by rfl, ?y0⟩) (by assumption) ?r0
  case y0 => intro w hSw; go_simp; first | done | with_reducible rfl
  simp only [Act.put, List.getElem_toArray, List.getElem_cons_zero, List.setIfInBounds_toArray, List.set_cons_zero, List.set_cons_succ]
  refine wpAnyH_take (i := 1) (v := ?v1) rfl (by kernel_rfl) (by kernel_rfl) (by kernel_rfl) (fun _ _ _ h => h) (Or.inl ⟨by rfl, ?y1⟩) (by assumption) ?r1
  case y1 => intro w hSw; go_simp; first | done | with_reducible rfl
  simp only [Act.put, List.getElem_toArray, List.getElem_cons_zero, List.getElem_cons_succ, List.setIfInBounds_toArray, List.set_cons_zero, List.set_cons_succ]
  refine wpAnyH_take (i := 2) (v := ?v2) rfl (by kernel_rfl) (by kernel_rfl) (by kernel_rfl) (fun _ _ _ h => h) (Or.inl ⟨by rfl, ?y2⟩) (by assumption) ?r2
  case y2 => intro w hSw; go_simp; first | done | with_reducible rfl
  simp only [Act.put, List.getElem_toArray, List.getElem_cons_zero, List.getElem_cons_succ, List.setIfInBounds_toArray, List.set_cons_zero, List.set_cons_succ]
  refine wpAnyH_take (i := 3) (v := ?v3) rfl (by kernel_rfl) (by kernel_rfl) (by kernel_rfl) (fun _ _ _ h => h) (Or.inl ⟨by rfl, ?y3⟩) (by assumption) ?r3
  case y3 => intro w hSw; go_simp; first | done | with_reducible rfl
  simp only [Act.put, List.getElem_toArray, List.getElem_cons_zero, List.getElem_cons_succ, List.setIfInBounds_toArray, List.set_cons_zero, List.set_cons_succ]
  refine wpAnyH_take (i := 4) (v := ?v4) rfl (by kernel_rfl) (by kernel_rfl) (by kernel_rfl) (fun _ _ _ h => h) (Or.inl ⟨by rfl, ?y4⟩) (by assumption) ?r4
  case y4 => intro w hSw; go_simp; first | done | with_reducible rfl
  simp only [Act.put, List.getElem_toArray, List.getElem_cons_zero, List.getElem_cons_succ, List.setIfInBounds_toArray, List.set_cons_zero, List.set_cons_succ]
  refine wpAnyH_take (i := 5) (v := ?v5) rfl (by kernel_rfl) (by kernel_rfl) (by kernel_rfl) (fun _ _ _ h => h) (Or.inl ⟨by rfl, ?y5⟩) (by assumption) ?r5
  case y5 => intro w hSw; go_simp; first | done | with_reducible rfl
  simp only [Act.put, List.getElem_toArray, List.getElem_cons_zero, List.getElem_cons_succ, List.setIfInBounds_toArray, List.set_cons_zero, List.set_cons_succ]
  refine wpAnyH_take (i := 6) (v := ?v6) rfl (by kernel_rfl) (by kernel_rfl) (by kernel_rfl) (fun _ _ _ h => h) (Or.inl ⟨by rfl, ?y6⟩) (by assumption) ?r6
  case y6 => intro w hSw; go_simp; first | done | with_reducible rfl
  simp only [Act.put, List.getElem_toArray, List.getElem_cons_zero, List.getElem_cons_succ, List.setIfInBounds_toArray, List.set_cons_zero, List.set_cons_succ]
  refine wpAnyH_take (i := 7) (v := ?v7) rfl (by kernel_rfl) (by kernel_rfl) (by kernel_rfl) (fun _ _ _ h => h) (Or.inl ⟨by rfl, ?y7⟩) (by assumption) ?r7
  case y7 => intro w hSw; go_simp; first | done | with_reducible rfl
  simp only [Act.put, List.getElem_toArray, List.getElem_cons_zero, List.getElem_cons_succ, List.setIfInBounds_toArray, List.set_cons_zero, List.set_cons_succ]
  refine wpAnyH_take (i := 8) (v := ?v8) rfl (by kernel_rfl) (by kernel_rfl) (by kernel_rfl) (fun _ _ _ h => h) (Or.inl ⟨by rfl, ?y8⟩) (by assumption) ?r8
  case y8 => intro w hSw; go_simp; first | done | with_reducible rfl
  simp only [Act.put, List.getElem_toArray, List.getElem_cons_zero, List.getElem_cons_succ, List.setIfInBounds_toArray, List.set_cons_zero, List.set_cons_succ]
  refine wpAnyH_take (i := 9) (v := ?v9) rfl (by kernel_rfl) (by kernel_rfl) (by kernel_rfl) (fun _ _ _ h => h) (Or.inl ⟨by rfl, ?y9⟩) (by assumption) ?r9
  case y9 => intro w hSw; go_simp; first | done | with_reducible rfl
  simp only [Act.put, List.getElem_toArray, List.getElem_cons_zero, List.getElem_cons_succ, List.setIfInBounds_toArray, List.set_cons_zero, List.set_cons_succ]
  refine wpAnyH_take (i := 10) (v := ?v10) rfl (by kernel_rfl) (by kernel_rfl) (by kernel_rfl) (fun _ _ _ h => h) (Or.inl ⟨by rfl, ?y10⟩) (by assumption) ?r10
  case y10 => intro w hSw; go_simp; first | done | with_reducible rfl
  simp only [Act.put, List.getElem_toArray, List.getElem_cons_zero, List.getElem_cons_succ, List.setIfInBounds_toArray, List.set_cons_zero, List.set_cons_succ]
  refine wpAnyH_ready (rs := [11]) (by kernel_rfl) (by simp) ?_
  refine AllReadyH.cons rfl (fun K hK => ?_) AllReadyH.nil
  go_simp
  try rw [hge]
  refine (need_no _ _).mono ?_
  rintro e w1 ⟨rfl, hw1⟩
  subst w1
  exact ⟨rfl, N1.g, _, _, hd, .inr ⟨by simp, rfl⟩⟩

end Go.Proofs.Ytecbhhfncklefac
