/- 'perhaps' of the program: yes and what is had, or no; nothing that was there turns. -/
import Derived.Test.YtecbhhfncklefaaDoorPRowMx
import Derived.Test.YtecbhhfncklefaaDoorPMakeMx
import Derived.Test.YtecbhhfncklefaaDoorAttrMath2
import Derived.Test.YtecbhhfncklefaaDoorACell
import Derived.Deep.RegionHeld3
namespace Go.Proofs.YtecbhhfncklefaaDoor
set_option linter.unusedVariables false
open Go.RowKit

/-- What makes a part out of a value. -/
def Maker (F : FuncId) (x : Value) (m : Bool) (zs : List Int) : Prop :=
  (∀ (args : Array Value) (w : World), (callFunc F args).run Tryd.prog w = .ok (.enter F args) w) ∧ ∀ w, Calls Tryd.prog F #[x] w fun e w' => ∃ v, e = .returned v ∧ Tells w' v m zs ∧ Below w.heap.size w w'

/-- What was told ahead, in a block. -/
def Pp (W : World) (h : Nat) (z a b c d : Int) : Prop := W.heap[h]? = some (.cells #[.int .u64 z, .int .u32 a, .int .u32 b, .int .u32 c, .int .u32 d] 73)
theorem Pp.new (W : World) (z a b c d : Int) : Pp (W.alloc (.cells #[.int .u64 z, .int .u32 a, .int .u32 b, .int .u32 c, .int .u32 d] 73)) W.heap.size z a b c d := World.alloc_heap_new W _
theorem Pp.lt {W : World} {h : Nat} {z a b c d : Int} (t : Pp W h z a b c d) : h < W.heap.size := (Array.getElem?_eq_some_iff.1 t).1
theorem Pp.next {W W' : World} {h : Nat} {z a b c d : Int} (t : Pp W h z a b c d) (hb : Below W.heap.size W W') : Pp W' h z a b c d := (hb.block _ t.lt).trans t
theorem Pp.c {W : World} {h : Nat} {z a b c d : Int} (t : Pp W h z a b c d) : W.cell? ⟨h, 0, none⟩ = some (.int .u64 z) ∧ W.cell? ⟨h, 1, none⟩ = some (.int .u32 a) ∧ W.cell? ⟨h, 2, none⟩ = some (.int .u32 b) ∧ W.cell? ⟨h, 3, none⟩ = some (.int .u32 c) ∧ W.cell? ⟨h, 4, none⟩ = some (.int .u32 d) := by
  have t' : W.heap[h]? = _ := t
  refine ⟨?_, ?_, ?_, ?_, ?_⟩ <;> (simp only [World.cell?, t']; rfl)
set_option maxRecDepth 100000 in
theorem p_eqz (z a b c d : Int) (w : World) : (binOp .eql 73 (.agg #[.int .u64 z, .int .u32 a, .int .u32 b, .int .u32 c, .int .u32 d]) (.agg #[.int .u64 0, .int .u32 0, .int .u32 0, .int .u32 0, .int .u32 0])).run Tryd.prog w = .ok (.bool (z == 0 && (a == 0 && b == 0) && (c == 0 && d == 0))) w := by
  rw [run_eql_struct]
  cases e0 : (z == 0) <;> cases e1 : (a == 0) <;> cases e2 : (b == 0) <;> cases e3 : (c == 0) <;> cases e4 : (d == 0) <;> simp [go_sem, e0, e1, e2, e3, e4]
set_option maxRecDepth 100000 in
set_option maxHeartbeats 2000000 in
theorem a_eqz (x : Atr) (w : World) : (binOp .eql 28 (.agg #[.int .u32 x.kind, .int .u32 x.mode, .int .u32 x.links, .int .u32 x.user, .int .u32 x.group, .int .u64 x.size, .int .u64 x.used, .int .u64 x.id, .int .u32 x.rs, .int .u32 x.rn, .int .u32 x.ws, .int .u32 x.wn, .int .u32 x.ts, .int .u32 x.tn]) (.agg #[.int .u32 0, .int .u32 0, .int .u32 0, .int .u32 0, .int .u32 0, .int .u64 0, .int .u64 0, .int .u64 0, .int .u32 0, .int .u32 0, .int .u32 0, .int .u32 0, .int .u32 0, .int .u32 0])).run Tryd.prog w = .ok (.bool (az x)) w := by
  rw [run_eql_struct]
  cases e0 : (x.kind == 0)
  · simp [go_sem, az, e0]
  cases e1 : (x.mode == 0)
  · simp [go_sem, az, e0, e1]
  cases e2 : (x.links == 0)
  · simp [go_sem, az, e0, e1, e2]
  cases e3 : (x.user == 0)
  · simp [go_sem, az, e0, e1, e2, e3]
  cases e4 : (x.group == 0)
  · simp [go_sem, az, e0, e1, e2, e3, e4]
  cases e5 : (x.size == 0)
  · simp [go_sem, az, e0, e1, e2, e3, e4, e5]
  cases e6 : (x.used == 0)
  · simp [go_sem, az, e0, e1, e2, e3, e4, e5, e6]
  cases e7 : (x.id == 0)
  · simp [go_sem, az, e0, e1, e2, e3, e4, e5, e6, e7]
  cases e8 : (x.rs == 0)
  · simp [go_sem, az, e0, e1, e2, e3, e4, e5, e6, e7, e8]
  cases e9 : (x.rn == 0)
  · simp [go_sem, az, e0, e1, e2, e3, e4, e5, e6, e7, e8, e9]
  cases e10 : (x.ws == 0)
  · simp [go_sem, az, e0, e1, e2, e3, e4, e5, e6, e7, e8, e9, e10]
  cases e11 : (x.wn == 0)
  · simp [go_sem, az, e0, e1, e2, e3, e4, e5, e6, e7, e8, e9, e10, e11]
  cases e12 : (x.ts == 0)
  · simp [go_sem, az, e0, e1, e2, e3, e4, e5, e6, e7, e8, e9, e10, e11, e12]
  cases e13 : (x.tn == 0)
  · simp [go_sem, az, e0, e1, e2, e3, e4, e5, e6, e7, e8, e9, e10, e11, e12, e13]
  simp [go_sem, az, e0, e1, e2, e3, e4, e5, e6, e7, e8, e9, e10, e11, e12, e13]

theorem enter_peru : ∀ (args : Array Value) (w : World), (callFunc 62 args).run Tryd.prog w = .ok (.enter 62 args) w := fun _ _ => by simp [go_sem]
set_option maxRecDepth 100000 in
set_option maxHeartbeats 4000000 in
theorem peru1_any (has : Bool) (x : Int) (F : FuncId) (m : Bool) (zs : List Int) (hzl : zs.length ≤ 100000) (hF : Maker F (.int .u32 x) m zs) (g0 g1 g2 : Nat) (w : World)
    (c0 : w.cell? ⟨g0, 0, none⟩ = some (.bool has)) (c1 : w.cell? ⟨g1, 0, none⟩ = some (.func (.func F) #[] #[])) (c2 : w.cell? ⟨g2, 0, none⟩ = some (.int .u32 x)) :
    Calls Tryd.prog 62 #[.pointer (some ⟨g0, 0, none⟩), .pointer (some ⟨g1, 0, none⟩), .pointer (some ⟨g2, 0, none⟩)] w (Told1 (if has then m else (x == 0)) (yB has ++ if has then zs else []) w) := by
  obtain ⟨hen, hcall⟩ := hF
  have l1 := World.block_lt_of_cell? _ _ c1
  have l2 := World.block_lt_of_cell? _ _ c2
  cases has with
  | false =>
    have hl := yB_length false
    have ey : (yB false ++ if false = true then zs else []) = yB false := by simp
    rw [ey]
    clear ey
    cases hx : (x == 0) with
    | true =>
      go_enter Tryd.func62, Tryd.ntmps62
      go_wp2_with (first
        | (go_at_call 65; refine (need_yes _ _).mono ?_; rintro e w1 ⟨rfl, hw1⟩; subst hw1)
        | (go_at_call 64; refine (PutYes_any false _).mono ?_; rintro e w1 ⟨rfl, ho1, hb1⟩))
      go_ret
      exact told_yes hb1 hl (by simpa [yB] using ho1)
    | false =>
      go_enter Tryd.func62, Tryd.ntmps62
      go_wp2_with (first
        | (go_at_call 65; refine (need_no _ _).mono ?_; rintro e w1 ⟨rfl, hw1⟩; subst hw1))
      exact ⟨rfl, told_no (Below.refl _ _)⟩
  | true =>
    have hdr := below_draw w
    have S0 := And.intro ((hdr.cell (p := ⟨g1, 0, none⟩) l1).trans c1) ((hdr.cell (p := ⟨g2, 0, none⟩) l2).trans c2)
    cases m with
    | true =>
      go_enter Tryd.func62, Tryd.ntmps62
      go_wp2_with fail
      go_region_held3 (fun w' => w'.cell? ⟨g1, 0, none⟩ = some (.func (.func F) #[] #[]) ∧ w'.cell? ⟨g2, 0, none⟩ = some (.int .u32 x)) (first | with_reducible exact S5 | with_reducible exact S4 | with_reducible exact S3 | with_reducible exact S2 | with_reducible exact S1 | with_reducible exact S0) (first
        | (go_at_call 63; refine (concat_any [Part.mk (some ⟨w.heap.size, 0, none⟩) 4 4 (yB true), Part.mk a3 zs.length k3 zs] w3.heap.size 2 _ rfl (by omega) hk4 hi4 (by simp [allOf, yB_length]; omega)).mono ?_; rintro e w5 ⟨v, rfl, hown5, hb5⟩; have hB5 := hB4.trans (hb5.mono hB4.size); have S5 := And.intro ((hB5.cell (p := ⟨g1, 0, none⟩) l1).trans c1) ((hB5.cell (p := ⟨g2, 0, none⟩) l2).trans c2))
        | (refine (hcl w2 (Below.refl _ _)).mono ?_; intro e w3 hT; obtain ⟨hb3, v3, rfl, ho3⟩ := told_true hT; have hB3 := hB2.trans (hb3.mono hB2.size); obtain ⟨a3, k3, rfl, hs3, hn1, hn2, hn3⟩ := own_val ho3 rfl; have S3 := And.intro ((hB3.cell (p := ⟨g1, 0, none⟩) l1).trans c1) ((hB3.cell (p := ⟨g2, 0, none⟩) l2).trans c2); have hb4 : Below w3.heap.size w3 (w3.alloc (.cells #[.slice (some ⟨w.heap.size, 0, none⟩) 4 4, .slice a3 zs.length k3] 29)) := (Below.refl _ _).alloc (Nat.le_refl _) _; have hB4 := hB3.trans (hb4.mono hB3.size); have S4 := And.intro ((hB4.cell (p := ⟨g1, 0, none⟩) l1).trans c1) ((hB4.cell (p := ⟨g2, 0, none⟩) l2).trans c2); have q1 := own_mem (own_below (own_below (own_below ho1 hb2) hb3) hb4) (yB_length true); have q2 : (Part.mk a3 zs.length k3 zs).In (w3.alloc (.cells #[.slice (some ⟨w.heap.size, 0, none⟩) 4 4, .slice a3 zs.length k3] 29)) := ⟨rfl, hs3.below hb4, hn3⟩; have hi4 := parts_two q1 q2; have hk4 := cells_two w3 29 (Part.mk (some ⟨w.heap.size, 0, none⟩) 4 4 (yB true)) (Part.mk a3 zs.length k3 zs))
        | (refine (hcall w1).mono ?_; rintro e w2 ⟨v2, rfl, ⟨K2, caps, rfl, henK, hcl⟩, hb2⟩; have hB2 := hB1.trans (hb2.mono hB1.size); have S2 := And.intro ((hB2.cell (p := ⟨g1, 0, none⟩) l1).trans c1) ((hB2.cell (p := ⟨g2, 0, none⟩) l2).trans c2))
        | (go_at_call 64; refine (PutYes_any true _).mono ?_; rintro e w1 ⟨rfl, ho1, hb1⟩; have hB1 := hdr.trans hb1; have S1 := And.intro ((hB1.cell (p := ⟨g1, 0, none⟩) l1).trans c1) ((hB1.cell (p := ⟨g2, 0, none⟩) l2).trans c2)))
      have hown6 := own_base hown5 hB4.size
      rw [show allOf [Part.mk (some ⟨w.heap.size, 0, none⟩) 4 4 (yB true), Part.mk a3 zs.length k3 zs] = yB true ++ zs by simp [allOf]] at hown6
      clear S0 S1 S2 S3 S4 S5 hcall hcl c0 c1 c2
      go_wp2
      go_ret
      exact told_yes hB5 rfl hown6
    | false =>
      go_enter Tryd.func62, Tryd.ntmps62
      go_wp2_with fail
      refine wp_region_held_drew (S := (fun w' => w'.cell? ⟨g1, 0, none⟩ = some (.func (.func F) #[] #[]) ∧ w'.cell? ⟨g2, 0, none⟩ = some (.int .u32 x))) (by kernel_rfl) (by assumption) (fun hHeld => ?_)
      refine wpAnyH_take (i := 1) (v := ?v1) rfl (by kernel_rfl) (by kernel_rfl) (by kernel_rfl) (fun _ _ _ h => h) (Or.inl ⟨by rfl, ?y1⟩) (by assumption) ?r1
      case y1 => intro w hSw; go_simp; first | done | with_reducible rfl
      simp only [Act.put, List.getElem_toArray, List.getElem_cons_zero, List.getElem_cons_succ, List.setIfInBounds_toArray, List.set_cons_zero, List.set_cons_succ]
      refine wpAnyH_take (i := 2) (v := ?v2) rfl (by kernel_rfl) (by kernel_rfl) (by kernel_rfl) (fun _ _ _ h => h) (Or.inl ⟨by rfl, ?y2⟩) (by assumption) ?r2
      case y2 => intro w hSw; go_simp; first | done | with_reducible rfl
      simp only [Act.put, List.getElem_toArray, List.getElem_cons_zero, List.getElem_cons_succ, List.setIfInBounds_toArray, List.set_cons_zero, List.set_cons_succ]
      refine wpAnyH_ready (rs := [0]) (by kernel_rfl) (by simp) ?_
      refine AllReadyH.cons rfl (fun K hK => ?_) AllReadyH.nil
      go_simp
      refine (PutYes_any true _).mono ?_
      rintro e w1 ⟨rfl, ho1, hb1⟩
      have hB1 := hdr.trans hb1
      have S1 := And.intro ((hB1.cell (p := ⟨g1, 0, none⟩) l1).trans c1) ((hB1.cell (p := ⟨g2, 0, none⟩) l2).trans c2)
      go_wp2_with fail
      refine hK.out _ _ (by assumption) (fun hHeld => ?_)
      clear hK K
      try simp only [Act.put, List.getElem_toArray, List.getElem_cons_zero, List.getElem_cons_succ, List.setIfInBounds_toArray, List.set_cons_zero, List.set_cons_succ]
      refine wpAnyH_ready (rs := [3]) (by kernel_rfl) (by simp) ?_
      refine AllReadyH.cons rfl (fun K hK => ?_) AllReadyH.nil
      go_simp
      refine (hcall w1).mono ?_
      rintro e w2 ⟨v2, rfl, ⟨K2, caps, rfl, henK, hcl⟩, hb2⟩
      have hB2 := hB1.trans (hb2.mono hB1.size)
      have S2 := And.intro ((hB2.cell (p := ⟨g1, 0, none⟩) l1).trans c1) ((hB2.cell (p := ⟨g2, 0, none⟩) l2).trans c2)
      go_wp2_with fail
      refine hK.out _ _ (by assumption) (fun hHeld => ?_)
      clear hK K
      try simp only [Act.put, List.getElem_toArray, List.getElem_cons_zero, List.getElem_cons_succ, List.setIfInBounds_toArray, List.set_cons_zero, List.set_cons_succ]
      refine wpAnyH_ready (rs := [4]) (by kernel_rfl) (by simp) ?_
      refine AllReadyH.cons rfl (fun K hK => ?_) AllReadyH.nil
      go_simp
      refine (hcl w2 (Below.refl _ _)).mono ?_
      intro e w3 hT
      obtain ⟨hb3, rfl⟩ := told_false hT
      exact ⟨rfl, told_no (hB2.trans (hb3.mono hB2.size))⟩

theorem enter_perl : ∀ (args : Array Value) (w : World), (callFunc 69 args).run Tryd.prog w = .ok (.enter 69 args) w := fun _ _ => by simp [go_sem]
set_option maxRecDepth 100000 in
set_option maxHeartbeats 4000000 in
theorem perl1_any (has : Bool) (x : Int) (F : FuncId) (m : Bool) (zs : List Int) (hzl : zs.length ≤ 100000) (hF : Maker F (.int .u64 x) m zs) (g0 g1 g2 : Nat) (w : World)
    (c0 : w.cell? ⟨g0, 0, none⟩ = some (.bool has)) (c1 : w.cell? ⟨g1, 0, none⟩ = some (.func (.func F) #[] #[])) (c2 : w.cell? ⟨g2, 0, none⟩ = some (.int .u64 x)) :
    Calls Tryd.prog 69 #[.pointer (some ⟨g0, 0, none⟩), .pointer (some ⟨g1, 0, none⟩), .pointer (some ⟨g2, 0, none⟩)] w (Told1 (if has then m else (x == 0)) (yB has ++ if has then zs else []) w) := by
  obtain ⟨hen, hcall⟩ := hF
  have l1 := World.block_lt_of_cell? _ _ c1
  have l2 := World.block_lt_of_cell? _ _ c2
  cases has with
  | false =>
    have hl := yB_length false
    have ey : (yB false ++ if false = true then zs else []) = yB false := by simp
    rw [ey]
    clear ey
    cases hx : (x == 0) with
    | true =>
      go_enter Tryd.func69, Tryd.ntmps69
      go_wp2_with (first
        | (go_at_call 65; refine (need_yes _ _).mono ?_; rintro e w1 ⟨rfl, hw1⟩; subst hw1)
        | (go_at_call 64; refine (PutYes_any false _).mono ?_; rintro e w1 ⟨rfl, ho1, hb1⟩))
      go_ret
      exact told_yes hb1 hl (by simpa [yB] using ho1)
    | false =>
      go_enter Tryd.func69, Tryd.ntmps69
      go_wp2_with (first
        | (go_at_call 65; refine (need_no _ _).mono ?_; rintro e w1 ⟨rfl, hw1⟩; subst hw1))
      exact ⟨rfl, told_no (Below.refl _ _)⟩
  | true =>
    have hdr := below_draw w
    have S0 := And.intro ((hdr.cell (p := ⟨g1, 0, none⟩) l1).trans c1) ((hdr.cell (p := ⟨g2, 0, none⟩) l2).trans c2)
    cases m with
    | true =>
      go_enter Tryd.func69, Tryd.ntmps69
      go_wp2_with fail
      go_region_held3 (fun w' => w'.cell? ⟨g1, 0, none⟩ = some (.func (.func F) #[] #[]) ∧ w'.cell? ⟨g2, 0, none⟩ = some (.int .u64 x)) (first | with_reducible exact S5 | with_reducible exact S4 | with_reducible exact S3 | with_reducible exact S2 | with_reducible exact S1 | with_reducible exact S0) (first
        | (go_at_call 63; refine (concat_any [Part.mk (some ⟨w.heap.size, 0, none⟩) 4 4 (yB true), Part.mk a3 zs.length k3 zs] w3.heap.size 2 _ rfl (by omega) hk4 hi4 (by simp [allOf, yB_length]; omega)).mono ?_; rintro e w5 ⟨v, rfl, hown5, hb5⟩; have hB5 := hB4.trans (hb5.mono hB4.size); have S5 := And.intro ((hB5.cell (p := ⟨g1, 0, none⟩) l1).trans c1) ((hB5.cell (p := ⟨g2, 0, none⟩) l2).trans c2))
        | (refine (hcl w2 (Below.refl _ _)).mono ?_; intro e w3 hT; obtain ⟨hb3, v3, rfl, ho3⟩ := told_true hT; have hB3 := hB2.trans (hb3.mono hB2.size); obtain ⟨a3, k3, rfl, hs3, hn1, hn2, hn3⟩ := own_val ho3 rfl; have S3 := And.intro ((hB3.cell (p := ⟨g1, 0, none⟩) l1).trans c1) ((hB3.cell (p := ⟨g2, 0, none⟩) l2).trans c2); have hb4 : Below w3.heap.size w3 (w3.alloc (.cells #[.slice (some ⟨w.heap.size, 0, none⟩) 4 4, .slice a3 zs.length k3] 29)) := (Below.refl _ _).alloc (Nat.le_refl _) _; have hB4 := hB3.trans (hb4.mono hB3.size); have S4 := And.intro ((hB4.cell (p := ⟨g1, 0, none⟩) l1).trans c1) ((hB4.cell (p := ⟨g2, 0, none⟩) l2).trans c2); have q1 := own_mem (own_below (own_below (own_below ho1 hb2) hb3) hb4) (yB_length true); have q2 : (Part.mk a3 zs.length k3 zs).In (w3.alloc (.cells #[.slice (some ⟨w.heap.size, 0, none⟩) 4 4, .slice a3 zs.length k3] 29)) := ⟨rfl, hs3.below hb4, hn3⟩; have hi4 := parts_two q1 q2; have hk4 := cells_two w3 29 (Part.mk (some ⟨w.heap.size, 0, none⟩) 4 4 (yB true)) (Part.mk a3 zs.length k3 zs))
        | (refine (hcall w1).mono ?_; rintro e w2 ⟨v2, rfl, ⟨K2, caps, rfl, henK, hcl⟩, hb2⟩; have hB2 := hB1.trans (hb2.mono hB1.size); have S2 := And.intro ((hB2.cell (p := ⟨g1, 0, none⟩) l1).trans c1) ((hB2.cell (p := ⟨g2, 0, none⟩) l2).trans c2))
        | (go_at_call 64; refine (PutYes_any true _).mono ?_; rintro e w1 ⟨rfl, ho1, hb1⟩; have hB1 := hdr.trans hb1; have S1 := And.intro ((hB1.cell (p := ⟨g1, 0, none⟩) l1).trans c1) ((hB1.cell (p := ⟨g2, 0, none⟩) l2).trans c2)))
      have hown6 := own_base hown5 hB4.size
      rw [show allOf [Part.mk (some ⟨w.heap.size, 0, none⟩) 4 4 (yB true), Part.mk a3 zs.length k3 zs] = yB true ++ zs by simp [allOf]] at hown6
      clear S0 S1 S2 S3 S4 S5 hcall hcl c0 c1 c2
      go_wp2
      go_ret
      exact told_yes hB5 rfl hown6
    | false =>
      go_enter Tryd.func69, Tryd.ntmps69
      go_wp2_with fail
      refine wp_region_held_drew (S := (fun w' => w'.cell? ⟨g1, 0, none⟩ = some (.func (.func F) #[] #[]) ∧ w'.cell? ⟨g2, 0, none⟩ = some (.int .u64 x))) (by kernel_rfl) (by assumption) (fun hHeld => ?_)
      refine wpAnyH_take (i := 1) (v := ?v1) rfl (by kernel_rfl) (by kernel_rfl) (by kernel_rfl) (fun _ _ _ h => h) (Or.inl ⟨by rfl, ?y1⟩) (by assumption) ?r1
      case y1 => intro w hSw; go_simp; first | done | with_reducible rfl
      simp only [Act.put, List.getElem_toArray, List.getElem_cons_zero, List.getElem_cons_succ, List.setIfInBounds_toArray, List.set_cons_zero, List.set_cons_succ]
      refine wpAnyH_take (i := 2) (v := ?v2) rfl (by kernel_rfl) (by kernel_rfl) (by kernel_rfl) (fun _ _ _ h => h) (Or.inl ⟨by rfl, ?y2⟩) (by assumption) ?r2
      case y2 => intro w hSw; go_simp; first | done | with_reducible rfl
      simp only [Act.put, List.getElem_toArray, List.getElem_cons_zero, List.getElem_cons_succ, List.setIfInBounds_toArray, List.set_cons_zero, List.set_cons_succ]
      refine wpAnyH_ready (rs := [0]) (by kernel_rfl) (by simp) ?_
      refine AllReadyH.cons rfl (fun K hK => ?_) AllReadyH.nil
      go_simp
      refine (PutYes_any true _).mono ?_
      rintro e w1 ⟨rfl, ho1, hb1⟩
      have hB1 := hdr.trans hb1
      have S1 := And.intro ((hB1.cell (p := ⟨g1, 0, none⟩) l1).trans c1) ((hB1.cell (p := ⟨g2, 0, none⟩) l2).trans c2)
      go_wp2_with fail
      refine hK.out _ _ (by assumption) (fun hHeld => ?_)
      clear hK K
      try simp only [Act.put, List.getElem_toArray, List.getElem_cons_zero, List.getElem_cons_succ, List.setIfInBounds_toArray, List.set_cons_zero, List.set_cons_succ]
      refine wpAnyH_ready (rs := [3]) (by kernel_rfl) (by simp) ?_
      refine AllReadyH.cons rfl (fun K hK => ?_) AllReadyH.nil
      go_simp
      refine (hcall w1).mono ?_
      rintro e w2 ⟨v2, rfl, ⟨K2, caps, rfl, henK, hcl⟩, hb2⟩
      have hB2 := hB1.trans (hb2.mono hB1.size)
      have S2 := And.intro ((hB2.cell (p := ⟨g1, 0, none⟩) l1).trans c1) ((hB2.cell (p := ⟨g2, 0, none⟩) l2).trans c2)
      go_wp2_with fail
      refine hK.out _ _ (by assumption) (fun hHeld => ?_)
      clear hK K
      try simp only [Act.put, List.getElem_toArray, List.getElem_cons_zero, List.getElem_cons_succ, List.setIfInBounds_toArray, List.set_cons_zero, List.set_cons_succ]
      refine wpAnyH_ready (rs := [4]) (by kernel_rfl) (by simp) ?_
      refine AllReadyH.cons rfl (fun K hK => ?_) AllReadyH.nil
      go_simp
      refine (hcl w2 (Below.refl _ _)).mono ?_
      intro e w3 hT
      obtain ⟨hb3, rfl⟩ := told_false hT
      exact ⟨rfl, told_no (hB2.trans (hb3.mono hB2.size))⟩

theorem enter_perp : ∀ (args : Array Value) (w : World), (callFunc 74 args).run Tryd.prog w = .ok (.enter 74 args) w := fun _ _ => by simp [go_sem]
set_option maxRecDepth 100000 in
set_option maxHeartbeats 4000000 in
theorem perp1_any (has : Bool) (z a b c d : Int) (F : FuncId) (m : Bool) (zs : List Int) (hzl : zs.length ≤ 100000) (hF : Maker F (.agg #[.int .u64 z, .int .u32 a, .int .u32 b, .int .u32 c, .int .u32 d]) m zs) (g0 g1 g2 : Nat) (w : World)
    (c0 : w.cell? ⟨g0, 0, none⟩ = some (.bool has)) (c1 : w.cell? ⟨g1, 0, none⟩ = some (.func (.func F) #[] #[])) (c2 : Pp w g2 z a b c d) :
    Calls Tryd.prog 74 #[.pointer (some ⟨g0, 0, none⟩), .pointer (some ⟨g1, 0, none⟩), .pointer (some ⟨g2, 0, none⟩)] w (Told1 (if has then m else (z == 0 && (a == 0 && b == 0) && (c == 0 && d == 0))) (yB has ++ if has then zs else []) w) := by
  obtain ⟨hen, hcall⟩ := hF
  have l1 := World.block_lt_of_cell? _ _ c1
  have l2 := c2.lt
  cases has with
  | false =>
    have hl := yB_length false
    have ey : (yB false ++ if false = true then zs else []) = yB false := by simp
    rw [ey]
    clear ey
    have hba : Below w.heap.size w (w.alloc (.cells #[.int .u64 0, .int .u32 0, .int .u32 0, .int .u32 0, .int .u32 0] 73)) := (Below.refl _ _).alloc (Nat.le_refl _) _
    obtain ⟨d0, d1, d2, d3, d4⟩ := (c2.next hba).c
    have heq := fun W => p_eqz z a b c d W
    cases hx : (z == 0 && (a == 0 && b == 0) && (c == 0 && d == 0)) with
    | true =>
      rw [hx] at heq
      go_enter Tryd.func74, Tryd.ntmps74
      go_wp2_with (first
        | (go_at_call 65; refine (need_yes _ _).mono ?_; rintro e w1 ⟨rfl, hw1⟩; subst hw1)
        | (go_at_call 64; refine (PutYes_any false _).mono ?_; rintro e w1 ⟨rfl, ho1, hb1⟩))
      go_ret
      exact told_yes (hba.trans (hb1.mono hba.size)) hl (own_base (by simpa [yB] using ho1) hba.size)
    | false =>
      rw [hx] at heq
      go_enter Tryd.func74, Tryd.ntmps74
      go_wp2_with (first
        | (go_at_call 65; refine (need_no _ _).mono ?_; rintro e w1 ⟨rfl, hw1⟩; subst hw1))
      exact ⟨rfl, told_no hba⟩
  | true =>
    have hdr := below_draw w
    have S0 := And.intro ((hdr.cell (p := ⟨g1, 0, none⟩) l1).trans c1) (c2.next hdr).c
    cases m with
    | true =>
      go_enter Tryd.func74, Tryd.ntmps74
      go_wp2_with fail
      go_region_held3 (fun w' => w'.cell? ⟨g1, 0, none⟩ = some (.func (.func F) #[] #[]) ∧ w'.cell? ⟨g2, 0, none⟩ = some (.int .u64 z) ∧ w'.cell? ⟨g2, 1, none⟩ = some (.int .u32 a) ∧ w'.cell? ⟨g2, 2, none⟩ = some (.int .u32 b) ∧ w'.cell? ⟨g2, 3, none⟩ = some (.int .u32 c) ∧ w'.cell? ⟨g2, 4, none⟩ = some (.int .u32 d)) (first | with_reducible exact S5 | with_reducible exact S4 | with_reducible exact S3 | with_reducible exact S2 | with_reducible exact S1 | with_reducible exact S0) (first
        | (go_at_call 63; refine (concat_any [Part.mk (some ⟨w.heap.size, 0, none⟩) 4 4 (yB true), Part.mk a3 zs.length k3 zs] w3.heap.size 2 _ rfl (by omega) hk4 hi4 (by simp [allOf, yB_length]; omega)).mono ?_; rintro e w5 ⟨v, rfl, hown5, hb5⟩; have hB5 := hB4.trans (hb5.mono hB4.size); have S5 := And.intro ((hB5.cell (p := ⟨g1, 0, none⟩) l1).trans c1) (c2.next hB5).c)
        | (refine (hcl w2 (Below.refl _ _)).mono ?_; intro e w3 hT; obtain ⟨hb3, v3, rfl, ho3⟩ := told_true hT; have hB3 := hB2.trans (hb3.mono hB2.size); obtain ⟨a3, k3, rfl, hs3, hn1, hn2, hn3⟩ := own_val ho3 rfl; have S3 := And.intro ((hB3.cell (p := ⟨g1, 0, none⟩) l1).trans c1) (c2.next hB3).c; have hb4 : Below w3.heap.size w3 (w3.alloc (.cells #[.slice (some ⟨w.heap.size, 0, none⟩) 4 4, .slice a3 zs.length k3] 29)) := (Below.refl _ _).alloc (Nat.le_refl _) _; have hB4 := hB3.trans (hb4.mono hB3.size); have S4 := And.intro ((hB4.cell (p := ⟨g1, 0, none⟩) l1).trans c1) (c2.next hB4).c; have q1 := own_mem (own_below (own_below (own_below ho1 hb2) hb3) hb4) (yB_length true); have q2 : (Part.mk a3 zs.length k3 zs).In (w3.alloc (.cells #[.slice (some ⟨w.heap.size, 0, none⟩) 4 4, .slice a3 zs.length k3] 29)) := ⟨rfl, hs3.below hb4, hn3⟩; have hi4 := parts_two q1 q2; have hk4 := cells_two w3 29 (Part.mk (some ⟨w.heap.size, 0, none⟩) 4 4 (yB true)) (Part.mk a3 zs.length k3 zs))
        | (refine (hcall w1).mono ?_; rintro e w2 ⟨v2, rfl, ⟨K2, caps, rfl, henK, hcl⟩, hb2⟩; have hB2 := hB1.trans (hb2.mono hB1.size); have S2 := And.intro ((hB2.cell (p := ⟨g1, 0, none⟩) l1).trans c1) (c2.next hB2).c)
        | (go_at_call 64; refine (PutYes_any true _).mono ?_; rintro e w1 ⟨rfl, ho1, hb1⟩; have hB1 := hdr.trans hb1; have S1 := And.intro ((hB1.cell (p := ⟨g1, 0, none⟩) l1).trans c1) (c2.next hB1).c))
      have hown6 := own_base hown5 hB4.size
      rw [show allOf [Part.mk (some ⟨w.heap.size, 0, none⟩) 4 4 (yB true), Part.mk a3 zs.length k3 zs] = yB true ++ zs by simp [allOf]] at hown6
      clear S0 S1 S2 S3 S4 S5 hcall hcl c0 c1 c2
      go_wp2
      go_ret
      exact told_yes hB5 rfl hown6
    | false =>
      go_enter Tryd.func74, Tryd.ntmps74
      go_wp2_with fail
      refine wp_region_held_drew (S := (fun w' => w'.cell? ⟨g1, 0, none⟩ = some (.func (.func F) #[] #[]) ∧ w'.cell? ⟨g2, 0, none⟩ = some (.int .u64 z) ∧ w'.cell? ⟨g2, 1, none⟩ = some (.int .u32 a) ∧ w'.cell? ⟨g2, 2, none⟩ = some (.int .u32 b) ∧ w'.cell? ⟨g2, 3, none⟩ = some (.int .u32 c) ∧ w'.cell? ⟨g2, 4, none⟩ = some (.int .u32 d))) (by kernel_rfl) (by assumption) (fun hHeld => ?_)
      refine wpAnyH_take (i := 1) (v := ?v1) rfl (by kernel_rfl) (by kernel_rfl) (by kernel_rfl) (fun _ _ _ h => h) (Or.inl ⟨by rfl, ?y1⟩) (by assumption) ?r1
      case y1 => intro w hSw; go_simp; first | done | with_reducible rfl
      simp only [Act.put, List.getElem_toArray, List.getElem_cons_zero, List.getElem_cons_succ, List.setIfInBounds_toArray, List.set_cons_zero, List.set_cons_succ]
      refine wpAnyH_take (i := 2) (v := ?v2) rfl (by kernel_rfl) (by kernel_rfl) (by kernel_rfl) (fun _ _ _ h => h) (Or.inl ⟨by rfl, ?y2⟩) (by assumption) ?r2
      case y2 => intro w hSw; go_simp; first | done | with_reducible rfl
      simp only [Act.put, List.getElem_toArray, List.getElem_cons_zero, List.getElem_cons_succ, List.setIfInBounds_toArray, List.set_cons_zero, List.set_cons_succ]
      refine wpAnyH_ready (rs := [0]) (by kernel_rfl) (by simp) ?_
      refine AllReadyH.cons rfl (fun K hK => ?_) AllReadyH.nil
      go_simp
      refine (PutYes_any true _).mono ?_
      rintro e w1 ⟨rfl, ho1, hb1⟩
      have hB1 := hdr.trans hb1
      have S1 := And.intro ((hB1.cell (p := ⟨g1, 0, none⟩) l1).trans c1) (c2.next hB1).c
      go_wp2_with fail
      refine hK.out _ _ (by assumption) (fun hHeld => ?_)
      clear hK K
      try simp only [Act.put, List.getElem_toArray, List.getElem_cons_zero, List.getElem_cons_succ, List.setIfInBounds_toArray, List.set_cons_zero, List.set_cons_succ]
      refine wpAnyH_ready (rs := [3]) (by kernel_rfl) (by simp) ?_
      refine AllReadyH.cons rfl (fun K hK => ?_) AllReadyH.nil
      go_simp
      refine (hcall w1).mono ?_
      rintro e w2 ⟨v2, rfl, ⟨K2, caps, rfl, henK, hcl⟩, hb2⟩
      have hB2 := hB1.trans (hb2.mono hB1.size)
      have S2 := And.intro ((hB2.cell (p := ⟨g1, 0, none⟩) l1).trans c1) (c2.next hB2).c
      go_wp2_with fail
      refine hK.out _ _ (by assumption) (fun hHeld => ?_)
      clear hK K
      try simp only [Act.put, List.getElem_toArray, List.getElem_cons_zero, List.getElem_cons_succ, List.setIfInBounds_toArray, List.set_cons_zero, List.set_cons_succ]
      refine wpAnyH_ready (rs := [4]) (by kernel_rfl) (by simp) ?_
      refine AllReadyH.cons rfl (fun K hK => ?_) AllReadyH.nil
      go_simp
      refine (hcl w2 (Below.refl _ _)).mono ?_
      intro e w3 hT
      obtain ⟨hb3, rfl⟩ := told_false hT
      exact ⟨rfl, told_no (hB2.trans (hb3.mono hB2.size))⟩

theorem enter_pera : ∀ (args : Array Value) (w : World), (callFunc 75 args).run Tryd.prog w = .ok (.enter 75 args) w := fun _ _ => by simp [go_sem]
set_option maxRecDepth 100000 in
set_option maxHeartbeats 4000000 in
theorem pera1_any (has : Bool) (x : Atr) (F : FuncId) (m : Bool) (zs : List Int) (hzl : zs.length ≤ 100000) (hF : Maker F (.agg #[.int .u32 x.kind, .int .u32 x.mode, .int .u32 x.links, .int .u32 x.user, .int .u32 x.group, .int .u64 x.size, .int .u64 x.used, .int .u64 x.id, .int .u32 x.rs, .int .u32 x.rn, .int .u32 x.ws, .int .u32 x.wn, .int .u32 x.ts, .int .u32 x.tn]) m zs) (g0 g1 g2 : Nat) (w : World)
    (c0 : w.cell? ⟨g0, 0, none⟩ = some (.bool has)) (c1 : w.cell? ⟨g1, 0, none⟩ = some (.func (.func F) #[] #[])) (c2 : Ap w g2 x) :
    Calls Tryd.prog 75 #[.pointer (some ⟨g0, 0, none⟩), .pointer (some ⟨g1, 0, none⟩), .pointer (some ⟨g2, 0, none⟩)] w (Told1 (if has then m else (az x)) (yB has ++ if has then zs else []) w) := by
  obtain ⟨hen, hcall⟩ := hF
  have l1 := World.block_lt_of_cell? _ _ c1
  have l2 := c2.lt
  cases has with
  | false =>
    have hl := yB_length false
    have ey : (yB false ++ if false = true then zs else []) = yB false := by simp
    rw [ey]
    clear ey
    have hba : Below w.heap.size w (w.alloc (.cells #[.int .u32 0, .int .u32 0, .int .u32 0, .int .u32 0, .int .u32 0, .int .u64 0, .int .u64 0, .int .u64 0, .int .u32 0, .int .u32 0, .int .u32 0, .int .u32 0, .int .u32 0, .int .u32 0] 28)) := (Below.refl _ _).alloc (Nat.le_refl _) _
    obtain ⟨d0, d1, d2, d3, d4, d5, d6, d7, d8, d9, d10, d11, d12, d13⟩ := (c2.next hba).c
    have heq := fun W => a_eqz x W
    cases hx : (az x) with
    | true =>
      rw [hx] at heq
      go_enter Tryd.func75, Tryd.ntmps75
      go_wp2_with (first
        | (go_at_call 65; refine (need_yes _ _).mono ?_; rintro e w1 ⟨rfl, hw1⟩; subst hw1)
        | (go_at_call 64; refine (PutYes_any false _).mono ?_; rintro e w1 ⟨rfl, ho1, hb1⟩))
      go_ret
      exact told_yes (hba.trans (hb1.mono hba.size)) hl (own_base (by simpa [yB] using ho1) hba.size)
    | false =>
      rw [hx] at heq
      go_enter Tryd.func75, Tryd.ntmps75
      go_wp2_with (first
        | (go_at_call 65; refine (need_no _ _).mono ?_; rintro e w1 ⟨rfl, hw1⟩; subst hw1))
      exact ⟨rfl, told_no hba⟩
  | true =>
    have hdr := below_draw w
    have S0 := And.intro ((hdr.cell (p := ⟨g1, 0, none⟩) l1).trans c1) (c2.next hdr).c
    cases m with
    | true =>
      go_enter Tryd.func75, Tryd.ntmps75
      go_wp2_with fail
      go_region_held3 (fun w' => w'.cell? ⟨g1, 0, none⟩ = some (.func (.func F) #[] #[]) ∧ w'.cell? ⟨g2, 0, none⟩ = some (.int .u32 x.kind) ∧ w'.cell? ⟨g2, 1, none⟩ = some (.int .u32 x.mode) ∧ w'.cell? ⟨g2, 2, none⟩ = some (.int .u32 x.links) ∧ w'.cell? ⟨g2, 3, none⟩ = some (.int .u32 x.user) ∧ w'.cell? ⟨g2, 4, none⟩ = some (.int .u32 x.group) ∧ w'.cell? ⟨g2, 5, none⟩ = some (.int .u64 x.size) ∧ w'.cell? ⟨g2, 6, none⟩ = some (.int .u64 x.used) ∧ w'.cell? ⟨g2, 7, none⟩ = some (.int .u64 x.id) ∧ w'.cell? ⟨g2, 8, none⟩ = some (.int .u32 x.rs) ∧ w'.cell? ⟨g2, 9, none⟩ = some (.int .u32 x.rn) ∧ w'.cell? ⟨g2, 10, none⟩ = some (.int .u32 x.ws) ∧ w'.cell? ⟨g2, 11, none⟩ = some (.int .u32 x.wn) ∧ w'.cell? ⟨g2, 12, none⟩ = some (.int .u32 x.ts) ∧ w'.cell? ⟨g2, 13, none⟩ = some (.int .u32 x.tn)) (first | with_reducible exact S5 | with_reducible exact S4 | with_reducible exact S3 | with_reducible exact S2 | with_reducible exact S1 | with_reducible exact S0) (first
        | (go_at_call 63; refine (concat_any [Part.mk (some ⟨w.heap.size, 0, none⟩) 4 4 (yB true), Part.mk a3 zs.length k3 zs] w3.heap.size 2 _ rfl (by omega) hk4 hi4 (by simp [allOf, yB_length]; omega)).mono ?_; rintro e w5 ⟨v, rfl, hown5, hb5⟩; have hB5 := hB4.trans (hb5.mono hB4.size); have S5 := And.intro ((hB5.cell (p := ⟨g1, 0, none⟩) l1).trans c1) (c2.next hB5).c)
        | (refine (hcl w2 (Below.refl _ _)).mono ?_; intro e w3 hT; obtain ⟨hb3, v3, rfl, ho3⟩ := told_true hT; have hB3 := hB2.trans (hb3.mono hB2.size); obtain ⟨a3, k3, rfl, hs3, hn1, hn2, hn3⟩ := own_val ho3 rfl; have S3 := And.intro ((hB3.cell (p := ⟨g1, 0, none⟩) l1).trans c1) (c2.next hB3).c; have hb4 : Below w3.heap.size w3 (w3.alloc (.cells #[.slice (some ⟨w.heap.size, 0, none⟩) 4 4, .slice a3 zs.length k3] 29)) := (Below.refl _ _).alloc (Nat.le_refl _) _; have hB4 := hB3.trans (hb4.mono hB3.size); have S4 := And.intro ((hB4.cell (p := ⟨g1, 0, none⟩) l1).trans c1) (c2.next hB4).c; have q1 := own_mem (own_below (own_below (own_below ho1 hb2) hb3) hb4) (yB_length true); have q2 : (Part.mk a3 zs.length k3 zs).In (w3.alloc (.cells #[.slice (some ⟨w.heap.size, 0, none⟩) 4 4, .slice a3 zs.length k3] 29)) := ⟨rfl, hs3.below hb4, hn3⟩; have hi4 := parts_two q1 q2; have hk4 := cells_two w3 29 (Part.mk (some ⟨w.heap.size, 0, none⟩) 4 4 (yB true)) (Part.mk a3 zs.length k3 zs))
        | (refine (hcall w1).mono ?_; rintro e w2 ⟨v2, rfl, ⟨K2, caps, rfl, henK, hcl⟩, hb2⟩; have hB2 := hB1.trans (hb2.mono hB1.size); have S2 := And.intro ((hB2.cell (p := ⟨g1, 0, none⟩) l1).trans c1) (c2.next hB2).c)
        | (go_at_call 64; refine (PutYes_any true _).mono ?_; rintro e w1 ⟨rfl, ho1, hb1⟩; have hB1 := hdr.trans hb1; have S1 := And.intro ((hB1.cell (p := ⟨g1, 0, none⟩) l1).trans c1) (c2.next hB1).c))
      have hown6 := own_base hown5 hB4.size
      rw [show allOf [Part.mk (some ⟨w.heap.size, 0, none⟩) 4 4 (yB true), Part.mk a3 zs.length k3 zs] = yB true ++ zs by simp [allOf]] at hown6
      clear S0 S1 S2 S3 S4 S5 hcall hcl c0 c1 c2
      go_wp2
      go_ret
      exact told_yes hB5 rfl hown6
    | false =>
      go_enter Tryd.func75, Tryd.ntmps75
      go_wp2_with fail
      refine wp_region_held_drew (S := (fun w' => w'.cell? ⟨g1, 0, none⟩ = some (.func (.func F) #[] #[]) ∧ w'.cell? ⟨g2, 0, none⟩ = some (.int .u32 x.kind) ∧ w'.cell? ⟨g2, 1, none⟩ = some (.int .u32 x.mode) ∧ w'.cell? ⟨g2, 2, none⟩ = some (.int .u32 x.links) ∧ w'.cell? ⟨g2, 3, none⟩ = some (.int .u32 x.user) ∧ w'.cell? ⟨g2, 4, none⟩ = some (.int .u32 x.group) ∧ w'.cell? ⟨g2, 5, none⟩ = some (.int .u64 x.size) ∧ w'.cell? ⟨g2, 6, none⟩ = some (.int .u64 x.used) ∧ w'.cell? ⟨g2, 7, none⟩ = some (.int .u64 x.id) ∧ w'.cell? ⟨g2, 8, none⟩ = some (.int .u32 x.rs) ∧ w'.cell? ⟨g2, 9, none⟩ = some (.int .u32 x.rn) ∧ w'.cell? ⟨g2, 10, none⟩ = some (.int .u32 x.ws) ∧ w'.cell? ⟨g2, 11, none⟩ = some (.int .u32 x.wn) ∧ w'.cell? ⟨g2, 12, none⟩ = some (.int .u32 x.ts) ∧ w'.cell? ⟨g2, 13, none⟩ = some (.int .u32 x.tn))) (by kernel_rfl) (by assumption) (fun hHeld => ?_)
      refine wpAnyH_take (i := 1) (v := ?v1) rfl (by kernel_rfl) (by kernel_rfl) (by kernel_rfl) (fun _ _ _ h => h) (Or.inl ⟨by rfl, ?y1⟩) (by assumption) ?r1
      case y1 => intro w hSw; go_simp; first | done | with_reducible rfl
      simp only [Act.put, List.getElem_toArray, List.getElem_cons_zero, List.getElem_cons_succ, List.setIfInBounds_toArray, List.set_cons_zero, List.set_cons_succ]
      refine wpAnyH_take (i := 2) (v := ?v2) rfl (by kernel_rfl) (by kernel_rfl) (by kernel_rfl) (fun _ _ _ h => h) (Or.inl ⟨by rfl, ?y2⟩) (by assumption) ?r2
      case y2 => intro w hSw; go_simp; first | done | with_reducible rfl
      simp only [Act.put, List.getElem_toArray, List.getElem_cons_zero, List.getElem_cons_succ, List.setIfInBounds_toArray, List.set_cons_zero, List.set_cons_succ]
      refine wpAnyH_ready (rs := [0]) (by kernel_rfl) (by simp) ?_
      refine AllReadyH.cons rfl (fun K hK => ?_) AllReadyH.nil
      go_simp
      refine (PutYes_any true _).mono ?_
      rintro e w1 ⟨rfl, ho1, hb1⟩
      have hB1 := hdr.trans hb1
      have S1 := And.intro ((hB1.cell (p := ⟨g1, 0, none⟩) l1).trans c1) (c2.next hB1).c
      go_wp2_with fail
      refine hK.out _ _ (by assumption) (fun hHeld => ?_)
      clear hK K
      try simp only [Act.put, List.getElem_toArray, List.getElem_cons_zero, List.getElem_cons_succ, List.setIfInBounds_toArray, List.set_cons_zero, List.set_cons_succ]
      refine wpAnyH_ready (rs := [3]) (by kernel_rfl) (by simp) ?_
      refine AllReadyH.cons rfl (fun K hK => ?_) AllReadyH.nil
      go_simp
      refine (hcall w1).mono ?_
      rintro e w2 ⟨v2, rfl, ⟨K2, caps, rfl, henK, hcl⟩, hb2⟩
      have hB2 := hB1.trans (hb2.mono hB1.size)
      have S2 := And.intro ((hB2.cell (p := ⟨g1, 0, none⟩) l1).trans c1) (c2.next hB2).c
      go_wp2_with fail
      refine hK.out _ _ (by assumption) (fun hHeld => ?_)
      clear hK K
      try simp only [Act.put, List.getElem_toArray, List.getElem_cons_zero, List.getElem_cons_succ, List.setIfInBounds_toArray, List.set_cons_zero, List.set_cons_succ]
      refine wpAnyH_ready (rs := [4]) (by kernel_rfl) (by simp) ?_
      refine AllReadyH.cons rfl (fun K hK => ?_) AllReadyH.nil
      go_simp
      refine (hcl w2 (Below.refl _ _)).mono ?_
      intro e w3 hT
      obtain ⟨hb3, rfl⟩ := told_false hT
      exact ⟨rfl, told_no (hB2.trans (hb3.mono hB2.size))⟩
end Go.Proofs.YtecbhhfncklefaaDoor
