/- The walk of 'CredsMore': true for anybody, any Groups more, any group; nothing that was there turns. -/
import Derived.Test.YtmanblfmdpdfoabBeyonds
import Derived.Test.YtmanblfmdpdfoabAliveCr
import Derived.Test.YtmanblfmdpdfoabAppendEach
import Derived.Deep.RegionHeld3
import Derived.WalkSmall
namespace Go.Proofs.Ytmanblfmdpdfoab
set_option linter.unusedVariables false
open Go.RowKit

theorem infoN : (Try.prog.info? 22).map (fun i => (i.zero, i.size, i.bytes)) = some (some (.int .u32 0), 1, 4) := by kernel_rfl

/-- What stays: the two boxes, the Groups, and all of them. -/
structure Km (w : World) (H T : Nat) (u g : Int) (a : Option Addr) (len cap : Nat) (gs : List Int) (aa : Option Addr) (n ca : Nat) (L : List Int) (W : World) : Prop where
  below : Below w.heap.size w W
  one : W.heap[H]? = some (.cells #[.int .u32 u, .int .u32 g, .slice a len cap] 25)
  two : W.heap[T]? = some (.cells #[.int .u32 u, .int .u32 g, .slice aa n ca] 25)
  seg : Seg4 W a gs
  all : Seg4 W aa L

theorem Km.next {w : World} {H T : Nat} {u g : Int} {a : Option Addr} {len cap : Nat} {gs : List Int} {aa : Option Addr} {n ca : Nat} {L : List Int} {W : World} {W' : World} (h : Km w H T u g a len cap gs aa n ca L W) (hb : Below W.heap.size W W') : Km w H T u g a len cap gs aa n ca L W' :=
  ⟨h.below.trans (hb.mono h.below.size), (hb.block _ (Array.getElem?_eq_some_iff.1 h.one).1).trans h.one, (hb.block _ (Array.getElem?_eq_some_iff.1 h.two).1).trans h.two, h.seg.below hb, h.all.below hb⟩

theorem Km.cells {w : World} {H T : Nat} {u g : Int} {a : Option Addr} {len cap : Nat} {gs : List Int} {aa : Option Addr} {n ca : Nat} {L : List Int} {W : World} (h : Km w H T u g a len cap gs aa n ca L W) : ((W.cell? ⟨H, 0, none⟩ = some (.int .u32 u) ∧ W.cell? ⟨H, 1, none⟩ = some (.int .u32 g) ∧ W.cell? ⟨H, 2, none⟩ = some (.slice a len cap)) ∧ (W.cell? ⟨T, 0, none⟩ = some (.int .u32 u) ∧ W.cell? ⟨T, 1, none⟩ = some (.int .u32 g) ∧ W.cell? ⟨T, 2, none⟩ = some (.slice aa n ca)) ∧ Km w H T u g a len cap gs aa n ca L W) :=
  have h1 := cred_at h.one
  have h2 := cred_at h.two
  ⟨⟨h1.1, h1.2.1, h1.2.2.1⟩, ⟨h2.1, h2.2.1, h2.2.2.1⟩, h⟩

section
variable {w : World} {H T : Nat} {u g : Int} {a : Option Addr} {len cap : Nat} {gs : List Int} {aa : Option Addr} {n ca : Nat} {L : List Int} {W : World}

theorem km_all (h : Km w H T u g a len cap gs aa n ca L W) (x : Int) (R : Bool) (hR : Hid (inG g L x = R)) (hl : n ≤ 9223372036854775807) (hz : L.length = n) :
    Calls Try.prog 7 #[.agg #[.int .u32 u, .int .u32 g, .slice aa n ca], .int .u32 x] W fun e W' => e = .returned (.bool R) ∧ ((W'.cell? ⟨H, 0, none⟩ = some (.int .u32 u) ∧ W'.cell? ⟨H, 1, none⟩ = some (.int .u32 g) ∧ W'.cell? ⟨H, 2, none⟩ = some (.slice a len cap)) ∧ (W'.cell? ⟨T, 0, none⟩ = some (.int .u32 u) ∧ W'.cell? ⟨T, 1, none⟩ = some (.int .u32 g) ∧ W'.cell? ⟨T, 2, none⟩ = some (.slice aa n ca)) ∧ Km w H T u g a len cap gs aa n ca L W') := by
  refine (in_any u g _ n _ L x W hl hz h.all).mono ?_
  rintro e W' ⟨rfl, hb⟩
  exact ⟨by rw [hR.out], (h.next hb).cells⟩
theorem km_c (h : Km w H T u g a len cap gs aa n ca L W) (x : Int) (R : Bool) (hR : Hid (inG g gs x = R)) (hl : len ≤ 9223372036854775807) (hz : gs.length = len) :
    Calls Try.prog 7 #[.agg #[.int .u32 u, .int .u32 g, .slice a len cap], .int .u32 x] W fun e W' => e = .returned (.bool R) ∧ ((W'.cell? ⟨H, 0, none⟩ = some (.int .u32 u) ∧ W'.cell? ⟨H, 1, none⟩ = some (.int .u32 g) ∧ W'.cell? ⟨H, 2, none⟩ = some (.slice a len cap)) ∧ (W'.cell? ⟨T, 0, none⟩ = some (.int .u32 u) ∧ W'.cell? ⟨T, 1, none⟩ = some (.int .u32 g) ∧ W'.cell? ⟨T, 2, none⟩ = some (.slice aa n ca)) ∧ Km w H T u g a len cap gs aa n ca L W') := by
  refine (in_any u g _ len _ gs x W hl hz h.seg).mono ?_
  rintro e W' ⟨rfl, hb⟩
  exact ⟨by rw [hR.out], (h.next hb).cells⟩
theorem km_none (h : Km w H T u g a len cap gs aa n ca L W) (x : Int) (R : Bool) (hR : Hid (inG g [] x = R)) :
    Calls Try.prog 7 #[.agg #[.int .u32 0, .int .u32 g, .slice none 0 0], .int .u32 x] W fun e W' => e = .returned (.bool R) ∧ ((W'.cell? ⟨H, 0, none⟩ = some (.int .u32 u) ∧ W'.cell? ⟨H, 1, none⟩ = some (.int .u32 g) ∧ W'.cell? ⟨H, 2, none⟩ = some (.slice a len cap)) ∧ (W'.cell? ⟨T, 0, none⟩ = some (.int .u32 u) ∧ W'.cell? ⟨T, 1, none⟩ = some (.int .u32 g) ∧ W'.cell? ⟨T, 2, none⟩ = some (.slice aa n ca)) ∧ Km w H T u g a len cap gs aa n ca L W') := by
  refine (in_any 0 g none 0 0 [] x W (by omega) rfl (.inl rfl)).mono ?_
  rintro e W' ⟨rfl, hb⟩
  exact ⟨by rw [hR.out], (h.next hb).cells⟩
end

theorem inG_more (g : Int) (ms gs : List Int) (x : Int) : inG g (ms ++ gs) x = (inG g gs x || hasN ms x) := by
  unfold inG hasN
  rw [List.contains_eq_mem, List.contains_eq_mem, List.contains_eq_mem]
  simp only [List.mem_append]
  by_cases h1 : g = x <;> by_cases h2 : x ∈ ms <;> by_cases h3 : x ∈ gs <;> simp [h1, h2, h3]
theorem own_join {W : World} {base e : Nat} {v : Value} {n1 n2 : Nat} {ms gs : List Int} (h : W.ownsRow base e 1 v (0 + n1 + n2) ([] ++ ms.map (Value.int .u32) ++ gs.map (Value.int .u32))) : W.ownsRow base e 1 v (n1 + n2) ((ms ++ gs).map (Value.int .u32)) := by
  rwa [List.nil_append, ← List.map_append, Nat.zero_add] at h
theorem inG_self (g : Int) (gs : List Int) : inG g gs g = true := by simp [inG]
theorem inG_none (g x : Int) : inG g [] x = (x == g) := by
  unfold inG hasN
  by_cases h : g = x
  · simp [h]
  · have h' : ¬ x = g := fun e => h e.symm
    rw [beq_false_of_ne h, beq_false_of_ne h']
    rfl
theorem hasN_snoc {ms : List Int} {k : Nat} {y x : Int} (h : k < ms.length) (hy : ms[k]?.getD 0 = y) : hasN (ms.take (k + 1)) x = (hasN (ms.take k) x || (y == x)) := by
  rw [List.getElem?_eq_getElem h, Option.getD_some] at hy
  subst hy
  unfold hasN
  rw [List.contains_eq_mem, List.contains_eq_mem, List.take_succ_eq_append_getElem h]
  simp only [List.mem_append, List.mem_singleton]
  by_cases h1 : x ∈ ms.take k <;> by_cases h2 : x = ms[k]
  · simp [h2]
  · simp [h1]
  · simp [h2]
  · have h3 : ¬ ms[k] = x := fun e => h2 e.symm
    simp [h1, h2, h3]

set_option maxRecDepth 100000 in
set_option maxHeartbeats 4000000 in
theorem cmore_walk (u g : Int) (a : Option Addr) (len cap : Nat) (gs : List Int) (a1 : Option Addr) (len1 cap1 : Nat) (ms : List Int) (x : Int) (w : World) (hlc : len ≤ cap) (hcm : cap ≤ 140737488351232) (hz : gs.length = len) (hs : Seg4 w a gs) (hn : a = none → len = 0 ∧ cap = 0)
    (hlc1 : len1 ≤ cap1) (hcm1 : cap1 ≤ 140737488351232) (hz1 : ms.length = len1) (hs1 : Seg4 w a1 ms) (hn1 : a1 = none → len1 = 0 ∧ cap1 = 0) :
    Calls Try.prog 3 #[.agg #[.int .u32 u, .int .u32 g, .slice a len cap], .slice a1 len1 cap1, .int .u32 x] w fun e w' => e = .returned (.bool true) ∧ Below w.heap.size w w' := by
  obtain ⟨i0, hi, iz0, iz1, iz2⟩ := info_parts infoN
  have hB0 : Below w.heap.size w (w.alloc (.cells #[.int .u32 u, .int .u32 g, .slice a len cap] 25)) := (Below.refl _ _).alloc (Nat.le_refl _) _
  have hd0 := heap_alloc_new w (.cells #[.int .u32 u, .int .u32 g, .slice a len cap] 25)
  cases hbey : beyond 0 [len, len1] with
  | true =>
    go_enter Try.func3, Try.ntmps3
    go_wp2_with fail
    generalize w.alloc (.cells #[.int .u32 u, .int .u32 g, .slice a len cap] 25) = w0 at *
    refine (alive_any w0).mono ?_
    rintro e w1 ⟨rfl, hb1⟩
    have hB1 := hB0.trans (hb1.mono hB0.size)
    have hd1 := (hb1.block _ (Array.getElem?_eq_some_iff.1 hd0).1).trans hd0
    obtain ⟨_, _, c2, _, _, _⟩ := cred_at hd1
    go_wp2_with fail
    refine (beyond_any [len, len1] _ 2 _ rfl (by omega) (by intro n hn; simp at hn; omega) (cell_pair w1 3 len len1)).mono ?_
    rintro e w' ⟨rfl, rfl⟩
    rw [hbey]
    have hB2 := hB1.alloc hB1.size (.cells #[.int .i64 (len : Int), .int .i64 (len1 : Int)] 3)
    generalize w1.alloc (.cells #[.int .i64 (len : Int), .int .i64 (len1 : Int)] 3) = w2 at *
    clear c2 hd1 hB1 hb1
    go_wp2_with fail
    refine (alive_any _).mono ?_
    rintro e w3 ⟨rfl, hb3⟩
    go_wp2
    go_ret
    exact ⟨rfl, hB2.trans (hb3.mono hB2.size)⟩
  | false =>
    have hl1 := beyond_le hbey (n := len) (by simp)
    have hl2 := beyond_le hbey (n := len1) (by simp)
    go_enter Try.func3, Try.ntmps3
    go_wp2_with fail
    generalize w.alloc (.cells #[.int .u32 u, .int .u32 g, .slice a len cap] 25) = w0 at *
    refine (alive_any w0).mono ?_
    rintro e w1 ⟨rfl, hb1⟩
    have hB1 := hB0.trans (hb1.mono hB0.size)
    have hd1 := (hb1.block _ (Array.getElem?_eq_some_iff.1 hd0).1).trans hd0
    clear hB0 hd0 hb1
    obtain ⟨_, _, c2, _, _, _⟩ := cred_at hd1
    go_wp2_with fail
    refine (beyond_any [len, len1] _ 2 _ rfl (by omega) (by intro n hn; simp at hn; omega) (cell_pair w1 3 len len1)).mono ?_
    rintro e w' ⟨rfl, rfl⟩
    rw [hbey]
    have hb2 : Below w1.heap.size w1 (w1.alloc (.cells #[.int .i64 (len : Int), .int .i64 (len1 : Int)] 3)) := (Below.refl _ _).alloc (Nat.le_refl _) _
    generalize w1.alloc (.cells #[.int .i64 (len : Int), .int .i64 (len1 : Int)] 3) = w2 at *
    have hB2 := hB1.trans (hb2.mono hB1.size)
    have hd2 := (hb2.block _ (Array.getElem?_eq_some_iff.1 hd1).1).trans hd1
    have hs2 := hs.below hB2
    have hs12 := hs1.below hB2
    clear hB1 hd1 hb2 c2 hbey
    obtain ⟨c0, c1, c2, _, _, _⟩ := cred_at hd2
    go_wp2_with (first
      | (at_builtin; refine wpList_append_each _ rfl _ _ 23 rfl w2.heap.size 22 i0 (.int .u32 0) 1 4 Try.underlying23 hi iz0 iz1 iz2 rfl (by decide) (.slice none 0 0) 0 [] rfl (own_empty w2 _ _) a1 len1 cap1 (ms.map (Value.int .u32)) rfl hn1 (by simp [hz1]) (fun b hb => seg4_news (by rw [← hb]; exact hs12)) (news_one4 ms) (by unfold maxLen; omega) (by omega) (Nat.le_refl _) ?_; intro v3 w3 ho3 hg3; have hb3 : Below w2.heap.size w2 w3 := (Below.refl _ _).grown hg3 (Nat.le_refl _) (fun k e => by cases e); have hd3 := (hb3.block _ (Array.getElem?_eq_some_iff.1 hd2).1).trans hd2; obtain ⟨d0, d1, d2, _, _, _⟩ := cred_at hd3; have hs3 := hs2.below hb3)
      | (at_builtin; refine wpList_append_each _ rfl _ _ 23 rfl w2.heap.size 22 i0 (.int .u32 0) 1 4 Try.underlying23 hi iz0 iz1 iz2 rfl (by decide) v3 (0 + len1) _ rfl ho3 a len cap (gs.map (Value.int .u32)) rfl hn (by simp [hz]) (fun b hb => seg4_news (by rw [← hb]; exact hs3)) (news_one4 gs) (by unfold maxLen; omega) (by omega) hb3.size ?_; intro v4 w4 ho4 hg4; have hb4 : Below w2.heap.size w2 w4 := hb3.grown hg4 hb3.size (fun k e => own_low ho3 e); have hd4 := (hb4.block _ (Array.getElem?_eq_some_iff.1 hd2).1).trans hd2; obtain ⟨f0, f1, f2, _, _, _⟩ := cred_at hd4; obtain ⟨aa, ca, rfl, hsL, _, _, _⟩ := own_val4 (own_join ho4) (by rw [List.length_append, hz, hz1])))
    have hzL : (ms ++ gs).length = len1 + len := by rw [List.length_append, hz, hz1]
    have hB4 := hB2.trans (hb4.mono hB2.size)
    have hm1 := inG_more g ms gs x
    generalize ms ++ gs = L at hsL hzL hm1
    clear ho3 hg3 hb3 hd3 d0 d1 d2 hs3 ho4 hg4 hb4 c0 c1 c2 hd2 hs2 hB2
    have hb5 : Below w4.heap.size w4 (w4.alloc (.cells #[.int .u32 u, .int .u32 g, .slice aa (len1 + len) ca] 25)) := (Below.refl _ _).alloc (Nat.le_refl _) _
    have k5 : Km w w.heap.size w4.heap.size u g a len cap gs aa (len1 + len) ca L (w4.alloc (.cells #[.int .u32 u, .int .u32 g, .slice aa (len1 + len) ca] 25)) :=
      ⟨hB4.trans (hb5.mono hB4.size), (hb5.block _ (Array.getElem?_eq_some_iff.1 hd4).1).trans hd4, heap_alloc_new w4 _, (hs.below hB4).below hb5, hsL.below hb5⟩
    have hs15 := (hs1.below hB4).below hb5
    clear hb5 hB4 hd4 hsL f0 f1 f2 hs hs1 hs12
    generalize w4.alloc (.cells #[.int .u32 u, .int .u32 g, .slice aa (len1 + len) ca] 25) = w5 at *
    obtain ⟨H, hH⟩ : ∃ H, H = w.heap.size := ⟨_, rfl⟩
    rw [← hH] at k5 ⊢
    clear hH
    generalize w4.heap.size = T at *
    have hnb : len1 + len ≤ 9223372036854775807 := by omega
    generalize len1 + len = n at *
    go_loop [9, 10] (fun am i => ∃ k : Nat, k ≤ len1 ∧ i = .int .i64 k ∧ am = .bool (hasN (ms.take k) x)) (fun _ i => len1 - (intOf i).toNat)
    case atStart => exact ⟨0, by omega, rfl, rfl⟩
    case round =>
      obtain ⟨k, hk, rfl, rfl⟩ := hrel
      by_cases hlt : k < len1
      · rcases hs15 with rfl | ⟨b, off, rfl, hc⟩
        · simp at hz1; omega
        · have hcx := hc k (by omega)
          obtain ⟨y, hy⟩ : ∃ y, ms[k]?.getD 0 = y := ⟨_, rfl⟩
          have HS : Hid (hasN (ms.take (k + 1)) x = (hasN (ms.take k) x || (y == x))) := hasN_snoc (by omega) hy
          rw [hy] at hcx
          clear hy hc
          have hki : (k : Int) < (len1 : Int) := by omega
          generalize hasN (ms.take k) x = A at *
          cases A with
          | true =>
            go_wp2
            go_round
            case rel => exact ⟨k + 1, by omega, by go_num, by rw [HS.out]; rfl⟩
            case measure => simp [intOf]; omega
          | false =>
            go_wp2
            go_round
            case rel => exact ⟨k + 1, by omega, by go_num, by rw [HS.out]; simp⟩
            case measure => simp [intOf]; omega
      · obtain rfl : k = len1 := by omega
        rw [List.take_of_length_le (by omega)]
        have k6 := (k5.next (below_drewN (Below.refl _ _) 1)).cells
        have k6' := k6.2.2
        have HS : Hid (inG g gs g = true) := inG_self g gs
        have HO : Hid (inG g [] x = (x == g)) := inG_none g x
        generalize hasN ms x = A at *
        have qe : ∀ b : Bool, (b == b) = true := by simp
        have qx := qe (x == g)
        have qa := qe A
        generalize hxg : (x == g) = E at *
        cases hI : inG g gs x with
        | false =>
          rw [hI, Bool.false_or] at hm1
          have HL : Hid (inG g L x = A) := hm1
          have HI : Hid (inG g gs x = false) := hI
          clear hm1 hI
          go_wp2_with fail
          go_region_held3 (fun w' => ((w'.cell? ⟨H, 0, none⟩ = some (.int .u32 u) ∧ w'.cell? ⟨H, 1, none⟩ = some (.int .u32 g) ∧ w'.cell? ⟨H, 2, none⟩ = some (.slice a len cap)) ∧ (w'.cell? ⟨T, 0, none⟩ = some (.int .u32 u) ∧ w'.cell? ⟨T, 1, none⟩ = some (.int .u32 g) ∧ w'.cell? ⟨T, 2, none⟩ = some (.slice aa n ca)) ∧ Km w H T u g a len cap gs aa n ca L w')) (assumption) (first
            | (go_at_call_of 7 (Value.slice aa n ca); refine (km_all (by assumption) x _ HL hnb hzL).mono ?_; rintro e w' ⟨rfl, hk⟩; have hk2 := hk.2.2)
            | (go_at_call_of 7 (Value.int IntKind.u32 0); refine (km_none (by assumption) x _ HO).mono ?_; rintro e w' ⟨rfl, hk⟩; have hk2 := hk.2.2)
            | (go_at_call_of 7 (Value.int IntKind.u32 x); refine (km_c (by assumption) x _ HI (by omega) hz).mono ?_; rintro e w' ⟨rfl, hk⟩; have hk2 := hk.2.2)
            | (go_at_call 7; refine (km_c (by assumption) g _ HS (by omega) hz).mono ?_; rintro e w' ⟨rfl, hk⟩; have hk2 := hk.2.2))
          all_goals
            go_wp2
            go_ret
            exact ⟨by simp, (by assumption : Km w _ _ u g a len cap gs aa _ ca L _).below⟩
        | true =>
          rw [hI, Bool.true_or] at hm1
          have HL : Hid (inG g L x = true) := hm1
          have HI : Hid (inG g gs x = true) := hI
          clear hm1 hI
          go_wp2_with fail
          refine wp_region_noPanic ?_
          refine wp_region_held_drew (S := (fun w' => ((w'.cell? ⟨H, 0, none⟩ = some (.int .u32 u) ∧ w'.cell? ⟨H, 1, none⟩ = some (.int .u32 g) ∧ w'.cell? ⟨H, 2, none⟩ = some (.slice a len cap)) ∧ (w'.cell? ⟨T, 0, none⟩ = some (.int .u32 u) ∧ w'.cell? ⟨T, 1, none⟩ = some (.int .u32 g) ∧ w'.cell? ⟨T, 2, none⟩ = some (.slice aa n ca)) ∧ Km w H T u g a len cap gs aa n ca L w'))) (by kernel_rfl) (by assumption) (fun hHeld => ?_)
          refine wpAnyH_take (i := 0) (v := ?v0) rfl (by kernel_rfl) (by kernel_rfl) (by kernel_rfl) (fun _ _ _ h => h) (Or.inl ⟨by rfl, ?y0⟩) (by assumption) ?r0
          case y0 => intro w hSw; obtain ⟨⟨s0, s1, s2⟩, ⟨s3, s4, s5⟩, s6⟩ := hSw; go_simp; first | done | with_reducible rfl
          simp only [Act.put, List.getElem_toArray, List.getElem_cons_zero, List.setIfInBounds_toArray, List.set_cons_zero, List.set_cons_succ]
          refine wpAnyH_take (i := 1) (v := ?v1) rfl (by kernel_rfl) (by kernel_rfl) (by kernel_rfl) (fun _ _ _ h => h) (Or.inl ⟨by rfl, ?y1⟩) (by assumption) ?r1
          case y1 => intro w hSw; obtain ⟨⟨s0, s1, s2⟩, ⟨s3, s4, s5⟩, s6⟩ := hSw; go_simp; first | done | with_reducible rfl
          simp only [Act.put, List.getElem_toArray, List.getElem_cons_zero, List.getElem_cons_succ, List.setIfInBounds_toArray, List.set_cons_zero, List.set_cons_succ]
          refine wpAnyH_take (i := 3) (v := ?v3) rfl (by kernel_rfl) (by kernel_rfl) (by kernel_rfl) (fun _ _ _ h => h) (Or.inl ⟨by rfl, ?y3⟩) (by assumption) ?r3
          case y3 => intro w hSw; obtain ⟨⟨s0, s1, s2⟩, ⟨s3, s4, s5⟩, s6⟩ := hSw; go_simp; first | done | with_reducible rfl
          simp only [Act.put, List.getElem_toArray, List.getElem_cons_zero, List.getElem_cons_succ, List.setIfInBounds_toArray, List.set_cons_zero, List.set_cons_succ]
          refine wpAnyH_take (i := 4) (v := ?v4) rfl (by kernel_rfl) (by kernel_rfl) (by kernel_rfl) (fun _ _ _ h => h) (Or.inl ⟨by rfl, ?y4⟩) (by assumption) ?r4
          case y4 => intro w hSw; obtain ⟨⟨s0, s1, s2⟩, ⟨s3, s4, s5⟩, s6⟩ := hSw; go_simp; first | done | with_reducible rfl
          simp only [Act.put, List.getElem_toArray, List.getElem_cons_zero, List.getElem_cons_succ, List.setIfInBounds_toArray, List.set_cons_zero, List.set_cons_succ]
          refine wpAnyH_ready (rs := [2]) (by kernel_rfl) (by simp) ?_
          refine AllReadyH.cons rfl (fun K hK => ?_) AllReadyH.nil
          go_simp
          refine (km_all (by assumption) x _ HL hnb hzL).mono ?_; rintro e w' ⟨rfl, hk⟩; have hk2 := hk.2.2
          go_wp2_with fail
          refine hK.out _ _ (by assumption) (fun hHeld => ?_)
          clear hK K
          try simp only [Act.put, List.getElem_toArray, List.getElem_cons_zero, List.getElem_cons_succ, List.setIfInBounds_toArray, List.set_cons_zero, List.set_cons_succ]
          refine wpAnyH_ready (rs := [5]) (by kernel_rfl) (by simp) ?_
          refine AllReadyH.cons rfl (fun K hK => ?_) AllReadyH.nil
          go_simp
          refine (km_c (by assumption) x _ HI (by omega) hz).mono ?_; rintro e w' ⟨rfl, hk⟩; have hk2 := hk.2.2
          go_wp2_with fail
          refine hK.out _ _ (by assumption) (fun hHeld => ?_)
          clear hK K
          try simp only [Act.put, List.getElem_toArray, List.getElem_cons_zero, List.getElem_cons_succ, List.setIfInBounds_toArray, List.set_cons_zero, List.set_cons_succ]
          refine wpAnyH_take (i := 6) (v := ?v6) rfl (by kernel_rfl) (by kernel_rfl) (by kernel_rfl) (fun _ _ _ h => h) (Or.inl ⟨by rfl, ?y6⟩) (by assumption) ?r6
          case y6 => intro w hSw; obtain ⟨⟨s0, s1, s2⟩, ⟨s3, s4, s5⟩, s6⟩ := hSw; go_simp; first | done | with_reducible rfl
          simp only [Act.put, List.getElem_toArray, List.getElem_cons_zero, List.getElem_cons_succ, List.setIfInBounds_toArray, List.set_cons_zero, List.set_cons_succ]
          refine wpAnyH_take (i := 7) (v := undef) rfl (by kernel_rfl) (by kernel_rfl) (by kernel_rfl) (fun _ _ _ h => h) (Or.inr ⟨by rfl, rfl⟩) (by assumption) ?_
          simp only [Act.put, List.getElem_toArray, List.getElem_cons_zero, List.getElem_cons_succ, List.setIfInBounds_toArray, List.set_cons_zero, List.set_cons_succ]
          refine wpAnyH_take (i := 8) (v := ?v8) rfl (by kernel_rfl) (by kernel_rfl) (by kernel_rfl) (fun _ _ _ h => h) (Or.inl ⟨by rfl, ?y8⟩) (by assumption) ?r8
          case y8 => intro w hSw; obtain ⟨⟨s0, s1, s2⟩, ⟨s3, s4, s5⟩, s6⟩ := hSw; go_simp; first | done | with_reducible rfl
          simp only [Act.put, List.getElem_toArray, List.getElem_cons_zero, List.getElem_cons_succ, List.setIfInBounds_toArray, List.set_cons_zero, List.set_cons_succ]
          refine wpAnyH_take (i := 9) (v := ?v9) rfl (by kernel_rfl) (by kernel_rfl) (by kernel_rfl) (fun _ _ _ h => h) (Or.inl ⟨by rfl, ?y9⟩) (by assumption) ?r9
          case y9 => intro w hSw; obtain ⟨⟨s0, s1, s2⟩, ⟨s3, s4, s5⟩, s6⟩ := hSw; go_simp; first | done | with_reducible rfl
          simp only [Act.put, List.getElem_toArray, List.getElem_cons_zero, List.getElem_cons_succ, List.setIfInBounds_toArray, List.set_cons_zero, List.set_cons_succ]
          refine wpAnyH_take (i := 10) (v := ?v10) rfl (by kernel_rfl) (by kernel_rfl) (by kernel_rfl) (fun _ _ _ h => h) (Or.inl ⟨by rfl, ?y10⟩) (by assumption) ?r10
          case y10 => intro w hSw; obtain ⟨⟨s0, s1, s2⟩, ⟨s3, s4, s5⟩, s6⟩ := hSw; go_simp; first | done | with_reducible rfl
          simp only [Act.put, List.getElem_toArray, List.getElem_cons_zero, List.getElem_cons_succ, List.setIfInBounds_toArray, List.set_cons_zero, List.set_cons_succ]
          refine wpAnyH_take (i := 11) (v := ?v11) rfl (by kernel_rfl) (by kernel_rfl) (by kernel_rfl) (fun _ _ _ h => h) (Or.inl ⟨by rfl, ?y11⟩) (by assumption) ?r11
          case y11 => intro w hSw; obtain ⟨⟨s0, s1, s2⟩, ⟨s3, s4, s5⟩, s6⟩ := hSw; go_simp; first | done | with_reducible rfl
          simp only [Act.put, List.getElem_toArray, List.getElem_cons_zero, List.getElem_cons_succ, List.setIfInBounds_toArray, List.set_cons_zero, List.set_cons_succ]
          refine wpAnyH_take (i := 12) (v := ?v12) rfl (by kernel_rfl) (by kernel_rfl) (by kernel_rfl) (fun _ _ _ h => h) (Or.inl ⟨by rfl, ?y12⟩) (by assumption) ?r12
          case y12 => intro w hSw; obtain ⟨⟨s0, s1, s2⟩, ⟨s3, s4, s5⟩, s6⟩ := hSw; go_simp; first | done | with_reducible rfl
          simp only [Act.put, List.getElem_toArray, List.getElem_cons_zero, List.getElem_cons_succ, List.setIfInBounds_toArray, List.set_cons_zero, List.set_cons_succ]
          refine wpAnyH_take (i := 13) (v := ?v13) rfl (by kernel_rfl) (by kernel_rfl) (by kernel_rfl) (fun _ _ _ h => h) (Or.inl ⟨by rfl, ?y13⟩) (by assumption) ?r13
          case y13 => intro w hSw; obtain ⟨⟨s0, s1, s2⟩, ⟨s3, s4, s5⟩, s6⟩ := hSw; go_simp; first | done | with_reducible rfl
          simp only [Act.put, List.getElem_toArray, List.getElem_cons_zero, List.getElem_cons_succ, List.setIfInBounds_toArray, List.set_cons_zero, List.set_cons_succ]
          refine wpAnyH_ready (rs := [14]) (by kernel_rfl) (by simp) ?_
          refine AllReadyH.cons rfl (fun K hK => ?_) AllReadyH.nil
          go_simp
          refine (km_c (by assumption) g _ HS (by omega) hz).mono ?_; rintro e w' ⟨rfl, hk⟩; have hk2 := hk.2.2
          go_wp2_with fail
          refine hK.out _ _ (by assumption) (fun hHeld => ?_)
          clear hK K
          try simp only [Act.put, List.getElem_toArray, List.getElem_cons_zero, List.getElem_cons_succ, List.setIfInBounds_toArray, List.set_cons_zero, List.set_cons_succ]
          refine wpAnyH_take (i := 15) (v := ?v15) rfl (by kernel_rfl) (by kernel_rfl) (by kernel_rfl) (fun _ _ _ h => h) (Or.inl ⟨by rfl, ?y15⟩) (by assumption) ?r15
          case y15 => intro w hSw; obtain ⟨⟨s0, s1, s2⟩, ⟨s3, s4, s5⟩, s6⟩ := hSw; go_simp; first | done | with_reducible rfl
          simp only [Act.put, List.getElem_toArray, List.getElem_cons_zero, List.getElem_cons_succ, List.setIfInBounds_toArray, List.set_cons_zero, List.set_cons_succ]
          refine wpAnyH_take (i := 16) (v := ?v16) rfl (by kernel_rfl) (by kernel_rfl) (by kernel_rfl) (fun _ _ _ h => h) (Or.inl ⟨by rfl, ?y16⟩) (by assumption) ?r16
          case y16 => intro w hSw; obtain ⟨⟨s0, s1, s2⟩, ⟨s3, s4, s5⟩, s6⟩ := hSw; go_simp; first | done | with_reducible rfl
          simp only [Act.put, List.getElem_toArray, List.getElem_cons_zero, List.getElem_cons_succ, List.setIfInBounds_toArray, List.set_cons_zero, List.set_cons_succ]
          refine wpAnyH_take (i := 17) (v := ?v17) rfl (by kernel_rfl) (by kernel_rfl) (by kernel_rfl) (fun _ _ _ h => h) (Or.inl ⟨by rfl, ?y17⟩) (by assumption) ?r17
          case y17 => intro w hSw; obtain ⟨⟨s0, s1, s2⟩, ⟨s3, s4, s5⟩, s6⟩ := hSw; go_simp; first | done | with_reducible rfl
          simp only [Act.put, List.getElem_toArray, List.getElem_cons_zero, List.getElem_cons_succ, List.setIfInBounds_toArray, List.set_cons_zero, List.set_cons_succ]
          refine wpAnyH_take (i := 18) (v := ?v18) rfl (by kernel_rfl) (by kernel_rfl) (by kernel_rfl) (fun _ _ _ h => h) (Or.inl ⟨by rfl, ?y18⟩) (by assumption) ?r18
          case y18 => intro w hSw; obtain ⟨⟨s0, s1, s2⟩, ⟨s3, s4, s5⟩, s6⟩ := hSw; go_simp; first | done | with_reducible rfl
          simp only [Act.put, List.getElem_toArray, List.getElem_cons_zero, List.getElem_cons_succ, List.setIfInBounds_toArray, List.set_cons_zero, List.set_cons_succ]
          refine wpAnyH_take (i := 19) (v := ?v19) rfl (by kernel_rfl) (by kernel_rfl) (by kernel_rfl) (fun _ _ _ h => h) (Or.inl ⟨by rfl, ?y19⟩) (by assumption) ?r19
          case y19 => intro w hSw; obtain ⟨⟨s0, s1, s2⟩, ⟨s3, s4, s5⟩, s6⟩ := hSw; go_simp; first | done | with_reducible rfl
          simp only [Act.put, List.getElem_toArray, List.getElem_cons_zero, List.getElem_cons_succ, List.setIfInBounds_toArray, List.set_cons_zero, List.set_cons_succ]
          refine wpAnyH_take (i := 20) (v := ?v20) rfl (by kernel_rfl) (by kernel_rfl) (by kernel_rfl) (fun _ _ _ h => h) (Or.inl ⟨by rfl, ?y20⟩) (by assumption) ?r20
          case y20 => intro w hSw; obtain ⟨⟨s0, s1, s2⟩, ⟨s3, s4, s5⟩, s6⟩ := hSw; go_simp; first | done | with_reducible rfl
          simp only [Act.put, List.getElem_toArray, List.getElem_cons_zero, List.getElem_cons_succ, List.setIfInBounds_toArray, List.set_cons_zero, List.set_cons_succ]
          refine wpAnyH_take (i := 22) (v := ?v22) rfl (by kernel_rfl) (by kernel_rfl) (by kernel_rfl) (fun _ _ _ h => h) (Or.inl ⟨by rfl, ?y22⟩) (by assumption) ?r22
          case y22 => intro w hSw; obtain ⟨⟨s0, s1, s2⟩, ⟨s3, s4, s5⟩, s6⟩ := hSw; go_simp; first | done | with_reducible rfl
          simp only [Act.put, List.getElem_toArray, List.getElem_cons_zero, List.getElem_cons_succ, List.setIfInBounds_toArray, List.set_cons_zero, List.set_cons_succ]
          refine wpAnyH_take (i := 23) (v := ?v23) rfl (by kernel_rfl) (by kernel_rfl) (by kernel_rfl) (fun _ _ _ h => h) (Or.inl ⟨by rfl, ?y23⟩) (by assumption) ?r23
          case y23 => intro w hSw; obtain ⟨⟨s0, s1, s2⟩, ⟨s3, s4, s5⟩, s6⟩ := hSw; go_simp; first | done | with_reducible rfl
          simp only [Act.put, List.getElem_toArray, List.getElem_cons_zero, List.getElem_cons_succ, List.setIfInBounds_toArray, List.set_cons_zero, List.set_cons_succ]
          refine wpAnyH_take (i := 24) (v := ?v24) rfl (by kernel_rfl) (by kernel_rfl) (by kernel_rfl) (fun _ _ _ h => h) (Or.inl ⟨by rfl, ?y24⟩) (by assumption) ?r24
          case y24 => intro w hSw; obtain ⟨⟨s0, s1, s2⟩, ⟨s3, s4, s5⟩, s6⟩ := hSw; go_simp; first | done | with_reducible rfl
          simp only [Act.put, List.getElem_toArray, List.getElem_cons_zero, List.getElem_cons_succ, List.setIfInBounds_toArray, List.set_cons_zero, List.set_cons_succ]
          refine wpAnyH_take (i := 25) (v := ?v25) rfl (by kernel_rfl) (by kernel_rfl) (by kernel_rfl) (fun _ _ _ h => h) (Or.inl ⟨by rfl, ?y25⟩) (by assumption) ?r25
          case y25 => intro w hSw; obtain ⟨⟨s0, s1, s2⟩, ⟨s3, s4, s5⟩, s6⟩ := hSw; go_simp; first | done | with_reducible rfl
          simp only [Act.put, List.getElem_toArray, List.getElem_cons_zero, List.getElem_cons_succ, List.setIfInBounds_toArray, List.set_cons_zero, List.set_cons_succ]
          refine wpAnyH_ready (rs := [21]) (by kernel_rfl) (by simp) ?_
          refine AllReadyH.cons rfl (fun K hK => ?_) AllReadyH.nil
          go_simp
          refine (km_none (by assumption) x _ HO).mono ?_; rintro e w' ⟨rfl, hk⟩; have hk2 := hk.2.2
          go_wp2_with fail
          refine hK.out _ _ (by assumption) (fun hHeld => ?_)
          clear hK K
          try simp only [Act.put, List.getElem_toArray, List.getElem_cons_zero, List.getElem_cons_succ, List.setIfInBounds_toArray, List.set_cons_zero, List.set_cons_succ]
          refine wpAnyH_take (i := 26) (v := ?v26) rfl (by kernel_rfl) (by kernel_rfl) (by kernel_rfl) (fun _ _ _ h => h) (Or.inl ⟨by rfl, ?y26⟩) (by assumption) ?r26
          case y26 => intro w hSw; obtain ⟨⟨s0, s1, s2⟩, ⟨s3, s4, s5⟩, s6⟩ := hSw; go_simp; first | done | with_reducible rfl
          simp only [Act.put, List.getElem_toArray, List.getElem_cons_zero, List.getElem_cons_succ, List.setIfInBounds_toArray, List.set_cons_zero, List.set_cons_succ]
          refine wpAnyH_take (i := 27) (v := ?v27) rfl (by kernel_rfl) (by kernel_rfl) (by kernel_rfl) (fun _ _ _ h => h) (Or.inl ⟨by rfl, ?y27⟩) (by assumption) ?r27
          case y27 => intro w hSw; obtain ⟨⟨s0, s1, s2⟩, ⟨s3, s4, s5⟩, s6⟩ := hSw; go_simp; first | done | with_reducible rfl
          simp only [Act.put, List.getElem_toArray, List.getElem_cons_zero, List.getElem_cons_succ, List.setIfInBounds_toArray, List.set_cons_zero, List.set_cons_succ]
          refine wpAnyH_take (i := 28) (v := ?v28) rfl (by kernel_rfl) (by kernel_rfl) (by kernel_rfl) (fun _ _ _ h => h) (Or.inl ⟨by rfl, ?y28⟩) (by assumption) ?r28
          case y28 => intro w hSw; obtain ⟨⟨s0, s1, s2⟩, ⟨s3, s4, s5⟩, s6⟩ := hSw; go_simp; first | done | with_reducible rfl
          simp only [Act.put, List.getElem_toArray, List.getElem_cons_zero, List.getElem_cons_succ, List.setIfInBounds_toArray, List.set_cons_zero, List.set_cons_succ]
          refine wpAnyH_done (by kernel_rfl) ?_ _
          refine NoPanic.normal ?_
          all_goals
            go_wp2
            go_ret
            exact ⟨by simp, (by assumption : Km w _ _ u g a len cap gs aa _ ca L _).below⟩
end Go.Proofs.Ytmanblfmdpdfoab
