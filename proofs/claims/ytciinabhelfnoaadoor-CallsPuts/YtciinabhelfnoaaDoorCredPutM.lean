/- 'Put' of one who calls: what the program answers; nothing that was there turns. -/
import Derived.Test.YtciinabhelfnoaaDoorAppendsNumM
import Derived.Test.YtciinabhelfnoaaDoorCredCellsCredTwinM
import Derived.Test.YtciinabhelfnoaaDoorPut4M
import Derived.Test.YtciinabhelfnoaaDoorStrPutNumsMathM
import Derived.Test.YtciinabhelfnoaaDoorAgainMathCredMathM
import Derived.Deep.AppendLies
import Derived.Deep.RegionLaw
import Derived.Outline
namespace Go.Proofs.YtciinabhelfnoaaDoor
set_option linter.unusedVariables false
open Go.RowKit

theorem numsB_take {gs : List Int} {k : Nat} {x : Int} (h : k < gs.length) (hx : gs[k]?.getD 0 = x) : numsB (gs.take (k + 1)) = numsB (gs.take k) ++ bytesOf x 4 := by
  rw [List.take_succ_eq_append_getElem h, numsB_append]
  rw [List.getElem?_eq_getElem h, Option.getD_some] at hx
  subst hx
  simp [numsB]

set_option maxRecDepth 100000 in
set_option maxHeartbeats 2000000 in
theorem put1_any (base B : Nat) (v : Value) (n : Nat) (bs : List Int) (a : Option Addr) (len cap : Nat) (gs : List Int) (W : World) (hB : Boxed W B 26 v) (hown : W.ownsRow base 5 1 v n (bs.map (Value.int .u8)))
    (h0 : base ≤ B) (hz : gs.length = len) (hu : U32s gs) (hs : Seg4 W a gs) (hn : NB base W a gs) (hm : n + 4 * len ≤ 1000000) :
    Calls Tryd.prog 70 #[.slice a len cap, .pointer (some ⟨B, 0, none⟩)] W fun e W' => e = .returned (.tuple #[]) ∧ ∃ v', Boxed W' B 26 v' ∧ W'.ownsRow base 5 1 v' (n + 4 * len) ((bs ++ numsB gs).map (Value.int .u8)) ∧ KeepT base B W W' := by
  obtain ⟨i0, hi, hz0, hz1, hz2⟩ := info_parts infoB
  go_enter Tryd.func70, Tryd.ntmps70
  go_wp2
  go_loopw [7] (fun i wr => ∃ k : Nat, k ≤ len ∧ i = .int .i64 k ∧ (∃ v', Boxed wr B 26 v' ∧ wr.ownsRow base 5 1 v' (n + 4 * k) ((bs ++ numsB (gs.take k)).map (Value.int .u8))) ∧ KeepT base B W wr ∧ Seg4 wr a gs ∧ NB base wr a gs) (fun i _ => len - (intOf i).toNat)
  case atStart => exact ⟨0, by omega, rfl, ⟨v, hB, by simpa [numsB] using hown⟩, KeepT.refl _ _ _, hs, hn⟩
  case round =>
    obtain ⟨k, hk, rfl, ⟨vk, hBk, hok⟩, hKk, hsk, hnk⟩ := hrel
    clear hB hown hs hn
    by_cases hlt : k < len
    · rcases hsk with rfl | ⟨b, off, rfl, hc⟩
      · simp at hz; omega
      · have hcx := hc k (by omega)
        have hSK : Hid (Seg4 wr (some ⟨b, off, none⟩) gs) := .inr ⟨b, off, rfl, hc⟩
        have hux := hu k
        obtain ⟨x, hx⟩ : ∃ x, gs[k]?.getD 0 = x := ⟨_, rfl⟩
        have HT : Hid (numsB (gs.take (k + 1)) = numsB (gs.take k) ++ bytesOf x 4) := numsB_take (by omega) hx
        rw [hx] at hcx hux
        clear hx hc hu
        have hcB := hBk.cell
        have hbb := hBk.lt
        have hbase : base ≤ wr.heap.size := by omega
        go_wp2_with fail
        go_region_law (first
          | (refine step_append_lies _ (by rfl) _ _ _ (by rfl) base 5 i0 (.int .u8 0) 1 1 Tryd.underlying26 hi hz0 hz1 hz2 rfl (by decide) vk (n + 4 * k) _ (by rfl) hown1 ⟨wr.heap.size, 0, none⟩ 4 4 ((bytesOf x 4).map (Value.int .u8)) (by rfl) (by simp [bytesOf_length]) (seg_news (seg_own hownP (bytesOf_length x 4))) (news_one _) (by omega) (by unfold maxLen; omega) (by omega) (by omega) w1.heap.size rfl ?_; intro g cap' w2 hown2 hgrow2 hat2 hlt2; obtain ⟨hBa, hBb, hob, hKb⟩ := app_end hBk hok hb1 hgrow2 hown2 h0; have hca := hBa.cell; have hfa := hBa.frozen)
          | (go_simp; go_wp2_with (go_at_call 16; refine (Put_any x hux.1 hux.2 _).mono ?_; rintro e w1 ⟨rfl, hownP, hbP⟩; have hb1 : Below wr.heap.size wr w1 := (below_drew wr).trans hbP; have hcB1 : w1.cell? ⟨B, 0, none⟩ = some vk := (hb1.cell (p := ⟨B, 0, none⟩) hbb).trans hcB; have hown1 := own_below hok hb1; have hsz1 := hb1.size)))
        all_goals
          have hs3 := hSK.out.keep hnk hBk hKb
          have hn3 := hnk.keep hBk hKb
          have hK3 := hKk.trans hKb
          have ho3 : (w2.setCell ⟨B, 0, none⟩ (.slice (some ⟨g, 0, none⟩) (n + 4 * k + 4) cap')).ownsRow base 5 1 (.slice (some ⟨g, 0, none⟩) (n + 4 * k + 4) cap') (n + 4 * (k + 1)) ((bs ++ numsB (gs.take (k + 1))).map (Value.int .u8)) := by
            rw [HT.out, ← List.append_assoc, List.map_append, show n + 4 * (k + 1) = n + 4 * k + 4 from by omega]
            exact hob
          clear hownP hbP hb1 hcB1 hown1 hown2 hgrow2 hBa hob hKb hca hfa hBk hok hKk hnk hSK HT hcB
          go_wp2
          go_roundw
          case rel => exact ⟨k + 1, by omega, by go_num, ⟨_, hBb, ho3⟩, hK3, hs3, hn3⟩
          case measure => simp [intOf]; omega
    · obtain rfl : k = len := by omega
      rw [List.take_of_length_le (by omega)] at hok
      go_wp2
      go_end0
      exact ⟨rfl, _, hBk, hok, hKk⟩

theorem lit_nums1 (w : World) (x : Int) (t : TypeId) : Seg4 (w.alloc (.cells #[.int .u32 x] t)) (some ⟨w.heap.size, 0, none⟩) [x] := seg4_lit w t [x]
theorem lit_nums3 (w : World) (x y z : Int) (t : TypeId) : Seg4 (w.alloc (.cells #[.int .u32 x, .int .u32 y, .int .u32 z] t)) (some ⟨w.heap.size, 0, none⟩) [x, y, z] := seg4_lit w t [x, y, z]
theorem nb_new (base : Nat) (w : World) (cs : Array Value) (gs : List Int) : NB base (w.alloc (.cells cs 22)) (some ⟨w.heap.size, 0, none⟩) gs := by
  intro _ b o e
  cases e
  exact .inr ⟨cs, _, heap_alloc_new w _⟩

set_option maxRecDepth 100000 in
set_option maxHeartbeats 2000000 in
theorem cput_no (stamp : Int) (m : ByteArray) (u g : Int) (a : Option Addr) (len cap : Nat) (w : World) (hmm : m.size ≤ 9223372036854775807) (hl : len ≤ 9223372036854775807) (hno : 255 < m.size ∨ 16 < len) :
    Calls Tryd.prog 47 #[.int .u32 stamp, .string m, .agg #[.int .u32 u, .int .u32 g, .slice a len cap]] w fun e w' => e = .returned (.tuple #[.slice none 0 0, .int .i64 1]) ∧ Below w.heap.size w w' := by
  have hB : Below w.heap.size w (w.alloc (.cells #[.int .u32 u, .int .u32 g, .slice a len cap] 25)) := (Below.refl _ _).alloc (Nat.le_refl _) _
  by_cases h1 : 255 < m.size
  · go_enter Tryd.func47, Tryd.ntmps47
    go_wp2
    go_ret2
    exact ⟨rfl, hB⟩
  · have h2 : 16 < len := by omega
    go_enter Tryd.func47, Tryd.ntmps47
    go_wp2
    go_ret2
    exact ⟨rfl, hB⟩

/-- Where 'Put' stands: who calls in a box, these bytes in the next one. -/
structure Pt (w : World) (u g : Int) (s : Value) (bs : List Int) (v : Value) (W : World) : Prop where
  below : Below w.heap.size w W
  cred : W.heap[w.heap.size]? = some (.cells #[.int .u32 u, .int .u32 g, s] 25)
  box : Boxed W (w.heap.size + 1) 26 v
  own : W.ownsRow w.heap.size 5 1 v bs.length (bs.map (Value.int .u8))

theorem Pt.alloc {w : World} {u g : Int} {s : Value} {bs : List Int} {v : Value} {W : World} (h : Pt w u g s bs v W) (o : Obj) : Pt w u g s bs v (W.alloc o) :=
  have hb : Below W.heap.size W (W.alloc o) := (Below.refl _ _).alloc (Nat.le_refl _) _
  ⟨h.below.trans (hb.mono h.below.size), (hb.block _ (Array.getElem?_eq_some_iff.1 h.cred).1).trans h.cred, h.box.alloc o, own_below h.own hb⟩

theorem Pt.keep {w : World} {u g : Int} {s : Value} {bs bs' : List Int} {v v' : Value} {W W' : World} {n : Nat} (h : Pt w u g s bs v W) (hB : Boxed W' (w.heap.size + 1) 26 v') (ho : W'.ownsRow w.heap.size 5 1 v' n (bs'.map (Value.int .u8))) (hn : bs'.length = n)
    (hk : KeepT w.heap.size (w.heap.size + 1) W W') : Pt w u g s bs' v' W' :=
  ⟨h.below.trans hk.below, (hk.other _ _ _ _ h.cred (by decide) (by omega)).trans h.cred, hB, by rw [hn]; exact ho⟩

theorem Pt.start (w : World) (u g : Int) (s : Value) : Pt w u g s [] (.slice none 0 0) ((w.alloc (.cells #[.int .u32 u, .int .u32 g, s] 25)).alloc (.cells #[.slice none 0 0] 26)) := by
  have hb : Below (w.alloc (.cells #[.int .u32 u, .int .u32 g, s] 25)).heap.size (w.alloc (.cells #[.int .u32 u, .int .u32 g, s] 25)) ((w.alloc (.cells #[.int .u32 u, .int .u32 g, s] 25)).alloc (.cells #[.slice none 0 0] 26)) := (Below.refl _ _).alloc (Nat.le_refl _) _
  refine ⟨((Below.refl _ _).alloc (Nat.le_refl _) _).alloc (by simp) _, (hb.block _ (by simp)).trans (heap_alloc_new w _), ?_, World.ownsRow_nil _ _ _ _⟩
  have := Boxed.new (w.alloc (.cells #[.int .u32 u, .int .u32 g, s] 25)) 26 (.slice none 0 0)
  simpa using this

theorem u32s_nil : U32s [] := fun i => by simp

theorem Pt.put {w : World} {u g : Int} {s : Value} {bs : List Int} {v : Value} {W : World} (h : Pt w u g s bs v W) (a : Option Addr) (len cap : Nat) (gs : List Int) (hz : gs.length = len) (hu : U32s gs) (hs : Seg4 W a gs) (hn : NB w.heap.size W a gs) (hm : bs.length + 4 * len ≤ 1000000) :
    Calls Tryd.prog 70 #[.slice a len cap, .pointer (some ⟨w.heap.size + 1, 0, none⟩)] W fun e W' => e = .returned (.tuple #[]) ∧ ∃ v', Pt w u g s (bs ++ numsB gs) v' W' := by
  refine (put1_any w.heap.size (w.heap.size + 1) v bs.length bs a len cap gs W h.box h.own (by omega) hz hu hs hn hm).mono ?_
  rintro e W' ⟨rfl, v', hB, ho, hk⟩
  exact ⟨rfl, v', h.keep hB ho (by rw [List.length_append, numsB_len, hz]) hk⟩

set_option maxRecDepth 100000 in
set_option maxHeartbeats 2000000 in
theorem cput_yes (stamp : Int) (m : ByteArray) (u g : Int) (a : Option Addr) (len cap : Nat) (gs : List Int) (w : World) (hm : m.size ≤ 255) (hl : len ≤ 16) (hst : 0 ≤ stamp ∧ stamp ≤ 4294967295) (hu : 0 ≤ u ∧ u ≤ 4294967295) (hg : 0 ≤ g ∧ g ≤ 4294967295) (hz : gs.length = len) (hgs : U32s gs) (hs : Seg4 w a gs) :
    Calls Tryd.prog 47 #[.int .u32 stamp, .string m, .agg #[.int .u32 u, .int .u32 g, .slice a len cap]] w fun e w' => ∃ v, e = .returned (.tuple #[v, .int .i64 0]) ∧ w'.ownsRow w.heap.size 5 1 v (credB stamp (tz m) u g gs).length ((credB stamp (tz m) u g gs).map (Value.int .u8)) ∧ Below w.heap.size w w' := by
  obtain ⟨i0, hi, hz0, hz1, hz2⟩ := info_parts infoB
  have hpad := padN_lt m.size
  have hopl : (opBytes (tz m)).length = 4 + (m.size + padN m.size) := by rw [opBytes_length, tz_len]
  go_enter Tryd.func47, Tryd.ntmps47
  go_wp2_with fail
  have P0 := Pt.start w u g (.slice a len cap)
  have hsz0 : ((w.alloc (.cells #[.int .u32 u, .int .u32 g, .slice a len cap] 25)).alloc (.cells #[.slice none 0 0] 26)).heap.size = w.heap.size + 1 + 1 := by simp
  generalize ((w.alloc (.cells #[.int .u32 u, .int .u32 g, .slice a len cap] 25)).alloc (.cells #[.slice none 0 0] 26)) = W0 at *
  have P1 := P0.alloc (.cells #[.int .u32 stamp] 22)
  have s1 := lit_nums1 W0 stamp 22
  have n1 := nb_new w.heap.size W0 #[.int .u32 stamp] [stamp]
  rw [hsz0] at s1 n1
  generalize W0.alloc (.cells #[.int .u32 stamp] 22) = W1 at *
  clear P0 hsz0
  refine (P1.put _ 1 1 [stamp] rfl (u32s_of_all (by simpa using hst)) s1 n1 (by simp)).mono ?_
  rintro e W2 ⟨rfl, v2, P2⟩
  clear P1 s1 n1
  rw [List.nil_append] at P2
  have hl2 : (numsB [stamp]).length = 4 := by rw [numsB_len]; rfl
  have HC : Hid (credB stamp (tz m) u g gs = numsB [stamp] ++ opBytes (tz m) ++ numsB [u, g, gs.length] ++ numsB gs) := rfl
  generalize numsB [stamp] = b2 at P2 hl2 HC
  replace hl2 : b2.length ≤ 4 := by omega
  go_wp2_with fail
  have hcB := P2.box.cell
  have hbb := P2.box.lt
  go_region_law (first
    | (refine step_append_lies _ (by rfl) _ _ _ (by rfl) w.heap.size 5 i0 (.int .u8 0) 1 1 Tryd.underlying26 hi hz0 hz1 hz2 rfl (by decide) v2 _ _ (by rfl) hown1 ⟨gp, 0, none⟩ (4 + (m.size + padN m.size)) cp ((opBytes (tz m)).map (Value.int .u8)) (by rfl) (by simp [hopl]) (seg_news (seg_own hownP hopl)) (news_one _) (by omega) (by unfold maxLen; omega) (by omega) (by omega) w1.heap.size rfl ?_; intro g3 cap3 w3 hown3 hgrow3 hat3 hlt3; obtain ⟨hBa, hBb, hob, hKb⟩ := app_end P2.box P2.own hb1 hgrow3 hown3 (by omega); have hca := hBa.cell; have hfa := hBa.frozen)
    | (go_simp; go_wp2_with (go_at_call 71; refine (strput_any m _ (by omega)).mono ?_; rintro e w1 ⟨vp, rfl, hownP, hbP⟩; obtain ⟨gp, cp, rfl, _, _, _⟩ := own_shape hownP (by omega); have hb1 : Below W2.heap.size W2 w1 := (below_drew W2).trans hbP; have hcB1 : w1.cell? ⟨w.heap.size + 1, 0, none⟩ = some v2 := (hb1.cell (p := ⟨w.heap.size + 1, 0, none⟩) hbb).trans hcB; have hown1 := own_below P2.own hb1; have hsz1 := hb1.size)))
  all_goals
    have P3 := P2.keep (bs' := b2 ++ opBytes (tz m)) hBb (by rw [List.map_append]; exact hob) (by rw [List.length_append, hopl]) hKb
    clear hownP hbP hb1 hcB1 hown1 hown3 hgrow3 hBa hBb hob hKb hca hfa P2 hcB hbb
    generalize (w3.setCell ⟨w.heap.size + 1, 0, none⟩ (.slice (some ⟨g3, 0, none⟩) (b2.length + (4 + (m.size + padN m.size))) cap3)) = W3 at *
    generalize (Value.slice (some ⟨g3, 0, none⟩) (b2.length + (4 + (m.size + padN m.size))) cap3) = v3 at *
    obtain ⟨c0, c1, c2, _, _, _⟩ := cred_at P3.cred
    have hl3 : (b2 ++ opBytes (tz m)).length ≤ 300 := by rw [List.length_append, hopl]; omega
    generalize b2 ++ opBytes (tz m) = b3 at *
    have hwr : (len : Int) % 4294967296 = len := by omega
    go_wp2_with fail
    have P4 := P3.alloc (.cells #[.int .u32 u, .int .u32 g, .int .u32 len] 22)
    have s4 := lit_nums3 W3 u g len 22
    have n4 := nb_new w.heap.size W3 #[.int .u32 u, .int .u32 g, .int .u32 len] [u, g, len]
    generalize W3.alloc (.cells #[.int .u32 u, .int .u32 g, .int .u32 len] 22) = W4 at *
    clear P3 c0 c1 c2
    refine (P4.put _ 3 3 [u, g, len] rfl (u32s_of_all (by simp; omega)) s4 n4 (by omega)).mono ?_
    rintro e W5 ⟨rfl, v5, P5⟩
    clear P4 s4 n4
    have hl5 : (b3 ++ numsB [u, g, (len : Int)]).length ≤ 312 := by rw [List.length_append, numsB_len]; simp; omega
    have HC5 : Hid (credB stamp (tz m) u g gs = b3 ++ numsB [u, g, (len : Int)] ++ numsB gs) := by rw [← hz]; exact HC.out
    clear HC
    generalize b3 ++ numsB [u, g, (len : Int)] = b5 at *
    obtain ⟨c0, c1, c2, _, _, _⟩ := cred_at P5.cred
    go_wp2_with fail
    refine (P5.put a len cap gs hz hgs (hs.below P5.below) (nb_low hs _) (by omega)).mono ?_
    rintro e W6 ⟨rfl, v6, P6⟩
    clear P5 c0 c1 c2
    rw [← HC5.out] at P6
    have c6 := P6.box.cell
    go_wp2
    go_ret2
    exact ⟨_, rfl, P6.own, P6.below⟩
end Go.Proofs.YtciinabhelfnoaaDoor
