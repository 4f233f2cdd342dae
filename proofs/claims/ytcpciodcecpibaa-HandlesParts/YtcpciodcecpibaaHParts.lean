/- The walk of 'HandlesParts': true for any handle that may be; nothing that was there turns. -/
import Derived.Test.YtcpciodcecpibaaHBack
import Derived.Test.YtcpciodcecpibaaSame
import Derived.Deep.AppendLies
namespace Go.Proofs.Ytcpciodcecpibaa
set_option linter.unusedVariables false
open Go.RowKit

theorem seg_block {W W' : World} {G off : Nat} {zs : List Int} (h : Seg W (some ⟨G, off, none⟩) zs) (e : W'.heap[G]? = W.heap[G]?) : Seg W' (some ⟨G, off, none⟩) zs := by
  rcases h with h | ⟨b, o, ha, hc⟩
  · exact .inl h
  · cases ha
    exact .inr ⟨_, _, rfl, fun i hi => (World.cell?_of_block (a := ⟨G, off + i, none⟩) e).trans (hc i hi)⟩

/-- An append of bytes that lie in a block's beginning, at a step of a region that draws, where a guard wants it. -/
theorem step_app8 {ops : Array Oper} {o : Oper} {a : Act} {w : World} {K : Act → World → Prop} {Q : Exit → Act → World → Prop} {E : Prop} (hw : Region.wanted o (yielded ops a.tmps) = true) (s x : Operand)
    (ho : o.op = .call { callee := .builtin .append, args := #[s, x], argTypes := #[22, 22] }) (base : Nat) (v : Value) (n : Nat) (zs : List Int) (hs : a.eval s = v) (hown : w.ownsRow base 5 1 v n (vz zs))
    (g m c : Nat) (ms : List Int) (hx : a.eval x = .slice (some ⟨g, 0, none⟩) m c) (hl : ms.length = m) (hm : 0 < m) (hnm : n + m ≤ 1000000) (hms : Seg w (some ⟨g, 0, none⟩) ms) (hbase : base ≤ w.heap.size)
    (h : ∀ g' cap w', w'.ownsRow base 5 1 (.slice (some ⟨g', 0, none⟩) (n + m) cap) (n + m) (vz (zs ++ ms)) → w.grownBy w' v.ownBlock → K (a.put o.dst (.slice (some ⟨g', 0, none⟩) (n + m) cap)) w') :
    if Region.wanted o (yielded ops a.tmps) = true then Oper.wp Try.prog o a w K Q else E := by
  obtain ⟨i0, hi, hz0, hz1, hz2⟩ := info_parts infoB
  rw [if_pos hw]
  refine wp_append_lies w s x 22 ho base 5 i0 (.int .u8 0) 1 1 Try.underlying22 hi hz0 hz1 hz2 rfl (by decide) v n (vz zs) hs hown ⟨g, 0, none⟩ m c (vz ms) hx (by rw [vz_length, hl]; omega) (seg_news hms) (vz_one ms) hm (by unfold maxLen; omega) (by omega) hbase _ rfl ?_
  intro g' cap w' h1 h2 _ _
  rw [show vz zs ++ vz ms = vz (zs ++ ms) from (List.map_append).symm] at h1
  exact h g' cap w' h1 h2

set_option maxRecDepth 100000 in
set_option maxHeartbeats 2000000 in
theorem hparts_walk (n g : Int) (w : World) (h0 : 0 ≤ n) (h1 : n ≤ 65535) (h2 : 0 ≤ g) (h3 : g ≤ 4294967295) :
    Calls Try.prog 7 #[.int .u16 n, .int .u32 g] w fun e w' => e = .returned (.bool true) ∧ Below w.heap.size w w' := by
  obtain ⟨i0, hi, hz0, hz1, hz2⟩ := info_parts infoB
  have hof := of_any n g w h0 h1 h2 h3
  have hm : 1 ≤ 1 + n % 1024 ∧ 1 + n % 1024 ≤ 1024 := by omega
  generalize 1 + n % 1024 = m at *
  have hcv : IntKind.u32.wrap m = m := by rw [IntKind.wrap_u32']; omega
  have kc := fun (w : World) (C : Array Value) (n c : Nat) => Lib.run_convert_bytes_const (P := Try.prog) w 22 5 C n c Try.underlying22 Try.underlying5
  go_enter Try.func7, Try.ntmps7
  go_wp2_with fail
  refine hof.mono ?_
  rintro e W1 ⟨G, rfl, hown, hB1⟩
  have A2 := Ah.new hown hB1
  have hlow := own_low (k := G) A2.own rfl
  clear hof hown hB1
  have hs3 : (W1.alloc (.cells #[.int .i64 m, .int .u32 g] 27)).heap.size = W1.heap.size + 1 := by simp
  have sl := seg_litm (W1.alloc (.cells #[.int .i64 m, .int .u32 g] 27)) 5 (4, 5) [119, 104, 114, 102]
  have A3 := A2.next ((Below.refl _ _).alloc (Nat.le_refl _) (.cells (([119, 104, 114, 102] : List Int).map (Value.int .u8)).toArray 5 (4, 5)))
  simp only [List.map_cons, List.map_nil] at sl A3
  rw [hs3] at sl
  have c0 : ((W1.alloc (.cells #[.int .i64 m, .int .u32 g] 27)).alloc (.cells #[.int .u8 119, .int .u8 104, .int .u8 114, .int .u8 102] 5 (4, 5))).cell? ⟨W1.heap.size, 0, none⟩ = some (.int .i64 m) := by simp only [World.cell?, A3.h]; rfl
  have kc2 := kc (W1.alloc (.cells #[.int .i64 m, .int .u32 g] 27)) #[.int .u8 119, .int .u8 104, .int .u8 114, .int .u8 102] 4 4
  rw [hs3] at kc2
  clear A2
  go_wp2_with fail
  generalize ((W1.alloc (.cells #[.int .i64 m, .int .u32 g] 27)).alloc (.cells #[.int .u8 119, .int .u8 104, .int .u8 114, .int .u8 102] 5 (4, 5))) = W3 at *
  refine (Put_any m (by omega) (by omega) W3).mono ?_
  rintro e W4 ⟨rfl, hown4, hb4⟩
  have A4 := A3.next hb4
  have sl4 := sl.below hb4
  have sp4 := seg_own hown4 (bytesOf_length m 4)
  clear A3 sl hown4 hb4 c0 hs3 kc kc2
  go_wp2_with (at_builtin; refine wpList_append_grows _ rfl _ _ 22 rfl 5 i0 (.int .u8 0) 1 1 Try.underlying22 hi hz0 hz1 hz2 rfl (by decide) (some ⟨W1.heap.size + 1, 0, none⟩) 4 4 (vz [119, 104, 114, 102]) rfl (by simp) rfl (fun b e => by cases e; exact seg_news sl4) ⟨W3.heap.size, 0, none⟩ 4 4 (vz (bytesOf m 4)) rfl (by rw [vz4]) (seg_news sp4) (vz_one _) (by omega) (by unfold maxLen; omega) (by omega) ?_; intro v5 W5 hown5 hgrow5)
  have hb5 : Below W4.heap.size W4 W5 := (Below.refl _ _).grown hgrow5 (Nat.le_refl _) (by simp)
  have A5 := A4.next hb5
  obtain ⟨g5, c5, rfl, hc5, hd5, he5⟩ := own_shape hown5 (by omega)
  replace hown5 := own_base hown5 A4.below.size
  rw [show vz [119, 104, 114, 102] ++ vz (bytesOf m 4) = vz ([119, 104, 114, 102] ++ bytesOf m 4) from (List.map_append).symm] at hown5
  have hGg : G ≠ g5 := by have := (A4.own.lt G rfl).2; omega
  clear A4 sl4 sp4 hgrow5 hb5
  have D5 : Below W5.heap.size W5 W5.drew := ⟨rfl, rfl, rfl, Nat.le_refl _, fun _ _ => rfl⟩
  have A6 := A5.next D5
  have hown6 := own_below hown5 D5
  have Tr : True := trivial
  clear A5 hown5 D5
  go_region_held3 (fun w' => True) (trivial) (first
    | (refine step_app8 (by rfl) _ _ (by rfl) w.heap.size (.slice (some ⟨g5, 0, none⟩) 8 c5) 8 ([119, 104, 114, 102] ++ bytesOf m 4) (by rfl) hown8 W7.heap.size 4 4 (bytesOf g 4) (by rfl) (bytesOf_length g 4) (by omega) (by omega) (seg_own hownP (bytesOf_length g 4)) A8.below.size ?_; intro g9 c9 W9 hown9 hgrow9; have hq9 := own_low hown8 rfl; have hb9 : Below w.heap.size W8 W9 := (Below.refl _ _).grown hgrow9 A8.below.size (fun k e => by cases e; exact hq9); have hs9 : Seg W9 (some ⟨g9, 0, none⟩) (hd m g) := (by have := seg_own hown9 (by simp [bytesOf_length]); rwa [List.append_assoc] at this); have hB9 := A8.below.trans hb9; have hp9 : Seg W9 (some ⟨G, 0, none⟩) (hd m g) := (by have := (seg_block A8.seg (hgrow9.block G (A8.own.lt G rfl).2 (fun e => hGg (by cases e; rfl)))).take 12; rwa [hB_take] at this))
    | (go_at_call 16; refine (same_true _ _ 12 16 c9 (hd m g) W9 (by omega) (hd_length m g) hp9 hs9).mono ?_; rintro e w' ⟨rfl, n10, rfl⟩; have hB10 := below_drewN hB9 n10)
    | (go_at_call 17; refine (Put_any g (by omega) (by omega) _).mono ?_; rintro e W8 ⟨rfl, hownP, hb8⟩; have A8 := A7.next hb8; have hown8 := own_below hown7 hb8)
    | (go_at_call 14; refine (alive_any _).mono ?_; rintro e W7 ⟨rfl, hb7⟩; have A7 := A6.next hb7; have hown7 := own_below hown6 hb7))
  all_goals
    clear hown9 hgrow9 hs9 hp9 hown8 hownP hown7 hown6 A6 A7 A8 hb7 hb8 hb9 hB9
    go_wp2
    go_ret
    exact ⟨rfl, hB10⟩
end Go.Proofs.Ytcpciodcecpibaa
