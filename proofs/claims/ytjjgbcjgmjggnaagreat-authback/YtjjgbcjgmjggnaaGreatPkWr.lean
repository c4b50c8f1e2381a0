/- A writer of bytes as a whole: all that was laid, or more than its limit, and it refuses. -/
import Derived.Test.YtjjgbcjgmjggnaaGreatDigBuf
import Derived.Test.YtjjgbcjgmjggnaaGreatReader
import Derived.Deep.RegionHeld3
import Derived.Deep.DeepCutAuto
namespace Go.Proofs.YtjjgbcjgmjggnaaGreat
open Go.RowKit
set_option linter.unusedVariables false
set_option maxRecDepth 100000

/-- What lies in the blocks X has not turned. -/
def Kept (X : Nat → Prop) (w w' : World) : Prop := Touch (fun k => ¬ X k) w w'
theorem Kept.refl (X : Nat → Prop) (w : World) : Kept X w w := Touch.refl _ w
theorem Kept.trans {X : Nat → Prop} {a b c : World} (h : Kept X a b) (k : Kept X b c) : Kept X a c := Touch.trans h k
theorem Kept.less {X Y : Nat → Prop} {a b : World} (h : Kept X a b) (hY : ∀ k, k < a.heap.size → Y k → X k) : Kept Y a b := Touch.mono h (fun k hk hx hy => hx (hY k hk hy))
theorem Kept.of {X : Nat → Prop} {a b : World} (t : Touch (fun _ => False) a b) : Kept X a b := Touch.mono t (fun _ _ h => h.elim)
theorem Kept.cell {X : Nat → Prop} {a b : World} (h : Kept X a b) {p : Addr} {v : Value} (hc : a.cell? p = some v) (hx : X p.block) : b.cell? p = some v := (Touch.cell h (lt_of_cellA hc) (fun n => n hx)).trans hc
theorem Kept.frozen {X : Nat → Prop} {a b : World} (h : Kept X a b) {p : Addr} {v : Bool} (hp : p.block < a.heap.size) (hc : a.frozen? p = v) (hx : X p.block) : b.frozen? p = v := (Touch.frozen h hp (fun n => n hx)).trans hc
theorem Kept.size {X : Nat → Prop} {a b : World} (h : Kept X a b) : a.heap.size ≤ b.heap.size := Touch.size h
theorem Kept.after {X : Nat → Prop} {a b c : World} (k : Kept X b c) (t : Touch (fun _ => False) a b) (h : ∀ i, i < a.heap.size → X i) : Touch (fun _ => False) a c := Touch.trans' t k (fun i hi hf => hf (h i hi))
/-- All that was there. -/
theorem Kept.all {X : Nat → Prop} {a b : World} (h : Kept X a b) (hX : ∀ k, k < a.heap.size → X k) : Touch (fun _ => False) a b := Touch.mono h (fun k hk hx => hx (hX k hk))

/-- A writer lies in block b, and neither it nor its row in X: L was laid whole, or L is more than it takes and it refuses. -/
structure Wr (X : Nat → Prop) (w : World) (b : Nat) (L : List Int) (most : Int) : Prop where
  out : ∃ v, (((L.length : Int) ≤ most ∧ WrS w b v L most 0) ∨ (most < (L.length : Int) ∧ ∃ bs, WrS w b v bs most 11)) ∧ ¬ X b ∧ (∀ k, v.ownBlock = some k → ¬ X k) ∧ (∀ k, X k → k < w.heap.size)

theorem Wr.lt {X : Nat → Prop} {w : World} {b : Nat} {L : List Int} {most : Int} (h : Wr X w b L most) : b < w.heap.size := by
  obtain ⟨v, ⟨_, h⟩ | ⟨_, bs, h⟩, _⟩ := h
  · exact lt_of_cell h.made
  · exact lt_of_cell h.made
theorem WrS.own_lt {w : World} {b : Nat} {v : Value} {bs : List Int} {most err : Int} (h : WrS w b v bs most err) {k : Nat} (hk : v.ownBlock = some k) : k < w.heap.size := (h.own.lt k hk).2
/-- Others turn blocks of X alone, or make new ones. -/
theorem Wr.touch {X F : Nat → Prop} {w w' : World} {b : Nat} {L : List Int} {most : Int} (h : Wr X w b L most) (t : Touch F w w') (hF : ∀ k, F k → X k) : Wr X w' b L most := by
  obtain ⟨v, h, hb, ho, hX⟩ := h
  refine ⟨v, ?_, hb, ho, fun k hk => Nat.lt_of_lt_of_le (hX k hk) t.size⟩
  rcases h with ⟨hl, h⟩ | ⟨hl, bs, h⟩
  · exact Or.inl ⟨hl, h.touch t (fun f => hb (hF b f)) (fun k hk f => ho k hk (hF k f))⟩
  · exact Or.inr ⟨hl, bs, h.touch t (fun f => hb (hF b f)) (fun k hk f => ho k hk (hF k f))⟩
theorem Wr.keep {X : Nat → Prop} {w w' : World} {b : Nat} {L : List Int} {most : Int} (h : Wr X w b L most) (t : Touch (fun _ => False) w w') : Wr X w' b L most := h.touch t (fun _ h => h.elim)
/-- A new block, or several: X may hold them. -/
theorem Wr.more {X Y : Nat → Prop} {w w' : World} {b : Nat} {L : List Int} {most : Int} (h : Wr X w b L most) (t : Touch (fun _ => False) w w') (hY : ∀ k, Y k → X k ∨ (w.heap.size ≤ k ∧ k < w'.heap.size)) : Wr Y w' b L most := by
  have hl := h.lt
  obtain ⟨v, h, hb, ho, hX⟩ := h
  have hs := t.size
  refine ⟨v, ?_, fun hy => ?_, fun k hk hy => ?_, fun k hk => ?_⟩
  · rcases h with ⟨hl, h⟩ | ⟨hl, bs, h⟩
    · exact Or.inl ⟨hl, h.touch t (fun f => f) (fun k hk f => f)⟩
    · exact Or.inr ⟨hl, bs, h.touch t (fun f => f) (fun k hk f => f)⟩
  · rcases hY b hy with h' | h'
    · exact hb h'
    · omega
  · rcases hY k hy with h' | h'
    · exact ho k hk h'
    · have hk' : k < w.heap.size := by
        rcases h with ⟨_, h⟩ | ⟨_, bs, h⟩
        · exact h.own_lt hk
        · exact h.own_lt hk
      omega
  · rcases hY k hk with h' | h'
    · have := hX k h'; omega
    · exact h'.2
theorem Wr.less {X Y : Nat → Prop} {w : World} {b : Nat} {L : List Int} {most : Int} (h : Wr X w b L most) (hY : ∀ k, Y k → X k) : Wr Y w b L most :=
  h.more (Touch.refl _ _) (fun k hk => Or.inl (hY k hk))

/-- Behind a step of the writer. -/
theorem wr_step {X : Nat → Prop} {w w' : World} {b : Nat} {v v' : Value} {bs L' : List Int} {most err : Int} (h : WrS w b v bs most err) (hb : ¬ X b) (ho : ∀ k, v.ownBlock = some k → ¬ X k) (hX : ∀ k, X k → k < w.heap.size)
    (t : Touch (wrF b v) w w') (m : Moved w v v') (h' : ((L'.length : Int) ≤ most ∧ WrS w' b v' L' most 0) ∨ (most < (L'.length : Int) ∧ ∃ bs, WrS w' b v' bs most 11)) : Wr X w' b L' most ∧ Kept X w w' := by
  refine ⟨⟨v', h', hb, fun k hk hx => ?_, fun k hk => Nat.lt_of_lt_of_le (hX k hk) t.size⟩, t.mono (fun i _ hi hx => ?_)⟩
  · rcases m with m | ⟨g, hg, hl⟩
    · exact ho k (m ▸ hk) hx
    · rw [hg] at hk
      cases hk
      have := hX _ hx
      omega
  · rcases hi with hi | hi
    · exact hb (hi ▸ hx)
    · exact ho i hi hx
theorem wr_same {X : Nat → Prop} {w : World} {b : Nat} {v : Value} {L' : List Int} {most : Int} (hb : ¬ X b) (ho : ∀ k, v.ownBlock = some k → ¬ X k) (hX : ∀ k, X k → k < w.heap.size)
    (h' : ((L'.length : Int) ≤ most ∧ WrS w b v L' most 0) ∨ (most < (L'.length : Int) ∧ ∃ bs, WrS w b v bs most 11)) : Wr X w b L' most ∧ Kept X w w := ⟨⟨v, h', hb, ho, hX⟩, Kept.refl _ _⟩
theorem put_ways {w' : World} {b : Nat} {v' : Value} {L ns : List Int} {most : Int} (hl : (L.length : Int) ≤ most) (h' : WrS w' b v' (putB L most 0 ns) most (putE L most 0 ns)) :
    (((L ++ ns).length : Int) ≤ most ∧ WrS w' b v' (L ++ ns) most 0) ∨ (most < ((L ++ ns).length : Int) ∧ ∃ bs, WrS w' b v' bs most 11) := by
  simp only [putB, putE, true_and, if_true] at h'
  rw [List.length_append]
  by_cases hf : (L.length : Int) + ns.length ≤ most
  · rw [if_pos hf, if_pos hf] at h'
    exact Or.inl ⟨by push_cast; omega, h'⟩
  · rw [if_neg hf, if_neg hf] at h'
    exact Or.inr ⟨by push_cast; omega, _, h'⟩

theorem write_w (most : Int) (w : World) (hm : 0 ≤ most) :
    Calls Tryz.prog 63 #[.int .i64 most] w fun e w' => e = .returned (.pointer (some ⟨w.heap.size, 0, none⟩)) ∧ Wr (fun k => k < w.heap.size) w' w.heap.size [] most ∧ Touch (fun _ => False) w w' := by
  refine (write_any most w hm).mono ?_
  rintro e w' ⟨rfl, h, t⟩
  exact ⟨rfl, ⟨_, Or.inl ⟨by simpa using hm, h⟩, Nat.lt_irrefl _, by simp [Value.ownBlock], fun k hk => Nat.lt_of_lt_of_le hk t.size⟩, t⟩

theorem put_some (X : Nat → Prop) (b : Nat) (L : List Int) (most : Int) (ad : Addr) (c : Nat) (ns : List Int) (w : World) (h : Wr X w b L most) (hm : most ≤ 1048576)
    (hs : ∀ j u, (bytesOf ns)[j]? = some u → w.cell? (ad.add j) = some u) (hn : ns.length ≤ 68719476736) :
    Calls Tryz.prog 106 #[.pointer (some ⟨b, 0, none⟩), .slice (some ad) ns.length c] w fun e w' => e = .returned (.pointer (some ⟨b, 0, none⟩)) ∧ Wr X w' b (L ++ ns) most ∧ Kept X w w' := by
  obtain ⟨v, h, hb, ho, hX⟩ := h
  rcases h with ⟨hl, h⟩ | ⟨hl, bs, h⟩
  · refine (put_all b v L most 0 ad c ns w h hs (by omega)).mono ?_
    rintro e w' ⟨rfl, v', h', t, m⟩
    exact ⟨rfl, wr_step h hb ho hX t m (put_ways hl h')⟩
  · refine (put_dead b v bs most 11 _ w h (by omega)).mono ?_
    rintro e w' ⟨rfl, rfl⟩
    exact ⟨rfl, wr_same hb ho hX (Or.inr ⟨by rw [List.length_append]; push_cast; omega, bs, h⟩)⟩

theorem put_none (X : Nat → Prop) (b : Nat) (L : List Int) (most : Int) (w : World) (h : Wr X w b L most) (hm : most ≤ 1048576) :
    Calls Tryz.prog 106 #[.pointer (some ⟨b, 0, none⟩), .slice none 0 0] w fun e w' => e = .returned (.pointer (some ⟨b, 0, none⟩)) ∧ Wr X w' b L most ∧ Kept X w w' := by
  obtain ⟨v, h, hb, ho, hX⟩ := h
  rcases h with ⟨hl, h⟩ | ⟨hl, bs, h⟩
  · obtain ⟨i0, hi, hz0, hz1, hz2⟩ := info_parts Tryz.info5
    have H := h
    obtain ⟨h0, h1, h2, h3, hf1, hf3, hown⟩ := h
    have hlt := lt_of_cell h0
    obtain ⟨va, vc, rfl⟩ : ∃ va vc, v = .slice va L.length vc := by
      rcases hown.2 with ⟨rfl, e⟩ | ⟨g, cap, cur, rfl, _⟩
      · exact ⟨none, 0, by rw [e]⟩
      · exact ⟨_, _, rfl⟩
    have HW : Hid (WrS w b (.slice va L.length vc) L most 0) := H
    have HO : Hid (∀ k, (Value.slice va L.length vc).ownBlock = some k → ¬ X k) := ho
    have HS : ∀ n, Hid (WrS (w.drewN n) b (.slice va L.length vc) L most 0) := fun n => H.drewN n
    clear ho
    go_enter Tryz.func106, Tryz.ntmps106
    go_wp2_with (go_at_call 126; refine (whole_any _ 0 _ (by assumption) (by assumption)).mono ?_; rintro e w' ⟨rfl, rfl⟩)
    go_quiet (fail)
    go_wp2_with (at_builtin; (refine wpList_append_own_none rfl (.tmp 28) (.tmp 29) 43 rfl (b + 1) 5 i0 1 Tryz.underlying43 hi (.slice va L.length vc) L.length (bytesOf L) rfl (HS _).out.own rfl ?_))
    have HT : Hid (WrS ((w.drewN nq).setCell ⟨b, 1, none⟩ (.slice va L.length vc)) b (.slice va L.length vc) L most 0 ∧ Touch (wrF b (.slice va L.length vc)) (w.drewN nq) ((w.drewN nq).setCell ⟨b, 1, none⟩ (.slice va L.length vc))) := wr_appended (bs' := L) (HS nq).out (World.grownBy.refl _ _) (HS nq).out.own
    clear hown H HS
    go_wp2
    go_ret
    exact ⟨rfl, wr_step HW.out hb HO.out hX (((Touch.refl _ _).drewN nq).trans HT.out.2) (Or.inl rfl) (Or.inl ⟨hl, HT.out.1⟩)⟩
  · refine (put_dead b v bs most 11 _ w h (by omega)).mono ?_
    rintro e w' ⟨rfl, rfl⟩
    exact ⟨rfl, wr_same hb ho hX (Or.inr ⟨hl, bs, h⟩)⟩

/-- Put of bytes that came in. -/
theorem put_arg (X : Nat → Prop) (b : Nat) (L : List Int) (most : Int) (s : Value) (ns : List Int) (w : World) (h : Wr X w b L most) (hm : most ≤ 1048576) (hs : ArgAt w s ns) (hn : ns.length ≤ 68719476736) :
    Calls Tryz.prog 106 #[.pointer (some ⟨b, 0, none⟩), s] w fun e w' => e = .returned (.pointer (some ⟨b, 0, none⟩)) ∧ Wr X w' b (L ++ ns) most ∧ Kept X w w' := by
  rcases hs with ⟨rfl, rfl⟩ | ⟨ad, c, rfl, h1, h2, h3⟩
  · rw [List.append_nil]; exact put_none X b L most w h hm
  · exact put_some X b L most ad c ns w h hm h3 hn

theorem number_w (n : Nat) (hn : n = 1 ∨ n = 2 ∨ n = 3 ∨ n = 4) (X : Nat → Prop) (b : Nat) (L : List Int) (most : Int) (x : Int) (w : World) (h : Wr X w b L most) (hm : most ≤ 1048576) (hx : 0 ≤ x ∧ x < 256 ^ n) :
    Calls Tryz.prog 107 #[.pointer (some ⟨b, 0, none⟩), .int .u32 x, .int .i64 n] w fun e w' => e = .returned (.pointer (some ⟨b, 0, none⟩)) ∧ Wr X w' b (L ++ numBytes n x) most ∧ Kept X w w' := by
  obtain ⟨v, h, hb, ho, hX⟩ := h
  rcases h with ⟨hl, h⟩ | ⟨hl, bs, h⟩
  · rcases hn with rfl | rfl | rfl | rfl
    · refine (wnumber_put1 b v L most x w h (by omega) (by omega)).mono ?_
      rintro e w' ⟨rfl, v', h', t, m⟩
      exact ⟨rfl, wr_step h hb ho hX t m (put_ways hl h')⟩
    · refine (wnumber_put2 b v L most x w h (by omega) (by omega)).mono ?_
      rintro e w' ⟨rfl, v', h', t, m⟩
      exact ⟨rfl, wr_step h hb ho hX t m (put_ways hl h')⟩
    · refine (wnumber_put3 b v L most x w h (by omega) (by omega)).mono ?_
      rintro e w' ⟨rfl, v', h', t, m⟩
      exact ⟨rfl, wr_step h hb ho hX t m (put_ways hl h')⟩
    · refine (wnumber_put4 b v L most x w h (by omega) (by omega)).mono ?_
      rintro e w' ⟨rfl, v', h', t, m⟩
      exact ⟨rfl, wr_step h hb ho hX t m (put_ways hl h')⟩
  · refine (wnumber_dead b v bs most 11 x n w h (by omega)).mono ?_
    rintro e w' ⟨rfl, rfl⟩
    exact ⟨rfl, wr_same hb ho hX (Or.inr ⟨by rw [List.length_append]; push_cast; omega, bs, h⟩)⟩
theorem number_w1 (X : Nat → Prop) (b : Nat) (L : List Int) (most : Int) (x : Int) (w : World) (h : Wr X w b L most) (hm : most ≤ 1048576) (hx : 0 ≤ x ∧ x < 256) :
    Calls Tryz.prog 107 #[.pointer (some ⟨b, 0, none⟩), .int .u32 x, .int .i64 1] w fun e w' => e = .returned (.pointer (some ⟨b, 0, none⟩)) ∧ Wr X w' b (L ++ numBytes 1 x) most ∧ Kept X w w' :=
  number_w 1 (by omega) X b L most x w h hm (by omega)
theorem number_w2 (X : Nat → Prop) (b : Nat) (L : List Int) (most : Int) (x : Int) (w : World) (h : Wr X w b L most) (hm : most ≤ 1048576) (hx : 0 ≤ x ∧ x < 65536) :
    Calls Tryz.prog 107 #[.pointer (some ⟨b, 0, none⟩), .int .u32 x, .int .i64 2] w fun e w' => e = .returned (.pointer (some ⟨b, 0, none⟩)) ∧ Wr X w' b (L ++ numBytes 2 x) most ∧ Kept X w w' :=
  number_w 2 (by omega) X b L most x w h hm (by omega)
theorem number_w3 (X : Nat → Prop) (b : Nat) (L : List Int) (most : Int) (x : Int) (w : World) (h : Wr X w b L most) (hm : most ≤ 1048576) (hx : 0 ≤ x ∧ x < 16777216) :
    Calls Tryz.prog 107 #[.pointer (some ⟨b, 0, none⟩), .int .u32 x, .int .i64 3] w fun e w' => e = .returned (.pointer (some ⟨b, 0, none⟩)) ∧ Wr X w' b (L ++ numBytes 3 x) most ∧ Kept X w w' :=
  number_w 3 (by omega) X b L most x w h hm (by omega)
theorem number_w4 (X : Nat → Prop) (b : Nat) (L : List Int) (most : Int) (x : Int) (w : World) (h : Wr X w b L most) (hm : most ≤ 1048576) (hx : 0 ≤ x ∧ x < 4294967296) :
    Calls Tryz.prog 107 #[.pointer (some ⟨b, 0, none⟩), .int .u32 x, .int .i64 4] w fun e w' => e = .returned (.pointer (some ⟨b, 0, none⟩)) ∧ Wr X w' b (L ++ numBytes 4 x) most ∧ Kept X w w' :=
  number_w 4 (by omega) X b L most x w h hm (by omega)

theorem done_w (X : Nat → Prop) (b : Nat) (L : List Int) (most : Int) (w : World) (h : Wr X w b L most) (hl : (L.length : Int) ≤ most) (hm : most ≤ 1048576) :
    Calls Tryz.prog 100 #[.pointer (some ⟨b, 0, none⟩)] w fun e w' => ∃ v', e = .returned (.tuple #[v', .int .i64 0]) ∧ Buf w w' v' L := by
  obtain ⟨v, ⟨_, h⟩ | ⟨hl', _⟩, _⟩ := h
  · refine (done_ok b v L most w h (by omega)).mono ?_
    rintro e w' ⟨v', rfl, hown, t⟩
    exact ⟨v', rfl, ⟨hown, t⟩⟩
  · omega
end Go.Proofs.YtjjgbcjgmjggnaaGreat

namespace Go.Proofs.YtjjgbcjgmjggnaaGreat
open Go.RowKit
set_option linter.unusedVariables false
set_option maxRecDepth 100000

theorem wlen_any (b : Nat) (v : Value) (bs : List Int) (most err : Int) (w : World) (h : WrS w b v bs most err) : Calls Tryz.prog 99 #[.pointer (some ⟨b, 0, none⟩)] w fun e w' => e = .returned (.int .i64 bs.length) ∧ w = w' := by
  obtain ⟨va, vc, rfl⟩ : ∃ va vc, v = .slice va bs.length vc := by
    rcases h.own.2 with ⟨rfl, e⟩ | ⟨g, cap, cur, rfl, _⟩
    · exact ⟨none, 0, by rw [e]⟩
    · exact ⟨_, _, rfl⟩
  have h1 := h.row
  clear h
  go_enter Tryz.func99, Tryz.ntmps99
  go_wp2
  go_ret
  exact ⟨rfl, rfl⟩
theorem len_w (X : Nat → Prop) (b : Nat) (L : List Int) (most : Int) (w : World) (h : Wr X w b L most) (hl : (L.length : Int) ≤ most) :
    Calls Tryz.prog 99 #[.pointer (some ⟨b, 0, none⟩)] w fun e w' => e = .returned (.int .i64 L.length) ∧ w = w' := by
  obtain ⟨v, ⟨_, h⟩ | ⟨hl', _⟩, _⟩ := h
  · exact wlen_any b v L most 0 w h
  · omega
theorem proom_ok (X : Nat → Prop) (b : Nat) (L : List Int) (n : Nat) (w : World) (h : Wr X w b L 65535) (hL : L.length ≤ 65535) (hn : n ≤ 1099511627776) (hl : L.length + n ≤ 65535) :
    Calls Tryz.prog 121 #[.agg #[.pointer (some ⟨b, 0, none⟩)], .int .i64 (n : Int)] w fun e w' => e = .returned (.tuple #[]) ∧ Touch (fun _ => False) w w' := by
  have HW : Hid (Wr X w b L 65535) := h
  have hw64 : wrap64 ((L.length : Int) + (n : Int)) = (L.length : Int) + (n : Int) := by simp [wrap64]; omega
  have hd : decide ((L.length : Int) + (n : Int) ≤ 65535) = true := by simp; omega
  have hL' : (L.length : Int) ≤ 65535 := by omega
  clear h hL hn hl
  go_enter Tryz.func121, Tryz.ntmps121
  go_wp2_with fail
  refine Calls.mono (len_w X b L 65535 _ (HW.out.keep ((Touch.refl _ _).alloc _)) hL') ?_
  rintro e w1 ⟨rfl, rfl⟩
  go_wp2_with fail
  refine Calls.mono (pneed_t _ 11 _ (by first | rfl | exact hd | simpa using hd)) ?_
  rintro e w2 ⟨rfl, rfl⟩
  go_wp2
  go_end0
  exact ⟨rfl, (Touch.refl _ _).alloc _⟩
theorem proom_no (X : Nat → Prop) (b : Nat) (L : List Int) (n : Nat) (w : World) (h : Wr X w b L 65535) (hL : L.length ≤ 65535) (hn : n ≤ 1099511627776) (hl : 65535 < L.length + n) :
    Calls Tryz.prog 121 #[.agg #[.pointer (some ⟨b, 0, none⟩)], .int .i64 (n : Int)] w fun e w' => e = .panicked (pflawC 11) ∧ Touch (fun _ => False) w w' := by
  have HW : Hid (Wr X w b L 65535) := h
  have hw64 : wrap64 ((L.length : Int) + (n : Int)) = (L.length : Int) + (n : Int) := by simp [wrap64]; omega
  have hd : decide ((L.length : Int) + (n : Int) ≤ 65535) = false := by simp; omega
  have hL' : (L.length : Int) ≤ 65535 := by omega
  clear h hL hn hl
  go_enter Tryz.func121, Tryz.ntmps121
  go_wp2_with fail
  refine Calls.mono (len_w X b L 65535 _ (HW.out.keep ((Touch.refl _ _).alloc _)) hL') ?_
  rintro e w1 ⟨rfl, rfl⟩
  go_wp2_with fail
  refine Calls.mono (pneed_f _ 11 _ (by first | rfl | exact hd | simpa using hd)) ?_
  rintro e w2 ⟨rfl, rfl⟩
  exact ⟨rfl, rfl, (Touch.refl _ _).alloc _⟩

set_option maxHeartbeats 1000000 in
theorem pwnum_ok (n : Nat) (hn : n = 1 ∨ n = 2 ∨ n = 3 ∨ n = 4) (x : Int) (X : Nat → Prop) (b : Nat) (L : List Int) (w : World) (h : Wr X w b L 65535) (hL : L.length ≤ 65535) (hx : 0 ≤ x ∧ x < 256 ^ n) (hl : L.length + n ≤ 65535) :
    Calls Tryz.prog 92 #[.agg #[.pointer (some ⟨b, 0, none⟩)], .int .u32 x, .int .i64 (n : Int)] w fun e w' => e = .returned (.agg #[.pointer (some ⟨b, 0, none⟩)]) ∧ Wr X w' b (L ++ numBytes n x) 65535 ∧ Kept X w w' := by
  obtain ⟨wa, hwa⟩ : ∃ wa, wa = (w.alloc (.cells #[.pointer (some ⟨b, 0, none⟩)] 114)).alloc (.cells #[.pointer none] 114) := ⟨_, rfl⟩
  have ta : Touch (fun _ => False) w wa := by rw [hwa]; exact ((Touch.refl _ w).alloc _).alloc _
  have ca : wa.cell? ⟨w.heap.size, 0, none⟩ = some (.pointer (some ⟨b, 0, none⟩)) := by rw [hwa]; simp [go_sem]
  have cb : wa.cell? ⟨w.heap.size + 1, 0, none⟩ = some (.pointer none) := by rw [hwa]; simp [go_sem]
  have fb : wa.frozen? ⟨w.heap.size + 1, 0, none⟩ = false := by rw [hwa]; simp [go_sem]
  have za : wa.heap.size = w.heap.size + 2 := by rw [hwa]; simp
  obtain ⟨Y, hY⟩ : ∃ Y : Nat → Prop, Y = fun k => X k ∨ (w.heap.size ≤ k ∧ k < wa.heap.size) := ⟨_, rfl⟩
  have HA : Hid (Wr Y wa b L 65535) := by subst hY; exact h.more ta (fun k hk => hk)
  have y0 : Hid (Y w.heap.size) := by subst hY; exact Or.inr (by omega)
  have y1 : Hid (Y (w.heap.size + 1)) := by subst hY; exact Or.inr (by omega)
  have YX : Hid (∀ k, X k → Y k) := by subst hY; exact fun k hk => Or.inl hk
  have TA : Hid (Touch (fun _ => False) w wa) := ta
  have HR := proom_ok Y b L n wa HA.out hL (by omega) hl
  clear hY h ta za
  go_enter Tryz.func92, Tryz.ntmps92
  go_wp2_with fail
  rw [← hwa]
  refine Calls.mono HR ?_
  rintro e w1 ⟨rfl, t1⟩
  have H1 : Hid (Wr Y w1 b L 65535) := HA.out.keep t1
  have T1 : Hid (Touch (fun _ => False) w w1) := TA.out.trans t1
  have d0 := (t1.cell (p := ⟨w.heap.size, 0, none⟩) (lt_of_cellA ca) (fun h => h)).trans ca
  have d1 := (t1.cell (p := ⟨w.heap.size + 1, 0, none⟩) (lt_of_cellA cb) (fun h => h)).trans cb
  have f1 := (t1.frozen (p := ⟨w.heap.size + 1, 0, none⟩) (lt_of_cellA cb) (fun h => h)).trans fb
  have HX : Hid (0 ≤ x ∧ x < 256 ^ n) := hx
  clear hx
  clear HR hwa ca cb fb HA t1 TA
  go_wp2_with fail
  refine Calls.mono (number_w n hn Y b L 65535 x _ H1.out (by omega) HX.out) ?_
  rintro e w2 ⟨rfl, h2, k2⟩
  have e0 := k2.cell d0 y0.out
  have e1 := k2.cell d1 y1.out
  have g1 := k2.frozen (lt_of_cellA d1) f1 y1.out
  have H2 : Hid (Wr Y w2 b (L ++ numBytes n x) 65535) := h2
  have K2 : Hid (Kept X w w2) := (Kept.of T1.out).trans (k2.less (fun k _ hk => YX.out k hk))
  have hne : Hid (w.heap.size ≤ w.heap.size + 1) := Nat.le_succ _
  clear d0 d1 f1 k2 h2 H1
  have de : (w2.setCell ⟨w.heap.size + 1, 0, none⟩ (.pointer (some ⟨b, 0, none⟩))).cell? ⟨w.heap.size + 1, 0, none⟩ = some (.pointer (some ⟨b, 0, none⟩)) := by simp [e1, go_sem]
  have H3 : Hid (Wr X (w2.setCell ⟨w.heap.size + 1, 0, none⟩ (.pointer (some ⟨b, 0, none⟩))) b (L ++ numBytes n x) 65535) := by
    have q : Touch (fun k => k = w.heap.size + 1) w2 (w2.setCell ⟨w.heap.size + 1, 0, none⟩ (.pointer (some ⟨b, 0, none⟩))) := Touch.setCell (F := fun k => k = w.heap.size + 1) (p := ⟨w.heap.size + 1, 0, none⟩) (Touch.refl _ _) (Or.inl rfl) _
    exact (H2.out.touch q (fun k hk => by rw [hk]; exact y1.out)).less YX.out
  have K3 : Hid (Kept X w (w2.setCell ⟨w.heap.size + 1, 0, none⟩ (.pointer (some ⟨b, 0, none⟩)))) := Touch.setCell (p := ⟨w.heap.size + 1, 0, none⟩) K2.out (Or.inr hne.out) _
  go_wp2_with fail
  refine bodyPost_ret (v := .agg #[.pointer (some ⟨b, 0, none⟩)]) (by simp [results, Tryz.results92, go_sem, de]) rfl ?_
  exact ⟨rfl, H3.out, K3.out⟩

set_option maxHeartbeats 1000000 in
theorem pwnum_no (n : Nat) (hn : n = 1 ∨ n = 2 ∨ n = 3 ∨ n = 4) (x : Int) (X : Nat → Prop) (b : Nat) (L : List Int) (w : World) (h : Wr X w b L 65535) (hL : L.length ≤ 65535) (hx : 0 ≤ x ∧ x < 256 ^ n) (hl : 65535 < L.length + n) :
    Calls Tryz.prog 92 #[.agg #[.pointer (some ⟨b, 0, none⟩)], .int .u32 x, .int .i64 (n : Int)] w fun e w' => e = .panicked (pflawC 11) ∧ Kept X w w' := by
  obtain ⟨wa, hwa⟩ : ∃ wa, wa = (w.alloc (.cells #[.pointer (some ⟨b, 0, none⟩)] 114)).alloc (.cells #[.pointer none] 114) := ⟨_, rfl⟩
  have ta : Touch (fun _ => False) w wa := by rw [hwa]; exact ((Touch.refl _ w).alloc _).alloc _
  have ca : wa.cell? ⟨w.heap.size, 0, none⟩ = some (.pointer (some ⟨b, 0, none⟩)) := by rw [hwa]; simp [go_sem]
  have cb : wa.cell? ⟨w.heap.size + 1, 0, none⟩ = some (.pointer none) := by rw [hwa]; simp [go_sem]
  have fb : wa.frozen? ⟨w.heap.size + 1, 0, none⟩ = false := by rw [hwa]; simp [go_sem]
  have za : wa.heap.size = w.heap.size + 2 := by rw [hwa]; simp
  obtain ⟨Y, hY⟩ : ∃ Y : Nat → Prop, Y = fun k => X k ∨ (w.heap.size ≤ k ∧ k < wa.heap.size) := ⟨_, rfl⟩
  have HA : Hid (Wr Y wa b L 65535) := by subst hY; exact h.more ta (fun k hk => hk)
  have y0 : Hid (Y w.heap.size) := by subst hY; exact Or.inr (by omega)
  have y1 : Hid (Y (w.heap.size + 1)) := by subst hY; exact Or.inr (by omega)
  have YX : Hid (∀ k, X k → Y k) := by subst hY; exact fun k hk => Or.inl hk
  have TA : Hid (Touch (fun _ => False) w wa) := ta
  have HR := proom_no Y b L n wa HA.out hL (by omega) hl
  clear hY h ta za
  go_enter Tryz.func92, Tryz.ntmps92
  go_wp2_with fail
  rw [← hwa]
  refine Calls.mono HR ?_
  rintro e w1 ⟨rfl, t1⟩
  exact ⟨rfl, rfl, Kept.of (TA.out.trans t1)⟩

set_option maxHeartbeats 1000000 in
theorem pwput_ok (s : Value) (ns : List Int) (X : Nat → Prop) (b : Nat) (L : List Int) (w : World) (h : Wr X w b L 65535) (hL : L.length ≤ 65535) (hs : ArgAt w s ns) (hc : ns.length ≤ 1099511627776) (hl : L.length + ns.length ≤ 65535) :
    Calls Tryz.prog 91 #[.agg #[.pointer (some ⟨b, 0, none⟩)], s] w fun e w' => e = .returned (.agg #[.pointer (some ⟨b, 0, none⟩)]) ∧ Wr X w' b (L ++ ns) 65535 ∧ Kept X w w' := by
  have HS : Hid (ArgAt w s ns) := hs
  obtain ⟨sa, sc, rfl, -⟩ := hs.form
  clear hs
  obtain ⟨wa, hwa⟩ : ∃ wa, wa = (w.alloc (.cells #[.pointer (some ⟨b, 0, none⟩)] 114)).alloc (.cells #[.pointer none] 114) := ⟨_, rfl⟩
  have ta : Touch (fun _ => False) w wa := by rw [hwa]; exact ((Touch.refl _ w).alloc _).alloc _
  have ca : wa.cell? ⟨w.heap.size, 0, none⟩ = some (.pointer (some ⟨b, 0, none⟩)) := by rw [hwa]; simp [go_sem]
  have cb : wa.cell? ⟨w.heap.size + 1, 0, none⟩ = some (.pointer none) := by rw [hwa]; simp [go_sem]
  have fb : wa.frozen? ⟨w.heap.size + 1, 0, none⟩ = false := by rw [hwa]; simp [go_sem]
  have za : wa.heap.size = w.heap.size + 2 := by rw [hwa]; simp
  obtain ⟨Y, hY⟩ : ∃ Y : Nat → Prop, Y = fun k => X k ∨ (w.heap.size ≤ k ∧ k < wa.heap.size) := ⟨_, rfl⟩
  have HA : Hid (Wr Y wa b L 65535) := by subst hY; exact h.more ta (fun k hk => hk)
  have y0 : Hid (Y w.heap.size) := by subst hY; exact Or.inr (by omega)
  have y1 : Hid (Y (w.heap.size + 1)) := by subst hY; exact Or.inr (by omega)
  have YX : Hid (∀ k, X k → Y k) := by subst hY; exact fun k hk => Or.inl hk
  have TA : Hid (Touch (fun _ => False) w wa) := ta
  have HR := proom_ok Y b L ns.length wa HA.out hL (by omega) hl
  clear hY h ta za
  go_enter Tryz.func91, Tryz.ntmps91
  go_wp2_with fail
  rw [← hwa]
  refine Calls.mono HR ?_
  rintro e w1 ⟨rfl, t1⟩
  have H1 : Hid (Wr Y w1 b L 65535) := HA.out.keep t1
  have T1 : Hid (Touch (fun _ => False) w w1) := TA.out.trans t1
  have d0 := (t1.cell (p := ⟨w.heap.size, 0, none⟩) (lt_of_cellA ca) (fun h => h)).trans ca
  have d1 := (t1.cell (p := ⟨w.heap.size + 1, 0, none⟩) (lt_of_cellA cb) (fun h => h)).trans cb
  have f1 := (t1.frozen (p := ⟨w.heap.size + 1, 0, none⟩) (lt_of_cellA cb) (fun h => h)).trans fb
  have HS1 : Hid (ArgAt w1 (.slice sa ns.length sc) ns) := HS.out.keep T1.out (fun _ _ h => h)
  clear HS
  clear HR hwa ca cb fb HA t1 TA
  go_wp2_with fail
  refine Calls.mono (put_arg Y b L 65535 _ ns _ H1.out (by omega) HS1.out (by omega)) ?_
  rintro e w2 ⟨rfl, h2, k2⟩
  have e0 := k2.cell d0 y0.out
  have e1 := k2.cell d1 y1.out
  have g1 := k2.frozen (lt_of_cellA d1) f1 y1.out
  have H2 : Hid (Wr Y w2 b (L ++ ns) 65535) := h2
  have K2 : Hid (Kept X w w2) := (Kept.of T1.out).trans (k2.less (fun k _ hk => YX.out k hk))
  have hne : Hid (w.heap.size ≤ w.heap.size + 1) := Nat.le_succ _
  clear d0 d1 f1 k2 h2 H1
  have de : (w2.setCell ⟨w.heap.size + 1, 0, none⟩ (.pointer (some ⟨b, 0, none⟩))).cell? ⟨w.heap.size + 1, 0, none⟩ = some (.pointer (some ⟨b, 0, none⟩)) := by simp [e1, go_sem]
  have H3 : Hid (Wr X (w2.setCell ⟨w.heap.size + 1, 0, none⟩ (.pointer (some ⟨b, 0, none⟩))) b (L ++ ns) 65535) := by
    have q : Touch (fun k => k = w.heap.size + 1) w2 (w2.setCell ⟨w.heap.size + 1, 0, none⟩ (.pointer (some ⟨b, 0, none⟩))) := Touch.setCell (F := fun k => k = w.heap.size + 1) (p := ⟨w.heap.size + 1, 0, none⟩) (Touch.refl _ _) (Or.inl rfl) _
    exact (H2.out.touch q (fun k hk => by rw [hk]; exact y1.out)).less YX.out
  have K3 : Hid (Kept X w (w2.setCell ⟨w.heap.size + 1, 0, none⟩ (.pointer (some ⟨b, 0, none⟩)))) := Touch.setCell (p := ⟨w.heap.size + 1, 0, none⟩) K2.out (Or.inr hne.out) _
  go_wp2_with fail
  refine bodyPost_ret (v := .agg #[.pointer (some ⟨b, 0, none⟩)]) (by simp [results, Tryz.results91, go_sem, de]) rfl ?_
  exact ⟨rfl, H3.out, K3.out⟩

set_option maxHeartbeats 1000000 in
theorem pwput_no (s : Value) (ns : List Int) (X : Nat → Prop) (b : Nat) (L : List Int) (w : World) (h : Wr X w b L 65535) (hL : L.length ≤ 65535) (hs : ArgAt w s ns) (hc : ns.length ≤ 1099511627776) (hl : 65535 < L.length + ns.length) :
    Calls Tryz.prog 91 #[.agg #[.pointer (some ⟨b, 0, none⟩)], s] w fun e w' => e = .panicked (pflawC 11) ∧ Kept X w w' := by
  have HS : Hid (ArgAt w s ns) := hs
  obtain ⟨sa, sc, rfl, -⟩ := hs.form
  clear hs
  obtain ⟨wa, hwa⟩ : ∃ wa, wa = (w.alloc (.cells #[.pointer (some ⟨b, 0, none⟩)] 114)).alloc (.cells #[.pointer none] 114) := ⟨_, rfl⟩
  have ta : Touch (fun _ => False) w wa := by rw [hwa]; exact ((Touch.refl _ w).alloc _).alloc _
  have ca : wa.cell? ⟨w.heap.size, 0, none⟩ = some (.pointer (some ⟨b, 0, none⟩)) := by rw [hwa]; simp [go_sem]
  have cb : wa.cell? ⟨w.heap.size + 1, 0, none⟩ = some (.pointer none) := by rw [hwa]; simp [go_sem]
  have fb : wa.frozen? ⟨w.heap.size + 1, 0, none⟩ = false := by rw [hwa]; simp [go_sem]
  have za : wa.heap.size = w.heap.size + 2 := by rw [hwa]; simp
  obtain ⟨Y, hY⟩ : ∃ Y : Nat → Prop, Y = fun k => X k ∨ (w.heap.size ≤ k ∧ k < wa.heap.size) := ⟨_, rfl⟩
  have HA : Hid (Wr Y wa b L 65535) := by subst hY; exact h.more ta (fun k hk => hk)
  have y0 : Hid (Y w.heap.size) := by subst hY; exact Or.inr (by omega)
  have y1 : Hid (Y (w.heap.size + 1)) := by subst hY; exact Or.inr (by omega)
  have YX : Hid (∀ k, X k → Y k) := by subst hY; exact fun k hk => Or.inl hk
  have TA : Hid (Touch (fun _ => False) w wa) := ta
  have HR := proom_no Y b L ns.length wa HA.out hL (by omega) hl
  clear hY h ta za
  go_enter Tryz.func91, Tryz.ntmps91
  go_wp2_with fail
  rw [← hwa]
  refine Calls.mono HR ?_
  rintro e w1 ⟨rfl, t1⟩
  exact ⟨rfl, rfl, Kept.of (TA.out.trans t1)⟩
end Go.Proofs.YtjjgbcjgmjggnaaGreat
