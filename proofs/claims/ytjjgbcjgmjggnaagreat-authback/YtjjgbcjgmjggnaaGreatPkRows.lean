/- EqState where both are the same. -/
import Derived.Test.YtjjgbcjgmjggnaaGreatStRow0
import Derived.Test.YtjjgbcjgmjggnaaGreatStRead2
import Derived.Test.YtjjgbcjgmjggnaaGreatPkIt20
import Derived.Test.YtjjgbcjgmjggnaaGreatPkRu
import Derived.Stop.BytesEq
import Derived.Deep.QuietTactic
import Derived.Test.YtjjgbcjgmjggnaaGreatOwnUn
import Derived.Test.YtjjgbcjgmjggnaaGreatStRead3
import Derived.Deep.MidRow
namespace Go.Proofs.YtjjgbcjgmjggnaaGreat
open Go.RowKit
set_option linter.unusedVariables false
set_option maxRecDepth 100000

/-- Two states that are the same. -/
theorem estate_true (h : HV) (va vb : Value) (rs : List Int) (w : World) (ha : RowAt w va rs) (hb : ArgAt w vb rs) : Calls Tryz.prog 86 #[h.sv va, h.sv vb] w fun e w' => e = .returned (.bool true) ∧ Touch (fun _ => False) w w' := by
  obtain ⟨aa, ca, rfl, _⟩ := rowAt_form ha
  obtain ⟨ab, cb, rfl, _⟩ := hb.form
  have HE := fun w ha hb => eq_true (.slice aa rs.length ca) (.slice ab rs.length cb) rs w ha hb
  have HA : Hid (RowAt w (.slice aa rs.length ca) rs) := ha
  have HB : Hid (ArgAt w (.slice ab rs.length cb) rs) := hb
  clear ha hb
  show Calls Tryz.prog 86 #[.agg #[.int .u16 h.age, .int .u8 h.opts, .int .u8 h.typ, .int .u32 h.id, .int .u32 h.adv, .int .i32 h.seq, .int .u16 h.sum, .int .u16 h.len, .slice aa rs.length ca], .agg #[.int .u16 h.age, .int .u8 h.opts, .int .u8 h.typ, .int .u32 h.id, .int .u32 h.adv, .int .i32 h.seq, .int .u16 h.sum, .int .u16 h.len, .slice ab rs.length cb]] w _
  go_enter Tryz.func86, Tryz.ntmps86
  go_wp2_with fail
  refine Calls.mono (HE _ (HA.out.touch (((Touch.refl (fun _ => False) w).alloc _).alloc _) (fun _ _ h => h)) (HB.out.keepN (((Touch.refl _ w).alloc _).alloc _))) ?_
  rintro e w1 ⟨rfl, nd, rfl⟩
  go_wp2
  go_ret
  exact ⟨rfl, (((Touch.refl _ w).alloc _).alloc _).drewN nd⟩
end Go.Proofs.YtjjgbcjgmjggnaaGreat

namespace Go.Proofs.YtjjgbcjgmjggnaaGreat
open Go.RowKit
set_option linter.unusedVariables false
set_option maxRecDepth 100000

theorem cbytes_any (v : Value) (l : List Int) (w : World) (hv : ArgAt w v l) (hl : l.length ≤ 1000000) : Calls Tryz.prog 14 #[v] w fun e w' => ∃ u, e = .returned u ∧ Buf w w' u l := by
  have HV' : Hid (ArgAt w v l) := hv
  clear hv
  go_enter Tryz.func14, Tryz.ntmps14
  go_wp2_with (at_builtin; refine app_arg rfl (.tmp 4) (.tmp 5) rfl w (.slice none 0 0) [] rfl (Buf.nil (Touch.refl _ _)) v l rfl HV'.out (by simp; omega) ?_)
  intro v' w' b
  obtain ⟨xa, xc, rfl⟩ := b.form
  have B : Hid (Buf w w' (.slice xa ([] ++ l).length xc) ([] ++ l)) := b
  clear b
  go_wp2
  go_ret
  exact ⟨_, rfl, by simpa using B.out⟩
set_option maxHeartbeats 1000000 in
theorem cstate_any (h : HV) (v : Value) (rs : List Int) (w : World) (hv : ArgAt w v rs) (hl : rs.length ≤ 1000000) : Calls Tryz.prog 68 #[h.sv v] w fun e w' => ∃ u, e = .returned (h.sv u) ∧ Buf w w' u rs := by
  obtain ⟨a, c, rfl, hm⟩ := hv.form
  have HC := fun w h => cbytes_any (.slice a rs.length c) rs w h hl
  have HV' : Hid (ArgAt w (.slice a rs.length c) rs) := hv
  clear hv
  show Calls Tryz.prog 68 #[.agg #[.int .u16 h.age, .int .u8 h.opts, .int .u8 h.typ, .int .u32 h.id, .int .u32 h.adv, .int .i32 h.seq, .int .u16 h.sum, .int .u16 h.len, .slice a rs.length c]] w _
  go_enter Tryz.func68, Tryz.ntmps68
  go_wp2_with fail
  refine Calls.mono (HC _ (HV'.out.keepN (((Touch.refl _ _).alloc _).alloc _))) ?_
  rintro e w1 ⟨u, rfl, b1⟩
  obtain ⟨xa, xc, rfl⟩ := b1.form
  have O1 : Out w1 w.heap.size h (.slice a rs.length c) := ((Out.new w h (.slice a rs.length c) 95).keep ((Touch.refl _ _).alloc _)).keep b1.t
  have O2 : Hid (Out (w1.setCell ⟨w.heap.size, 8, none⟩ (.slice xa rs.length xc)) w.heap.size h (.slice xa rs.length xc)) := O1.set8 _
  have R1 : Room w1 (w.heap.size + 1) 9 := by
    have := (Room.new (w.alloc (.cells #[.int .u16 h.age, .int .u8 h.opts, .int .u8 h.typ, .int .u32 h.id, .int .u32 h.adv, .int .i32 h.seq, .int .u16 h.sum, .int .u16 h.len, .slice a rs.length c] 95)) #[.int .u16 0, .int .u8 0, .int .u8 0, .int .u32 0, .int .u32 0, .int .i32 0, .int .u16 0, .int .u16 0, .slice none 0 0] 95).keep b1.t
    simpa using this
  have U2 : Touch (fun k => k = w.heap.size) w1 (w1.setCell ⟨w.heap.size, 8, none⟩ (.slice xa rs.length xc)) := Touch.setCell (F := fun k => k = w.heap.size) (p := ⟨w.heap.size, 8, none⟩) (Touch.refl _ _) (Or.inl rfl) _
  have R2 : Hid (Room (w1.setCell ⟨w.heap.size, 8, none⟩ (.slice xa rs.length xc)) (w.heap.size + 1) 9) := R1.touch U2 (by show ¬ w.heap.size + 1 = w.heap.size; omega)
  have hgb : Hid (∀ k, (Value.slice xa rs.length xc).ownBlock = some k → w.heap.size + 1 < k) := fun k hk => by have := (b1.own.lt k hk).1; simp at this; omega
  have B2 : Hid ((w1.setCell ⟨w.heap.size, 8, none⟩ (.slice xa rs.length xc)).ownsRow w.heap.size 5 1 (.slice xa rs.length xc) rs.length (bytesOf rs)) := own_lower (own_touch b1.own U2 (fun k hk e => by have := hgb.out k hk; omega)) (by simp; omega)
  have T2 : Hid (Touch (fun _ => False) w (w1.setCell ⟨w.heap.size, 8, none⟩ (.slice xa rs.length xc))) := ((((Touch.refl _ w).alloc _).alloc _).trans b1.t).setCell (Or.inr (Nat.le_refl _)) _
  obtain ⟨⟨⟨s0, s1, s2, s3, s4, s5, s6, s7⟩, s8⟩, f6, f7, f8⟩ := O1.fits
  clear b1 O1 R1 U2 HC
  go_upto_region 2 with fail
  clear s0 s1 s2 s3 s4 s5 s6 s7 s8 f6 f7 f8
  have hne : ¬ w.heap.size = w.heap.size + 1 := by omega
  have hne' : ¬ w.heap.size + 1 = w.heap.size := by omega
  generalize w1.setCell ⟨w.heap.size, 8, none⟩ (.slice xa rs.length xc) = w2 at *
  obtain ⟨⟨⟨s0, s1, s2, s3, s4, s5, s6, s7⟩, s8⟩, -⟩ := O2.out.fits
  generalize hg : w.heap.size + 1 = g at *
  have HG : Hid (w.heap.size + 1 = g) := hg
  clear hg
  obtain ⟨zz0, zc0, zf0⟩ := R2.out 0 (by omega)
  obtain ⟨zz1, zc1, zf1⟩ := R2.out 1 (by omega)
  obtain ⟨zz2, zc2, zf2⟩ := R2.out 2 (by omega)
  obtain ⟨zz3, zc3, zf3⟩ := R2.out 3 (by omega)
  obtain ⟨zz4, zc4, zf4⟩ := R2.out 4 (by omega)
  obtain ⟨zz5, zc5, zf5⟩ := R2.out 5 (by omega)
  obtain ⟨zz6, zc6, zf6⟩ := R2.out 6 (by omega)
  obtain ⟨zz7, zc7, zf7⟩ := R2.out 7 (by omega)
  obtain ⟨zz8, zc8, zf8⟩ := R2.out 8 (by omega)
  obtain ⟨wz, hwz⟩ : ∃ wz, wz = (((((((((w2.setCell ⟨g, 0, none⟩ (.int .u16 h.age)).setCell ⟨g, 1, none⟩ (.int .u8 h.opts)).setCell ⟨g, 2, none⟩ (.int .u8 h.typ)).setCell ⟨g, 3, none⟩ (.int .u32 h.id)).setCell ⟨g, 4, none⟩ (.int .u32 h.adv)).setCell ⟨g, 5, none⟩ (.int .i32 h.seq)).setCell ⟨g, 6, none⟩ (.int .u16 h.sum)).setCell ⟨g, 7, none⟩ (.int .u16 h.len)).setCell ⟨g, 8, none⟩ (.slice xa rs.length xc)) := ⟨_, rfl⟩
  have zd0 : wz.cell? ⟨g, 0, none⟩ = some (.int .u16 h.age) := by rw [hwz]; simp [zc0, go_sem]
  have zd1 : wz.cell? ⟨g, 1, none⟩ = some (.int .u8 h.opts) := by rw [hwz]; simp [zc1, go_sem]
  have zd2 : wz.cell? ⟨g, 2, none⟩ = some (.int .u8 h.typ) := by rw [hwz]; simp [zc2, go_sem]
  have zd3 : wz.cell? ⟨g, 3, none⟩ = some (.int .u32 h.id) := by rw [hwz]; simp [zc3, go_sem]
  have zd4 : wz.cell? ⟨g, 4, none⟩ = some (.int .u32 h.adv) := by rw [hwz]; simp [zc4, go_sem]
  have zd5 : wz.cell? ⟨g, 5, none⟩ = some (.int .i32 h.seq) := by rw [hwz]; simp [zc5, go_sem]
  have zd6 : wz.cell? ⟨g, 6, none⟩ = some (.int .u16 h.sum) := by rw [hwz]; simp [zc6, go_sem]
  have zd7 : wz.cell? ⟨g, 7, none⟩ = some (.int .u16 h.len) := by rw [hwz]; simp [zc7, go_sem]
  have zd8 : wz.cell? ⟨g, 8, none⟩ = some (.slice xa rs.length xc) := by rw [hwz]; simp [zc8, go_sem]
  have HUz : Hid (Touch (fun k => k = g) w2 wz) := by show Touch _ _ _; rw [hwz]; refine Touch.setCell (F := fun k => k = g) (p := ⟨g, 8, none⟩) ?_ (Or.inl rfl) _; refine Touch.setCell (F := fun k => k = g) (p := ⟨g, 7, none⟩) ?_ (Or.inl rfl) _; refine Touch.setCell (F := fun k => k = g) (p := ⟨g, 6, none⟩) ?_ (Or.inl rfl) _; refine Touch.setCell (F := fun k => k = g) (p := ⟨g, 5, none⟩) ?_ (Or.inl rfl) _; refine Touch.setCell (F := fun k => k = g) (p := ⟨g, 4, none⟩) ?_ (Or.inl rfl) _; refine Touch.setCell (F := fun k => k = g) (p := ⟨g, 3, none⟩) ?_ (Or.inl rfl) _; refine Touch.setCell (F := fun k => k = g) (p := ⟨g, 2, none⟩) ?_ (Or.inl rfl) _; refine Touch.setCell (F := fun k => k = g) (p := ⟨g, 1, none⟩) ?_ (Or.inl rfl) _; refine Touch.setCell (F := fun k => k = g) (p := ⟨g, 0, none⟩) ?_ (Or.inl rfl) _; exact Touch.refl _ _
  have HWz : Hid (wz = (((((((((w2.setCell ⟨g, 0, none⟩ (.int .u16 h.age)).setCell ⟨g, 1, none⟩ (.int .u8 h.opts)).setCell ⟨g, 2, none⟩ (.int .u8 h.typ)).setCell ⟨g, 3, none⟩ (.int .u32 h.id)).setCell ⟨g, 4, none⟩ (.int .u32 h.adv)).setCell ⟨g, 5, none⟩ (.int .i32 h.seq)).setCell ⟨g, 6, none⟩ (.int .u16 h.sum)).setCell ⟨g, 7, none⟩ (.int .u16 h.len)).setCell ⟨g, 8, none⟩ (.slice xa rs.length xc))) := hwz
  clear hwz
  go_wp2_with fail
  rw [← HWz.out]
  clear HWz zc0 zf0 zc1 zf1 zc2 zf2 zc3 zf3 zc4 zf4 zc5 zf5 zc6 zf6 zc7 zf7 zc8 zf8
  refine bodyPost_ret (v := .agg #[.int .u16 h.age, .int .u8 h.opts, .int .u8 h.typ, .int .u32 h.id, .int .u32 h.adv, .int .i32 h.seq, .int .u16 h.sum, .int .u16 h.len, .slice xa rs.length xc]) (by simp [results, Tryz.results68, go_sem, zd0, zd1, zd2, zd3, zd4, zd5, zd6, zd7, zd8]) rfl ?_
  exact ⟨_, rfl, ⟨own_touch B2.out HUz.out (fun k hk e => by have := hgb.out k hk; omega), T2.out.trans' HUz.out (fun i hi e => by have := HG.out; omega)⟩⟩
end Go.Proofs.YtjjgbcjgmjggnaaGreat

namespace Go.Proofs.YtjjgbcjgmjggnaaGreat
open Go.RowKit
set_option linter.unusedVariables false
set_option maxRecDepth 100000

section
variable {ops : Array Oper} {rest : List Oper} {o : Oper} {a : Act} {Q : Exit → Act → World → Prop} {w : World}
/-- append(p, x...), of any element type, to a row of one's own. -/
theorem vapp_own2 (hgd : o.guard = none) (s x : Operand) (t : TypeId) (ho : o.op = .call { callee := .builtin .append, args := #[s, x], argTypes := #[t, t] })
    (e k bytes : Nat) (z : Value) (ht : Tryz.prog.underlying t = some (.slice e)) (hi : (Tryz.prog.info? e).map (fun i => (i.zero, i.size, i.bytes)) = some (some z, k, bytes)) (hzs : z.cells.size = k) (hk : 0 < k) (hby : bytes ≤ 64)
    (base : Nat) (v : Value) (n : Nat) (xs : List Value) (hs : a.eval s = v) (hb : w.ownsRow base e k v n xs) (hbase : base ≤ w.heap.size) (ad : Addr) (m c : Nat) (news : List Value) (hx : a.eval x = .slice (some ad) m c) (hnl : news.length = m * k) (hr : ∀ j u, news[j]? = some u → w.cell? (ad.add j) = some u) (h1 : ∀ u ∈ news, u.oneCell' = true) (hl : n + m ≤ 1099511627776)
    (h : ∀ v' w', w'.ownsRow base e k v' (n + m) (xs ++ news) → Touch (fun j => v.ownBlock = some j) w w' → wpList Tryz.prog ops Q rest (a.put o.dst v') w') : wpList Tryz.prog ops Q (o :: rest) a w := by
  obtain ⟨i0, hi, hz0, hz1, hz2⟩ := info_parts hi
  have hmul : (n + m) * bytes ≤ 1099511627776 * 64 := Nat.mul_le_mul hl hby
  refine wpList_append_own_at w hgd s x t ho base e i0 z k bytes ht hi hz0 hz1 hz2 hzs hk v n xs hs hb ad m c news hx hnl hr h1 (by unfold maxLen; omega) (by omega) hbase ?_
  intro v' w' hown hg _ _
  exact h v' w' hown ((Touch.refl _ _).grown hg (fun k hk => Or.inl hk))
end
theorem oneCell_headsC (l : List HV) : ∀ u ∈ headsC l, u.oneCell' = true := by
  intro u hu
  obtain ⟨x, _, hu⟩ := List.mem_flatMap.1 hu
  simp [HV.cells] at hu
  rcases hu with rfl | rfl | rfl | rfl | rfl | rfl | rfl | rfl <;> rfl
theorem oneCell_keysC (l : List KV) : ∀ u ∈ keysC l, u.oneCell' = true := by
  intro u hu
  obtain ⟨x, _, hu⟩ := List.mem_flatMap.1 hu
  simp [KV.cells] at hu
  rcases hu with rfl | rfl | rfl <;> rfl
theorem cwordsP (v : Value) (l : List Int) (w : World) (hv : WordsAt w v l) (hl : l.length ≤ 1000000) : Calls Tryz.prog 67 #[v] w fun e w' => ∃ u, e = .returned u ∧ VBuf 22 1 w w' u l.length (wordsC l) := by
  have HV' : Hid (WordsAt w v l) := hv
  clear hv
  go_enter Tryz.func67, Tryz.ntmps67
  go_wp2_with (at_builtin; refine vapp_arg rfl (.tmp 4) (.tmp 5) 24 rfl 22 1 4 (.int .u32 0) Tryz.underlying24 Tryz.infoU4 rfl (by decide) (by decide) w (.slice none 0 0) 0 [] rfl (VBuf.nil _ _ (Touch.refl _ _)) v l.length (wordsC l) rfl HV'.out (oneCell_wordsC l) (by omega) ?_)
  intro v' w' b
  obtain ⟨xa, xc, rfl⟩ := b.form
  have B : Hid (VBuf 22 1 w w' (.slice xa l.length xc) l.length (wordsC l)) := b
  clear b
  go_wp2
  go_ret
  exact ⟨_, rfl, B.out⟩
theorem cheadsP (v : Value) (l : List HV) (w : World) (hv : HeadsAt w v l) (hl : l.length ≤ 1000000) : Calls Tryz.prog 35 #[v] w fun e w' => ∃ u, e = .returned u ∧ VBuf 93 8 w w' u l.length (headsC l) := by
  have HV' : Hid (HeadsAt w v l) := hv
  clear hv
  go_enter Tryz.func35, Tryz.ntmps35
  go_wp2_with (at_builtin; refine vapp_arg rfl (.tmp 4) (.tmp 5) 27 rfl 93 8 20 (.agg #[.int .u16 0, .int .u8 0, .int .u8 0, .int .u32 0, .int .u32 0, .int .i32 0, .int .u16 0, .int .u16 0]) Tryz.underlying27 Tryz.infoH8 rfl (by decide) (by decide) w (.slice none 0 0) 0 [] rfl (VBuf.nil _ _ (Touch.refl _ _)) v l.length (headsC l) rfl HV'.out (oneCell_headsC l) (by omega) ?_)
  intro v' w' b
  obtain ⟨xa, xc, rfl⟩ := b.form
  have B : Hid (VBuf 93 8 w w' (.slice xa l.length xc) l.length (headsC l)) := b
  clear b
  go_wp2
  go_ret
  exact ⟨_, rfl, B.out⟩
theorem ckeysP (v : Value) (l : List KV) (w : World) (hv : KeysAt w v l) (hl : l.length ≤ 1000000) : Calls Tryz.prog 33 #[v] w fun e w' => ∃ u, e = .returned u ∧ VBuf 148 3 w w' u l.length (keysC l) := by
  have HV' : Hid (KeysAt w v l) := hv
  clear hv
  go_enter Tryz.func33, Tryz.ntmps33
  go_wp2_with (at_builtin; refine vapp_arg rfl (.tmp 4) (.tmp 5) 30 rfl 148 3 12 (.agg #[.int .u8 0, .int .u32 0, .int .u32 0]) Tryz.underlying30 Tryz.infoK3 rfl (by decide) (by decide) w (.slice none 0 0) 0 [] rfl (VBuf.nil _ _ (Touch.refl _ _)) v l.length (keysC l) rfl HV'.out (oneCell_keysC l) (by omega) ?_)
  intro v' w' b
  obtain ⟨xa, xc, rfl⟩ := b.form
  have B : Hid (VBuf 148 3 w w' (.slice xa l.length xc) l.length (keysC l)) := b
  clear b
  go_wp2
  go_ret
  exact ⟨_, rfl, B.out⟩
set_option maxHeartbeats 1000000 in
theorem ewordsP (va vb : Value) (l : List Int) (w : World) (ha : WordsAt w va l) (hb : WordsAt w vb l) :
    Calls Tryz.prog 85 #[va, vb] w fun e w' => e = .returned (.bool true) ∧ ∃ n, w' = w.drewN n := by
  obtain ⟨aa, ca, rfl, hm⟩ := ValsAt.form ha
  obtain ⟨ab, cb, rfl, _⟩ := ValsAt.form hb
  unfold maxLen at hm
  have HA : Hid (WordsAt w (.slice aa l.length ca) l) := ha
  have HB : Hid (WordsAt w (.slice ab l.length cb) l) := hb
  clear ha hb
  go_enter Tryz.func85, Tryz.ntmps85
  go_wp2
  go_loopw [5] (fun i wr => ∃ k nd : Nat, k ≤ l.length ∧ i = .int .i64 k ∧ wr = w.drewN nd) (fun i _ => l.length - (intOf i).toNat)
  case atStart => exact ⟨0, 0, Nat.zero_le _, rfl, rfl⟩
  case round =>
    obtain ⟨j, nd, hk, rfl, rfl⟩ := hrel
    by_cases hlt : j < l.length
    · obtain ⟨x, hx⟩ : ∃ x, l[j]? = some x := ⟨l[j], by simp [hlt]⟩
      obtain ⟨ga, oa, _, ea, -, -, za⟩ := ValsAt.cells HA.out (by omega) (by omega)
      obtain ⟨gb, ob, _, eb, -, -, zb⟩ := ValsAt.cells HB.out (by omega) (by omega)
      cases ea
      cases eb
      have pa : ∀ (i : Nat) u, i < 1 → [Value.int .u32 x][i]? = some u → w.cell? ⟨ga, oa + j, none⟩ = some u := fun i u hi hu => za j u (by have hi0 : i = 0 := (by omega); subst hi0; simpa [wordsC, hx] using hu)
      have pb : ∀ (i : Nat) u, i < 1 → [Value.int .u32 x][i]? = some u → w.cell? ⟨gb, ob + j, none⟩ = some u := fun i u hi hu => zb j u (by have hi0 : i = 0 := (by omega); subst hi0; simpa [wordsC, hx] using hu)
      have ha0 : w.cell? ⟨ga, oa + j, none⟩ = some (.int .u32 x) := pa 0 _ (by omega) rfl
      have hb0 : w.cell? ⟨gb, ob + j, none⟩ = some (.int .u32 x) := pb 0 _ (by omega) rfl
      clear za zb pa pb hx HA HB
      go_wp2
      go_quiet (fail)
      go_wp2
      go_roundw
      case rel => exact ⟨j + 1, _, by omega, by go_num, rfl⟩
      case measure => simp [intOf]; omega
    · go_wp2
      go_ret
      exact ⟨rfl, nd, rfl⟩
set_option maxHeartbeats 1000000 in
theorem eheadsP (va vb : Value) (l : List HV) (w : World) (ha : HeadsAt w va l) (hb : HeadsAt w vb l) :
    Calls Tryz.prog 48 #[va, vb] w fun e w' => e = .returned (.bool true) ∧ ∃ n, w' = w.drewN n := by
  obtain ⟨aa, ca, rfl, hm⟩ := ValsAt.form ha
  obtain ⟨ab, cb, rfl, _⟩ := ValsAt.form hb
  unfold maxLen at hm
  have HA : Hid (HeadsAt w (.slice aa l.length ca) l) := ha
  have HB : Hid (HeadsAt w (.slice ab l.length cb) l) := hb
  clear ha hb
  go_enter Tryz.func48, Tryz.ntmps48
  go_wp2
  go_loopw [5] (fun i wr => ∃ k nd : Nat, k ≤ l.length ∧ i = .int .i64 k ∧ wr = w.drewN nd) (fun i _ => l.length - (intOf i).toNat)
  case atStart => exact ⟨0, 0, Nat.zero_le _, rfl, rfl⟩
  case round =>
    obtain ⟨j, nd, hk, rfl, rfl⟩ := hrel
    by_cases hlt : j < l.length
    · obtain ⟨x, hx⟩ : ∃ x, l[j]? = some x := ⟨l[j], by simp [hlt]⟩
      obtain ⟨ga, oa, _, ea, -, -, za⟩ := ValsAt.cells HA.out (by omega) (by omega)
      obtain ⟨gb, ob, _, eb, -, -, zb⟩ := ValsAt.cells HB.out (by omega) (by omega)
      cases ea
      cases eb
      have pa : ∀ i u, i < 8 → x.cells[i]? = some u → w.cell? ⟨ga, oa + (j * 8 + i), none⟩ = some u := fun i u hi hu => za (j * 8 + i) u (by rw [headsC_at l j i x hx hi]; exact hu)
      have pb : ∀ i u, i < 8 → x.cells[i]? = some u → w.cell? ⟨gb, ob + (j * 8 + i), none⟩ = some u := fun i u hi hu => zb (j * 8 + i) u (by rw [headsC_at l j i x hx hi]; exact hu)
      have ha0 : w.cell? ⟨ga, oa + j * 8, none⟩ = some (.int .u16 x.age) := pa 0 _ (by omega) rfl
      have ha1 : w.cell? ⟨ga, oa + j * 8 + 1, none⟩ = some (.int .u8 x.opts) := by rw [Nat.add_assoc]; exact pa 1 _ (by omega) rfl
      have ha2 : w.cell? ⟨ga, oa + j * 8 + 2, none⟩ = some (.int .u8 x.typ) := by rw [Nat.add_assoc]; exact pa 2 _ (by omega) rfl
      have ha3 : w.cell? ⟨ga, oa + j * 8 + 3, none⟩ = some (.int .u32 x.id) := by rw [Nat.add_assoc]; exact pa 3 _ (by omega) rfl
      have ha4 : w.cell? ⟨ga, oa + j * 8 + 4, none⟩ = some (.int .u32 x.adv) := by rw [Nat.add_assoc]; exact pa 4 _ (by omega) rfl
      have ha5 : w.cell? ⟨ga, oa + j * 8 + 5, none⟩ = some (.int .i32 x.seq) := by rw [Nat.add_assoc]; exact pa 5 _ (by omega) rfl
      have ha6 : w.cell? ⟨ga, oa + j * 8 + 6, none⟩ = some (.int .u16 x.sum) := by rw [Nat.add_assoc]; exact pa 6 _ (by omega) rfl
      have ha7 : w.cell? ⟨ga, oa + j * 8 + 7, none⟩ = some (.int .u16 x.len) := by rw [Nat.add_assoc]; exact pa 7 _ (by omega) rfl
      have hb0 : w.cell? ⟨gb, ob + j * 8, none⟩ = some (.int .u16 x.age) := pb 0 _ (by omega) rfl
      have hb1 : w.cell? ⟨gb, ob + j * 8 + 1, none⟩ = some (.int .u8 x.opts) := by rw [Nat.add_assoc]; exact pb 1 _ (by omega) rfl
      have hb2 : w.cell? ⟨gb, ob + j * 8 + 2, none⟩ = some (.int .u8 x.typ) := by rw [Nat.add_assoc]; exact pb 2 _ (by omega) rfl
      have hb3 : w.cell? ⟨gb, ob + j * 8 + 3, none⟩ = some (.int .u32 x.id) := by rw [Nat.add_assoc]; exact pb 3 _ (by omega) rfl
      have hb4 : w.cell? ⟨gb, ob + j * 8 + 4, none⟩ = some (.int .u32 x.adv) := by rw [Nat.add_assoc]; exact pb 4 _ (by omega) rfl
      have hb5 : w.cell? ⟨gb, ob + j * 8 + 5, none⟩ = some (.int .i32 x.seq) := by rw [Nat.add_assoc]; exact pb 5 _ (by omega) rfl
      have hb6 : w.cell? ⟨gb, ob + j * 8 + 6, none⟩ = some (.int .u16 x.sum) := by rw [Nat.add_assoc]; exact pb 6 _ (by omega) rfl
      have hb7 : w.cell? ⟨gb, ob + j * 8 + 7, none⟩ = some (.int .u16 x.len) := by rw [Nat.add_assoc]; exact pb 7 _ (by omega) rfl
      clear za zb pa pb hx HA HB
      go_wp2
      go_quiet (fail)
      go_wp2
      go_roundw
      case rel => exact ⟨j + 1, _, by omega, by go_num, rfl⟩
      case measure => simp [intOf]; omega
    · go_wp2
      go_ret
      exact ⟨rfl, nd, rfl⟩
set_option maxHeartbeats 1000000 in
theorem ekeysP (va vb : Value) (l : List KV) (w : World) (ha : KeysAt w va l) (hb : KeysAt w vb l) :
    Calls Tryz.prog 46 #[va, vb] w fun e w' => e = .returned (.bool true) ∧ ∃ n, w' = w.drewN n := by
  obtain ⟨aa, ca, rfl, hm⟩ := ValsAt.form ha
  obtain ⟨ab, cb, rfl, _⟩ := ValsAt.form hb
  unfold maxLen at hm
  have HA : Hid (KeysAt w (.slice aa l.length ca) l) := ha
  have HB : Hid (KeysAt w (.slice ab l.length cb) l) := hb
  clear ha hb
  go_enter Tryz.func46, Tryz.ntmps46
  go_wp2
  go_loopw [5] (fun i wr => ∃ k nd : Nat, k ≤ l.length ∧ i = .int .i64 k ∧ wr = w.drewN nd) (fun i _ => l.length - (intOf i).toNat)
  case atStart => exact ⟨0, 0, Nat.zero_le _, rfl, rfl⟩
  case round =>
    obtain ⟨j, nd, hk, rfl, rfl⟩ := hrel
    by_cases hlt : j < l.length
    · obtain ⟨x, hx⟩ : ∃ x, l[j]? = some x := ⟨l[j], by simp [hlt]⟩
      obtain ⟨ga, oa, _, ea, -, -, za⟩ := ValsAt.cells HA.out (by omega) (by omega)
      obtain ⟨gb, ob, _, eb, -, -, zb⟩ := ValsAt.cells HB.out (by omega) (by omega)
      cases ea
      cases eb
      have pa : ∀ i u, i < 3 → x.cells[i]? = some u → w.cell? ⟨ga, oa + (j * 3 + i), none⟩ = some u := fun i u hi hu => za (j * 3 + i) u (by rw [keysC_at l j i x hx hi]; exact hu)
      have pb : ∀ i u, i < 3 → x.cells[i]? = some u → w.cell? ⟨gb, ob + (j * 3 + i), none⟩ = some u := fun i u hi hu => zb (j * 3 + i) u (by rw [keysC_at l j i x hx hi]; exact hu)
      have ha0 : w.cell? ⟨ga, oa + j * 3, none⟩ = some (.int .u8 x.typ) := pa 0 _ (by omega) rfl
      have ha1 : w.cell? ⟨ga, oa + j * 3 + 1, none⟩ = some (.int .u32 x.id) := by rw [Nat.add_assoc]; exact pa 1 _ (by omega) rfl
      have ha2 : w.cell? ⟨ga, oa + j * 3 + 2, none⟩ = some (.int .u32 x.adv) := by rw [Nat.add_assoc]; exact pa 2 _ (by omega) rfl
      have hb0 : w.cell? ⟨gb, ob + j * 3, none⟩ = some (.int .u8 x.typ) := pb 0 _ (by omega) rfl
      have hb1 : w.cell? ⟨gb, ob + j * 3 + 1, none⟩ = some (.int .u32 x.id) := by rw [Nat.add_assoc]; exact pb 1 _ (by omega) rfl
      have hb2 : w.cell? ⟨gb, ob + j * 3 + 2, none⟩ = some (.int .u32 x.adv) := by rw [Nat.add_assoc]; exact pb 2 _ (by omega) rfl
      clear za zb pa pb hx HA HB
      go_wp2
      go_quiet (fail)
      go_wp2
      go_roundw
      case rel => exact ⟨j + 1, _, by omega, by go_num, rfl⟩
      case measure => simp [intOf]; omega
    · go_wp2
      go_ret
      exact ⟨rfl, nd, rfl⟩
/-- The loop of copied states. -/
structure CsR (ks : List SE) (w : World) (gg : Nat) (s3 s4 : Value) (wr : World) : Prop where
  out : ∃ (j : Nat) (l : List SE) (sa : Option Addr) (sc : Nat), j ≤ ks.length ∧ gg = ks.length - j ∧ s4 = .int .i64 (j : Int) ∧ s3 = .slice sa j sc ∧ l.map SE.p = (ks.take j).map SE.p ∧ l.length = j ∧ wr.ownsRow w.heap.size 95 9 (.slice sa j sc) j (statesC l) ∧ (∀ x ∈ l, wr.ownsRow w.heap.size 5 1 x.v x.rs.length (bytesOf x.rs)) ∧ Touch (fun _ => False) w wr
set_option maxHeartbeats 2000000 in
theorem cstatesP (v : Value) (ks : List SE) (w : World) (hv : StatesAt w v ks) (hn : ks.length ≤ 1000000) (hr : ∀ x ∈ ks, x.rs.length ≤ 1000000) :
    Calls Tryz.prog 34 #[v] w fun e w' => ∃ u, e = .returned u ∧ Touch (fun _ => False) w w' ∧ ∃ l : List SE, l.map SE.p = ks.map SE.p ∧ w'.ownsRow w.heap.size 95 9 u l.length (statesC l) ∧ ∀ x ∈ l, w'.ownsRow w.heap.size 5 1 x.v x.rs.length (bytesOf x.rs) := by
  obtain ⟨va, vc, rfl, hmx⟩ := ValsAt.form hv.vals
  have HV' : Hid (∀ w', Touch (fun _ => False) w w' → StatesAt w' (.slice va ks.length vc) ks) := fun w' t => hv.keep t
  have HR : Hid (∀ x ∈ ks, x.rs.length ≤ 1000000) := hr
  have hmx' : (ks.length : Int) ≤ 1000000 := by omega
  clear hv hr hmx hn
  go_enter Tryz.func34, Tryz.ntmps34
  go_wp2_with fail
  go_loopg [3, 4] ks.length (fun gg s3 s4 wr => CsR ks w gg s3 s4 wr)
  case atStart => exact ⟨0, [], none, 0, by omega, by omega, rfl, rfl, rfl, rfl, own_nil _ _ _ _, (fun x hx => by cases hx), Touch.refl _ _⟩
  case round =>
    obtain ⟨j, l, sa, sc, hj, hgg, rfl, rfl, hlm, hll, ow, ob, tw⟩ := hrel.out
    have OW : Hid (wr.ownsRow w.heap.size 95 9 (.slice sa j sc) j (statesC l)) := ow
    have OB : Hid (∀ x ∈ l, wr.ownsRow w.heap.size 5 1 x.v x.rs.length (bytesOf x.rs)) := ob
    have TW : Hid (Touch (fun _ => False) w wr) := tw
    have HLM : Hid (l.map SE.p = (ks.take j).map SE.p ∧ l.length = j) := ⟨hlm, hll⟩
    clear hrel ow ob tw hlm hll
    by_cases hlt : j < ks.length
    · have hlt' : (j : Int) < (ks.length : Int) := by omega
      have hk00 : (0 : Int) ≤ (j : Int) := by omega
      obtain ⟨x, hx⟩ : ∃ x, ks[j]? = some x := ⟨ks[j], by simp [hlt]⟩
      obtain ⟨ox, gR, off, cR, eR, hcell⟩ := StatesAt.one (HV'.out wr TW.out) hx
      obtain ⟨xa, xc, ex, -⟩ := ox.arg.form
      cases eR
      have e0 : wr.cell? ⟨gR, off + j * 9, none⟩ = some (.int .u16 x.h.age) := by exact hcell 0 _ rfl
      have e1 : wr.cell? ⟨gR, off + j * 9 + 1, none⟩ = some (.int .u8 x.h.opts) := by rw [Nat.add_assoc]; exact hcell 1 _ rfl
      have e2 : wr.cell? ⟨gR, off + j * 9 + 2, none⟩ = some (.int .u8 x.h.typ) := by rw [Nat.add_assoc]; exact hcell 2 _ rfl
      have e3 : wr.cell? ⟨gR, off + j * 9 + 3, none⟩ = some (.int .u32 x.h.id) := by rw [Nat.add_assoc]; exact hcell 3 _ rfl
      have e4 : wr.cell? ⟨gR, off + j * 9 + 4, none⟩ = some (.int .u32 x.h.adv) := by rw [Nat.add_assoc]; exact hcell 4 _ rfl
      have e5 : wr.cell? ⟨gR, off + j * 9 + 5, none⟩ = some (.int .i32 x.h.seq) := by rw [Nat.add_assoc]; exact hcell 5 _ rfl
      have e6 : wr.cell? ⟨gR, off + j * 9 + 6, none⟩ = some (.int .u16 x.h.sum) := by rw [Nat.add_assoc]; exact hcell 6 _ rfl
      have e7 : wr.cell? ⟨gR, off + j * 9 + 7, none⟩ = some (.int .u16 x.h.len) := by rw [Nat.add_assoc]; exact hcell 7 _ rfl
      have e8 : wr.cell? ⟨gR, off + j * 9 + 8, none⟩ = some (.slice xa x.rs.length xc) := by rw [← ex]; rw [Nat.add_assoc]; exact hcell 8 _ rfl
      have hkw : wrap64 ((j : Int) + 1) = (j : Int) + 1 := by unfold wrap64; omega
      have HX : Hid ((ks.take (j + 1)).map SE.p = (ks.take j).map SE.p ++ [x.p]) := by show _ = _; rw [List.take_add_one, hx, List.map_append]; rfl
      have HM : Calls Tryz.prog 68 #[.agg #[.int .u16 x.h.age, .int .u8 x.h.opts, .int .u8 x.h.typ, .int .u32 x.h.id, .int .u32 x.h.adv, .int .i32 x.h.seq, .int .u16 x.h.sum, .int .u16 x.h.len, .slice xa x.rs.length xc]] wr fun e w' => ∃ u, e = .returned (x.h.sv u) ∧ Buf wr w' u x.rs := cstate_any x.h (.slice xa x.rs.length xc) x.rs wr (by rw [← ex]; exact ox.arg) (HR.out x (List.mem_of_getElem? hx))
      clear hcell hx ox ex
      unfold HV.sv at HM
      go_wp2_with fail
      refine Calls.mono HM ?_
      rintro e w2 ⟨u2, rfl, b2⟩
      obtain ⟨ua, uc, rfl⟩ := b2.form
      have O2 : Hid (w2.ownsRow w.heap.size 95 9 (.slice sa j sc) j (statesC l)) := own_touch OW.out b2.t (fun _ _ f => f)
      have OWL : Hid (∀ k, (Value.slice sa j sc).ownBlock = some k → k < wr.heap.size) := fun k hk => (OW.out.lt k hk).2
      have OB2 : Hid (∀ x ∈ l, w2.ownsRow w.heap.size 5 1 x.v x.rs.length (bytesOf x.rs)) := fun x hx => own_touch (OB.out x hx) b2.t (fun _ _ f => f)
      have U2 : Hid (w2.ownsRow wr.heap.size 5 1 (.slice ua x.rs.length uc) x.rs.length (bytesOf x.rs)) := b2.own
      have T2 : Hid (Touch (fun _ => False) w w2) := TW.out.trans b2.t
      have ZZ : Hid (w.heap.size ≤ wr.heap.size ∧ wr.heap.size ≤ w2.heap.size) := ⟨TW.out.size, b2.t.size⟩
      clear HM e0 e1 e2 e3 e4 e5 e6 e7 e8 b2 OW OB TW
      go_wp2_with (at_builtin; refine vapp_own2 rfl (.tmp 11) (.tmp 17) 31 rfl 95 9 48 (.agg #[.int .u16 0, .int .u8 0, .int .u8 0, .int .u32 0, .int .u32 0, .int .i32 0, .int .u16 0, .int .u16 0, .slice none 0 0]) Tryz.underlying31 Tryz.infoS9 rfl (by decide) (by decide) w.heap.size (.slice sa j sc) j _ rfl (O2.out.alloc _) (by have := ZZ.out; simp; omega) ⟨w2.heap.size, 0, none⟩ 1 1 [.int .u16 x.h.age, .int .u8 x.h.opts, .int .u8 x.h.typ, .int .u32 x.h.id, .int .u32 x.h.adv, .int .i32 x.h.seq, .int .u16 x.h.sum, .int .u16 x.h.len, .slice ua x.rs.length uc] rfl rfl ?c1 ?c2 ?c3 ?_)
      case c1 =>
        intro i u hi
        rw [add_plain]
        match i, hi with
        | 0, hi => cases hi; simp [go_sem]
        | 1, hi => cases hi; simp [go_sem]
        | 2, hi => cases hi; simp [go_sem]
        | 3, hi => cases hi; simp [go_sem]
        | 4, hi => cases hi; simp [go_sem]
        | 5, hi => cases hi; simp [go_sem]
        | 6, hi => cases hi; simp [go_sem]
        | 7, hi => cases hi; simp [go_sem]
        | 8, hi => cases hi; simp [go_sem]
        | i + 9, hi => simp at hi
      case c2 => intro u hu; simp at hu; rcases hu with rfl | rfl | rfl | rfl | rfl | rfl | rfl | rfl | rfl <;> rfl
      case c3 => omega
      intro v4 w4 o4 t4
      obtain ⟨sa4, sc4, ev⟩ := own_form o4
      subst ev
      have ta : Touch (fun _ => False) w2 (w2.alloc (.cells #[.int .u16 x.h.age, .int .u8 x.h.opts, .int .u8 x.h.typ, .int .u32 x.h.id, .int .u32 x.h.adv, .int .i32 x.h.seq, .int .u16 x.h.sum, .int .u16 x.h.len, .slice ua x.rs.length uc] 95)) := (Touch.refl _ _).alloc _
      have REL : Hid (CsR ks w (ks.length - (j + 1)) (.slice sa4 (j + 1) sc4) (.int .i64 ((j + 1 : Nat) : Int)) w4) := by
        have O4 : w4.ownsRow w.heap.size 95 9 (.slice sa4 (j + 1) sc4) (j + 1) (statesC (l ++ [⟨x.h, .slice ua x.rs.length uc, x.rs⟩])) := by
          have e : statesC (l ++ [⟨x.h, .slice ua x.rs.length uc, x.rs⟩]) = statesC l ++ [.int .u16 x.h.age, .int .u8 x.h.opts, .int .u8 x.h.typ, .int .u32 x.h.id, .int .u32 x.h.adv, .int .i32 x.h.seq, .int .u16 x.h.sum, .int .u16 x.h.len, .slice ua x.rs.length uc] := by simp [statesC, SE.cells]
          rw [e]
          exact o4
        refine ⟨j + 1, l ++ [⟨x.h, .slice ua x.rs.length uc, x.rs⟩], sa4, sc4, by omega, rfl, rfl, rfl, ?_, by rw [List.length_append, HLM.out.2]; rfl, O4, ?_, (T2.out.trans ta).trans' t4 (fun i hi e => by have := (O2.out.lt i e).1; omega)⟩
        · rw [HX.out, List.map_append, HLM.out.1]; rfl
        · intro y hy
          rcases List.mem_append.1 hy with hy | hy
          · exact own_touch (own_touch (OB2.out y hy) ta (fun _ _ f => f)) t4 (fun k hk e => own_unlike O2.out (OB2.out y hy) (by decide) e hk)
          · obtain rfl := List.mem_singleton.1 hy
            exact own_lower (own_touch (own_touch U2.out ta (fun _ _ f => f)) t4 (fun k hk e => by have h1 := (U2.out.lt k hk).1; have h2 := OWL.out k e; omega)) ZZ.out.1
      clear o4 t4 O2 OB2 U2 T2 ta
      go_wp2_with fail
      go_roundg (ks.length - (j + 1))
      case measure => omega
      case rel => exact REL.out
    · obtain rfl : j = ks.length := by omega
      have FIN : Hid (∃ u, (Ending.returned (.slice sa ks.length sc)) = .returned u ∧ Touch (fun _ => False) w wr ∧ ∃ l : List SE, l.map SE.p = ks.map SE.p ∧ wr.ownsRow w.heap.size 95 9 u l.length (statesC l) ∧ ∀ x ∈ l, wr.ownsRow w.heap.size 5 1 x.v x.rs.length (bytesOf x.rs)) := ⟨_, rfl, TW.out, l, by rw [HLM.out.1, List.take_length], by rw [HLM.out.2]; exact OW.out, OB.out⟩
      have hlt' : ¬ (ks.length : Int) < (ks.length : Int) := by omega
      go_wp2_with fail
      go_ret
      exact FIN.out
end Go.Proofs.YtjjgbcjgmjggnaaGreat

namespace Go.Proofs.YtjjgbcjgmjggnaaGreat
open Go.RowKit
set_option linter.unusedVariables false
set_option maxRecDepth 100000

theorem Row.touch {F : Nat → Prop} {w w' : World} {g : Nat} {T : TypeId} {xs : List Value} (h : Row w g T xs) (t : Touch F w w') (hg : ¬ F g) : Row w' g T xs := (t.block g h.lt hg).trans h
theorem Row.otherRow {w : World} {g g' : Nat} {T : TypeId} {xs : List Value} (h : Row w g T xs) (hne : ¬ g = g') (cs : Array Value) : Row (w.setRow g' cs) g T xs := (setRow_other w g' g cs hne).trans h
theorem Row.range {w : World} {g : Nat} {T : TypeId} {xs : List Value} (h : Row w g T xs) : w.rangeAt g 0 xs := fun j v hj => by
  rw [Nat.zero_add, h.cell j]
  exact hj
theorem Row.pd {w : World} {g : Nat} {T : TypeId} {P : PV} {vn vd vk vs vh : Value} (h : Row w g T [.int .u8 P.typ, .int .u32 P.router, .int .u32 P.area, .int .u32 P.mask, .int .u16 P.iv, .int .u8 P.opts, .int .u8 P.prio, .int .u32 P.dead, .int .u32 P.dr, .int .u32 P.bdr, vn, .int .u16 P.mtu, .int .u8 P.dopts, .int .u8 P.dflags, .int .u32 P.dseq, vd, vk, vs, vh]) : Pd w g P vn vd vk vs vh := ⟨h.cell 0, h.cell 1, h.cell 2, h.cell 3, h.cell 4, h.cell 5, h.cell 6, h.cell 7, h.cell 8, h.cell 9, h.cell 10, h.cell 11, h.cell 12, h.cell 13, h.cell 14, h.cell 15, h.cell 16, h.cell 17, h.cell 18⟩
theorem Row.ad {w : World} {g : Nat} {T : TypeId} {A : AuV} (h : Row w g T [.int .u16 A.kind, .int .u8 A.d0, .int .u8 A.d1, .int .u8 A.d2, .int .u8 A.d3, .int .u8 A.d4, .int .u8 A.d5, .int .u8 A.d6, .int .u8 A.d7]) : Ad w g A := ⟨h.cell 0, h.cell 1, h.cell 2, h.cell 3, h.cell 4, h.cell 5, h.cell 6, h.cell 7, h.cell 8⟩
theorem Row.room {w : World} {g : Nat} {T : TypeId} {xs : List Value} (h : Row w g T xs) : Room w g xs.length := fun i hi => ⟨xs[i], by rw [h.cell i]; simp [hi], h.frozen i⟩
/-- A store of a whole row, in a region that draws its order. -/
theorem step_row {P : Program} {ops : Array Oper} {o : Oper} {a : Act} {w : World} {K : Act → World → Prop} {Q : Exit → Act → World → Prop} {E : Prop} (hgd : o.guard = none) (ty : TypeId) (x y : Operand) (ho : o.op = .store ty x y)
    (g : Nat) (cells : List Value) (hx : a.eval x = .pointer (some ⟨g, 0, none⟩)) (hy : a.eval y = .agg cells.toArray) (T : TypeId) (old : List Value) (hg : Row w g T old) (hi : (P.info? ty).map (·.size) = some cells.length) (hold : old.length = cells.length) (h1 : ∀ v ∈ cells, v.oneCell' = true)
    (h : K (a.put o.dst undef) (w.setRow g cells.toArray)) : if Region.wanted o (yielded ops a.tmps) = true then Oper.wp P o a w K Q else E := by
  have hw : Region.wanted o (yielded ops a.tmps) = true := by simp [Region.wanted, hgd]
  rw [if_pos hw]
  exact wp_store_row ty x y ho g cells.toArray hx hy T old.toArray hg (by rw [hi]; simp) (by simpa using hold) (all_oneCell h1) h
/-- Two results that are rows. -/
theorem results_two {P : Program} {fn : Func} {p q : Tmp} {ty tq : TypeId} (h : fn.results = #[.cell p ty, .cell q tq]) (tmps : Array Value) (w : World) (g g' : Nat) (t t' : TypeId) (cs cs' : List Value) (d d' : TypeDesc)
    (hp : tmps.getD p undef = .pointer (some ⟨g, 0, none⟩)) (hq : tmps.getD q undef = .pointer (some ⟨g', 0, none⟩)) (hg : Row w g t cs) (hg' : Row w g' t' cs')
    (hu : P.underlying ty = some d) (hd : (match d with | .struct _ | .array _ _ => true | _ => false) = true) (hi : (P.info? ty).map (·.size) = some cs.length)
    (hu' : P.underlying tq = some d') (hd' : (match d' with | .struct _ | .array _ _ => true | _ => false) = true) (hi' : (P.info? tq).map (·.size) = some cs'.length) :
    (results fn tmps).run P w = .ok (.tuple #[.agg cs.toArray, .agg cs'.toArray]) w := by
  have hp' : tmps[p]?.getD undef = .pointer (some ⟨g, 0, none⟩) := by simpa using hp
  have hq' : tmps[q]?.getD undef = .pointer (some ⟨g', 0, none⟩) := by simpa using hq
  simp [results, h, hp', hq', asAddr, run_loadVar_row w g t ty cs.toArray (0, 0) d hg hu hd (by simpa using hi), run_loadVar_row w g' t' tq cs'.toArray (0, 0) d' hg' hu' hd' (by simpa using hi')]
/-- Three: two rows and a slot. -/
theorem results_three {P : Program} {fn : Func} {p q s : Tmp} {ty tq : TypeId} (h : fn.results = #[.cell p ty, .cell q tq, .tmp s]) (tmps : Array Value) (w : World) (g g' : Nat) (t t' : TypeId) (cs cs' : List Value) (d d' : TypeDesc) (v : Value)
    (hp : tmps.getD p undef = .pointer (some ⟨g, 0, none⟩)) (hq : tmps.getD q undef = .pointer (some ⟨g', 0, none⟩)) (hs : tmps.getD s undef = v) (hg : Row w g t cs) (hg' : Row w g' t' cs')
    (hu : P.underlying ty = some d) (hd : (match d with | .struct _ | .array _ _ => true | _ => false) = true) (hi : (P.info? ty).map (·.size) = some cs.length)
    (hu' : P.underlying tq = some d') (hd' : (match d' with | .struct _ | .array _ _ => true | _ => false) = true) (hi' : (P.info? tq).map (·.size) = some cs'.length) :
    (results fn tmps).run P w = .ok (.tuple #[.agg cs.toArray, .agg cs'.toArray, v]) w := by
  have hp' : tmps[p]?.getD undef = .pointer (some ⟨g, 0, none⟩) := by simpa using hp
  have hq' : tmps[q]?.getD undef = .pointer (some ⟨g', 0, none⟩) := by simpa using hq
  have hs' : tmps[s]?.getD undef = v := by simpa using hs
  simp [results, h, hp', hq', hs', asAddr, run_loadVar_row w g t ty cs.toArray (0, 0) d hg hu hd (by simpa using hi), run_loadVar_row w g' t' tq cs'.toArray (0, 0) d' hg' hu' hd' (by simpa using hi')]
end Go.Proofs.YtjjgbcjgmjggnaaGreat
