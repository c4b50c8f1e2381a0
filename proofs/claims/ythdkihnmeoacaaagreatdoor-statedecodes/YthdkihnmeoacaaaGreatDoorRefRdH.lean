/- Contract: sealed. -/
import Derived.Test.YthdkihnmeoacaaaGreatDoorStHead
import Derived.Test.YthdkihnmeoacaaaGreatDoorSumFletch
import Derived.Test.YthdkihnmeoacaaaGreatDoorCut
import Derived.Test.YthdkihnmeoacaaaGreatDoorKeep
import Derived.Deep.RegionHeld3
import Derived.Deep.RegionHeld2
import Derived.Test.YthdkihnmeoacaaaGreatDoorStaOut
namespace Go.Proofs.YthdkihnmeoacaaaGreatDoor
open Go.RowKit
set_option linter.unusedVariables false
set_option maxRecDepth 100000

/-- So many cells lie in block g, and may be stored into. -/
def Room (w : World) (g n : Nat) : Prop := ∀ i, i < n → ∃ v, w.cell? ⟨g, i, none⟩ = some v ∧ w.frozen? ⟨g, i, none⟩ = false
theorem Room.keep {w w' : World} {g n : Nat} (h : Room w g n) (t : Touch (fun _ => False) w w') : Room w' g n := fun i hi => by
  obtain ⟨v, hc, hf⟩ := h i hi
  exact ⟨v, t.cellN hc, (t.frozen (p := ⟨g, i, none⟩) (lt_of_cell hc) (fun h => h)).trans hf⟩
theorem Room.touch {F : Nat → Prop} {w w' : World} {g n : Nat} (h : Room w g n) (t : Touch F w w') (hF : ¬ F g) : Room w' g n := fun i hi => by
  obtain ⟨v, hc, hf⟩ := h i hi
  exact ⟨v, (t.cell (p := ⟨g, i, none⟩) (lt_of_cell hc) hF).trans hc, (t.frozen (p := ⟨g, i, none⟩) (lt_of_cell hc) hF).trans hf⟩
theorem Room.new (w : World) (C : Array Value) (t : TypeId) : Room (w.alloc (.cells C t)) w.heap.size C.size := fun i hi => ⟨C[i], by simp [go_sem, hi], by simp [go_sem]⟩
theorem clone_arg (v : Value) (l : List Int) (w : World) (h : ArgAt w v l) (hl : l.length ≤ 1099511627776) : Calls Tryz.prog 91 #[v] w fun e w' => ∃ u, e = .returned u ∧ Buf w w' u l := by
  rcases h with ⟨rfl, rfl⟩ | ⟨ad, c, rfl, h1, h2, h3⟩
  · refine (clone_nil w).mono ?_
    rintro e w' ⟨rfl, rfl⟩
    exact ⟨_, rfl, Buf.nil (Touch.refl _ _)⟩
  · refine (clone_some ad c l w h3 hl).mono ?_
    rintro e w' ⟨u, rfl, hown, t, _⟩
    exact ⟨u, rfl, hown, t⟩
theorem Out.fits {w : World} {g : Nat} {h : HV} {v : Value} (k : Out w g h v) : Sd w g h v ∧ (w.frozen? ⟨g, 6, none⟩ = false ∧ w.frozen? ⟨g, 7, none⟩ = false ∧ w.frozen? ⟨g, 8, none⟩ = false) := ⟨k.sd, k.fz 6 (by omega), k.fz 7 (by omega), k.fz 8 (by omega)⟩

theorem sealed_long (h : HV) (v : Value) (l : List Int) (w : World) (hv : ArgAt w v l) (hl : 65515 < l.length) (hl2 : l.length ≤ 140737488355328) :
    Calls Tryz.prog 38 #[h.sv v] w fun e w' => e = .panicked (flawC 11) ∧ Touch (fun _ => False) w w' := by
  obtain ⟨va, vc, rfl, hm⟩ := hv.form
  have HZ := fun w => size_any h va l.length vc w (by omega)
  have hle : ¬ (20 + (l.length : Int) ≤ 65535) := by omega
  show Calls Tryz.prog 38 #[.agg #[.int .u16 h.age, .int .u8 h.opts, .int .u8 h.typ, .int .u32 h.id, .int .u32 h.adv, .int .i32 h.seq, .int .u16 h.sum, .int .u16 h.len, .slice va l.length vc]] w _
  go_enter Tryz.func38, Tryz.ntmps38
  go_wp2_with fail
  refine Calls.mono (HZ _) ?_
  rintro e w1 ⟨rfl, t1⟩
  have T1 : Hid (Touch (fun _ => False) w w1) := (((Touch.refl (fun _ => False) w).alloc _).alloc _).trans t1
  clear t1 HZ
  go_wp2_with fail
  refine Calls.mono (need_f _ 11 _ (by simpa using hle)) ?_
  rintro e w2 ⟨rfl, rfl⟩
  exact ⟨rfl, rfl, T1.out⟩

set_option maxHeartbeats 4000000 in
theorem sealed_ok (h : HV) (ok : h.All) (v : Value) (l : List Int) (w : World) (hv : ArgAt w v l) (hby : ∀ z ∈ l, 0 ≤ z ∧ z < 256) (hl : l.length ≤ 65515) :
    Calls Tryz.prog 38 #[h.sv v] w fun e w' => ∃ u, e = .returned ((sealH h l).sv u) ∧ Buf w w' u l := by
  obtain ⟨va, vc, rfl, hm⟩ := hv.form
  have HZ := fun w => size_any h va l.length vc w (by omega)
  have hle : 20 + (l.length : Int) ≤ 65535 := by omega
  have hq : IntKind.u16.wrap (20 + (l.length : Int)) = 20 + (l.length : Int) := by simp [IntKind.wrap, IntKind.bits, IntKind.signed]; omega
  show Calls Tryz.prog 38 #[.agg #[.int .u16 h.age, .int .u8 h.opts, .int .u8 h.typ, .int .u32 h.id, .int .u32 h.adv, .int .i32 h.seq, .int .u16 h.sum, .int .u16 h.len, .slice va l.length vc]] w _
  go_enter Tryz.func38, Tryz.ntmps38
  go_wp2_with fail
  refine Calls.mono (HZ _) ?_
  rintro e w1 ⟨rfl, t1⟩
  have O1 := ((Out.new w h (.slice va l.length vc) 35).keep ((Touch.refl _ _).alloc _)).keep t1
  have R1 := (Room.new (w.alloc (.cells #[.int .u16 h.age, .int .u8 h.opts, .int .u8 h.typ, .int .u32 h.id, .int .u32 h.adv, .int .i32 h.seq, .int .u16 h.sum, .int .u16 h.len, .slice va l.length vc] 35)) #[.int .u16 0, .int .u8 0, .int .u8 0, .int .u32 0, .int .u32 0, .int .i32 0, .int .u16 0, .int .u16 0, .slice none 0 0] 35).keep t1
  have T1 := (((Touch.refl (fun _ => False) w).alloc _).alloc _).trans t1
  simp only [World.size_alloc] at R1
  have hgg : w.heap.size + 1 < w1.heap.size := by have := t1.size; simp at this; omega
  obtain ⟨g, hg⟩ : ∃ g, g = w.heap.size := ⟨_, rfl⟩
  rw [← hg] at O1 R1 hgg ⊢
  have OH : Hid h.All := ok
  have HVA : Hid (ArgAt w (.slice va l.length vc) l) := hv
  have HBy : Hid (∀ z ∈ l, 0 ≤ z ∧ z < 256) := hby
  have HT1 : Hid (Touch (fun _ => False) w w1) := T1
  have HG : Hid (g = w.heap.size) := hg
  have HR1 : Hid (Room w1 (g + 1) 9) := R1
  have HO1 : Hid (Out w1 g h (.slice va l.length vc)) := O1
  obtain ⟨⟨⟨s0, s1, s2, s3, s4, s5, s6, s7⟩, s8⟩, f6, f7, f8⟩ := O1.fits
  clear t1 T1 R1 O1 hg hv hby ok
  go_wp2_with fail
  refine Calls.mono (need_t _ 11 _ (by first | rfl | exact decide_eq_true hle)) ?_
  rintro e w2 ⟨rfl, rfl⟩
  go_wp2_with fail
  refine Calls.mono (HZ _) ?_
  rintro e w2 ⟨rfl, t2⟩
  have HO2 : Hid (Out w2 g h (.slice va l.length vc)) := HO1.out.keep t2
  have HR2 : Hid (Room w2 (g + 1) 9) := HR1.out.keep t2
  have HT2 : Hid (Touch (fun _ => False) w w2) := HT1.out.trans t2
  have hgg2 : g + 1 < w2.heap.size := by have := t2.size; omega
  clear s0 s1 s2 s3 s4 s5 s6 s7 s8 f6 f7 f8 t2 HZ HO1 HR1 HT1 hgg
  obtain ⟨⟨⟨s0, s1, s2, s3, s4, s5, s6, s7⟩, s8⟩, f6, f7, f8⟩ := HO2.out.fits
  have HO3 : Hid (Out (w2.setCell ⟨g, 7, none⟩ (.int .u16 (20 + (l.length : Int)))) g { h with len := 20 + (l.length : Int) } (.slice va l.length vc)) := HO2.out.set7 _
  have TG : ∀ (w3 : World) (i : Nat) (u : Value), Touch (fun _ => False) w w3 → Touch (fun _ => False) w (w3.setCell ⟨g, i, none⟩ u) := fun w3 i u t => t.setCell (Or.inr (by have := HG.out; show w.heap.size ≤ g; omega)) u
  have TR : ∀ (w3 : World) (i : Nat) (u : Value), Room w3 (g + 1) 9 → Room (w3.setCell ⟨g, i, none⟩ u) (g + 1) 9 := fun w3 i u r => r.touch (Touch.setCell (F := fun k => k = g) (p := ⟨g, i, none⟩) (Touch.refl _ _) (Or.inl rfl) u) (by show ¬ g + 1 = g; omega)
  go_wp2_with fail
  refine Calls.mono (clone_arg _ l _ (HVA.out.keep (TG _ _ _ HT2.out) (fun _ _ h => h)) (by omega)) ?_
  rintro e w4 ⟨u4, rfl, b4⟩
  obtain ⟨va4, vc4, rfl⟩ := b4.form
  have O4 := HO3.out.keep b4.t
  have R4 := (TR _ _ _ HR2.out).keep b4.t
  have T4 := (TG _ _ _ HT2.out).trans b4.t
  have B4 : Hid (Buf w w4 (.slice va4 l.length vc4) l) := b4.back (TG _ _ _ HT2.out)
  have hgg4 : g + 1 < w4.heap.size := by have := b4.t.size; simp [World.setCell] at this; omega
  have hgb : ∀ k, (Value.slice va4 l.length vc4).ownBlock = some k → g + 1 < k := fun k hk => by have := (b4.own.lt k hk).1; simp [World.setCell] at this; omega
  have HO4 : Hid (Out w4 g { h with len := 20 + (l.length : Int) } (.slice va l.length vc)) := O4
  have HR4 : Hid (Room w4 (g + 1) 9) := R4
  have HT4 : Hid (Touch (fun _ => False) w w4) := T4
  have HGB : Hid (∀ k, (Value.slice va4 l.length vc4).ownBlock = some k → g + 1 < k) := hgb
  clear s0 s1 s2 s3 s4 s5 s6 s7 s8 f6 f7 f8 b4 O4 R4 T4 hgb HO2 HO3 HR2 HT2 hgg2
  obtain ⟨⟨⟨s0, s1, s2, s3, s4, s5, s6, s7⟩, s8⟩, f6, f7, f8⟩ := HO4.out.fits
  dsimp only at s0 s1 s2 s3 s4 s5 s6 s7
  have HO5 : Hid (Out (w4.setCell ⟨g, 8, none⟩ (.slice va4 l.length vc4)) g { h with len := 20 + (l.length : Int) } (.slice va4 l.length vc4)) := HO4.out.set8 _
  have own_st : ∀ (w3 : World) (i : Nat) (x : Value), w3.ownsRow w.heap.size 5 1 (.slice va4 l.length vc4) l.length (bytesOf l) → (w3.setCell ⟨g, i, none⟩ x).ownsRow w.heap.size 5 1 (.slice va4 l.length vc4) l.length (bytesOf l) := fun w3 i x ho =>
    own_touch ho (Touch.setCell (F := fun k => k = g) (p := ⟨g, i, none⟩) (Touch.refl _ _) (Or.inl rfl) x) (fun k hk e => by have := HGB.out k hk; omega)
  have B5 : Hid (Buf w (w4.setCell ⟨g, 8, none⟩ (.slice va4 l.length vc4)) (.slice va4 l.length vc4) l) := ⟨own_st _ _ _ B4.out.own, TG _ _ _ HT4.out⟩
  have OH2 : Hid ({ h with len := 20 + (l.length : Int) } : HV).All := by have := OH.out; exact ⟨this.a, this.o, this.t, this.i, this.v, this.s, this.m, ⟨by show 0 ≤ 20 + (l.length : Int); omega, by show 20 + (l.length : Int) < 65536; omega⟩⟩
  go_wp2_with fail
  refine Calls.mono (bytes_any { h with len := 20 + (l.length : Int) } OH2.out (.slice va4 l.length vc4) l _ B5.out.arg (by omega)) ?_
  rintro e w6 ⟨u6, rfl, b6⟩
  obtain ⟨xa, xc, rfl⟩ := b6.form
  have hxl : (headB { h with len := 20 + (l.length : Int) } ++ l).length = 20 + l.length := by rw [List.length_append, length_headB]
  obtain ⟨u, hu, hua⟩ := cut_from b6.arg rfl (by rw [hxl]; omega) 2 (by rw [hxl]; omega)
  have hby2 : ∀ x ∈ (headB { h with len := 20 + (l.length : Int) } ++ l).drop 2, 0 ≤ x ∧ x < 256 := fun x hx => by
    rcases List.mem_append.1 (List.mem_of_mem_drop hx) with h' | h'
    · exact headB_byte OH2.out x h'
    · exact HBy.out x h'
  have HF := fletcher_any u ((headB { h with len := 20 + (l.length : Int) } ++ l).drop 2) 14 w6 hua hby2 (by rw [List.length_drop, hxl]; omega)
  replace hu : ∀ w, Sem.run Tryz.prog (Instr.slice 28 (.slice xa (headB { h with len := 20 + (l.length : Int) } ++ l).length xc) (some (.int .i64 2)) none none) w = .ok u w := hu
  rw [hxl] at hu ⊢
  have HSS : Hid (256 * flx ((headB { h with len := 20 + (l.length : Int) } ++ l).drop 2) 14 + fly ((headB { h with len := 20 + (l.length : Int) } ++ l).drop 2) 14 = sealS h l) := rfl
  rw [HSS.out] at HF
  have HO6 : Hid (Out w6 g { h with len := 20 + (l.length : Int) } (.slice va4 l.length vc4)) := HO5.out.keep b6.t
  have HR6 : Hid (Room w6 (g + 1) 9) := (TR _ _ _ HR4.out).keep b6.t
  have B6 : Hid (Buf w w6 (.slice va4 l.length vc4) l) := B5.out.keep b6.t
  have hgg6 : g + 1 < w6.heap.size := by have := b6.t.size; simp [World.setCell] at this; omega
  clear s0 s1 s2 s3 s4 s5 s6 s7 s8 f6 f7 f8 hua hby2 hxl b6 HSS HO5 HO4 HR4 HT4 B5 B4 hgg4
  go_wp2_with fail
  refine Calls.mono HF ?_
  rintro e w7 ⟨rfl, t7⟩
  have HO8 : Hid (Out (w7.setCell ⟨g, 6, none⟩ (.int .u16 (sealS h l))) g { h with len := 20 + (l.length : Int), sum := sealS h l } (.slice va4 l.length vc4)) := (HO6.out.keep t7).set6 _
  have HR7 : Hid (Room (w7.setCell ⟨g, 6, none⟩ (.int .u16 (sealS h l))) (g + 1) 9) := TR _ _ _ (HR6.out.keep t7)
  have B7 : Hid (Buf w (w7.setCell ⟨g, 6, none⟩ (.int .u16 (sealS h l))) (.slice va4 l.length vc4) l) := ⟨own_st _ _ _ (B6.out.keep t7).own, TG _ _ _ (B6.out.keep t7).t⟩
  obtain ⟨⟨⟨s0, s1, s2, s3, s4, s5, s6, s7⟩, s8⟩, f6, f7, f8⟩ := (HO6.out.keep t7).fits
  clear t7 HF hu HO6 HR6 B6 hgg6 TR TG own_st
  go_upto_region 5 with fail
  clear s0 s1 s2 s3 s4 s5 s6 s7 s8 f6 f7 f8
  have HG1 : Hid (w.heap.size ≤ g + 1) := by have := HG.out; show _ ≤ _; omega
  have hne : g ≠ g + 1 := by omega
  generalize w7.setCell ⟨g, 6, none⟩ (.int .u16 (sealS h l)) = w8 at HO8 HR7 B7 ⊢
  generalize g + 1 = g1 at HR7 HGB HG1 hne ⊢
  obtain ⟨⟨⟨s0, s1, s2, s3, s4, s5, s6, s7⟩, s8⟩, -⟩ := HO8.out.fits
  dsimp only at s0 s1 s2 s3 s4 s5 s6 s7
  have hnf : ¬ g = g1 := hne
  have hnb : ¬ g1 = g := fun e => hne e.symm
  obtain ⟨zz0, zc0, zf0⟩ := HR7.out 0 (by omega)
  obtain ⟨zz1, zc1, zf1⟩ := HR7.out 1 (by omega)
  obtain ⟨zz2, zc2, zf2⟩ := HR7.out 2 (by omega)
  obtain ⟨zz3, zc3, zf3⟩ := HR7.out 3 (by omega)
  obtain ⟨zz4, zc4, zf4⟩ := HR7.out 4 (by omega)
  obtain ⟨zz5, zc5, zf5⟩ := HR7.out 5 (by omega)
  obtain ⟨zz6, zc6, zf6⟩ := HR7.out 6 (by omega)
  obtain ⟨zz7, zc7, zf7⟩ := HR7.out 7 (by omega)
  obtain ⟨zz8, zc8, zf8⟩ := HR7.out 8 (by omega)
  obtain ⟨wz, hwz⟩ : ∃ wz, wz = (((((((((w8.setCell ⟨g1, 0, none⟩ (.int .u16 h.age)).setCell ⟨g1, 1, none⟩ (.int .u8 h.opts)).setCell ⟨g1, 2, none⟩ (.int .u8 h.typ)).setCell ⟨g1, 3, none⟩ (.int .u32 h.id)).setCell ⟨g1, 4, none⟩ (.int .u32 h.adv)).setCell ⟨g1, 5, none⟩ (.int .i32 h.seq)).setCell ⟨g1, 6, none⟩ (.int .u16 (sealS h l))).setCell ⟨g1, 7, none⟩ (.int .u16 (20 + (l.length : Int)))).setCell ⟨g1, 8, none⟩ (.slice va4 l.length vc4)) := ⟨_, rfl⟩
  have zd0 : wz.cell? ⟨g1, 0, none⟩ = some (.int .u16 h.age) := by rw [hwz]; simp [zc0, go_sem]
  have zd1 : wz.cell? ⟨g1, 1, none⟩ = some (.int .u8 h.opts) := by rw [hwz]; simp [zc1, go_sem]
  have zd2 : wz.cell? ⟨g1, 2, none⟩ = some (.int .u8 h.typ) := by rw [hwz]; simp [zc2, go_sem]
  have zd3 : wz.cell? ⟨g1, 3, none⟩ = some (.int .u32 h.id) := by rw [hwz]; simp [zc3, go_sem]
  have zd4 : wz.cell? ⟨g1, 4, none⟩ = some (.int .u32 h.adv) := by rw [hwz]; simp [zc4, go_sem]
  have zd5 : wz.cell? ⟨g1, 5, none⟩ = some (.int .i32 h.seq) := by rw [hwz]; simp [zc5, go_sem]
  have zd6 : wz.cell? ⟨g1, 6, none⟩ = some (.int .u16 (sealS h l)) := by rw [hwz]; simp [zc6, go_sem]
  have zd7 : wz.cell? ⟨g1, 7, none⟩ = some (.int .u16 (20 + (l.length : Int))) := by rw [hwz]; simp [zc7, go_sem]
  have zd8 : wz.cell? ⟨g1, 8, none⟩ = some (.slice va4 l.length vc4) := by rw [hwz]; simp [zc8, go_sem]
  have HUz : Hid (Touch (fun k => k = g1) w8 wz) := by show Touch _ _ _; rw [hwz]; refine Touch.setCell (F := fun k => k = g1) (p := ⟨g1, 8, none⟩) ?_ (Or.inl rfl) _; refine Touch.setCell (F := fun k => k = g1) (p := ⟨g1, 7, none⟩) ?_ (Or.inl rfl) _; refine Touch.setCell (F := fun k => k = g1) (p := ⟨g1, 6, none⟩) ?_ (Or.inl rfl) _; refine Touch.setCell (F := fun k => k = g1) (p := ⟨g1, 5, none⟩) ?_ (Or.inl rfl) _; refine Touch.setCell (F := fun k => k = g1) (p := ⟨g1, 4, none⟩) ?_ (Or.inl rfl) _; refine Touch.setCell (F := fun k => k = g1) (p := ⟨g1, 3, none⟩) ?_ (Or.inl rfl) _; refine Touch.setCell (F := fun k => k = g1) (p := ⟨g1, 2, none⟩) ?_ (Or.inl rfl) _; refine Touch.setCell (F := fun k => k = g1) (p := ⟨g1, 1, none⟩) ?_ (Or.inl rfl) _; refine Touch.setCell (F := fun k => k = g1) (p := ⟨g1, 0, none⟩) ?_ (Or.inl rfl) _; exact Touch.refl _ _
  have HWz : Hid (wz = (((((((((w8.setCell ⟨g1, 0, none⟩ (.int .u16 h.age)).setCell ⟨g1, 1, none⟩ (.int .u8 h.opts)).setCell ⟨g1, 2, none⟩ (.int .u8 h.typ)).setCell ⟨g1, 3, none⟩ (.int .u32 h.id)).setCell ⟨g1, 4, none⟩ (.int .u32 h.adv)).setCell ⟨g1, 5, none⟩ (.int .i32 h.seq)).setCell ⟨g1, 6, none⟩ (.int .u16 (sealS h l))).setCell ⟨g1, 7, none⟩ (.int .u16 (20 + (l.length : Int)))).setCell ⟨g1, 8, none⟩ (.slice va4 l.length vc4))) := hwz
  clear hwz
  go_wp2_with fail
  rw [← HWz.out]
  clear HWz zc0 zf0 zc1 zf1 zc2 zf2 zc3 zf3 zc4 zf4 zc5 zf5 zc6 zf6 zc7 zf7 zc8 zf8
  refine bodyPost_ret (v := .agg #[.int .u16 h.age, .int .u8 h.opts, .int .u8 h.typ, .int .u32 h.id, .int .u32 h.adv, .int .i32 h.seq, .int .u16 (sealS h l), .int .u16 (20 + (l.length : Int)), .slice va4 l.length vc4]) (by simp [results, Tryz.results38, go_sem, zd0, zd1, zd2, zd3, zd4, zd5, zd6, zd7, zd8]) rfl ?_
  refine ⟨_, rfl, ?_⟩
  exact ⟨own_touch B7.out.own HUz.out (fun k hk e => by have := HGB.out k hk; omega), B7.out.t.trans' HUz.out (fun i hi e => by have := HG1.out; omega)⟩
end Go.Proofs.YthdkihnmeoacaaaGreatDoor

namespace Go.Proofs.YthdkihnmeoacaaaGreatDoor
open Go.RowKit
set_option linter.unusedVariables false
set_option maxRecDepth 100000

theorem rmask_ok (N b : Nat) (rs : List Int) (q : Option Nat) (w : World) (h : Rdr N w b rs q) (hm : pbok (numAt rs q 4) = true) :
    Calls Tryz.prog 134 #[.agg #[.pointer (some ⟨b, 0, none⟩)]] w fun e w' => e = .returned (.int .u32 (numAt rs q 4)) ∧ Rdr N w' b rs (nextAt rs q 4) ∧ Touch (fun k => k = b) w w' := by
  have hb := numAt_bound h.byte q 4
  have HN := fun w (h : Rdr N w b rs q) => rnum4 N b rs q w h
  generalize numAt rs q 4 = x at hm hb HN ⊢
  go_enter Tryz.func134, Tryz.ntmps134
  go_wp2_with fail
  refine Calls.mono (HN _ (h.keep ((Touch.refl _ _).alloc _))) ?_
  rintro e w1 ⟨rfl, h1, t1⟩
  have T1 : Hid (Touch (fun k => k = b) w w1) := ((Touch.refl _ w).alloc _).trans t1
  have H1 : Hid (Rdr N w1 b rs (nextAt rs q 4)) := h1
  clear t1 h1 HN h
  go_wp2_with fail
  refine Calls.mono (isMask_any x _ hb.1 hb.2) ?_
  rintro e w2 ⟨rfl, rfl⟩
  go_wp2_with fail
  refine Calls.mono (need_t _ 28 _ (by first | rfl | exact hm)) ?_
  rintro e w2 ⟨rfl, rfl⟩
  go_wp2
  go_ret
  exact ⟨rfl, H1.out, T1.out⟩
theorem rmask_no (N b : Nat) (rs : List Int) (q : Option Nat) (w : World) (h : Rdr N w b rs q) (hm : pbok (numAt rs q 4) = false) :
    Calls Tryz.prog 134 #[.agg #[.pointer (some ⟨b, 0, none⟩)]] w fun e w' => e = .panicked (flawC 28) ∧ Touch (fun k => k = b) w w' := by
  have hb := numAt_bound h.byte q 4
  have HN := fun w (h : Rdr N w b rs q) => rnum4 N b rs q w h
  generalize numAt rs q 4 = x at hm hb HN ⊢
  go_enter Tryz.func134, Tryz.ntmps134
  go_wp2_with fail
  refine Calls.mono (HN _ (h.keep ((Touch.refl _ _).alloc _))) ?_
  rintro e w1 ⟨rfl, h1, t1⟩
  have T1 : Hid (Touch (fun k => k = b) w w1) := ((Touch.refl _ w).alloc _).trans t1
  clear t1 h1 HN h
  go_wp2_with fail
  refine Calls.mono (isMask_any x _ hb.1 hb.2) ?_
  rintro e w2 ⟨rfl, rfl⟩
  go_wp2_with fail
  refine Calls.mono (need_f _ 28 _ (by first | rfl | exact hm)) ?_
  rintro e w2 ⟨rfl, rfl⟩
  exact ⟨rfl, rfl, T1.out⟩
theorem rmetric_any (N b : Nat) (rs : List Int) (q : Option Nat) (w : World) (h : Rdr N w b rs q) :
    Calls Tryz.prog 136 #[.agg #[.pointer (some ⟨b, 0, none⟩)]] w fun e w' => e = .returned (.int .u32 (numAt rs q 3)) ∧ Rdr N w' b rs (nextAt rs q 3) ∧ Touch (fun k => k = b) w w' := by
  have HN := fun w (h : Rdr N w b rs q) => rnum3 N b rs q w h
  generalize numAt rs q 3 = x at HN ⊢
  go_enter Tryz.func136, Tryz.ntmps136
  go_wp2_with fail
  refine Calls.mono (HN _ (h.keep ((Touch.refl _ _).alloc _))) ?_
  rintro e w1 ⟨rfl, h1, t1⟩
  have T1 : Hid (Touch (fun k => k = b) w w1) := ((Touch.refl _ w).alloc _).trans t1
  have H1 : Hid (Rdr N w1 b rs (nextAt rs q 3)) := h1
  clear t1 h1 HN h
  go_wp2
  go_ret
  exact ⟨rfl, H1.out, T1.out⟩
/-- A number of n bytes, n given as the program gives it. -/
theorem rnum_i (N b : Nat) (n : Int) (hn : n = 1 ∨ n = 2 ∨ n = 3 ∨ n = 4) (rs : List Int) (q : Option Nat) (w : World) (h : Rdr N w b rs q) :
    Calls Tryz.prog 135 #[.pointer (some ⟨b, 0, none⟩), .int .i64 n] w fun e w' => e = .returned (.int .u32 (numAt rs q n.toNat)) ∧ Rdr N w' b rs (nextAt rs q n.toNat) ∧ Touch (fun k => k = b) w w' := by
  rcases hn with rfl | rfl | rfl | rfl
  · exact rnum1 N b rs q w h
  · exact rnum2 N b rs q w h
  · exact rnum3 N b rs q w h
  · exact rnum4 N b rs q w h
theorem nought_ok (N b : Nat) (n : Int) (hn : n = 1 ∨ n = 2 ∨ n = 3 ∨ n = 4) (rs : List Int) (q : Option Nat) (w : World) (h : Rdr N w b rs q) (hz : numAt rs q n.toNat = 0) :
    Calls Tryz.prog 142 #[.agg #[.pointer (some ⟨b, 0, none⟩)], .int .i64 n] w fun e w' => e = .returned (.tuple #[]) ∧ Rdr N w' b rs (nextAt rs q n.toNat) ∧ Touch (fun k => k = b) w w' := by
  have HN := fun w (h : Rdr N w b rs q) => rnum_i N b n hn rs q w h
  rw [hz] at HN
  go_enter Tryz.func142, Tryz.ntmps142
  go_wp2_with fail
  refine Calls.mono (HN _ (h.keep ((Touch.refl _ _).alloc _))) ?_
  rintro e w1 ⟨rfl, h1, t1⟩
  have T1 : Hid (Touch (fun k => k = b) w w1) := ((Touch.refl _ w).alloc _).trans t1
  have H1 : Hid (Rdr N w1 b rs (nextAt rs q n.toNat)) := h1
  clear t1 h1 HN h
  go_wp2_with fail
  refine Calls.mono (need_t _ 28 _ rfl) ?_
  rintro e w2 ⟨rfl, rfl⟩
  go_wp2
  go_end0
  exact ⟨rfl, H1.out, T1.out⟩
theorem nought_no (N b : Nat) (n : Int) (hn : n = 1 ∨ n = 2 ∨ n = 3 ∨ n = 4) (rs : List Int) (q : Option Nat) (w : World) (h : Rdr N w b rs q) (hz : ¬ numAt rs q n.toNat = 0) :
    Calls Tryz.prog 142 #[.agg #[.pointer (some ⟨b, 0, none⟩)], .int .i64 n] w fun e w' => e = .panicked (flawC 28) ∧ Touch (fun k => k = b) w w' := by
  have HN := fun w (h : Rdr N w b rs q) => rnum_i N b n hn rs q w h
  generalize numAt rs q n.toNat = x at HN hz
  have hzb : (x == 0) = false := by simpa using hz
  go_enter Tryz.func142, Tryz.ntmps142
  go_wp2_with fail
  refine Calls.mono (HN _ (h.keep ((Touch.refl _ _).alloc _))) ?_
  rintro e w1 ⟨rfl, h1, t1⟩
  have T1 : Hid (Touch (fun k => k = b) w w1) := ((Touch.refl _ w).alloc _).trans t1
  clear t1 h1 HN h
  go_wp2_with fail
  refine Calls.mono (need_f _ 28 _ (by first | rfl | exact hzb)) ?_
  rintro e w2 ⟨rfl, rfl⟩
  exact ⟨rfl, rfl, T1.out⟩
end Go.Proofs.YthdkihnmeoacaaaGreatDoor

namespace Go.Proofs.YthdkihnmeoacaaaGreatDoor
open Go.RowKit
set_option linter.unusedVariables false
set_option maxRecDepth 100000

def R8 (w : World) (g : Nat) (u0 u1 u2 u3 u4 u5 u6 u7 : Value) : Prop := w.cell? ⟨g, 0, none⟩ = some u0 ∧ w.frozen? ⟨g, 0, none⟩ = false ∧ w.cell? ⟨g, 1, none⟩ = some u1 ∧ w.frozen? ⟨g, 1, none⟩ = false ∧ w.cell? ⟨g, 2, none⟩ = some u2 ∧ w.frozen? ⟨g, 2, none⟩ = false ∧ w.cell? ⟨g, 3, none⟩ = some u3 ∧ w.frozen? ⟨g, 3, none⟩ = false ∧ w.cell? ⟨g, 4, none⟩ = some u4 ∧ w.frozen? ⟨g, 4, none⟩ = false ∧ w.cell? ⟨g, 5, none⟩ = some u5 ∧ w.frozen? ⟨g, 5, none⟩ = false ∧ w.cell? ⟨g, 6, none⟩ = some u6 ∧ w.frozen? ⟨g, 6, none⟩ = false ∧ w.cell? ⟨g, 7, none⟩ = some u7 ∧ w.frozen? ⟨g, 7, none⟩ = false
theorem R8.touch {F : Nat → Prop} {w w' : World} {g : Nat} {u0 u1 u2 u3 u4 u5 u6 u7 : Value} (h : R8 w g u0 u1 u2 u3 u4 u5 u6 u7) (t : Touch F w w') (hF : ¬ F g) : R8 w' g u0 u1 u2 u3 u4 u5 u6 u7 := by
  have hl : g < w.heap.size := lt_of_cell h.1
  have c : ∀ i v, w.cell? ⟨g, i, none⟩ = some v → w'.cell? ⟨g, i, none⟩ = some v := fun i v e => (t.cell (p := ⟨g, i, none⟩) hl hF).trans e
  have f : ∀ i, w.frozen? ⟨g, i, none⟩ = false → w'.frozen? ⟨g, i, none⟩ = false := fun i e => (t.frozen (p := ⟨g, i, none⟩) hl hF).trans e
  obtain ⟨zc0, zf0, zc1, zf1, zc2, zf2, zc3, zf3, zc4, zf4, zc5, zf5, zc6, zf6, zc7, zf7⟩ := h
  exact ⟨c 0 _ zc0, f 0 zf0, c 1 _ zc1, f 1 zf1, c 2 _ zc2, f 2 zf2, c 3 _ zc3, f 3 zf3, c 4 _ zc4, f 4 zf4, c 5 _ zc5, f 5 zf5, c 6 _ zc6, f 6 zf6, c 7 _ zc7, f 7 zf7⟩
theorem next_all (rs : List Int) : ∀ (ns : List Nat) (p : Nat), ns.foldl (nextAt rs) (some p) = if p + ns.sum ≤ rs.length then some (p + ns.sum) else (if ns = [] then some p else none)
  | [], p => by simp
  | n :: r, p => by
    have hn : ∀ m : List Nat, m.foldl (nextAt rs) none = none := fun m => by induction m with | nil => rfl | cons a r ih => simpa [nextAt] using ih
    have hs : (n :: r).sum = n + r.sum := List.sum_cons
    generalize (n :: r).sum = S at hs ⊢
    rw [List.foldl_cons]
    by_cases h : p + n ≤ rs.length
    · rw [show nextAt rs (some p) n = some (p + n) by simp [nextAt, h], next_all rs r (p + n)]
      by_cases h2 : p + n + r.sum ≤ rs.length
      · have h3 : p + S ≤ rs.length := by omega
        rw [if_pos h2, if_pos h3]; congr 1; omega
      · have h3 : ¬ p + S ≤ rs.length := by omega
        have hr : r ≠ [] := fun e => by subst e; simp at h2; omega
        rw [if_neg h2, if_neg h3, if_neg hr, if_neg (by simp)]
    · have h3 : ¬ p + S ≤ rs.length := by omega
      rw [show nextAt rs (some p) n = none by simp [nextAt, h], hn, if_neg h3, if_neg (by simp)]
/-- A head out of bytes. -/
def rdHead (rs : List Int) : HV := ⟨numAt rs (some 0) 2, numAt rs (nextAt rs (some 0) 2) 1, numAt rs (nextAt rs (nextAt rs (some 0) 2) 1) 1, numAt rs (nextAt rs (nextAt rs (nextAt rs (some 0) 2) 1) 1) 4, numAt rs (nextAt rs (nextAt rs (nextAt rs (nextAt rs (some 0) 2) 1) 1) 4) 4, IntKind.i32.wrap (numAt rs (nextAt rs (nextAt rs (nextAt rs (nextAt rs (nextAt rs (some 0) 2) 1) 1) 4) 4) 4), numAt rs (nextAt rs (nextAt rs (nextAt rs (nextAt rs (nextAt rs (nextAt rs (some 0) 2) 1) 1) 4) 4) 4) 2, numAt rs (nextAt rs (nextAt rs (nextAt rs (nextAt rs (nextAt rs (nextAt rs (nextAt rs (some 0) 2) 1) 1) 4) 4) 4) 2) 2⟩
theorem rd_last (rs : List Int) : (nextAt rs (nextAt rs (nextAt rs (nextAt rs (nextAt rs (nextAt rs (nextAt rs (nextAt rs (some 0) 2) 1) 1) 4) 4) 4) 2) 2) = if 20 ≤ rs.length then some 20 else none := next_all rs [2, 1, 1, 4, 4, 4, 2, 2] 0

end Go.Proofs.YthdkihnmeoacaaaGreatDoor

namespace Go.Proofs.YthdkihnmeoacaaaGreatDoor
open Go.RowKit
set_option linter.unusedVariables false
set_option maxRecDepth 100000

/-- A callee that gives up, in a region that draws its order: the other way is none. -/
theorem Calls.dead {P : Program} {f : FuncId} {args : Array Value} {w : World} {c : List PanicEntry} {R : World → Prop} (v : Value) (h : Calls P f args w fun e w' => e = .panicked c ∧ R w') :
    Calls P f args w fun e w' => (e = .panicked c ∧ R w') ∨ (Hid False ∧ e = .returned v ∧ w = w') := h.mono (fun _ _ h => Or.inl h)
theorem err_some (N b : Nat) (rs : List Int) (p : Nat) (w : World) (h : Rdr N w b rs (some p)) : Calls Tryz.prog 99 #[.pointer (some ⟨b, 0, none⟩)] w fun e w' => e = .returned (.int .i64 0) ∧ w = w' := err_r N b rs (some p) w h
theorem err_none (N b : Nat) (rs : List Int) (w : World) (h : Rdr N w b rs none) : Calls Tryz.prog 99 #[.pointer (some ⟨b, 0, none⟩)] w fun e w' => e = .returned (.int .i64 10) ∧ w = w' := err_r N b rs none w h
theorem cut_zero (va : Option Addr) (vc : Nat) (hc : vc ≤ maxLen) (w : World) : Sem.run Tryz.prog (Instr.slice 28 (.slice va 0 vc) none (some (.int .i64 0)) none) w = .ok (.slice va 0 vc) w := by
  unfold maxLen at hc
  have h1 : (0 : Int) ≤ (vc : Int) := by omega
  cases va with
  | none => simp [Instr.slice, Instr.sliceBounds, Instr.sliceBound, go_sem]
  | some a => simp [Instr.slice, Instr.sliceBounds, Instr.sliceBound, go_sem]
/-- b[:m], m the lesser of its length and twenty. -/
theorem cut_head {w : World} {va : Option Addr} {vc : Nat} {rs : List Int} (h : ArgAt w (.slice va rs.length vc) rs) (m : Nat) (hm : m ≤ rs.length) (hz : rs.length = 0 ∨ 0 < rs.length) :
    ∃ v, (∀ w, Sem.run Tryz.prog (Instr.slice 28 (.slice va rs.length vc) none (some (.int .i64 (m : Int))) none) w = .ok v w) ∧ ArgAt w v (rs.take m) := by
  by_cases h0 : 0 < rs.length
  · exact cut_to h rfl h0 m hm
  · have e : rs = [] := List.length_eq_zero_iff.1 (by omega)
    subst e
    obtain rfl : m = 0 := by simpa using hm
    have hc : vc ≤ maxLen := by
      rcases h with ⟨h, _⟩ | ⟨ad, c, h, _, h2, _⟩
      · cases h; exact Nat.zero_le _
      · cases h; exact h2
    exact ⟨.slice va 0 vc, fun w => cut_zero va vc hc w, h⟩

end Go.Proofs.YthdkihnmeoacaaaGreatDoor

namespace Go.Proofs.YthdkihnmeoacaaaGreatDoor
open Go.RowKit
set_option linter.unusedVariables false
set_option maxRecDepth 100000

/-- b[i:j], j of sixteen bits. -/
theorem cut_mid_u {w : World} {va : Option Addr} {vc n : Nat} {rs : List Int} (h : ArgAt w (.slice va n vc) rs) (hn : n = rs.length) (hp : 0 < n) (i j : Nat) (hij : i ≤ j) (hj : j ≤ n) :
    ∃ v, (∀ w, Sem.run Tryz.prog (Instr.slice 28 (.slice va n vc) (some (.int .i64 (i : Int))) (some (.int .u16 (j : Int))) none) w = .ok v w) ∧ ArgAt w v ((rs.drop i).take (j - i)) := by
  subst hn
  have hr := h.row hp
  obtain ⟨ga, oa, rfl⟩ := rowAt_some hr hp
  obtain ⟨-, hc1, hc2⟩ := cap_of hr
  have hc2' : (vc : Int) ≤ 9223372036854775807 := by unfold maxLen at hc2; omega
  have h0 : (0 : Int) ≤ (i : Int) := by omega
  have h0' : (0 : Int) ≤ (j : Int) := by omega
  have h1 : (j : Int) ≤ (vc : Int) := by omega
  have h2 : (i : Int) ≤ (j : Int) := by omega
  by_cases hz : vc = i
  · refine ⟨.slice (some ⟨ga, oa, none⟩) (j - i) (vc - i), fun w => ?_, ?_⟩
    · simp [Instr.slice, Instr.sliceBounds, Instr.sliceBound, go_sem, h0, h0', hz]
      rw [if_pos (by omega), if_pos (by omega)]
    · have : j - i = 0 := by omega
      rw [this, List.take_zero]
      exact empty_arg w _ _ (by unfold maxLen; omega)
  · refine ⟨.slice (some ⟨ga, oa + i, none⟩) (j - i) (vc - i), fun w => ?_, (take_row (drop_row hr i (by omega)) (j - i) (by omega)).arg⟩
    simp [Instr.slice, Instr.sliceBounds, Instr.sliceBound, go_sem, h0, h0', hz]
    rw [if_pos (by omega), if_pos hij]
theorem rdHead_len {rs : List Int} (hb : ∀ x ∈ rs, 0 ≤ x ∧ x < 256) : 0 ≤ (rdHead rs).len ∧ (rdHead rs).len < 65536 := numAt_bound hb _ 2
theorem cell_far {w : World} {g g' : Nat} (hne : g ≠ g') (i j : Nat) (u : Value) : (w.setCell ⟨g', j, none⟩ u).cell? ⟨g, i, none⟩ = w.cell? ⟨g, i, none⟩ :=
  World.cell?_of_block (w := w) (a := ⟨g, i, none⟩) (Below.heap_setCell _ _ _ _ (fun e => hne e))
theorem cell_far9 {w : World} {g g' : Nat} (hne : g ≠ g') (i : Nat) (u0 u1 u2 u3 u4 u5 u6 u7 u8 : Value) : ((((((((((w.setCell ⟨g', 0, none⟩ u0).setCell ⟨g', 1, none⟩ u1).setCell ⟨g', 2, none⟩ u2).setCell ⟨g', 3, none⟩ u3).setCell ⟨g', 4, none⟩ u4).setCell ⟨g', 5, none⟩ u5).setCell ⟨g', 6, none⟩ u6).setCell ⟨g', 7, none⟩ u7).setCell ⟨g', 8, none⟩ u8)).cell? ⟨g, i, none⟩ = w.cell? ⟨g, i, none⟩ := by
  rw [cell_far hne, cell_far hne, cell_far hne, cell_far hne, cell_far hne, cell_far hne, cell_far hne, cell_far hne, cell_far hne]
end Go.Proofs.YthdkihnmeoacaaaGreatDoor

namespace Go.Proofs.YthdkihnmeoacaaaGreatDoor
open Go.RowKit
set_option linter.unusedVariables false
set_option maxRecDepth 100000

theorem drew_cell (w : World) (p : Addr) : w.drew.cell? p = w.cell? p := rfl
theorem cell_far8 {w : World} {g g' : Nat} (hne : g ≠ g') (i : Nat) (u0 u1 u2 u3 u4 u5 u6 u7 : Value) : (((((((((w.setCell ⟨g', 0, none⟩ u0).setCell ⟨g', 1, none⟩ u1).setCell ⟨g', 2, none⟩ u2).setCell ⟨g', 3, none⟩ u3).setCell ⟨g', 4, none⟩ u4).setCell ⟨g', 5, none⟩ u5).setCell ⟨g', 6, none⟩ u6).setCell ⟨g', 7, none⟩ u7)).cell? ⟨g, i, none⟩ = w.cell? ⟨g, i, none⟩ := by
  rw [cell_far hne, cell_far hne, cell_far hne, cell_far hne, cell_far hne, cell_far hne, cell_far hne, cell_far hne]
/-- A row that says a number. -/
structure Nm (w : World) (u : Value) (n : Int) : Prop where
  out : ∃ l : List Int, ArgAt w u l ∧ (∀ x ∈ l, 0 ≤ x ∧ x < 256) ∧ l.length ≤ 4 ∧ numOf l = n
theorem number_sym {w : World} {u : Value} {n : Int} (h : Nm w u n) : Calls Tryz.prog 102 #[u] w fun e w' => e = .returned (.int .u32 n) ∧ w = w' := by
  obtain ⟨l, h1, h2, h3, rfl⟩ := h.out
  exact rnumber_any u l w h1 h2 h3
theorem list_take20 {l : List Int} (h : 20 ≤ l.length) : ∃ a b c d e f g i j k m n o p q r s t u v, l.take 20 = [a, b, c, d, e, f, g, i, j, k, m, n, o, p, q, r, s, t, u, v] := by
  obtain ⟨x, hx⟩ : ∃ x, x = l.take 20 := ⟨_, rfl⟩
  have hl : x.length = 20 := by rw [hx, List.length_take]; omega
  rw [← hx]
  match x, hl with
  | [a, b, c, d, e, f, g, i, j, k, m, n, o, p, q, r, s, t, u, v], _ => exact ⟨a, b, c, d, e, f, g, i, j, k, m, n, o, p, q, r, s, t, u, v, rfl⟩
theorem rdHead_take {l : List Int} (h : 20 ≤ l.length) : rdHead (l.take 20) = ⟨numOf (l.take 2), l.getD 2 0, l.getD 3 0, numOf ((l.drop 4).take 4), numOf ((l.drop 8).take 4), IntKind.i32.wrap (numOf ((l.drop 12).take 4)), numOf ((l.drop 16).take 2), numOf ((l.drop 18).take 2)⟩ := by
  obtain ⟨a, b, c, d, e, f, g, i, j, k, m, n, o, p, q, r, s, t, u, v, hx⟩ := list_take20 h
  have hl : l = [a, b, c, d, e, f, g, i, j, k, m, n, o, p, q, r, s, t, u, v] ++ l.drop 20 := by rw [← hx, List.take_append_drop]
  generalize l.drop 20 = z at hl
  rw [hx, hl]
  simp [rdHead, numAt, nextAt, numOf]

end Go.Proofs.YthdkihnmeoacaaaGreatDoor
