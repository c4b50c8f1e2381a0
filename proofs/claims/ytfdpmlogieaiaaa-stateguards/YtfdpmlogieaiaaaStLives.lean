/- The small known run 'lives' answers true. -/
import Derived.Test.YtfdpmlogieaiaaaStChk
import Derived.Test.YtfdpmlogieaiaaaStEnc
import Derived.Test.YtfdpmlogieaiaaaStWSum
namespace Go.Proofs.Ytfdpmlogieaiaaa
open Go.RowKit
set_option linter.unusedVariables false
set_option maxRecDepth 100000

def lvH : HV := ⟨0, 0, 3, 0, 0, 1, 0, 0⟩
def lvH6 : HV := ⟨0, 0, 6, 0, 0, 0, 0, 0⟩
def lvB : BV := ⟨0, [], 4294967040, [], 10, false, 0, 0, []⟩
def lvL : List Int := [255, 255, 255, 0, 0, 0, 0, 10]
theorem lvH_all : lvH.All := by constructor <;> decide
theorem lvB_ok : lvB.Ok := by constructor <;> simp [lvB]
theorem lv_mask : pbok 4294967040 = true := by decide +kernel
theorem lv_bytes : numBytes 4 lvB.mask ++ [0] ++ numBytes 3 lvB.metric = lvL := by decide +kernel
theorem lv_byte : ∀ z ∈ lvL, 0 ≤ z ∧ z < 256 := by decide
theorem lv_write (w : World) : Calls Try.prog 20 #[.int .u8 lvH.typ, .agg #[.int .u8 lvB.flags, .slice none 0 0, .int .u32 lvB.mask, .slice none 0 0, .int .u32 lvB.metric, .bool lvB.type2, .int .u32 lvB.fwd, .int .u32 lvB.tag, .slice none 0 0]] w fun e w' => ∃ u, e = .returned u ∧ Buf w w' u lvL := by
  have := write_sum lvB lvB_ok none none none 0 0 0 0 0 0 w lv_mask (by decide) rfl rfl rfl rfl rfl rfl rfl
  rwa [lv_bytes] at this
theorem lv_enc (w : World) : Calls Try.prog 7 #[.agg #[.int .u16 0, .int .u8 0, .int .u8 3, .int .u32 0, .int .u32 0, .int .i32 1, .int .u16 0, .int .u16 0], .agg #[.int .u8 0, .slice none 0 0, .int .u32 4294967040, .slice none 0 0, .int .u32 10, .bool false, .int .u32 0, .int .u32 0, .slice none 0 0]] w fun e w' => ∃ u, e = .returned (.tuple #[(sealH lvH lvL).sv u, .int .i64 0]) ∧ Buf w w' u lvL :=
  encode_ok lvH lvH_all lvB none none none 0 0 0 0 0 0 lvL w lv_byte (by decide) (fun w' _ => lv_write w')
theorem lv_enc6 (w : World) : Calls Try.prog 7 #[.agg #[.int .u16 0, .int .u8 0, .int .u8 6, .int .u32 0, .int .u32 0, .int .i32 0, .int .u16 0, .int .u16 0], .agg #[.int .u8 0, .slice none 0 0, .int .u32 0, .slice none 0 0, .int .u32 0, .bool false, .int .u32 0, .int .u32 0, .slice none 0 0]] w fun e w' => e = .returned (.tuple #[.agg #[.int .u16 0, .int .u8 0, .int .u8 0, .int .u32 0, .int .u32 0, .int .i32 0, .int .u16 0, .int .u16 0, .slice none 0 0], .int .i64 21]) ∧ Touch (fun _ => False) w w' :=
  encode_no lvH6 BV.zero none none none 0 0 0 0 0 0 21 w (fun w' _ => write_none BV.zero 6 none none none 0 0 0 0 0 0 w' pairOf_6)
def lvS : Int := sealS lvH lvL
theorem lv_sum : sealS lvH lvL = lvS := rfl
theorem lv_whole : whole ((headB (sealH lvH lvL) ++ lvL).drop 2) = true := by decide +kernel
theorem lv_sum0 : sealS lvH lvL ≠ 0 := by decide +kernel
theorem lv_read (v : Value) (w : World) (hv : ArgAt w v lvL) : Calls Try.prog 28 #[.agg #[.func (.func 68) #[] #[], .func (.func 69) #[] #[]], v] w fun e w' => e = .returned (.agg #[.int .u8 0, .slice none 0 0, .int .u32 4294967040, .slice none 0 0, .int .u32 10, .bool false, .int .u32 0, .int .u32 0, .slice none 0 0]) ∧ Touch (fun _ => False) w w' :=
  read_sum v lvL w hv lv_byte rfl 4294967040 10 (by decide) lv_mask (by decide) (by decide)
theorem lv_sealAll : (sealH lvH lvL).All := by
  refine ⟨by decide, by decide, by decide, by decide, by decide, by decide, ?_, by decide⟩
  show 0 ≤ sealS lvH lvL ∧ sealS lvH lvL < 65536
  decide +kernel
theorem lv_dec (u : Value) (w : World) (hv : ArgAt w u lvL) : Calls Try.prog 9 #[(sealH lvH lvL).sv u] w fun e w' => e = .returned (.tuple #[.agg #[.int .u8 0, .slice none 0 0, .int .u32 4294967040, .slice none 0 0, .int .u32 10, .bool false, .int .u32 0, .int .u32 0, .slice none 0 0], .int .i64 0]) ∧ Touch (fun _ => False) w w' := by
  obtain ⟨a, c, rfl, _⟩ := hv.form
  exact decode_flat (sealH lvH lvL) a lvL.length c 0 4294967040 10 0 0 false w (fun w' t S => dec1_ok w.heap.size (sealH lvH lvL) a lvL.length c _ 0 4294967040 10 0 0 false w' S (by decide) (by decide) (by decide) pairOf_3 (fun w'' t' => lv_read _ w'' ((hv.keepN t).keepN t')))
theorem lv_chk (u : Value) (w : World) (hv : ArgAt w u lvL) : Calls Try.prog 14 #[(sealH lvH lvL).sv u] w fun e w' => e = .returned (.int .i64 0) ∧ Touch (fun _ => False) w w' := by
  obtain ⟨a, c, rfl, _⟩ := hv.form
  exact check_flat (sealH lvH lvL) a lvL.length c 0 4294967040 10 0 0 false w (fun w' t S => chk1_ok w.heap.size (sealH lvH lvL) lv_sealAll _ lvL 68 69 0 4294967040 10 0 0 false w' S (hv.keepN t) lv_byte (by decide) (by decide) lv_sum0 lv_whole (by decide) (by decide) pairOf_3 (fun w'' t' => lv_read _ w'' ((hv.keepN t).keepN t')))
set_option maxHeartbeats 1000000 in
theorem lives6 (w : World) : Calls Try.prog 6 #[] w fun e w' => e = .returned (.bool true) ∧ Touch (fun _ => False) w w' := by
  go_enter Try.func6, Try.ntmps6
  go_wp2_with fail
  refine Calls.mono (lv_enc _) ?_
  rintro e w1 ⟨u, rfl, b1⟩
  obtain ⟨ua, uc, rfl⟩ := b1.form
  have HD := fun w h => lv_dec (.slice ua lvL.length uc) w h
  have HCk := fun w h => lv_chk (.slice ua lvL.length uc) w h
  have B1 : Hid (Buf w w1 (.slice ua lvL.length uc) lvL) := b1
  have e8 : lvL.length = 8 := rfl
  clear b1
  unfold HV.sv sealH at HD HCk ⊢
  simp only [lvH] at HD HCk ⊢
  generalize sealS _ lvL = SS at HD HCk ⊢
  have e28 : (20 : Int) + (lvL.length : Int) = 28 := rfl
  simp only [e28] at HD HCk ⊢
  simp only [e8] at HD HCk ⊢
  replace B1 : Hid (Buf w w1 (.slice ua 8 uc) lvL) := B1
  clear e28 e8
  have S1 : Sd (w1.alloc (.cells #[.int .u16 0, .int .u8 0, .int .u8 3, .int .u32 0, .int .u32 0, .int .i32 1, .int .u16 SS, .int .u16 28, .slice ua 8 uc] 34)) w1.heap.size ⟨0, 0, 3, 0, 0, 1, SS, 28⟩ (.slice ua 8 uc) := Sd.new w1 ⟨0, 0, 3, 0, 0, 1, SS, 28⟩ (.slice ua 8 uc) 34
  go_wp2_with fail
  refine Calls.mono (HD _ (B1.out.arg.keepN ((Touch.refl _ _).alloc _))) ?_
  rintro e w2 ⟨rfl, t2⟩
  have HS2 : Hid (Sd w2 w1.heap.size ⟨0, 0, 3, 0, 0, 1, SS, 28⟩ (.slice ua 8 uc)) := S1.keep t2
  have T2 : Hid (Touch (fun _ => False) w1 w2) := ((Touch.refl _ w1).alloc _).trans t2
  have m2 : (w2.alloc (.cells #[.int .u8 0, .slice none 0 0, .int .u32 4294967040, .slice none 0 0, .int .u32 10, .bool false, .int .u32 0, .int .u32 0, .slice none 0 0] 30)).cell? ⟨w2.heap.size, 4, none⟩ = some (.int .u32 10) := by simp [go_sem]
  clear S1 t2 HD
  go_wp2_with fail
  refine Calls.mono (lv_enc6 _) ?_
  rintro e w3 ⟨rfl, t3⟩
  have c3 := t3.cellN m2
  have T3 : Hid (Touch (fun _ => False) w1 w3) := (T2.out.alloc _).trans t3
  have h3 : w2.heap.size < w3.heap.size := lt_of_cell c3
  obtain ⟨⟨s0, s1, s2, s3, s4, s5, s6, s7⟩, s8⟩ := (HS2.out.keep ((Touch.refl _ _).alloc _)).keep t3
  dsimp only at s0 s1 s2 s3 s4 s5 s6 s7
  have h31 : w1.heap.size < w3.heap.size := lt_of_cell s0
  clear m2 t3 HS2 T2
  have hx1 : ¬ w1.heap.size = w3.heap.size := by omega
  have hx2 : ¬ w2.heap.size = w3.heap.size := by omega
  go_wp2_with fail
  refine Calls.mono (HCk _ ((B1.out.arg.keepN T3.out).keepN ((Touch.refl _ _).alloc _))) ?_
  rintro e w4 ⟨rfl, t4⟩
  have T4 : Hid (Touch (fun _ => False) w w4) := (B1.out.t.trans (T3.out.alloc _)).trans t4
  clear t4 HCk s0 s1 s2 s3 s4 s5 s6 s7 s8 c3
  go_wp2
  go_ret
  exact ⟨rfl, T4.out⟩
end Go.Proofs.Ytfdpmlogieaiaaa
