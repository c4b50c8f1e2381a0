import Derived.Test.YtldmkoogghemhaaGreatRefLay1
import Derived.Laws.BitsAllLaws
namespace Go.Proofs.YtldmkoogghemhaaGreat
set_option maxHeartbeats 8000000
open Go.RowKit
set_option linter.unusedVariables false
set_option maxRecDepth 100000
theorem Qi8 (t:Int) (h0:0≤t) (h1:t<256) (b:BV) (ok:b.Ok) (vl vr vd:Value) (w:World) (ha:BArg w b vl vr vd) (hb1:b.links.length≤8192) (hb2:b.routers.length≤32768) (hb3:b.data.length≤131072) :
  Calls Tryz.prog 65 #[.int .u8 t,b.v vl vr vd] w fun e w'=>e=.returned (.int .i64 (sizeB t b))∧Touch (fun _=>False) w w':=by
 obtain⟨al,cl,rfl,-⟩:=ValsAt.form ha.l
 obtain⟨ar,cr,rfl,-⟩:=ValsAt.form ha.r
 obtain⟨ad,cd,rfl,-⟩:=ArgAt.form ha.d
 have HS:Hid (sizeB t b=if t=1 then 4+12*(b.links.length:Int) else if t=2 then 4+4*(b.routers.length:Int) else if t=3∨t=4 then 8 else if t=5∨t=7 then 16 else (b.data.length:Int)):=rfl
 generalize sizeB t b=z at HS ⊢
 clear ha ok
 show Calls Tryz.prog 65 #[.int .u8 t,.agg #[.int .u8 b.flags,.slice al b.links.length cl,.int .u32 b.mask,.slice ar b.routers.length cr,.int .u32 b.metric,.bool b.type2,.int .u32 b.fwd,.int .u32 b.tag,.slice ad b.data.length cd]] w _
 go_enter Tryz.func65,Tryz.ntmps65
 go_wp2
 all_goals go_ret
 all_goals refine⟨Qas ?_,(Touch.refl _ w).alloc _⟩
 all_goals (rw [HS.out];simp_all)
theorem Qao (t:Int) (b:BV):aloneB t b=true↔(t=1∨(b.flags=0∧b.links.length=0))∧(t=2∨b.routers.length=0)∧(t=2∨t=3∨t=5∨t=7∨b.mask=0)∧(t=3∨t=4∨t=5∨t=7∨b.metric=0)
  ∧ (t=5∨t=7∨(b.type2=false∧b.fwd=0∧b.tag=0))∧(9≤t∨b.data.length=0):=by
 unfold aloneB
 simp only [Bool.and_eq_true,decide_eq_true_eq,and_assoc]
theorem Qn4  (fl ma me fw tg:Int) (nl nr nd cl cr cd:Nat) (al ar ad:Option Addr) (z:Bool) (w:World) (h1:nl≤8192) (h2:nr≤32768) (h3:nd≤131072) (HZ:Hid (z=true↔((True∨(fl=0∧nl=0))∧(False∨nr=0)∧(False∨False∨False∨False∨ma=0)∧(False∨False∨False∨False∨me=0)∧(False∨False∨(True∧fw=0∧tg=0))∧(False∨nd=0)))) :
  Calls Tryz.prog 85 #[.int .u8 1,.agg #[.int .u8 fl,.slice al nl cl,.int .u32 ma,.slice ar nr cr,.int .u32 me,.bool false,.int .u32 fw,.int .u32 tg,.slice ad nd cd]] w fun e w'=>e=.returned (.bool z)∧Touch (fun _=>False) w w':=by
 go_enter Tryz.func85,Tryz.ntmps85
 go_wp2
 all_goals go_ret
 all_goals refine⟨Qad ?_,(Touch.refl _ w).alloc _⟩
 all_goals (have hz:=HZ.out;clear HZ;rw [Bool.eq_iff_iff,hz];clear hz;first|(simp_all <;> omega)|(simp <;> omega)|grind)
theorem Qoh  (fl ma me fw tg:Int) (nl nr nd cl cr cd:Nat) (al ar ad:Option Addr) (z:Bool) (w:World) (h1:nl≤8192) (h2:nr≤32768) (h3:nd≤131072) (HZ:Hid (z=true↔((True∨(fl=0∧nl=0))∧(False∨nr=0)∧(False∨False∨False∨False∨ma=0)∧(False∨False∨False∨False∨me=0)∧(False∨False∨(False∧fw=0∧tg=0))∧(False∨nd=0)))) :
  Calls Tryz.prog 85 #[.int .u8 1,.agg #[.int .u8 fl,.slice al nl cl,.int .u32 ma,.slice ar nr cr,.int .u32 me,.bool true,.int .u32 fw,.int .u32 tg,.slice ad nd cd]] w fun e w'=>e=.returned (.bool z)∧Touch (fun _=>False) w w':=by
 go_enter Tryz.func85,Tryz.ntmps85
 go_wp2
 all_goals go_ret
 all_goals refine⟨Qad ?_,(Touch.refl _ w).alloc _⟩
 all_goals (have hz:=HZ.out;clear HZ;rw [Bool.eq_iff_iff,hz];clear hz;first|(simp_all <;> omega)|(simp <;> omega)|grind)
theorem Qn8  (fl ma me fw tg:Int) (nl nr nd cl cr cd:Nat) (al ar ad:Option Addr) (z:Bool) (w:World) (h1:nl≤8192) (h2:nr≤32768) (h3:nd≤131072) (HZ:Hid (z=true↔((False∨(fl=0∧nl=0))∧(True∨nr=0)∧(True∨False∨False∨False∨ma=0)∧(False∨False∨False∨False∨me=0)∧(False∨False∨(True∧fw=0∧tg=0))∧(False∨nd=0)))) :
  Calls Tryz.prog 85 #[.int .u8 2,.agg #[.int .u8 fl,.slice al nl cl,.int .u32 ma,.slice ar nr cr,.int .u32 me,.bool false,.int .u32 fw,.int .u32 tg,.slice ad nd cd]] w fun e w'=>e=.returned (.bool z)∧Touch (fun _=>False) w w':=by
 go_enter Tryz.func85,Tryz.ntmps85
 go_wp2
 all_goals go_ret
 all_goals refine⟨Qad ?_,(Touch.refl _ w).alloc _⟩
 all_goals (have hz:=HZ.out;clear HZ;rw [Bool.eq_iff_iff,hz];clear hz;first|(simp_all <;> omega)|(simp <;> omega)|grind)
theorem Qoa  (fl ma me fw tg:Int) (nl nr nd cl cr cd:Nat) (al ar ad:Option Addr) (z:Bool) (w:World) (h1:nl≤8192) (h2:nr≤32768) (h3:nd≤131072) (HZ:Hid (z=true↔((False∨(fl=0∧nl=0))∧(True∨nr=0)∧(True∨False∨False∨False∨ma=0)∧(False∨False∨False∨False∨me=0)∧(False∨False∨(False∧fw=0∧tg=0))∧(False∨nd=0)))) :
  Calls Tryz.prog 85 #[.int .u8 2,.agg #[.int .u8 fl,.slice al nl cl,.int .u32 ma,.slice ar nr cr,.int .u32 me,.bool true,.int .u32 fw,.int .u32 tg,.slice ad nd cd]] w fun e w'=>e=.returned (.bool z)∧Touch (fun _=>False) w w':=by
 go_enter Tryz.func85,Tryz.ntmps85
 go_wp2
 all_goals go_ret
 all_goals refine⟨Qad ?_,(Touch.refl _ w).alloc _⟩
 all_goals (have hz:=HZ.out;clear HZ;rw [Bool.eq_iff_iff,hz];clear hz;first|(simp_all <;> omega)|(simp <;> omega)|grind)
theorem Qow  (fl ma me fw tg:Int) (nl nr nd cl cr cd:Nat) (al ar ad:Option Addr) (z:Bool) (w:World) (h1:nl≤8192) (h2:nr≤32768) (h3:nd≤131072) (HZ:Hid (z=true↔((False∨(fl=0∧nl=0))∧(False∨nr=0)∧(False∨True∨False∨False∨ma=0)∧(True∨False∨False∨False∨me=0)∧(False∨False∨(True∧fw=0∧tg=0))∧(False∨nd=0)))) :
  Calls Tryz.prog 85 #[.int .u8 3,.agg #[.int .u8 fl,.slice al nl cl,.int .u32 ma,.slice ar nr cr,.int .u32 me,.bool false,.int .u32 fw,.int .u32 tg,.slice ad nd cd]] w fun e w'=>e=.returned (.bool z)∧Touch (fun _=>False) w w':=by
 go_enter Tryz.func85,Tryz.ntmps85
 go_wp2
 all_goals go_ret
 all_goals refine⟨Qad ?_,(Touch.refl _ w).alloc _⟩
 all_goals (have hz:=HZ.out;clear HZ;rw [Bool.eq_iff_iff,hz];clear hz;first|(simp_all <;> omega)|(simp <;> omega)|grind)
theorem Qoc  (fl ma me fw tg:Int) (nl nr nd cl cr cd:Nat) (al ar ad:Option Addr) (z:Bool) (w:World) (h1:nl≤8192) (h2:nr≤32768) (h3:nd≤131072) (HZ:Hid (z=true↔((False∨(fl=0∧nl=0))∧(False∨nr=0)∧(False∨True∨False∨False∨ma=0)∧(True∨False∨False∨False∨me=0)∧(False∨False∨(False∧fw=0∧tg=0))∧(False∨nd=0)))) :
  Calls Tryz.prog 85 #[.int .u8 3,.agg #[.int .u8 fl,.slice al nl cl,.int .u32 ma,.slice ar nr cr,.int .u32 me,.bool true,.int .u32 fw,.int .u32 tg,.slice ad nd cd]] w fun e w'=>e=.returned (.bool z)∧Touch (fun _=>False) w w':=by
 go_enter Tryz.func85,Tryz.ntmps85
 go_wp2
 all_goals go_ret
 all_goals refine⟨Qad ?_,(Touch.refl _ w).alloc _⟩
 all_goals (have hz:=HZ.out;clear HZ;rw [Bool.eq_iff_iff,hz];clear hz;first|(simp_all <;> omega)|(simp <;> omega)|grind)
theorem Qnz  (fl ma me fw tg:Int) (nl nr nd cl cr cd:Nat) (al ar ad:Option Addr) (z:Bool) (w:World) (h1:nl≤8192) (h2:nr≤32768) (h3:nd≤131072) (HZ:Hid (z=true↔((False∨(fl=0∧nl=0))∧(False∨nr=0)∧(False∨False∨False∨False∨ma=0)∧(False∨True∨False∨False∨me=0)∧(False∨False∨(True∧fw=0∧tg=0))∧(False∨nd=0)))) :
  Calls Tryz.prog 85 #[.int .u8 4,.agg #[.int .u8 fl,.slice al nl cl,.int .u32 ma,.slice ar nr cr,.int .u32 me,.bool false,.int .u32 fw,.int .u32 tg,.slice ad nd cd]] w fun e w'=>e=.returned (.bool z)∧Touch (fun _=>False) w w':=by
 go_enter Tryz.func85,Tryz.ntmps85
 go_wp2
 all_goals go_ret
 all_goals refine⟨Qad ?_,(Touch.refl _ w).alloc _⟩
 all_goals (have hz:=HZ.out;clear HZ;rw [Bool.eq_iff_iff,hz];clear hz;first|(simp_all <;> omega)|(simp <;> omega)|grind)
theorem Qob  (fl ma me fw tg:Int) (nl nr nd cl cr cd:Nat) (al ar ad:Option Addr) (z:Bool) (w:World) (h1:nl≤8192) (h2:nr≤32768) (h3:nd≤131072) (HZ:Hid (z=true↔((False∨(fl=0∧nl=0))∧(False∨nr=0)∧(False∨False∨False∨False∨ma=0)∧(False∨True∨False∨False∨me=0)∧(False∨False∨(False∧fw=0∧tg=0))∧(False∨nd=0)))) :
  Calls Tryz.prog 85 #[.int .u8 4,.agg #[.int .u8 fl,.slice al nl cl,.int .u32 ma,.slice ar nr cr,.int .u32 me,.bool true,.int .u32 fw,.int .u32 tg,.slice ad nd cd]] w fun e w'=>e=.returned (.bool z)∧Touch (fun _=>False) w w':=by
 go_enter Tryz.func85,Tryz.ntmps85
 go_wp2
 all_goals go_ret
 all_goals refine⟨Qad ?_,(Touch.refl _ w).alloc _⟩
 all_goals (have hz:=HZ.out;clear HZ;rw [Bool.eq_iff_iff,hz];clear hz;first|(simp_all <;> omega)|(simp <;> omega)|grind)
theorem Qo0  (fl ma me fw tg:Int) (nl nr nd cl cr cd:Nat) (al ar ad:Option Addr) (z:Bool) (w:World) (h1:nl≤8192) (h2:nr≤32768) (h3:nd≤131072) (HZ:Hid (z=true↔((False∨(fl=0∧nl=0))∧(False∨nr=0)∧(False∨False∨True∨False∨ma=0)∧(False∨False∨True∨False∨me=0)∧(True∨False∨(True∧fw=0∧tg=0))∧(False∨nd=0)))) :
  Calls Tryz.prog 85 #[.int .u8 5,.agg #[.int .u8 fl,.slice al nl cl,.int .u32 ma,.slice ar nr cr,.int .u32 me,.bool false,.int .u32 fw,.int .u32 tg,.slice ad nd cd]] w fun e w'=>e=.returned (.bool z)∧Touch (fun _=>False) w w':=by
 go_enter Tryz.func85,Tryz.ntmps85
 go_wp2
 all_goals go_ret
 all_goals refine⟨Qad ?_,(Touch.refl _ w).alloc _⟩
 all_goals (have hz:=HZ.out;clear HZ;rw [Bool.eq_iff_iff,hz];clear hz;first|(simp_all <;> omega)|(simp <;> omega)|grind)
theorem Qnp  (fl ma me fw tg:Int) (nl nr nd cl cr cd:Nat) (al ar ad:Option Addr) (z:Bool) (w:World) (h1:nl≤8192) (h2:nr≤32768) (h3:nd≤131072) (HZ:Hid (z=true↔((False∨(fl=0∧nl=0))∧(False∨nr=0)∧(False∨False∨True∨False∨ma=0)∧(False∨False∨True∨False∨me=0)∧(True∨False∨(False∧fw=0∧tg=0))∧(False∨nd=0)))) :
  Calls Tryz.prog 85 #[.int .u8 5,.agg #[.int .u8 fl,.slice al nl cl,.int .u32 ma,.slice ar nr cr,.int .u32 me,.bool true,.int .u32 fw,.int .u32 tg,.slice ad nd cd]] w fun e w'=>e=.returned (.bool z)∧Touch (fun _=>False) w w':=by
 go_enter Tryz.func85,Tryz.ntmps85
 go_wp2
 all_goals go_ret
 all_goals refine⟨Qad ?_,(Touch.refl _ w).alloc _⟩
 all_goals (have hz:=HZ.out;clear HZ;rw [Bool.eq_iff_iff,hz];clear hz;first|(simp_all <;> omega)|(simp <;> omega)|grind)
theorem Qn3  (fl ma me fw tg:Int) (nl nr nd cl cr cd:Nat) (al ar ad:Option Addr) (z:Bool) (w:World) (h1:nl≤8192) (h2:nr≤32768) (h3:nd≤131072) (HZ:Hid (z=true↔((False∨(fl=0∧nl=0))∧(False∨nr=0)∧(False∨False∨False∨True∨ma=0)∧(False∨False∨False∨True∨me=0)∧(False∨True∨(True∧fw=0∧tg=0))∧(False∨nd=0)))) :
  Calls Tryz.prog 85 #[.int .u8 7,.agg #[.int .u8 fl,.slice al nl cl,.int .u32 ma,.slice ar nr cr,.int .u32 me,.bool false,.int .u32 fw,.int .u32 tg,.slice ad nd cd]] w fun e w'=>e=.returned (.bool z)∧Touch (fun _=>False) w w':=by
 go_enter Tryz.func85,Tryz.ntmps85
 go_wp2
 all_goals go_ret
 all_goals refine⟨Qad ?_,(Touch.refl _ w).alloc _⟩
 all_goals (have hz:=HZ.out;clear HZ;rw [Bool.eq_iff_iff,hz];clear hz;first|(simp_all <;> omega)|(simp <;> omega)|grind)
theorem Qoj  (fl ma me fw tg:Int) (nl nr nd cl cr cd:Nat) (al ar ad:Option Addr) (z:Bool) (w:World) (h1:nl≤8192) (h2:nr≤32768) (h3:nd≤131072) (HZ:Hid (z=true↔((False∨(fl=0∧nl=0))∧(False∨nr=0)∧(False∨False∨False∨True∨ma=0)∧(False∨False∨False∨True∨me=0)∧(False∨True∨(False∧fw=0∧tg=0))∧(False∨nd=0)))) :
  Calls Tryz.prog 85 #[.int .u8 7,.agg #[.int .u8 fl,.slice al nl cl,.int .u32 ma,.slice ar nr cr,.int .u32 me,.bool true,.int .u32 fw,.int .u32 tg,.slice ad nd cd]] w fun e w'=>e=.returned (.bool z)∧Touch (fun _=>False) w w':=by
 go_enter Tryz.func85,Tryz.ntmps85
 go_wp2
 all_goals go_ret
 all_goals refine⟨Qad ?_,(Touch.refl _ w).alloc _⟩
 all_goals (have hz:=HZ.out;clear HZ;rw [Bool.eq_iff_iff,hz];clear hz;first|(simp_all <;> omega)|(simp <;> omega)|grind)
theorem Qot (t:Int) (h9:9≤t) (fl ma me fw tg:Int) (nl nr nd cl cr cd:Nat) (al ar ad:Option Addr) (z:Bool) (w:World) (h1:nl≤8192) (h2:nr≤32768) (h3:nd≤131072) (HZ:Hid (z=true↔((False∨(fl=0∧nl=0))∧(False∨nr=0)∧(False∨False∨False∨False∨ma=0)∧(False∨False∨False∨False∨me=0)∧(False∨False∨(True∧fw=0∧tg=0))∧(True∨nd=0)))) :
  Calls Tryz.prog 85 #[.int .u8 t,.agg #[.int .u8 fl,.slice al nl cl,.int .u32 ma,.slice ar nr cr,.int .u32 me,.bool false,.int .u32 fw,.int .u32 tg,.slice ad nd cd]] w fun e w'=>e=.returned (.bool z)∧Touch (fun _=>False) w w':=by
 have n1:¬t=1:=by omega
 have n2:¬t=2:=by omega
 have n3:¬t=3:=by omega
 have n4:¬t=4:=by omega
 have n5:¬t=5:=by omega
 have n7:¬t=7:=by omega
 go_enter Tryz.func85,Tryz.ntmps85
 go_wp2
 all_goals go_ret
 all_goals refine⟨Qad ?_,(Touch.refl _ w).alloc _⟩
 all_goals (have hz:=HZ.out;clear HZ;rw [Bool.eq_iff_iff,hz];clear hz;first|(simp_all <;> omega)|(simp <;> omega)|grind)
theorem Qoq (t:Int) (h9:9≤t) (fl ma me fw tg:Int) (nl nr nd cl cr cd:Nat) (al ar ad:Option Addr) (z:Bool) (w:World) (h1:nl≤8192) (h2:nr≤32768) (h3:nd≤131072) (HZ:Hid (z=true↔((False∨(fl=0∧nl=0))∧(False∨nr=0)∧(False∨False∨False∨False∨ma=0)∧(False∨False∨False∨False∨me=0)∧(False∨False∨(False∧fw=0∧tg=0))∧(True∨nd=0)))) :
  Calls Tryz.prog 85 #[.int .u8 t,.agg #[.int .u8 fl,.slice al nl cl,.int .u32 ma,.slice ar nr cr,.int .u32 me,.bool true,.int .u32 fw,.int .u32 tg,.slice ad nd cd]] w fun e w'=>e=.returned (.bool z)∧Touch (fun _=>False) w w':=by
 have n1:¬t=1:=by omega
 have n2:¬t=2:=by omega
 have n3:¬t=3:=by omega
 have n4:¬t=4:=by omega
 have n5:¬t=5:=by omega
 have n7:¬t=7:=by omega
 go_enter Tryz.func85,Tryz.ntmps85
 go_wp2
 all_goals go_ret
 all_goals refine⟨Qad ?_,(Touch.refl _ w).alloc _⟩
 all_goals (have hz:=HZ.out;clear HZ;rw [Bool.eq_iff_iff,hz];clear hz;first|(simp_all <;> omega)|(simp <;> omega)|grind)
theorem Qje {k:Nat} (hk:k≤31):bits .or .u32 (pmask k) (2 ^ (31-k)%4294967296)=pmask ((k:Int)+1):=by
 have hp:(2:Nat) ^ (31-k)<4294967296:=Nat.lt_of_le_of_lt (Nat.pow_le_pow_right (by omega) (by omega:31-k≤31)) (by decide)
 have e2:(2:Int) ^ (31-k)=((2 ^ (31-k):Nat):Int):=(Int.natCast_pow 2 _).symm
 have hq:(2:Nat) ^ (32-k)=2*2 ^ (31-k):=by rw [show 32-k=(31-k)+1 by omega,Nat.pow_succ];omega
 have hq2:(2:Nat) ^ (32-k)≤4294967296:=Nat.le_trans (Nat.pow_le_pow_right (by omega) (by omega:32-k≤32)) (by decide)
 have hpos:0<(2:Nat) ^ (31-k):=Nat.two_pow_pos _
 have z1:psz k=((2 ^ (32-k):Nat):Int):=by rw [Qcc];congr 3;omega
 have z2:psz ((k:Int)+1)=((2 ^ (31-k):Nat):Int):=by rw [Qcc];congr 3;omega
 have hdv:(4294967296-2 ^ (32-k))%2 ^ (32-k)=0:=by
  have hd:2 ^ (32-k)∣4294967296:=⟨2 ^ k,by rw [←Nat.pow_add,show 32-k+k=32 by omega]⟩
  obtain⟨c,hc⟩:=hd
  rw [hc]
  rw [show 2 ^ (32-k)*c-2 ^ (32-k)=2 ^ (32-k)*(c-1) by rw [Nat.mul_sub];omega]
  exact Nat.mul_mod_right _ _
 rw [Qby (by omega),Qby (by omega),z1,z2,e2]
 rw [show ((2 ^ (31-k):Nat):Int)%4294967296=((2 ^ (31-k):Nat):Int) by omega]
 rw [show (4294967296-((2 ^ (32-k):Nat):Int))=((4294967296-2 ^ (32-k):Nat):Int) by omega]
 rw [u32_or_nat _ _ (by omega) (by omega),nat_join (32-k) _ _ hdv (by omega)]
 omega
theorem Qdz (n:Int) (w:World) (h0:0≤n) :
  Calls Tryz.prog 106 #[.int .u8 n] w fun e w'=>e=.returned (.int .u32 (pmask n))∧w=w':=by
 by_cases h1:n≤32
 ·obtain⟨N,rfl⟩:∃N:Nat,n=N:=⟨n.toNat,by omega⟩
  go_enter Tryz.func106,Tryz.ntmps106
  go_wp2
  go_loop [3,4] (fun m i=>∃k:Nat,k≤N∧i=.int .u8 (k:Int)∧m=.int .u32 (pmask k)) (fun _ i=>N-(intOf i).toNat)
  case atStart=>exact⟨0,by omega,rfl,rfl⟩
  case round =>
   obtain⟨k,hk,rfl,rfl⟩:=hrel
   by_cases hlt:k<N
   ·have hs:=Qje (k:=k) (by omega)
    have HS:Hid _:=hs
    clear hs
    have hlt':(k:Int)<(N:Int):=by omega
    go_wp2
    go_round
    case rel=>exact⟨k+1,by omega,by go_num,by rw [HS.out];rfl⟩
    case measure=>simp [intOf];omega
   ·obtain rfl:k=N:=by omega
    have hlt':¬(k:Int)<(k:Int):=by omega
    go_wp2
    go_ret
    exact⟨rfl,rfl⟩
 ·have H:Hid (pmask n=0):=Qgu (by omega)
  go_enter Tryz.func106,Tryz.ntmps106
  go_wp2
  go_rounds 1
  go_ret
  exact⟨Qas H.out.symm,rfl⟩
theorem Qil (a:Int) (w:World) :
  Calls Tryz.prog 80 #[.int .u32 a] w fun e w'=>e=.returned (.tuple #[.int .u8 (pbn a),.bool (pbok a)])∧w=w':=by
 go_enter Tryz.func80,Tryz.ntmps80
 go_wp2
 go_loop [4] (fun i=>∃k:Nat,k≤33∧i=.int .u8 (k:Int)∧Hid (∀j:Nat,j<k→pmask j≠a)) (fun i=>33-(intOf i).toNat)
 case atStart=>exact⟨0,by omega,rfl,fun j hj=>absurd hj (by omega)⟩
 case round =>
  obtain⟨k,hk,rfl,HL⟩:=hrel
  by_cases hlt:k≤32
  ·have hlt':(k:Int)≤32:=by omega
   by_cases hm:pmask k=a
   ·have HH:Hid (pbn a=k∧pbok a=true):=Qmb (Qdt hlt hm)
    have HM:Hid _:=hm
    clear hm
    go_wp2_with (go_at_call 106;refine (Qdz _ _ (by omega)).mono ?_;rintro e w' ⟨rfl,rfl⟩;rw [HM.out])
    go_ret2
    exact⟨Qcy HH.out.1.symm HH.out.2.symm,rfl⟩
   ·go_wp2_with (go_at_call 106;refine (Qdz _ _ (by omega)).mono ?_;rintro e w' ⟨rfl,rfl⟩)
    go_round
    case rel=>exact⟨k+1,by omega,by go_num,Qfk HL.out hm⟩
    case measure=>simp [intOf];omega
  ·obtain rfl:k=33:=by omega
   have HH:Hid (pbn a=0∧pbok a=false):=Qop (Qd1 fun j hj=>HL.out j (by omega))
   go_wp2
   go_ret2
   exact⟨Qcy HH.out.1.symm HH.out.2.symm,rfl⟩
end Go.Proofs.YtldmkoogghemhaaGreat
