import Derived.Test.YtldmkoogghemhaaGreatStDecAny
namespace Go.Proofs.YtldmkoogghemhaaGreat
set_option maxHeartbeats 8000000
open Go.RowKit
set_option linter.unusedVariables false
set_option maxRecDepth 100000
theorem Qlg (g:Nat) (h:HV) (ok:h.All) (v:Value) (rs:List Int) (w:World) (hS:Sd w g h v) (hv:ArgAt w v rs) (hby:∀z∈rs,0≤z∧z<256) (hn:rs.length≤1000000) (hlen:¬h.len=20+(rs.length:Int)) :
  Calls Tryz.prog 111 #[.pointer (some ⟨g,0,none⟩)] w fun e w'=>e=.panicked (flawC 22)∧Touch (fun _=>False) w w':=by
 obtain⟨a,c,rfl,hm⟩:=hv.form
 have HLn:∀w,Calls Tryz.prog 113 #[.agg #[.int .u16 h.age,.int .u8 h.opts,.int .u8 h.typ,.int .u32 h.id,.int .u32 h.adv,.int .i32 h.seq,.int .u16 h.sum,.int .u16 h.len,.slice a rs.length c]] w fun e w'=>e=.returned (.bool false)∧Touch (fun _=>False) w w':=fun w=>by
  have:=Qar h a rs.length c w (by omega) ok.l
  rwa [show (h.len==20+(rs.length:Int))=false by simpa using hlen] at this
 have hsf:∀(w:World) (a:Addr) (f:Fn) (x y:Array Value) (m:Mode),(store a (.func f x y) m).run Tryz.prog w=stored Tryz.prog w a (.func f x y) m:=fun w a f x y m=>run_store Tryz.prog w a _ m rfl
 have HBt:∀w',Touch (fun _=>False) w w'→Calls Tryz.prog 115 #[.agg #[.int .u16 h.age,.int .u8 h.opts,.int .u8 h.typ,.int .u32 h.id,.int .u32 h.adv,.int .i32 h.seq,.int .u16 h.sum,.int .u16 h.len,.slice a rs.length c]] w' fun e w''=>∃u,e=.returned u∧Buf w' w'' u (headB h++rs):=fun w' t=>Qbg h ok (.slice a rs.length c) rs w' (hv.keepN t) hn
 have HBy:Hid (∀z∈(headB h++rs).drop 2,0≤z∧z<256):=fun x hx=>by
  rcases List.mem_append.1 (List.mem_of_mem_drop hx) with h' | h'
  ·exact Qa4 ok x h'
  ·exact hby x h'
 have hgl:=Qaa hS.hd.c0
 have HS:Hid (Sd w g h (.slice a rs.length c)):=hS
 have ha0:=ok.a.1
 obtain⟨⟨s0,s1,s2,s3,s4,s5,s6,s7⟩,s8⟩:=hS.keep ((Touch.refl (fun _=>False) w).alloc (.cells #[.int .u8 0,.slice none 0 0,.int .u32 0,.slice none 0 0,.int .u32 0,.bool false,.int .u32 0,.int .u32 0,.slice none 0 0] 92))
 clear hlen hS hv hby ok
 go_enter Tryz.func111,Tryz.ntmps111
 go_wp2_with fail
 refine Calls.mono (HLn _) ?_
 rintro e w1 ⟨rfl,t1⟩
 have R1:Hid (Room w1 w.heap.size 9):=(Room.new w #[.int .u8 0,.slice none 0 0,.int .u32 0,.slice none 0 0,.int .u32 0,.bool false,.int .u32 0,.int .u32 0,.slice none 0 0] 92).keep t1
 have T1:Hid (Touch (fun _=>False) w w1):=((Touch.refl _ w).alloc _).trans t1
 clear t1 HLn s0 s1 s2 s3 s4 s5 s6 s7 s8
 obtain⟨⟨s0,s1,s2,s3,s4,s5,s6,s7⟩,s8⟩:=HS.out.keep T1.out
 go_wp2_with fail
 refine Calls.mono (Qb4 _ 22 _ (by first|rfl|exact rfl)) ?_
 rintro e wx ⟨rfl,rfl⟩
 exact⟨rfl,rfl,T1.out⟩
theorem Qj3 (g:Nat) (h:HV) (ok:h.All) (v:Value) (rs:List Int) (w:World) (hS:Sd w g h v) (hv:ArgAt w v rs) (hby:∀z∈rs,0≤z∧z<256) (hn:rs.length≤1000000) (hlen:h.len=20+(rs.length:Int)) (hsum:h.sum=0) :
  Calls Tryz.prog 111 #[.pointer (some ⟨g,0,none⟩)] w fun e w'=>e=.panicked (flawC 23)∧Touch (fun _=>False) w w':=by
 obtain⟨a,c,rfl,hm⟩:=hv.form
 have HLn:∀w,Calls Tryz.prog 113 #[.agg #[.int .u16 h.age,.int .u8 h.opts,.int .u8 h.typ,.int .u32 h.id,.int .u32 h.adv,.int .i32 h.seq,.int .u16 h.sum,.int .u16 h.len,.slice a rs.length c]] w fun e w'=>e=.returned (.bool true)∧Touch (fun _=>False) w w':=fun w=>by
  have:=Qar h a rs.length c w (by omega) ok.l
  rwa [show (h.len==20+(rs.length:Int))=true by rw [hlen];simp] at this
 have hsf:∀(w:World) (a:Addr) (f:Fn) (x y:Array Value) (m:Mode),(store a (.func f x y) m).run Tryz.prog w=stored Tryz.prog w a (.func f x y) m:=fun w a f x y m=>run_store Tryz.prog w a _ m rfl
 have HBt:∀w',Touch (fun _=>False) w w'→Calls Tryz.prog 115 #[.agg #[.int .u16 h.age,.int .u8 h.opts,.int .u8 h.typ,.int .u32 h.id,.int .u32 h.adv,.int .i32 h.seq,.int .u16 h.sum,.int .u16 h.len,.slice a rs.length c]] w' fun e w''=>∃u,e=.returned u∧Buf w' w'' u (headB h++rs):=fun w' t=>Qbg h ok (.slice a rs.length c) rs w' (hv.keepN t) hn
 have HBy:Hid (∀z∈(headB h++rs).drop 2,0≤z∧z<256):=fun x hx=>by
  rcases List.mem_append.1 (List.mem_of_mem_drop hx) with h' | h'
  ·exact Qa4 ok x h'
  ·exact hby x h'
 have hgl:=Qaa hS.hd.c0
 have HS:Hid (Sd w g h (.slice a rs.length c)):=hS
 have hsb:(h.sum != 0)=false:=by rw [hsum];rfl
 have ha0:=ok.a.1
 obtain⟨⟨s0,s1,s2,s3,s4,s5,s6,s7⟩,s8⟩:=hS.keep ((Touch.refl (fun _=>False) w).alloc (.cells #[.int .u8 0,.slice none 0 0,.int .u32 0,.slice none 0 0,.int .u32 0,.bool false,.int .u32 0,.int .u32 0,.slice none 0 0] 92))
 clear hlen hS hv hby ok hsum
 go_enter Tryz.func111,Tryz.ntmps111
 go_wp2_with fail
 refine Calls.mono (HLn _) ?_
 rintro e w1 ⟨rfl,t1⟩
 have R1:Hid (Room w1 w.heap.size 9):=(Room.new w #[.int .u8 0,.slice none 0 0,.int .u32 0,.slice none 0 0,.int .u32 0,.bool false,.int .u32 0,.int .u32 0,.slice none 0 0] 92).keep t1
 have T1:Hid (Touch (fun _=>False) w w1):=((Touch.refl _ w).alloc _).trans t1
 clear t1 HLn s0 s1 s2 s3 s4 s5 s6 s7 s8
 obtain⟨⟨s0,s1,s2,s3,s4,s5,s6,s7⟩,s8⟩:=HS.out.keep T1.out
 go_wp2_with fail
 refine Calls.mono (Qbd _ 22 _ (by first|rfl|exact rfl)) ?_
 rintro e wx ⟨rfl,rfl⟩
 go_wp2_with fail
 refine Calls.mono (Qb4 _ 23 _ (by first|rfl|exact rfl)) ?_
 rintro e wx ⟨rfl,rfl⟩
 exact⟨rfl,rfl,T1.out⟩
theorem Qhe (g:Nat) (h:HV) (ok:h.All) (v:Value) (rs:List Int) (w:World) (hS:Sd w g h v) (hv:ArgAt w v rs) (hby:∀z∈rs,0≤z∧z<256) (hn:rs.length≤1000000) (hlen:h.len=20+(rs.length:Int)) (hsum:h.sum≠0) (hwh:whole ((headB h++rs).drop 2)=false) :
  Calls Tryz.prog 111 #[.pointer (some ⟨g,0,none⟩)] w fun e w'=>e=.panicked (flawC 23)∧Touch (fun _=>False) w w':=by
 obtain⟨a,c,rfl,hm⟩:=hv.form
 have HLn:∀w,Calls Tryz.prog 113 #[.agg #[.int .u16 h.age,.int .u8 h.opts,.int .u8 h.typ,.int .u32 h.id,.int .u32 h.adv,.int .i32 h.seq,.int .u16 h.sum,.int .u16 h.len,.slice a rs.length c]] w fun e w'=>e=.returned (.bool true)∧Touch (fun _=>False) w w':=fun w=>by
  have:=Qar h a rs.length c w (by omega) ok.l
  rwa [show (h.len==20+(rs.length:Int))=true by rw [hlen];simp] at this
 have hsf:∀(w:World) (a:Addr) (f:Fn) (x y:Array Value) (m:Mode),(store a (.func f x y) m).run Tryz.prog w=stored Tryz.prog w a (.func f x y) m:=fun w a f x y m=>run_store Tryz.prog w a _ m rfl
 have HBt:∀w',Touch (fun _=>False) w w'→Calls Tryz.prog 115 #[.agg #[.int .u16 h.age,.int .u8 h.opts,.int .u8 h.typ,.int .u32 h.id,.int .u32 h.adv,.int .i32 h.seq,.int .u16 h.sum,.int .u16 h.len,.slice a rs.length c]] w' fun e w''=>∃u,e=.returned u∧Buf w' w'' u (headB h++rs):=fun w' t=>Qbg h ok (.slice a rs.length c) rs w' (hv.keepN t) hn
 have HBy:Hid (∀z∈(headB h++rs).drop 2,0≤z∧z<256):=fun x hx=>by
  rcases List.mem_append.1 (List.mem_of_mem_drop hx) with h' | h'
  ·exact Qa4 ok x h'
  ·exact hby x h'
 have HWh:Hid (whole ((headB h++rs).drop 2)=false):=hwh
 have hgl:=Qaa hS.hd.c0
 have HS:Hid (Sd w g h (.slice a rs.length c)):=hS
 have hsb:(h.sum != 0)=true:=by simpa using hsum
 have ha0:=ok.a.1
 obtain⟨⟨s0,s1,s2,s3,s4,s5,s6,s7⟩,s8⟩:=hS.keep ((Touch.refl (fun _=>False) w).alloc (.cells #[.int .u8 0,.slice none 0 0,.int .u32 0,.slice none 0 0,.int .u32 0,.bool false,.int .u32 0,.int .u32 0,.slice none 0 0] 92))
 clear hlen hS hv hby ok hsum hwh
 go_enter Tryz.func111,Tryz.ntmps111
 go_wp2_with fail
 refine Calls.mono (HLn _) ?_
 rintro e w1 ⟨rfl,t1⟩
 have R1:Hid (Room w1 w.heap.size 9):=(Room.new w #[.int .u8 0,.slice none 0 0,.int .u32 0,.slice none 0 0,.int .u32 0,.bool false,.int .u32 0,.int .u32 0,.slice none 0 0] 92).keep t1
 have T1:Hid (Touch (fun _=>False) w w1):=((Touch.refl _ w).alloc _).trans t1
 clear t1 HLn s0 s1 s2 s3 s4 s5 s6 s7 s8
 obtain⟨⟨s0,s1,s2,s3,s4,s5,s6,s7⟩,s8⟩:=HS.out.keep T1.out
 go_wp2_with fail
 refine Calls.mono (Qbd _ 22 _ (by first|rfl|exact rfl)) ?_
 rintro e wx ⟨rfl,rfl⟩
 go_wp2_with fail
 refine Calls.mono (HBt _ T1.out) ?_
 rintro e w2 ⟨u2,rfl,b2⟩
 obtain⟨xa,xc,rfl⟩:=b2.form
 have hxl:(headB h++rs).length=20+rs.length:=by rw [List.length_append,Qaq]
 obtain⟨u,hu,hua⟩:=Qb7 b2.arg rfl (by rw [hxl];omega) 2 (by rw [hxl];omega)
 replace hu:∀w,Sem.run Tryz.prog (Instr.slice 57 (.slice xa (headB h++rs).length xc) (some (.int .i64 2)) none none) w=.ok u w:=hu
 have HWc:=Qbr u ((headB h++rs).drop 2) w2 hua HBy.out
 rw [HWh.out] at HWc
 rw [hxl] at hu ⊢
 have R2:Hid (Room w2 w.heap.size 9):=R1.out.keep b2.t
 have T2:Hid (Touch (fun _=>False) w w2):=T1.out.trans b2.t
 clear s0 s1 s2 s3 s4 s5 s6 s7 s8 hua hxl b2 HBt R1 T1
 go_wp2_with fail
 refine Calls.mono HWc ?_
 rintro e w3 ⟨rfl,t3⟩
 have R3:Hid (Room w3 w.heap.size 9):=R2.out.keep t3
 have T3:Hid (Touch (fun _=>False) w w3):=T2.out.trans t3
 obtain⟨⟨s0,s1,s2,s3,s4,s5,s6,s7⟩,s8⟩:=HS.out.keep T3.out
 clear t3 HWc hu R2 T2
 go_wp2_with fail
 refine Calls.mono (Qb4 _ 23 _ (by first|rfl|exact rfl)) ?_
 rintro e wx ⟨rfl,rfl⟩
 exact⟨rfl,rfl,T3.out⟩
theorem Qlt (g:Nat) (h:HV) (ok:h.All) (v:Value) (rs:List Int) (w:World) (hS:Sd w g h v) (hv:ArgAt w v rs) (hby:∀z∈rs,0≤z∧z<256) (hn:rs.length≤1000000) (hlen:h.len=20+(rs.length:Int)) (hsum:h.sum≠0) (hwh:whole ((headB h++rs).drop 2)=true)
  (HP:∀w,Calls Tryz.prog 116 #[.int .u8 h.typ] w fun e w'=>e=.panicked (flawC 21)∧Touch (fun _=>False) w w') :
  Calls Tryz.prog 111 #[.pointer (some ⟨g,0,none⟩)] w fun e w'=>e=.panicked (flawC 21)∧Touch (fun _=>False) w w':=by
 obtain⟨a,c,rfl,hm⟩:=hv.form
 have HPh:Hid (∀w,Calls Tryz.prog 116 #[.int .u8 h.typ] w fun e w'=>e=.panicked (flawC 21)∧Touch (fun _=>False) w w'):=HP
 have HLn:∀w,Calls Tryz.prog 113 #[.agg #[.int .u16 h.age,.int .u8 h.opts,.int .u8 h.typ,.int .u32 h.id,.int .u32 h.adv,.int .i32 h.seq,.int .u16 h.sum,.int .u16 h.len,.slice a rs.length c]] w fun e w'=>e=.returned (.bool true)∧Touch (fun _=>False) w w':=fun w=>by
  have:=Qar h a rs.length c w (by omega) ok.l
  rwa [show (h.len==20+(rs.length:Int))=true by rw [hlen];simp] at this
 have hsf:∀(w:World) (a:Addr) (f:Fn) (x y:Array Value) (m:Mode),(store a (.func f x y) m).run Tryz.prog w=stored Tryz.prog w a (.func f x y) m:=fun w a f x y m=>run_store Tryz.prog w a _ m rfl
 have HBt:∀w',Touch (fun _=>False) w w'→Calls Tryz.prog 115 #[.agg #[.int .u16 h.age,.int .u8 h.opts,.int .u8 h.typ,.int .u32 h.id,.int .u32 h.adv,.int .i32 h.seq,.int .u16 h.sum,.int .u16 h.len,.slice a rs.length c]] w' fun e w''=>∃u,e=.returned u∧Buf w' w'' u (headB h++rs):=fun w' t=>Qbg h ok (.slice a rs.length c) rs w' (hv.keepN t) hn
 have HBy:Hid (∀z∈(headB h++rs).drop 2,0≤z∧z<256):=fun x hx=>by
  rcases List.mem_append.1 (List.mem_of_mem_drop hx) with h' | h'
  ·exact Qa4 ok x h'
  ·exact hby x h'
 have HWh:Hid (whole ((headB h++rs).drop 2)=true):=hwh
 have hgl:=Qaa hS.hd.c0
 have HS:Hid (Sd w g h (.slice a rs.length c)):=hS
 have hsb:(h.sum != 0)=true:=by simpa using hsum
 have ha0:=ok.a.1
 obtain⟨⟨s0,s1,s2,s3,s4,s5,s6,s7⟩,s8⟩:=hS.keep ((Touch.refl (fun _=>False) w).alloc (.cells #[.int .u8 0,.slice none 0 0,.int .u32 0,.slice none 0 0,.int .u32 0,.bool false,.int .u32 0,.int .u32 0,.slice none 0 0] 92))
 clear hlen hS hv hby ok HP hsum hwh
 go_enter Tryz.func111,Tryz.ntmps111
 go_wp2_with fail
 refine Calls.mono (HLn _) ?_
 rintro e w1 ⟨rfl,t1⟩
 have R1:Hid (Room w1 w.heap.size 9):=(Room.new w #[.int .u8 0,.slice none 0 0,.int .u32 0,.slice none 0 0,.int .u32 0,.bool false,.int .u32 0,.int .u32 0,.slice none 0 0] 92).keep t1
 have T1:Hid (Touch (fun _=>False) w w1):=((Touch.refl _ w).alloc _).trans t1
 clear t1 HLn s0 s1 s2 s3 s4 s5 s6 s7 s8
 obtain⟨⟨s0,s1,s2,s3,s4,s5,s6,s7⟩,s8⟩:=HS.out.keep T1.out
 go_wp2_with fail
 refine Calls.mono (Qbd _ 22 _ (by first|rfl|exact rfl)) ?_
 rintro e wx ⟨rfl,rfl⟩
 go_wp2_with fail
 refine Calls.mono (HBt _ T1.out) ?_
 rintro e w2 ⟨u2,rfl,b2⟩
 obtain⟨xa,xc,rfl⟩:=b2.form
 have hxl:(headB h++rs).length=20+rs.length:=by rw [List.length_append,Qaq]
 obtain⟨u,hu,hua⟩:=Qb7 b2.arg rfl (by rw [hxl];omega) 2 (by rw [hxl];omega)
 replace hu:∀w,Sem.run Tryz.prog (Instr.slice 57 (.slice xa (headB h++rs).length xc) (some (.int .i64 2)) none none) w=.ok u w:=hu
 have HWc:=Qbr u ((headB h++rs).drop 2) w2 hua HBy.out
 rw [HWh.out] at HWc
 rw [hxl] at hu ⊢
 have R2:Hid (Room w2 w.heap.size 9):=R1.out.keep b2.t
 have T2:Hid (Touch (fun _=>False) w w2):=T1.out.trans b2.t
 clear s0 s1 s2 s3 s4 s5 s6 s7 s8 hua hxl b2 HBt R1 T1
 go_wp2_with fail
 refine Calls.mono HWc ?_
 rintro e w3 ⟨rfl,t3⟩
 have R3:Hid (Room w3 w.heap.size 9):=R2.out.keep t3
 have T3:Hid (Touch (fun _=>False) w w3):=T2.out.trans t3
 obtain⟨⟨s0,s1,s2,s3,s4,s5,s6,s7⟩,s8⟩:=HS.out.keep T3.out
 clear t3 HWc hu R2 T2
 go_wp2_with fail
 refine Calls.mono (Qbd _ 23 _ (by first|rfl|exact rfl)) ?_
 rintro e wx ⟨rfl,rfl⟩
 go_wp2_with fail
 refine Calls.mono (HPh.out _) ?_
 rintro e w4 ⟨rfl,t4⟩
 exact⟨rfl,rfl,T3.out.trans t4⟩
theorem Qkl (g:Nat) (h:HV) (ok:h.All) (v:Value) (rs:List Int) (G1 G2:Nat) (w:World) (hS:Sd w g h v) (hv:ArgAt w v rs) (hby:∀z∈rs,0≤z∧z<256) (hn:rs.length≤1000000) (hlen:h.len=20+(rs.length:Int)) (hsum:h.sum≠0) (hwh:whole ((headB h++rs).drop 2)=true) (hseq:h.seq = -2147483648)
  (HP:∀w,Calls Tryz.prog 116 #[.int .u8 h.typ] w fun e w'=>e=.returned (.agg #[.func (.func G1) #[] #[],.func (.func G2) #[] #[]])∧Touch (fun _=>False) w w') :
  Calls Tryz.prog 111 #[.pointer (some ⟨g,0,none⟩)] w fun e w'=>e=.panicked (flawC 24)∧Touch (fun _=>False) w w':=by
 obtain⟨a,c,rfl,hm⟩:=hv.form
 have HPh:Hid (∀w,Calls Tryz.prog 116 #[.int .u8 h.typ] w fun e w'=>e=.returned (.agg #[.func (.func G1) #[] #[],.func (.func G2) #[] #[]])∧Touch (fun _=>False) w w'):=HP
 have HLn:∀w,Calls Tryz.prog 113 #[.agg #[.int .u16 h.age,.int .u8 h.opts,.int .u8 h.typ,.int .u32 h.id,.int .u32 h.adv,.int .i32 h.seq,.int .u16 h.sum,.int .u16 h.len,.slice a rs.length c]] w fun e w'=>e=.returned (.bool true)∧Touch (fun _=>False) w w':=fun w=>by
  have:=Qar h a rs.length c w (by omega) ok.l
  rwa [show (h.len==20+(rs.length:Int))=true by rw [hlen];simp] at this
 have hsf:∀(w:World) (a:Addr) (f:Fn) (x y:Array Value) (m:Mode),(store a (.func f x y) m).run Tryz.prog w=stored Tryz.prog w a (.func f x y) m:=fun w a f x y m=>run_store Tryz.prog w a _ m rfl
 have HBt:∀w',Touch (fun _=>False) w w'→Calls Tryz.prog 115 #[.agg #[.int .u16 h.age,.int .u8 h.opts,.int .u8 h.typ,.int .u32 h.id,.int .u32 h.adv,.int .i32 h.seq,.int .u16 h.sum,.int .u16 h.len,.slice a rs.length c]] w' fun e w''=>∃u,e=.returned u∧Buf w' w'' u (headB h++rs):=fun w' t=>Qbg h ok (.slice a rs.length c) rs w' (hv.keepN t) hn
 have HBy:Hid (∀z∈(headB h++rs).drop 2,0≤z∧z<256):=fun x hx=>by
  rcases List.mem_append.1 (List.mem_of_mem_drop hx) with h' | h'
  ·exact Qa4 ok x h'
  ·exact hby x h'
 have HWh:Hid (whole ((headB h++rs).drop 2)=true):=hwh
 have hgl:=Qaa hS.hd.c0
 have HS:Hid (Sd w g h (.slice a rs.length c)):=hS
 have hsb:(h.sum != 0)=true:=by simpa using hsum
 have hqb:(h.seq != -2147483648)=false:=by rw [hseq];rfl
 have ha0:=ok.a.1
 obtain⟨⟨s0,s1,s2,s3,s4,s5,s6,s7⟩,s8⟩:=hS.keep ((Touch.refl (fun _=>False) w).alloc (.cells #[.int .u8 0,.slice none 0 0,.int .u32 0,.slice none 0 0,.int .u32 0,.bool false,.int .u32 0,.int .u32 0,.slice none 0 0] 92))
 clear hlen hS hv hby ok HP hsum hwh hseq
 go_enter Tryz.func111,Tryz.ntmps111
 go_wp2_with fail
 refine Calls.mono (HLn _) ?_
 rintro e w1 ⟨rfl,t1⟩
 have R1:Hid (Room w1 w.heap.size 9):=(Room.new w #[.int .u8 0,.slice none 0 0,.int .u32 0,.slice none 0 0,.int .u32 0,.bool false,.int .u32 0,.int .u32 0,.slice none 0 0] 92).keep t1
 have T1:Hid (Touch (fun _=>False) w w1):=((Touch.refl _ w).alloc _).trans t1
 clear t1 HLn s0 s1 s2 s3 s4 s5 s6 s7 s8
 obtain⟨⟨s0,s1,s2,s3,s4,s5,s6,s7⟩,s8⟩:=HS.out.keep T1.out
 go_wp2_with fail
 refine Calls.mono (Qbd _ 22 _ (by first|rfl|exact rfl)) ?_
 rintro e wx ⟨rfl,rfl⟩
 go_wp2_with fail
 refine Calls.mono (HBt _ T1.out) ?_
 rintro e w2 ⟨u2,rfl,b2⟩
 obtain⟨xa,xc,rfl⟩:=b2.form
 have hxl:(headB h++rs).length=20+rs.length:=by rw [List.length_append,Qaq]
 obtain⟨u,hu,hua⟩:=Qb7 b2.arg rfl (by rw [hxl];omega) 2 (by rw [hxl];omega)
 replace hu:∀w,Sem.run Tryz.prog (Instr.slice 57 (.slice xa (headB h++rs).length xc) (some (.int .i64 2)) none none) w=.ok u w:=hu
 have HWc:=Qbr u ((headB h++rs).drop 2) w2 hua HBy.out
 rw [HWh.out] at HWc
 rw [hxl] at hu ⊢
 have R2:Hid (Room w2 w.heap.size 9):=R1.out.keep b2.t
 have T2:Hid (Touch (fun _=>False) w w2):=T1.out.trans b2.t
 clear s0 s1 s2 s3 s4 s5 s6 s7 s8 hua hxl b2 HBt R1 T1
 go_wp2_with fail
 refine Calls.mono HWc ?_
 rintro e w3 ⟨rfl,t3⟩
 have R3:Hid (Room w3 w.heap.size 9):=R2.out.keep t3
 have T3:Hid (Touch (fun _=>False) w w3):=T2.out.trans t3
 obtain⟨⟨s0,s1,s2,s3,s4,s5,s6,s7⟩,s8⟩:=HS.out.keep T3.out
 clear t3 HWc hu R2 T2
 go_wp2_with fail
 refine Calls.mono (Qbd _ 23 _ (by first|rfl|exact rfl)) ?_
 rintro e wx ⟨rfl,rfl⟩
 go_wp2_with fail
 refine Calls.mono (HPh.out _) ?_
 rintro e w4 ⟨rfl,t4⟩
 have R4:Hid (Room w4 w.heap.size 9):=R3.out.keep t4
 have T4:Hid (Touch (fun _=>False) w w4):=T3.out.trans t4
 clear s0 s1 s2 s3 s4 s5 s6 s7 s8
 obtain⟨⟨s0,s1,s2,s3,s4,s5,s6,s7⟩,s8⟩:=HS.out.keep T4.out
 have hg4:g<w4.heap.size:=Qaa s0
 have hn4:¬g=w4.heap.size:=by omega
 have hw4:w.heap.size<w4.heap.size:=by obtain⟨_,hc,_⟩:=R4.out 0 (by omega);exact Qaa hc
 clear t4 R3 T3
 go_wp2_with fail
 refine Calls.mono (Qb4 _ 24 _ (by first|rfl|exact rfl)) ?_
 rintro e wx ⟨rfl,rfl⟩
 exact⟨rfl,rfl,T4.out.alloc _⟩
theorem Qke (g:Nat) (h:HV) (ok:h.All) (v:Value) (rs:List Int) (G1 G2:Nat) (w:World) (hS:Sd w g h v) (hv:ArgAt w v rs) (hby:∀z∈rs,0≤z∧z<256) (hn:rs.length≤1000000) (hlen:h.len=20+(rs.length:Int)) (hsum:h.sum≠0) (hwh:whole ((headB h++rs).drop 2)=true) (hseq:h.seq ≠ -2147483648) (hage:¬bits BinOp.andNot .u16 h.age 32768≤3600)
  (HP:∀w,Calls Tryz.prog 116 #[.int .u8 h.typ] w fun e w'=>e=.returned (.agg #[.func (.func G1) #[] #[],.func (.func G2) #[] #[]])∧Touch (fun _=>False) w w') :
  Calls Tryz.prog 111 #[.pointer (some ⟨g,0,none⟩)] w fun e w'=>e=.panicked (flawC 24)∧Touch (fun _=>False) w w':=by
 obtain⟨a,c,rfl,hm⟩:=hv.form
 have HPh:Hid (∀w,Calls Tryz.prog 116 #[.int .u8 h.typ] w fun e w'=>e=.returned (.agg #[.func (.func G1) #[] #[],.func (.func G2) #[] #[]])∧Touch (fun _=>False) w w'):=HP
 have HLn:∀w,Calls Tryz.prog 113 #[.agg #[.int .u16 h.age,.int .u8 h.opts,.int .u8 h.typ,.int .u32 h.id,.int .u32 h.adv,.int .i32 h.seq,.int .u16 h.sum,.int .u16 h.len,.slice a rs.length c]] w fun e w'=>e=.returned (.bool true)∧Touch (fun _=>False) w w':=fun w=>by
  have:=Qar h a rs.length c w (by omega) ok.l
  rwa [show (h.len==20+(rs.length:Int))=true by rw [hlen];simp] at this
 have hsf:∀(w:World) (a:Addr) (f:Fn) (x y:Array Value) (m:Mode),(store a (.func f x y) m).run Tryz.prog w=stored Tryz.prog w a (.func f x y) m:=fun w a f x y m=>run_store Tryz.prog w a _ m rfl
 have HBt:∀w',Touch (fun _=>False) w w'→Calls Tryz.prog 115 #[.agg #[.int .u16 h.age,.int .u8 h.opts,.int .u8 h.typ,.int .u32 h.id,.int .u32 h.adv,.int .i32 h.seq,.int .u16 h.sum,.int .u16 h.len,.slice a rs.length c]] w' fun e w''=>∃u,e=.returned u∧Buf w' w'' u (headB h++rs):=fun w' t=>Qbg h ok (.slice a rs.length c) rs w' (hv.keepN t) hn
 have HBy:Hid (∀z∈(headB h++rs).drop 2,0≤z∧z<256):=fun x hx=>by
  rcases List.mem_append.1 (List.mem_of_mem_drop hx) with h' | h'
  ·exact Qa4 ok x h'
  ·exact hby x h'
 have HWh:Hid (whole ((headB h++rs).drop 2)=true):=hwh
 have hgl:=Qaa hS.hd.c0
 have HS:Hid (Sd w g h (.slice a rs.length c)):=hS
 have hsb:(h.sum != 0)=true:=by simpa using hsum
 have hqb:(h.seq != -2147483648)=true:=by simpa using hseq
 have ha0:=ok.a.1
 obtain⟨⟨s0,s1,s2,s3,s4,s5,s6,s7⟩,s8⟩:=hS.keep ((Touch.refl (fun _=>False) w).alloc (.cells #[.int .u8 0,.slice none 0 0,.int .u32 0,.slice none 0 0,.int .u32 0,.bool false,.int .u32 0,.int .u32 0,.slice none 0 0] 92))
 have HAG:Hid (¬bits BinOp.andNot .u16 h.age 32768≤3600):=hage
 clear hlen hS hv hby ok HP hsum hwh hseq hage
 go_enter Tryz.func111,Tryz.ntmps111
 go_wp2_with fail
 refine Calls.mono (HLn _) ?_
 rintro e w1 ⟨rfl,t1⟩
 have R1:Hid (Room w1 w.heap.size 9):=(Room.new w #[.int .u8 0,.slice none 0 0,.int .u32 0,.slice none 0 0,.int .u32 0,.bool false,.int .u32 0,.int .u32 0,.slice none 0 0] 92).keep t1
 have T1:Hid (Touch (fun _=>False) w w1):=((Touch.refl _ w).alloc _).trans t1
 clear t1 HLn s0 s1 s2 s3 s4 s5 s6 s7 s8
 obtain⟨⟨s0,s1,s2,s3,s4,s5,s6,s7⟩,s8⟩:=HS.out.keep T1.out
 go_wp2_with fail
 refine Calls.mono (Qbd _ 22 _ (by first|rfl|exact rfl)) ?_
 rintro e wx ⟨rfl,rfl⟩
 go_wp2_with fail
 refine Calls.mono (HBt _ T1.out) ?_
 rintro e w2 ⟨u2,rfl,b2⟩
 obtain⟨xa,xc,rfl⟩:=b2.form
 have hxl:(headB h++rs).length=20+rs.length:=by rw [List.length_append,Qaq]
 obtain⟨u,hu,hua⟩:=Qb7 b2.arg rfl (by rw [hxl];omega) 2 (by rw [hxl];omega)
 replace hu:∀w,Sem.run Tryz.prog (Instr.slice 57 (.slice xa (headB h++rs).length xc) (some (.int .i64 2)) none none) w=.ok u w:=hu
 have HWc:=Qbr u ((headB h++rs).drop 2) w2 hua HBy.out
 rw [HWh.out] at HWc
 rw [hxl] at hu ⊢
 have R2:Hid (Room w2 w.heap.size 9):=R1.out.keep b2.t
 have T2:Hid (Touch (fun _=>False) w w2):=T1.out.trans b2.t
 clear s0 s1 s2 s3 s4 s5 s6 s7 s8 hua hxl b2 HBt R1 T1
 go_wp2_with fail
 refine Calls.mono HWc ?_
 rintro e w3 ⟨rfl,t3⟩
 have R3:Hid (Room w3 w.heap.size 9):=R2.out.keep t3
 have T3:Hid (Touch (fun _=>False) w w3):=T2.out.trans t3
 obtain⟨⟨s0,s1,s2,s3,s4,s5,s6,s7⟩,s8⟩:=HS.out.keep T3.out
 clear t3 HWc hu R2 T2
 go_wp2_with fail
 refine Calls.mono (Qbd _ 23 _ (by first|rfl|exact rfl)) ?_
 rintro e wx ⟨rfl,rfl⟩
 go_wp2_with fail
 refine Calls.mono (HPh.out _) ?_
 rintro e w4 ⟨rfl,t4⟩
 have R4:Hid (Room w4 w.heap.size 9):=R3.out.keep t4
 have T4:Hid (Touch (fun _=>False) w w4):=T3.out.trans t4
 clear s0 s1 s2 s3 s4 s5 s6 s7 s8
 obtain⟨⟨s0,s1,s2,s3,s4,s5,s6,s7⟩,s8⟩:=HS.out.keep T4.out
 have hg4:g<w4.heap.size:=Qaa s0
 have hn4:¬g=w4.heap.size:=by omega
 have hw4:w.heap.size<w4.heap.size:=by obtain⟨_,hc,_⟩:=R4.out 0 (by omega);exact Qaa hc
 clear t4 R3 T3
 go_wp2_with fail
 refine Calls.mono (Qb4 _ 24 _ (by first|rfl|exact decide_eq_false (by have:=HAG.out;omega))) ?_
 rintro e wx ⟨rfl,rfl⟩
 exact⟨rfl,rfl,T4.out.alloc _⟩
theorem Qkz (g:Nat) (h:HV) (ok:h.All) (v:Value) (rs:List Int) (G1 G2:Nat) (w:World) (hS:Sd w g h v) (hv:ArgAt w v rs) (hby:∀z∈rs,0≤z∧z<256) (hn:rs.length≤1000000) (hlen:h.len=20+(rs.length:Int)) (hsum:h.sum≠0) (hwh:whole ((headB h++rs).drop 2)=true) (hseq:h.seq ≠ -2147483648) (hage:bits BinOp.andNot .u16 h.age 32768≤3600)
  (HP:∀w,Calls Tryz.prog 116 #[.int .u8 h.typ] w fun e w'=>e=.returned (.agg #[.func (.func G1) #[] #[],.func (.func G2) #[] #[]])∧Touch (fun _=>False) w w')
  (HR:∀w',Touch (fun _=>False) w w'→Calls Tryz.prog 117 #[.agg #[.func (.func G1) #[] #[],.func (.func G2) #[] #[]],v] w' (RdAns h.typ rs w')) :
  Calls Tryz.prog 111 #[.pointer (some ⟨g,0,none⟩)] w (RdAns h.typ rs w):=by
 obtain⟨a,c,rfl,hm⟩:=hv.form
 have HPh:Hid (∀w,Calls Tryz.prog 116 #[.int .u8 h.typ] w fun e w'=>e=.returned (.agg #[.func (.func G1) #[] #[],.func (.func G2) #[] #[]])∧Touch (fun _=>False) w w'):=HP
 have HRh:Hid (∀w',Touch (fun _=>False) w w'→Calls Tryz.prog 117 #[.agg #[.func (.func G1) #[] #[],.func (.func G2) #[] #[]],.slice a rs.length c] w' (RdAns h.typ rs w')):=HR
 have HLn:∀w,Calls Tryz.prog 113 #[.agg #[.int .u16 h.age,.int .u8 h.opts,.int .u8 h.typ,.int .u32 h.id,.int .u32 h.adv,.int .i32 h.seq,.int .u16 h.sum,.int .u16 h.len,.slice a rs.length c]] w fun e w'=>e=.returned (.bool true)∧Touch (fun _=>False) w w':=fun w=>by
  have:=Qar h a rs.length c w (by omega) ok.l
  rwa [show (h.len==20+(rs.length:Int))=true by rw [hlen];simp] at this
 have hsf:∀(w:World) (a:Addr) (f:Fn) (x y:Array Value) (m:Mode),(store a (.func f x y) m).run Tryz.prog w=stored Tryz.prog w a (.func f x y) m:=fun w a f x y m=>run_store Tryz.prog w a _ m rfl
 have HBt:∀w',Touch (fun _=>False) w w'→Calls Tryz.prog 115 #[.agg #[.int .u16 h.age,.int .u8 h.opts,.int .u8 h.typ,.int .u32 h.id,.int .u32 h.adv,.int .i32 h.seq,.int .u16 h.sum,.int .u16 h.len,.slice a rs.length c]] w' fun e w''=>∃u,e=.returned u∧Buf w' w'' u (headB h++rs):=fun w' t=>Qbg h ok (.slice a rs.length c) rs w' (hv.keepN t) hn
 have HBy:Hid (∀z∈(headB h++rs).drop 2,0≤z∧z<256):=fun x hx=>by
  rcases List.mem_append.1 (List.mem_of_mem_drop hx) with h' | h'
  ·exact Qa4 ok x h'
  ·exact hby x h'
 have HWh:Hid (whole ((headB h++rs).drop 2)=true):=hwh
 have hgl:=Qaa hS.hd.c0
 have HS:Hid (Sd w g h (.slice a rs.length c)):=hS
 have hsb:(h.sum != 0)=true:=by simpa using hsum
 have hqb:(h.seq != -2147483648)=true:=by simpa using hseq
 have ha0:=ok.a.1
 obtain⟨⟨s0,s1,s2,s3,s4,s5,s6,s7⟩,s8⟩:=hS.keep ((Touch.refl (fun _=>False) w).alloc (.cells #[.int .u8 0,.slice none 0 0,.int .u32 0,.slice none 0 0,.int .u32 0,.bool false,.int .u32 0,.int .u32 0,.slice none 0 0] 92))
 have HAG:Hid (bits BinOp.andNot .u16 h.age 32768≤3600):=hage
 clear hlen hS hv hby ok HP HR hsum hwh hseq hage
 go_enter Tryz.func111,Tryz.ntmps111
 go_wp2_with fail
 refine Calls.mono (HLn _) ?_
 rintro e w1 ⟨rfl,t1⟩
 have R1:Hid (Room w1 w.heap.size 9):=(Room.new w #[.int .u8 0,.slice none 0 0,.int .u32 0,.slice none 0 0,.int .u32 0,.bool false,.int .u32 0,.int .u32 0,.slice none 0 0] 92).keep t1
 have T1:Hid (Touch (fun _=>False) w w1):=((Touch.refl _ w).alloc _).trans t1
 clear t1 HLn s0 s1 s2 s3 s4 s5 s6 s7 s8
 obtain⟨⟨s0,s1,s2,s3,s4,s5,s6,s7⟩,s8⟩:=HS.out.keep T1.out
 go_wp2_with fail
 refine Calls.mono (Qbd _ 22 _ (by first|rfl|exact rfl)) ?_
 rintro e wx ⟨rfl,rfl⟩
 go_wp2_with fail
 refine Calls.mono (HBt _ T1.out) ?_
 rintro e w2 ⟨u2,rfl,b2⟩
 obtain⟨xa,xc,rfl⟩:=b2.form
 have hxl:(headB h++rs).length=20+rs.length:=by rw [List.length_append,Qaq]
 obtain⟨u,hu,hua⟩:=Qb7 b2.arg rfl (by rw [hxl];omega) 2 (by rw [hxl];omega)
 replace hu:∀w,Sem.run Tryz.prog (Instr.slice 57 (.slice xa (headB h++rs).length xc) (some (.int .i64 2)) none none) w=.ok u w:=hu
 have HWc:=Qbr u ((headB h++rs).drop 2) w2 hua HBy.out
 rw [HWh.out] at HWc
 rw [hxl] at hu ⊢
 have R2:Hid (Room w2 w.heap.size 9):=R1.out.keep b2.t
 have T2:Hid (Touch (fun _=>False) w w2):=T1.out.trans b2.t
 clear s0 s1 s2 s3 s4 s5 s6 s7 s8 hua hxl b2 HBt R1 T1
 go_wp2_with fail
 refine Calls.mono HWc ?_
 rintro e w3 ⟨rfl,t3⟩
 have R3:Hid (Room w3 w.heap.size 9):=R2.out.keep t3
 have T3:Hid (Touch (fun _=>False) w w3):=T2.out.trans t3
 obtain⟨⟨s0,s1,s2,s3,s4,s5,s6,s7⟩,s8⟩:=HS.out.keep T3.out
 clear t3 HWc hu R2 T2
 go_wp2_with fail
 refine Calls.mono (Qbd _ 23 _ (by first|rfl|exact rfl)) ?_
 rintro e wx ⟨rfl,rfl⟩
 go_wp2_with fail
 refine Calls.mono (HPh.out _) ?_
 rintro e w4 ⟨rfl,t4⟩
 have R4:Hid (Room w4 w.heap.size 9):=R3.out.keep t4
 have T4:Hid (Touch (fun _=>False) w w4):=T3.out.trans t4
 clear s0 s1 s2 s3 s4 s5 s6 s7 s8
 obtain⟨⟨s0,s1,s2,s3,s4,s5,s6,s7⟩,s8⟩:=HS.out.keep T4.out
 have hg4:g<w4.heap.size:=Qaa s0
 have hn4:¬g=w4.heap.size:=by omega
 have hw4:w.heap.size<w4.heap.size:=by obtain⟨_,hc,_⟩:=R4.out 0 (by omega);exact Qaa hc
 clear t4 R3 T3
 go_wp2_with fail
 refine Calls.mono (Qbd _ 24 _ (by first|rfl|exact decide_eq_true HAG.out)) ?_
 rintro e wx ⟨rfl,rfl⟩
 go_wp2_with fail
 refine Calls.mono (HRh.out _ (T4.out.alloc _)) ?_
 rintro e w5 (⟨B,vl,vr,vd,rfl,hd,o5,t5⟩|⟨rfl,hd,t5⟩)
 rotate_left
 ·exact⟨rfl,Or.inr ⟨rfl,hd,(T4.out.alloc _).trans t5⟩⟩
 have R5:Hid (Room w5 w.heap.size 9):=(R4.out.keep ((Touch.refl _ _).alloc _)).keep t5
 have T5:Hid (Touch (fun _=>False) w w5):=(T4.out.alloc _).trans t5
 have HD:Hid (decB h.typ rs=some B):=hd
 have O5:Hid (BOwn (w4.heap.size+1) w5 B vl vr vd):=by show BOwn _ _ _ _ _ _;simpa using o5
 obtain⟨a1,q1,a3,q3,a8,q8,rfl,rfl,rfl⟩:=o5.form
 unfold BV.v
 clear t5 s0 s1 s2 s3 s4 s5 s6 s7 s8 R4 T4 hsf o5 hd
 generalize hg:w.heap.size=gr at *
 have HG:Hid (w.heap.size=gr):=hg
 have HW4:Hid (gr<w4.heap.size):=hw4
 clear hg
 obtain⟨zz0,zc0,zf0⟩:=R5.out 0 (by omega)
 obtain⟨zz1,zc1,zf1⟩:=R5.out 1 (by omega)
 obtain⟨zz2,zc2,zf2⟩:=R5.out 2 (by omega)
 obtain⟨zz3,zc3,zf3⟩:=R5.out 3 (by omega)
 obtain⟨zz4,zc4,zf4⟩:=R5.out 4 (by omega)
 obtain⟨zz5,zc5,zf5⟩:=R5.out 5 (by omega)
 obtain⟨zz6,zc6,zf6⟩:=R5.out 6 (by omega)
 obtain⟨zz7,zc7,zf7⟩:=R5.out 7 (by omega)
 obtain⟨zz8,zc8,zf8⟩:=R5.out 8 (by omega)
 obtain⟨wz,hwz⟩:∃wz,wz=(((((((((w5.setCell ⟨gr,0,none⟩ (.int .u8 B.flags)).setCell ⟨gr,1,none⟩ (.slice a1 B.links.length q1)).setCell ⟨gr,2,none⟩ (.int .u32 B.mask)).setCell ⟨gr,3,none⟩ (.slice a3 B.routers.length q3)).setCell ⟨gr,4,none⟩ (.int .u32 B.metric)).setCell ⟨gr,5,none⟩ (.bool B.type2)).setCell ⟨gr,6,none⟩ (.int .u32 B.fwd)).setCell ⟨gr,7,none⟩ (.int .u32 B.tag)).setCell ⟨gr,8,none⟩ (.slice a8 B.data.length q8)):=⟨_,rfl⟩
 have zd0:wz.cell? ⟨gr,0,none⟩=some (.int .u8 B.flags):=by rw [hwz];simp [zc0,go_sem]
 have zd1:wz.cell? ⟨gr,1,none⟩=some (.slice a1 B.links.length q1):=by rw [hwz];simp [zc1,go_sem]
 have zd2:wz.cell? ⟨gr,2,none⟩=some (.int .u32 B.mask):=by rw [hwz];simp [zc2,go_sem]
 have zd3:wz.cell? ⟨gr,3,none⟩=some (.slice a3 B.routers.length q3):=by rw [hwz];simp [zc3,go_sem]
 have zd4:wz.cell? ⟨gr,4,none⟩=some (.int .u32 B.metric):=by rw [hwz];simp [zc4,go_sem]
 have zd5:wz.cell? ⟨gr,5,none⟩=some (.bool B.type2):=by rw [hwz];simp [zc5,go_sem]
 have zd6:wz.cell? ⟨gr,6,none⟩=some (.int .u32 B.fwd):=by rw [hwz];simp [zc6,go_sem]
 have zd7:wz.cell? ⟨gr,7,none⟩=some (.int .u32 B.tag):=by rw [hwz];simp [zc7,go_sem]
 have zd8:wz.cell? ⟨gr,8,none⟩=some (.slice a8 B.data.length q8):=by rw [hwz];simp [zc8,go_sem]
 have HUz:Hid (Touch (fun k=>k=gr) w5 wz):=by show Touch _ _ _;rw [hwz];refine Touch.setCell (F:=fun k=>k=gr) (p:=⟨gr,8,none⟩) ?_ (Or.inl rfl) _;refine Touch.setCell (F:=fun k=>k=gr) (p:=⟨gr,7,none⟩) ?_ (Or.inl rfl) _;refine Touch.setCell (F:=fun k=>k=gr) (p:=⟨gr,6,none⟩) ?_ (Or.inl rfl) _;refine Touch.setCell (F:=fun k=>k=gr) (p:=⟨gr,5,none⟩) ?_ (Or.inl rfl) _;refine Touch.setCell (F:=fun k=>k=gr) (p:=⟨gr,4,none⟩) ?_ (Or.inl rfl) _;refine Touch.setCell (F:=fun k=>k=gr) (p:=⟨gr,3,none⟩) ?_ (Or.inl rfl) _;refine Touch.setCell (F:=fun k=>k=gr) (p:=⟨gr,2,none⟩) ?_ (Or.inl rfl) _;refine Touch.setCell (F:=fun k=>k=gr) (p:=⟨gr,1,none⟩) ?_ (Or.inl rfl) _;refine Touch.setCell (F:=fun k=>k=gr) (p:=⟨gr,0,none⟩) ?_ (Or.inl rfl) _;exact Touch.refl _ _
 have HWz:Hid (wz=(((((((((w5.setCell ⟨gr,0,none⟩ (.int .u8 B.flags)).setCell ⟨gr,1,none⟩ (.slice a1 B.links.length q1)).setCell ⟨gr,2,none⟩ (.int .u32 B.mask)).setCell ⟨gr,3,none⟩ (.slice a3 B.routers.length q3)).setCell ⟨gr,4,none⟩ (.int .u32 B.metric)).setCell ⟨gr,5,none⟩ (.bool B.type2)).setCell ⟨gr,6,none⟩ (.int .u32 B.fwd)).setCell ⟨gr,7,none⟩ (.int .u32 B.tag)).setCell ⟨gr,8,none⟩ (.slice a8 B.data.length q8))):=hwz
 clear hwz
 go_wp2_with fail
 rw [←HWz.out]
 clear HWz zc0 zf0 zc1 zf1 zc2 zf2 zc3 zf3 zc4 zf4 zc5 zf5 zc6 zf6 zc7 zf7 zc8 zf8
 refine bodyPost_ret (v:=.agg #[.int .u8 B.flags,.slice a1 B.links.length q1,.int .u32 B.mask,.slice a3 B.routers.length q3,.int .u32 B.metric,.bool B.type2,.int .u32 B.fwd,.int .u32 B.tag,.slice a8 B.data.length q8]) (by simp [results,Tryz.results111,go_sem,zd0,zd1,zd2,zd3,zd4,zd5,zd6,zd7,zd8]) rfl ?_
 exact Or.inl ⟨B,_,_,_,rfl,HD.out,(O5.out.touch HUz.out (fun k hk e=>by have:=HW4.out;omega)).lower (by have:=HW4.out;have:=HG.out;omega),T5.out.trans' HUz.out (fun i hi e=>by have:=HG.out;omega)⟩
theorem Qj0 (h:HV) (a:Option Addr) (n c:Nat) (rs:List Int) (w:World) (B:BV) (hB:decB h.typ rs=some B)
  (HC:∀w',Touch (fun _=>False) w w'→Sd w' w.heap.size h (.slice a n c)→Calls Tryz.prog 111 #[.pointer (some ⟨w.heap.size,0,none⟩)] w' (RdAns h.typ rs w')) :
  Calls Tryz.prog 87 #[h.sv (.slice a n c)] w fun e w'=>e=.returned (.int .i64 0)∧Touch (fun _=>False) w w':=by
 have hmf:∀(fn:Fn) (first cap:Array Value) (w:World),(Instr.makeFunc fn first cap).run Tryz.prog w=.ok (.func fn first cap) w:=fun _ _ _ _=>rfl
 have HC4:=HC (((w.alloc (.cells #[.int .u16 h.age,.int .u8 h.opts,.int .u8 h.typ,.int .u32 h.id,.int .u32 h.adv,.int .i32 h.seq,.int .u16 h.sum,.int .u16 h.len,.slice a n c] 59)).alloc (.cells #[.int .u8 0,.slice none 0 0,.int .u32 0,.slice none 0 0,.int .u32 0,.bool false,.int .u32 0,.int .u32 0,.slice none 0 0] 92)).alloc (.cells #[.int .i64 0] 61)) (((Touch.refl _ w).alloc _).alloc _ |>.alloc _) ((Sd.new w h (.slice a n c) 59).keep (((Touch.refl _ _).alloc _).alloc _))
 have HF:=Qg1 111 #[.pointer (some ⟨w.heap.size,0,none⟩)] (fun _=>rfl) (w.alloc (.cells #[.int .u16 h.age,.int .u8 h.opts,.int .u8 h.typ,.int .u32 h.id,.int .u32 h.adv,.int .i32 h.seq,.int .u16 h.sum,.int .u16 h.len,.slice a n c] 59)) B.flags B.mask B.metric B.fwd B.tag B.type2 (fun s1 s3 s8 w'=>True) (HC4.mono (by
  rintro e w' (⟨B',vl,vr,vd,rfl,hd,o,t⟩|⟨rfl,hd,t⟩)
  ·rw [hB] at hd
   cases hd
   obtain⟨a1,q1,a3,q3,a8,q8,rfl,rfl,rfl⟩:=o.form
   exact⟨a1,_,q1,a3,_,q3,a8,_,q8,rfl,t,trivial⟩
  ·rw [hB] at hd
   cases hd)) (fun _ _ _ _ _ _ _ _ _ _ _ _ _ _=>trivial)
 clear HC HC4 hB
 show Calls Tryz.prog 87 #[.agg #[.int .u16 h.age,.int .u8 h.opts,.int .u8 h.typ,.int .u32 h.id,.int .u32 h.adv,.int .i32 h.seq,.int .u16 h.sum,.int .u16 h.len,.slice a n c]] w _
 go_enter Tryz.func87,Tryz.ntmps87
 go_wp2_with fail
 refine Calls.mono HF ?_
 rintro e w1 ⟨a1,n1,q1,a3,n3,q3,a8,n8,q8,rfl,t1,-⟩
 have HT:Hid (Touch (fun _=>False) w w1):=((Touch.refl _ w).alloc _).trans t1
 clear HF t1 hmf
 go_wp2
 go_ret
 exact⟨rfl,HT.out.alloc _⟩
theorem Qbv (h:HV) (a:Option Addr) (n c:Nat) (err:Int) (w:World)
  (HC:∀w',Touch (fun _=>False) w w'→Sd w' w.heap.size h (.slice a n c)→Calls Tryz.prog 111 #[.pointer (some ⟨w.heap.size,0,none⟩)] w' fun e w''=>e=.panicked (flawC err)∧Touch (fun _=>False) w' w'') :
  Calls Tryz.prog 87 #[h.sv (.slice a n c)] w fun e w'=>e=.returned (.int .i64 err)∧Touch (fun _=>False) w w':=by
 have hmf:∀(fn:Fn) (first cap:Array Value) (w:World),(Instr.makeFunc fn first cap).run Tryz.prog w=.ok (.func fn first cap) w:=fun _ _ _ _=>rfl
 have HC4:=HC (((w.alloc (.cells #[.int .u16 h.age,.int .u8 h.opts,.int .u8 h.typ,.int .u32 h.id,.int .u32 h.adv,.int .i32 h.seq,.int .u16 h.sum,.int .u16 h.len,.slice a n c] 59)).alloc (.cells #[.int .u8 0,.slice none 0 0,.int .u32 0,.slice none 0 0,.int .u32 0,.bool false,.int .u32 0,.int .u32 0,.slice none 0 0] 92)).alloc (.cells #[.int .i64 0] 61)) (((Touch.refl _ w).alloc _).alloc _ |>.alloc _) ((Sd.new w h (.slice a n c) 59).keep (((Touch.refl _ _).alloc _).alloc _))
 have HF:=Qlr 111 #[.pointer (some ⟨w.heap.size,0,none⟩)] (fun _=>rfl) (w.alloc (.cells #[.int .u16 h.age,.int .u8 h.opts,.int .u8 h.typ,.int .u32 h.id,.int .u32 h.adv,.int .i32 h.seq,.int .u16 h.sum,.int .u16 h.len,.slice a n c] 59)) err HC4
 clear HC HC4
 show Calls Tryz.prog 87 #[.agg #[.int .u16 h.age,.int .u8 h.opts,.int .u8 h.typ,.int .u32 h.id,.int .u32 h.adv,.int .i32 h.seq,.int .u16 h.sum,.int .u16 h.len,.slice a n c]] w _
 go_enter Tryz.func87,Tryz.ntmps87
 go_wp2_with fail
 refine Calls.mono HF ?_
 rintro e w1 ⟨rfl,t1⟩
 have HT:Hid (Touch (fun _=>False) w w1):=((Touch.refl _ w).alloc _).trans t1
 clear HF t1 hmf
 go_wp2
 go_ret
 exact⟨rfl,HT.out.alloc _⟩
end Go.Proofs.YtldmkoogghemhaaGreat
