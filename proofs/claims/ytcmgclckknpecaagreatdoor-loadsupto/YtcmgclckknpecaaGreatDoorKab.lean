import Derived.Test.YtcmgclckknpecaaGreatDoorProg
import Derived.Test.YtcmgclckknpecaaGreatDoorKaa
import Derived.Shelf.Strconv.AtoiAll
import Derived.Shelf.Strings.Cut
import Derived.Shelf.Strings.Prefix
import Derived.Lib.SmallJoins
import Derived.WalkKit
import Derived.WalkSpells
import Derived.BigCall
import Derived.Shelf.Abstract
import Derived.Lib.BufSteps
import Derived.Lib.QuoteHex
import Derived.Lib.QuoteBits
import Derived.LoopN
import Derived.OwnWalk
namespace Go.Proofs.YtcmgclckknpecaaGreatDoor
open Go.RowKit Go.Shelf
def ren101:Ren:=⟨fun | 101=>284 | 208=>358 | 206=>277 | n=>n,
 fun n=>n,fun n=>n⟩
theorem lays101:Lays.n101 Tryz.prog ren101 :=
 {mixed:=by kernel_rfl,f101:=by kernel_rfl,f206:=by kernel_rfl,f208:=by kernel_rfl,
  t3:=by kernel_rfl,a3:=fun _=>by kernel_rfl,z3:=fun _=>by kernel_rfl,v3:=fun _=>by kernel_rfl,
  t4:=by kernel_rfl,a4:=fun _=>by kernel_rfl,z4:=fun _=>by kernel_rfl,v4:=fun _=>by kernel_rfl,
  t9:=by kernel_rfl,a9:=fun _=>by kernel_rfl,z9:=fun _=>by kernel_rfl,v9:=fun _=>by kernel_rfl }
def ren145:Ren:=⟨fun | 145=>181 | 220=>279 | 219=>351 | 217=>278 | 225=>390 | 224=>391 | 267=>392 | 266=>350 | 314=>419 | n=>n,
 fun | 59=>350 | 46=>344 | 146=>517 | 51=>104 | n=>n,fun | 1=>3 | n=>n⟩
theorem lays145:Lays.n145 Tryz.prog ren145 :=
 {mixed:=by kernel_rfl,f145:=by kernel_rfl,f217:=by kernel_rfl,f219:=by kernel_rfl,
  f220:=by kernel_rfl,f224:=by kernel_rfl,f225:=by kernel_rfl,f266:=by kernel_rfl,
  f267:=by kernel_rfl,f314:=by kernel_rfl,t3:=by kernel_rfl,a3:=fun _=>by kernel_rfl,
  z3:=fun _=>by kernel_rfl,v3:=fun _=>by kernel_rfl,t4:=by kernel_rfl,a4:=fun _=>by kernel_rfl,
  z4:=fun _=>by kernel_rfl,v4:=fun _=>by kernel_rfl,t5:=by kernel_rfl,a5:=fun _=>by kernel_rfl,
  z5:=fun _=>by kernel_rfl,v5:=fun _=>by kernel_rfl,t9:=by kernel_rfl,a9:=fun _=>by kernel_rfl,
  z9:=fun _=>by kernel_rfl,v9:=fun _=>by kernel_rfl,t46:=by kernel_rfl,a46:=fun _=>by kernel_rfl,
  z46:=fun _=>by kernel_rfl,v46:=fun _=>by kernel_rfl,t51:=by kernel_rfl,a51:=fun _=>by kernel_rfl,
  z51:=fun _=>by kernel_rfl,v51:=fun _=>by kernel_rfl,t59:=by kernel_rfl,a59:=fun _=>by kernel_rfl,
  z59:=fun _=>by kernel_rfl,v59:=fun _=>by kernel_rfl,t146:=by kernel_rfl,a146:=fun _=>by kernel_rfl,
  z146:=fun _=>by kernel_rfl,v146:=fun _=>by kernel_rfl,g1:=by kernel_rfl }
def ren172:Ren:=⟨fun | 172=>182 | 244=>280 | 245=>281 | 247=>352 | 279=>353 | 280=>354 | 281=>355 | 282=>356 | 287=>393 | 316=>233 | 171=>118 | 205=>394 | 321=>420 | 322=>421 | 243=>176 | 246=>275 | 283=>344 | 284=>345 | 285=>346 | 286=>347 | 129=>265 | 317=>382 | 318=>383 | 319=>384 | 320=>385 | 337=>415 | 338=>416 | n=>n,
 fun | 75=>169 | 76=>170 | 167=>467 | 37=>164 | 85=>468 | 168=>470 | 53=>326 | 175=>494 | 46=>344 | 210=>497 | 127=>263 | 145=>522 | 143=>520 | 171=>460 | 173=>462 | 212=>491 | 51=>104 | 213=>492 | 232=>527 | 233=>528 | 80=>78 | n=>n,fun | 15=>1 | 16=>4 | 17=>2 | 18=>12 | 19=>13 | n=>n⟩
theorem lays172:LaysC.n172 Tryz.prog ren172 :=
 {mixed:=by kernel_rfl,f129:=by kernel_rfl,f171:=by kernel_rfl,f172:=by kernel_rfl,
  f205:=by kernel_rfl,f243:=by kernel_rfl,f244:=by kernel_rfl,f245:=by kernel_rfl,
  f246:=by kernel_rfl,f247:=by kernel_rfl,f279:=by kernel_rfl,f280:=by kernel_rfl,
  f281:=by kernel_rfl,f282:=by kernel_rfl,f283:=by kernel_rfl,f284:=by kernel_rfl,
  f285:=by kernel_rfl,f286:=by kernel_rfl,f287:=by kernel_rfl,f316:=by kernel_rfl,
  f317:=by kernel_rfl,f318:=by kernel_rfl,f319:=by kernel_rfl,f320:=by kernel_rfl,
  f321:=by kernel_rfl,f322:=by kernel_rfl,f337:=by kernel_rfl,f338:=by kernel_rfl,
  t0:=by kernel_rfl,a0:=fun _=>by kernel_rfl,z0:=fun _=>by kernel_rfl,v0:=fun _=>by kernel_rfl,
  t2:=by kernel_rfl,a2:=fun _=>by kernel_rfl,z2:=fun _=>by kernel_rfl,v2:=fun _=>by kernel_rfl,
  t3:=by kernel_rfl,a3:=fun _=>by kernel_rfl,z3:=fun _=>by kernel_rfl,v3:=fun _=>by kernel_rfl,
  t4:=by kernel_rfl,a4:=fun _=>by kernel_rfl,z4:=fun _=>by kernel_rfl,v4:=fun _=>by kernel_rfl,
  t5:=by kernel_rfl,a5:=fun _=>by kernel_rfl,z5:=fun _=>by kernel_rfl,v5:=fun _=>by kernel_rfl,
  t9:=by kernel_rfl,a9:=fun _=>by kernel_rfl,z9:=fun _=>by kernel_rfl,v9:=fun _=>by kernel_rfl,
  t20:=by kernel_rfl,a20:=fun _=>by kernel_rfl,z20:=fun _=>by kernel_rfl,v20:=fun _=>by kernel_rfl,
  t21:=by kernel_rfl,a21:=fun _=>by kernel_rfl,z21:=fun _=>by kernel_rfl,v21:=fun _=>by kernel_rfl,
  t37:=by kernel_rfl,a37:=fun _=>by kernel_rfl,z37:=fun _=>by kernel_rfl,v37:=fun _=>by kernel_rfl,
  t46:=by kernel_rfl,a46:=fun _=>by kernel_rfl,z46:=fun _=>by kernel_rfl,v46:=fun _=>by kernel_rfl,
  t51:=by kernel_rfl,a51:=fun _=>by kernel_rfl,z51:=fun _=>by kernel_rfl,v51:=fun _=>by kernel_rfl,
  t53:=by kernel_rfl,a53:=fun _=>by kernel_rfl,z53:=fun _=>by kernel_rfl,v53:=fun _=>by kernel_rfl,
  t75:=by kernel_rfl,a75:=fun _=>by kernel_rfl,z75:=fun _=>by kernel_rfl,v75:=fun _=>by kernel_rfl,
  t76:=by kernel_rfl,a76:=fun _=>by kernel_rfl,z76:=fun _=>by kernel_rfl,v76:=fun _=>by kernel_rfl,
  t85:=by kernel_rfl,a85:=fun _=>by kernel_rfl,z85:=fun _=>by kernel_rfl,v85:=fun _=>by kernel_rfl,
  t127:=by kernel_rfl,a127:=fun _=>by kernel_rfl,z127:=fun _=>by kernel_rfl,v127:=fun _=>by kernel_rfl,
  t143:=by kernel_rfl,a143:=fun _=>by kernel_rfl,z143:=fun _=>by kernel_rfl,v143:=fun _=>by kernel_rfl,
  t145:=by kernel_rfl,a145:=fun _=>by kernel_rfl,z145:=fun _=>by kernel_rfl,v145:=fun _=>by kernel_rfl,
  t167:=by kernel_rfl,a167:=fun _=>by kernel_rfl,z167:=fun _=>by kernel_rfl,v167:=fun _=>by kernel_rfl,
  t168:=by kernel_rfl,a168:=fun _=>by kernel_rfl,z168:=fun _=>by kernel_rfl,v168:=fun _=>by kernel_rfl,
  t171:=by kernel_rfl,a171:=fun _=>by kernel_rfl,z171:=fun _=>by kernel_rfl,v171:=fun _=>by kernel_rfl,
  t173:=by kernel_rfl,a173:=fun _=>by kernel_rfl,z173:=fun _=>by kernel_rfl,v173:=fun _=>by kernel_rfl,
  t175:=by kernel_rfl,a175:=fun _=>by kernel_rfl,z175:=fun _=>by kernel_rfl,v175:=fun _=>by kernel_rfl,
  t210:=by kernel_rfl,a210:=fun _=>by kernel_rfl,z210:=fun _=>by kernel_rfl,v210:=fun _=>by kernel_rfl,
  t212:=by kernel_rfl,a212:=fun _=>by kernel_rfl,z212:=fun _=>by kernel_rfl,v212:=fun _=>by kernel_rfl,
  t213:=by kernel_rfl,a213:=fun _=>by kernel_rfl,z213:=fun _=>by kernel_rfl,t232:=by kernel_rfl,
  a232:=fun _=>by kernel_rfl,z232:=fun _=>by kernel_rfl,v232:=fun _=>by kernel_rfl,t233:=by kernel_rfl,
  a233:=fun _=>by kernel_rfl,z233:=fun _=>by kernel_rfl,v233:=fun _=>by kernel_rfl,g15:=by kernel_rfl,
  g16:=by kernel_rfl,g17:=by kernel_rfl,g18:=by kernel_rfl,g19:=by kernel_rfl,
  t80:=by kernel_rfl,a80:=fun _=>by kernel_rfl,z80:=fun _=>by kernel_rfl,v80:=fun _=>by kernel_rfl,
  i0:=by kernel_rfl,i2:=by kernel_rfl,i3:=by kernel_rfl,i4:=by kernel_rfl,
  i5:=by kernel_rfl,i9:=by kernel_rfl,i20:=by kernel_rfl,i21:=by kernel_rfl,
  i37:=by kernel_rfl,i46:=by kernel_rfl,i51:=by kernel_rfl,i53:=by kernel_rfl,
  i75:=by kernel_rfl,i76:=by kernel_rfl,i80:=by kernel_rfl,i85:=by kernel_rfl,
  i127:=by kernel_rfl,i143:=by kernel_rfl,i145:=by kernel_rfl,i167:=by kernel_rfl,
  i168:=by kernel_rfl,i171:=by kernel_rfl,i173:=by kernel_rfl,i175:=by kernel_rfl,
  i210:=by kernel_rfl,i212:=by kernel_rfl,i232:=by kernel_rfl,i233:=by kernel_rfl,
  m15:=by kernel_rfl,m16:=by kernel_rfl,m17:=by kernel_rfl,m18:=by kernel_rfl,
  m19:=by kernel_rfl,c0:=by kernel_rfl,c2:=by kernel_rfl,c3:=by kernel_rfl,
  c4:=by kernel_rfl,c5:=by kernel_rfl,c9:=by kernel_rfl,c20:=by kernel_rfl,
  c21:=by kernel_rfl,c37:=by kernel_rfl,c46:=by kernel_rfl,c51:=by kernel_rfl,
  c53:=by kernel_rfl,c75:=by kernel_rfl,c76:=by kernel_rfl,c80:=by kernel_rfl,
  c85:=by kernel_rfl,c127:=by kernel_rfl,c143:=by kernel_rfl,c145:=by kernel_rfl,
  c167:=by kernel_rfl,c168:=by kernel_rfl,c171:=by kernel_rfl,c173:=by kernel_rfl,
  c175:=by kernel_rfl,c210:=by kernel_rfl,c212:=by kernel_rfl,c213:=by kernel_rfl,
  c232:=by kernel_rfl,c233:=by kernel_rfl }
structure Tbr (w:World):Prop where
 m:∃ m,w.cell? ⟨3,0,none⟩=some (.int .i64 m)
 s:∃ te pe,w.cell? ⟨1,0,none⟩=some (.iface te pe)
 r:∃ te pe,w.cell? ⟨4,0,none⟩=some (.iface te pe)
theorem trimp_any (s p:ByteArray) (w:World):Calls Tryz.prog 284 #[.string s,.string p] w fun e w'=>e=.returned (.string ⟨(Lib.trimPrefix s.data.toList p.data.toList).toArray⟩)∧w'=w :=
 Any.strings_TrimPrefix lays101 s p w
theorem cut_any (s p:ByteArray) (w:World) (hs:s.size<4294967281) (hT:Tbr w):Calls Tryz.prog 181 #[.string s,.string p] w fun e w'=>e=.returned (.tuple #[.string ⟨(Lib.cut s.data.toList p.data.toList).1.toArray⟩,.string ⟨(Lib.cut s.data.toList p.data.toList).2.1.toArray⟩,.bool (Lib.cut s.data.toList p.data.toList).2.2])∧∃ n,w'=w.drewN n :=
 let ⟨m,hm⟩:=hT.m
 Any.strings_Cut lays145 s p m w hs hm
end Go.Proofs.YtcmgclckknpecaaGreatDoor
namespace Go.Proofs.YtcmgclckknpecaaGreatDoor
open Go.RowKit Go.Shelf
structure HpO (s p:ByteArray) (e:Ending):Prop where
 ex:∃ b:Bool,e=.returned (.bool b)∧(b=true→p.size≤s.size)
theorem hasp_any (s p:ByteArray) (w:World):Calls Tryz.prog 277 #[.string s,.string p] w fun e w'=>HpO s p e∧w'=w:=by
 by_cases h:p.size≤s.size
 ·have h1:(p.size:Int)≤(s.size:Int):=by omega
  go_enter Tryz.func277,Tryz.ntmps277
  go_wp2_with fail
  go_ret
  exact ⟨⟨⟨_,rfl,fun _=>h⟩⟩,rfl⟩
 ·have h1:¬ (p.size:Int)≤(s.size:Int):=by omega
  go_enter Tryz.func277,Tryz.ntmps277
  go_wp2_with fail
  go_ret
  exact ⟨⟨⟨false,rfl,by simp⟩⟩,rfl⟩
theorem cutpl_any (s p:ByteArray) (w:World):Calls Tryz.prog 178 #[.string s,.string p] w fun e w'=>(∃ (t:ByteArray) (b:Bool),e=.returned (.tuple #[.string t,.bool b])∧t.size≤s.size)∧w'=w:=by
 have cH:=hasp_any s p w
 go_enter Tryz.func178,Tryz.ntmps178
 go_wp2_with fail
 refine cH.mono ?_
 rintro e w1 ⟨⟨⟨b,rfl,hb⟩⟩,rfl⟩
 cases b with
 | false =>
  go_wp2_with fail
  go_ret2
  exact ⟨⟨_,_,rfl,Nat.le_refl _⟩,rfl⟩
 | true =>
  have h:=hb rfl
  have h1:(p.size:Int)≤(s.size:Int):=by omega
  clear hb
  go_wp2_with fail
  go_ret2
  exact ⟨⟨_,_,rfl,by simp [ByteArray.size_extract]⟩,rfl⟩
theorem cutp_any (s p:ByteArray) (w:World):Calls Tryz.prog 120 #[.string s,.string p] w fun e w'=>(∃ (t:ByteArray) (b:Bool),e=.returned (.tuple #[.string t,.bool b])∧t.size≤s.size)∧w'=w:=by
 have cH:=cutpl_any s p w
 go_enter Tryz.func120,Tryz.ntmps120
 go_wp2_with fail
 refine cH.mono ?_
 rintro e w1 ⟨⟨t,b,rfl,hb⟩,rfl⟩
 go_wp2_with fail
 go_ret2
 exact ⟨⟨_,_,rfl,hb⟩,rfl⟩
end Go.Proofs.YtcmgclckknpecaaGreatDoor
namespace Go.Proofs.YtcmgclckknpecaaGreatDoor
open Go.RowKit Go.Shelf
structure UhO (e:Ending):Prop where
 ex:∃ (v:Int) (b:Bool),e=.returned (.tuple #[.int .i32 v,.bool b])
theorem UhO.mk' (v:Int) (b:Bool):UhO (.returned (.tuple #[.int .i32 v,.bool b])):=⟨⟨v,b,rfl⟩⟩
set_option maxHeartbeats 1000000 in
theorem unhex_any (k:Nat) (hk:k<256) (w:World):Calls Tryz.prog 423 #[.int .u8 (k:Int)] w fun e w'=>UhO e∧w'=w:=by
 have hw:IntKind.i32.wrap (k:Int)=(k:Int):=by
  have e:(k:Int) % 4294967296=k:=Int.emod_eq_of_lt (by omega) (by omega)
  simp [IntKind.wrap,IntKind.bits,IntKind.signed,e];omega
 go_enter Tryz.func423,Tryz.ntmps423
 go_wp2_with fail
 all_goals go_ret2
 all_goals exact ⟨UhO.mk' _ _,rfl⟩
structure YnO (e:Ending):Prop where
 ex:∃ b:Bool,e=.returned (.bool b)
theorem YnO.mk' (b:Bool):YnO (.returned (.bool b)):=⟨⟨b,rfl⟩⟩
set_option maxHeartbeats 1000000 in
theorem validw_any (r:Int) (w:World):Calls Tryz.prog 389 #[.int .i32 r] w fun e w'=>YnO e∧w'=w:=by
 go_enter Tryz.func389,Tryz.ntmps389
 go_wp2_with fail
 all_goals go_ret
 all_goals exact ⟨YnO.mk' _,rfl⟩
end Go.Proofs.YtcmgclckknpecaaGreatDoor
namespace Go.Proofs.YtcmgclckknpecaaGreatDoor
open Go.RowKit Go.Shelf
def Pl.esc (k:Nat):List Int :=
 if k=34∨k=92 then [92,k] else if 32≤k∧k<127 then [k] else if k=7 then [92,97] else if k=8 then [92,98] else if k=12 then [92,102] else if k=10 then [92,110]
 else if k=13 then [92,114] else if k=9 then [92,116] else if k=11 then [92,118] else if k<32∨k=127 then [92,120,Lib.hexDigit (k / 16),Lib.hexDigit (k % 16)]
 else if k<65536 then 92 :: 117 :: Lib.hexDigits k 4 else 92 :: 85 :: Lib.hexDigits k 8
set_option maxHeartbeats 1000000 in
theorem isprint_low (k:Nat) (hk:k<128) (w:World):Calls Tryz.prog 387 #[.int .i32 (k:Int)] w fun e w'=>e=.returned (.bool (decide (32≤k∧k<127)))∧w'=w:=by
 go_enter Tryz.func387,Tryz.ntmps387
 go_wp2_with fail
 all_goals go_ret
 all_goals refine ⟨ret_bool ?_,rfl⟩
 all_goals (symm;simp;omega)
theorem valid_any (k:Nat) (hk:k≤1114111) (hs:k<55296∨57343<k) (w:World):Calls Tryz.prog 389 #[.int .i32 (k:Int)] w fun e w'=>e=.returned (.bool true)∧w'=w:=by
 go_enter Tryz.func389,Tryz.ntmps389
 rcases hs with hs | hs
 ·have h1:(k:Int)<55296:=by omega
  go_wp2_with fail
  go_ret
  exact ⟨rfl,rfl⟩
 ·have h1:¬ (k:Int)<55296:=by omega
  have h2:(57343:Int)<(k:Int):=by omega
  have h3:(k:Int)≤1114111:=by omega
  go_wp2_with fail
  go_ret
  exact ⟨rfl,rfl⟩
theorem u164:Tryz.prog.underlying 164=some (.slice 5):=by kernel_rfl
theorem u9s:Tryz.prog.underlying 9=some .string:=by kernel_rfl
theorem info5:∃ i,Tryz.prog.info? 5=some i∧i.zero=some (.int .u8 0)∧i.size=1∧i.bytes=1:=by
 have h:(Tryz.prog.info? 5).map (fun i=>(i.zero,i.size,i.bytes))=some (some (.int .u8 0),1,1):=by kernel_rfl
 obtain ⟨i0,hi,hz0,hz1,hz2⟩:=info_parts h
 exact ⟨i0,hi,hz0,hz1,hz2⟩
theorem wrap_u8 {k:Nat} (h:k<256):IntKind.u8.wrap (k:Int)=(k:Int):=by
 have e:(k:Int) % 256=k:=Int.emod_eq_of_lt (by omega) (by omega)
 simp [IntKind.wrap,IntKind.bits,IntKind.signed,e]
set_option maxHeartbeats 4000000 in
set_option maxRecDepth 1000000 in
theorem esc_quoted (B:Nat) (v:Value) (n:Nat) (xs:List Value) (r:Int) (k:Nat) (Hk:Hid (r=(k:Int))) (W0 w:World) (hb:Lib.OwnBuf B 5 v n xs W0 w) (hlen:n+10≤140737488355328) (hq:k=34∨k=92) :
  Calls Tryz.prog 349 #[v,.int .i32 r,.int .u8 34,.bool true,.bool false] w fun e w'=>∃ v',e=.returned v'∧Lib.OwnBuf B 5 v' (n+(Pl.esc k).length) (xs++Lib.intCells (Pl.esc k)) W0 w':=by
 obtain ⟨i0,hi,hz0,hz1,hz2⟩:=info5
 have hrk:=Hk.out
 have HE:Hid (Pl.esc k=[92,(k:Int)]):=(by simp [Pl.esc,hq]:Pl.esc k=_)
 subst hrk
 go_enter Tryz.func349,Tryz.ntmps349
 rcases hq with rfl | rfl
 all_goals (
  go_big_wp2_with (at_builtin;first
   | (refine Lib.wpList_append_byte rfl _ _ 164 rfl B 5 i0 u164 hi hz0 hz1 hz2 _ _ _ rfl W0 _ _ (by assumption) rfl (by first | omega | (simp only [Lib.size_two];omega)) ?_;intro _ _ hb)
   | (refine Lib.wpList_append_text rfl _ _ 164 9 rfl B 5 i0 u164 u9s hi hz0 hz1 hz2 _ _ _ rfl W0 (by assumption) _ rfl (by first | omega | (simp only [Lib.size_two];omega)) ?_;intro _ _ hb))
  go_ret
  refine ⟨_,rfl,?_⟩
  rw [HE.out]
  simpa [Lib.intCells,List.append_assoc] using hb)
set_option maxHeartbeats 4000000 in
set_option maxRecDepth 1000000 in
theorem esc_plain (B:Nat) (v:Value) (n:Nat) (xs:List Value) (r:Int) (k:Nat) (Hk:Hid (r=(k:Int))) (W0 w:World) (hb:Lib.OwnBuf B 5 v n xs W0 w) (hlen:n+10≤140737488355328) (hq:¬ (k=34∨k=92)) (hp:32≤k∧k<127) :
  Calls Tryz.prog 349 #[v,.int .i32 r,.int .u8 34,.bool true,.bool false] w fun e w'=>∃ v',e=.returned v'∧Lib.OwnBuf B 5 v' (n+(Pl.esc k).length) (xs++Lib.intCells (Pl.esc k)) W0 w':=by
 obtain ⟨i0,hi,hz0,hz1,hz2⟩:=info5
 have hrk:=Hk.out
 have e387:∀ args w,(callFunc 387 args).run Tryz.prog w=.ok (.enter 387 args) w:=enters_of Tryz.func387 (by kernel_rfl) rfl
 have cP:Calls Tryz.prog 387 #[.int .i32 r] w fun e w'=>e=.returned (.bool true)∧w'=w:=by
  have:=isprint_low k (by omega) w
  rw [hrk]
  rwa [decide_eq_true (by omega)] at this
 have hw8:IntKind.u8.wrap r=r:=by rw [hrk];exact wrap_u8 (by omega)
 have hq1:r≠34:=by omega
 have hq2:r≠92:=by omega
 have hb1:(r == 34)=false:=by simp;omega
 have hb2:(r == 92)=false:=by simp;omega
 have hq3:r<128:=by omega
 have HE:Hid (Pl.esc k=[r]):=by rw [hrk];exact (by simp only [Pl.esc,if_neg hq,if_pos hp]:Pl.esc k=[(k:Int)])
 clear hrk hq hp
 go_enter Tryz.func349,Tryz.ntmps349
 go_big_wp2_with (first | (go_at_fn 387;go_fit cP;rintro e w1 ⟨rfl,rfl⟩) | (at_builtin;first
   | (refine Lib.wpList_append_byte rfl _ _ 164 rfl B 5 i0 u164 hi hz0 hz1 hz2 _ _ _ rfl W0 _ _ (by assumption) rfl (by first | omega | (simp only [Lib.size_two];omega)) ?_;intro _ _ hb)
   | (refine Lib.wpList_append_text rfl _ _ 164 9 rfl B 5 i0 u164 u9s hi hz0 hz1 hz2 _ _ _ rfl W0 (by assumption) _ rfl (by first | omega | (simp only [Lib.size_two];omega)) ?_;intro _ _ hb)))
 go_ret
 refine ⟨_,rfl,?_⟩
 rw [HE.out]
 simpa [Lib.intCells,List.append_assoc] using hb
end Go.Proofs.YtcmgclckknpecaaGreatDoor
