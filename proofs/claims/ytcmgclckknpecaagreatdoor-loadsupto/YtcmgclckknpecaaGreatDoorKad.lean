import Derived.Test.YtcmgclckknpecaaGreatDoorKac
import Derived.Shelf.Unicode.DecodeAny
import Derived.Lib.QuoteLoop
import Derived.Test.YtcmgclckknpecaaGreatDoorProg
import Derived.Shelf.Strings.BuilderRune
import Derived.Shelf.Strings.BuilderK
import Derived.WalkKit
namespace Go.Proofs.YtcmgclckknpecaaGreatDoor
open Go.RowKit Go.Shelf
theorem esc_any (B:Nat) (v:Value) (n:Nat) (xs:List Value) (r:Int) (k:Nat) (Hk:Hid (r=(k:Int))) (W0 w:World) (hb:Lib.OwnBuf B 5 v n xs W0 w) (hlen:n+10≤140737488355328) (hs:k<55296∨57343<k) (hm:k≤1114111) :
  Calls Tryz.prog 349 #[v,.int .i32 r,.int .u8 34,.bool true,.bool false] w fun e w'=>∃ v',e=.returned v'∧Lib.OwnBuf B 5 v' (n+(Pl.esc k).length) (xs++Lib.intCells (Pl.esc k)) W0 w':=by
 by_cases hq:k=34∨k=92
 ·exact esc_quoted B v n xs r k Hk W0 w hb hlen hq
 by_cases hp:32≤k∧k<127
 ·exact esc_plain B v n xs r k Hk W0 w hb hlen hq hp
 by_cases hn:k=7∨k=8∨k=12∨k=10∨k=13∨k=9∨k=11
 ·exact esc_named B v n xs r k Hk W0 w hb hlen hn
 by_cases hx:k<32∨k=127
 ·exact esc_hex B v n xs r k Hk W0 w hb hlen hx hn
 by_cases hlt:k<65536
 ·exact esc_u4 B v n xs r k Hk W0 w hb hlen (by omega) hs hlt
 ·exact esc_u8 B v n xs r k Hk W0 w hb hlen (by omega) hm
end Go.Proofs.YtcmgclckknpecaaGreatDoor
namespace Go.Proofs.YtcmgclckknpecaaGreatDoor
open Go.RowKit Go.Shelf
def ren197:Ren:=⟨fun | 197=>348 | 260=>386 | n=>n,fun | 105=>464 | 119=>508 | 46=>344 | 139=>511 | 138=>510 | n=>n,fun | 3=>5 | 4=>6 | n=>n⟩
theorem lays197:Lays.n197 Tryz.prog ren197 :=
 {mixed:=by kernel_rfl,
  f197:=by kernel_rfl,
  f260:=by kernel_rfl,
  t0:=by kernel_rfl,
  a0:=fun _=>by kernel_rfl,
  z0:=fun _=>by kernel_rfl,
  v0:=fun _=>by kernel_rfl,
  t3:=by kernel_rfl,
  a3:=fun _=>by kernel_rfl,
  z3:=fun _=>by kernel_rfl,
  v3:=fun _=>by kernel_rfl,
  t4:=by kernel_rfl,
  a4:=fun _=>by kernel_rfl,
  z4:=fun _=>by kernel_rfl,
  v4:=fun _=>by kernel_rfl,
  t5:=by kernel_rfl,
  a5:=fun _=>by kernel_rfl,
  z5:=fun _=>by kernel_rfl,
  v5:=fun _=>by kernel_rfl,
  t9:=by kernel_rfl,
  a9:=fun _=>by kernel_rfl,
  z9:=fun _=>by kernel_rfl,
  v9:=fun _=>by kernel_rfl,
  t21:=by kernel_rfl,
  a21:=fun _=>by kernel_rfl,
  z21:=fun _=>by kernel_rfl,
  v21:=fun _=>by kernel_rfl,
  t46:=by kernel_rfl,
  a46:=fun _=>by kernel_rfl,
  z46:=fun _=>by kernel_rfl,
  v46:=fun _=>by kernel_rfl,
  t105:=by kernel_rfl,
  a105:=fun _=>by kernel_rfl,
  z105:=fun _=>by kernel_rfl,
  v105:=fun _=>by kernel_rfl,
  t119:=by kernel_rfl,
  a119:=fun _=>by kernel_rfl,
  z119:=fun _=>by kernel_rfl,
  t138:=by kernel_rfl,
  a138:=fun _=>by kernel_rfl,
  z138:=fun _=>by kernel_rfl,
  v138:=fun _=>by kernel_rfl,
  t139:=by kernel_rfl,
  a139:=fun _=>by kernel_rfl,
  z139:=fun _=>by kernel_rfl,
  v139:=fun _=>by kernel_rfl,
  g3:=by kernel_rfl,
  g4:=by kernel_rfl }
theorem dec_any (s:ByteArray) (w:World) (hU:Lib.Utf8Tabs 5 6 w):Calls Tryz.prog 348 #[.string s] w fun e w'=>e=.returned (.tuple #[.int .i32 (Lib.decodeGo s).1,.int .i64 (Lib.decodeGo s).2])∧Below w.heap.size w w' :=
 Any.utf8_DecodeRuneInString lays197 s w hU
theorem esc_len (k:Nat):(Pl.esc k).length≤10:=by
 unfold Pl.esc
 repeat' split
 all_goals simp [Lib.hexDigits]
def Pl.qst (s:ByteArray):List Int :=
 if (Utf8.decode s 0).2=1∧(Utf8.decode s 0).1=65533 then [92,120,Lib.hexDigit ((s.get! 0).toNat / 16),Lib.hexDigit ((s.get! 0).toNat % 16)] else Pl.esc (Utf8.decode s 0).1
def Pl.qfr:Nat→ByteArray→List Int
 | 0,_=>[]
 | f+1,s=>if s.size=0 then [] else Pl.qst s++Pl.qfr f (s.extract (Utf8.decode s 0).2 s.size)
def Pl.quo (s:ByteArray):List Int:=34 :: Pl.qfr s.size s++[34]
theorem qst_len (s:ByteArray):(Pl.qst s).length≤10:=by
 unfold Pl.qst
 split
 ·simp
 ·exact esc_len _
theorem qfr_step (f:Nat) (s:ByteArray) (h0:0<s.size) (hf:s.size≤f):Pl.qfr f s=Pl.qst s++Pl.qfr (f - 1) (s.extract (Utf8.decode s 0).2 s.size):=by
 cases f with
 | zero=>omega
 | succ f=>simp only [Pl.qfr,if_neg (show ¬ s.size=0 by omega),Nat.add_sub_cancel]
theorem qfr_end (f:Nat) (s:ByteArray) (h0:¬ 0<s.size):Pl.qfr f s=[]:=by
 cases f with
 | zero=>rfl
 | succ f=>simp only [Pl.qfr,if_pos (show s.size=0 by omega)]
theorem qst_bad (s:ByteArray) (h0:0<s.size) (hK:1=(Utf8.decode s 0).2) (hR:65533=(Utf8.decode s 0).1):Pl.qst s=[92,120,Lib.hexDigit ((s[0]'h0).toNat / 16),Lib.hexDigit ((s[0]'h0).toNat % 16)]:=by
 have e:s.get! 0=s[0]'h0:=by
  cases s with
  | mk d=>exact getElem!_pos d 0 h0
 simp [Pl.qst,← hK,← hR,e]
theorem qst_good (s:ByteArray) (h:¬ ((Utf8.decode s 0).2=1∧(Utf8.decode s 0).1=65533)):Pl.qst s=Pl.esc (Utf8.decode s 0).1:=by simp only [Pl.qst,if_neg h]
theorem bufBelow {B:Nat} {e:TypeId} {v:Value} {n:Nat} {xs:List Value} {W0 w w':World} (h:Lib.OwnBuf B e v n xs W0 w) (hb:Below w.heap.size w w'):Lib.OwnBuf B e v n xs W0 w' :=
 ⟨h.1.kept (row:=none) ⟨hb.os,hb.tape,hb.output,hb.size,fun k hk _=>hb.block k hk⟩ (by cases hv:v.ownBlock <;> simp),h.2.1.trans ⟨hb.os,hb.tape,hb.output,hb.size,fun k hk=>hb.block k (Nat.lt_of_lt_of_le hk h.2.2)⟩,Nat.le_trans h.2.2 hb.size⟩
end Go.Proofs.YtcmgclckknpecaaGreatDoor
namespace Go.Proofs.YtcmgclckknpecaaGreatDoor
open Go.RowKit Go.Shelf
def ren72:Ren:=⟨fun | 168=>219 | 169=>59 | 240=>116 | 242=>312 | 276=>174 | 278=>367 | n=>n,fun | 37=>164 | 46=>344 | 51=>104 | 70=>163 | 72=>166 | 75=>169 | 80=>78 | 127=>263 | 164=>345 | n=>n,fun n=>n⟩
theorem lays168:Lays.n168 Tryz.prog ren72 :=
 {mixed:=by kernel_rfl,f168:=by kernel_rfl,f240:=by kernel_rfl,f242:=by kernel_rfl,f276:=by kernel_rfl,f278:=by kernel_rfl,
  t0:=by kernel_rfl,a0:=fun _=>by kernel_rfl,z0:=fun _=>by kernel_rfl,v0:=fun _=>by kernel_rfl,
  t3:=by kernel_rfl,a3:=fun _=>by kernel_rfl,z3:=fun _=>by kernel_rfl,v3:=fun _=>by kernel_rfl,
  t4:=by kernel_rfl,a4:=fun _=>by kernel_rfl,z4:=fun _=>by kernel_rfl,v4:=fun _=>by kernel_rfl,
  t5:=by kernel_rfl,a5:=fun _=>by kernel_rfl,z5:=fun _=>by kernel_rfl,v5:=fun _=>by kernel_rfl,
  t9:=by kernel_rfl,a9:=fun _=>by kernel_rfl,z9:=fun _=>by kernel_rfl,v9:=fun _=>by kernel_rfl,
  t20:=by kernel_rfl,a20:=fun _=>by kernel_rfl,z20:=fun _=>by kernel_rfl,v20:=fun _=>by kernel_rfl,
  t21:=by kernel_rfl,a21:=fun _=>by kernel_rfl,z21:=fun _=>by kernel_rfl,v21:=fun _=>by kernel_rfl,
  t37:=by kernel_rfl,a37:=fun _=>by kernel_rfl,z37:=fun _=>by kernel_rfl,v37:=fun _=>by kernel_rfl,
  t46:=by kernel_rfl,a46:=fun _=>by kernel_rfl,z46:=fun _=>by kernel_rfl,v46:=fun _=>by kernel_rfl,
  t51:=by kernel_rfl,a51:=fun _=>by kernel_rfl,z51:=fun _=>by kernel_rfl,v51:=fun _=>by kernel_rfl,
  t70:=by kernel_rfl,a70:=fun _=>by kernel_rfl,z70:=fun _=>by kernel_rfl,v70:=fun _=>by kernel_rfl,
  t72:=by kernel_rfl,a72:=fun _=>by kernel_rfl,z72:=fun _=>by kernel_rfl,v72:=fun _=>by kernel_rfl,
  t75:=by kernel_rfl,a75:=fun _=>by kernel_rfl,z75:=fun _=>by kernel_rfl,v75:=fun _=>by kernel_rfl,
  t164:=by kernel_rfl,a164:=fun _=>by kernel_rfl,z164:=fun _=>by kernel_rfl,v164:=fun _=>by kernel_rfl }
theorem lays169:Lays.n169 Tryz.prog ren72 :=
 {mixed:=by kernel_rfl,f169:=by kernel_rfl,
  t0:=by kernel_rfl,a0:=fun _=>by kernel_rfl,z0:=fun _=>by kernel_rfl,v0:=fun _=>by kernel_rfl,
  t3:=by kernel_rfl,a3:=fun _=>by kernel_rfl,z3:=fun _=>by kernel_rfl,v3:=fun _=>by kernel_rfl,
  t9:=by kernel_rfl,a9:=fun _=>by kernel_rfl,z9:=fun _=>by kernel_rfl,v9:=fun _=>by kernel_rfl,
  t37:=by kernel_rfl,a37:=fun _=>by kernel_rfl,z37:=fun _=>by kernel_rfl,v37:=fun _=>by kernel_rfl,
  t70:=by kernel_rfl,a70:=fun _=>by kernel_rfl,z70:=fun _=>by kernel_rfl,v70:=fun _=>by kernel_rfl,
  t72:=by kernel_rfl,a72:=fun _=>by kernel_rfl,z72:=fun _=>by kernel_rfl,v72:=fun _=>by kernel_rfl,
  t127:=by kernel_rfl,a127:=fun _=>by kernel_rfl,z127:=fun _=>by kernel_rfl,v127:=fun _=>by kernel_rfl }
theorem extra72:Builder.Extra Tryz.prog ren72 :=
 {sizeBuilder:=by kernel_rfl,liesBuilder:=by kernel_rfl,t5:=by kernel_rfl,a5:=fun _=>by kernel_rfl,z5:=fun _=>by kernel_rfl,v5:=fun _=>by kernel_rfl,infoByte:=by kernel_rfl,cellsByte:=by kernel_rfl,sizeByte:=by kernel_rfl,neB5:=by decide }
theorem writeRune_any (B b:Nat) (bs:List Value) (r:Int) (hr0:-2147483648≤r) (hr1:r≤2147483647) (w:World) (h:Lib.IsBuilderF 166 5 B b bs w) (hlen:bs.length+4≤140737488355328) (hBw:B≤w.heap.size) :
  Calls Tryz.prog 219 #[.pointer (some ⟨b,0,none⟩),.int .i32 r] w fun e w'=>e=.returned (.tuple #[.int .i64 (Lib.runeCells r).length,.nilIface])∧(Lib.BuilderAtF 166 5 B b (.pointer (some ⟨b,0,none⟩)) (bs++Lib.runeCells r) w'∧Below B w w'∧Lib.OthersKept 5 (some b) w w') :=
 Any.Builder_WriteRune_k lays168 extra72 B b bs r hr0 hr1 w h hlen hBw
theorem string_any (B b:Nat) (l:List UInt8) (w:World) (h:Lib.IsBuilderF 166 5 B b (Lib.byteCells l) w) (hBw:B≤w.heap.size) :
  Calls Tryz.prog 59 #[.pointer (some ⟨b,0,none⟩)] w fun e w'=>e=.returned (.string ⟨l.toArray⟩)∧(Lib.IsBuilderF 166 5 B b (Lib.byteCells l) w'∧Below B w w'∧Lib.OthersKept 5 (some b) w w') :=
 Any.Builder_String_any_k lays169 extra72 B b l w h hBw
end Go.Proofs.YtcmgclckknpecaaGreatDoor
namespace Go.Proofs.YtcmgclckknpecaaGreatDoor
open Go.RowKit Go.Shelf
set_option maxHeartbeats 4000000 in
set_option maxRecDepth 1000000 in
theorem quoted_any (a:Option Addr) (n c:Nat) (xs:List Value) (s:ByteArray) (W0 w:World) (hb:Lib.OwnBuf W0.heap.size 5 (.slice a n c) n xs W0 w) (hroom:n+s.size≤c) (hc:c≤9223372036854775807) (hlen:n+10*s.size+12≤140737488355328)
  (hU:Lib.Utf8Tabs 5 6 W0) :
  Calls Tryz.prog 276 #[.slice a n c,.string s,.int .u8 34,.bool true,.bool false] w fun e w'=>∃ v',e=.returned v'∧Lib.OwnBuf W0.heap.size 5 v' (n+(Pl.quo s).length) (xs++Lib.intCells (Pl.quo s)) W0 w':=by
 obtain ⟨i0,hi,hz0,hz1,hz2⟩:=info5
 have e348:∀ args w,(callFunc 348 args).run Tryz.prog w=.ok (.enter 348 args) w:=enters_of Tryz.func348 (by kernel_rfl) rfl
 have e349:∀ args w,(callFunc 349 args).run Tryz.prog w=.ok (.enter 349 args) w:=enters_of Tryz.func349 (by kernel_rfl) rfl
 obtain ⟨B,hB⟩:∃ B,B=W0.heap.size:=⟨_,rfl⟩
 rw [← hB] at hb ⊢
 have HB:Hid (B=W0.heap.size):=hB
 clear hB
 have hwc:wrap64 ((c:Int) - (n:Int))=(c:Int) - (n:Int):=by unfold wrap64;omega
 have hroom':¬ ((c:Int) - (n:Int)<(s.size:Int)):=by omega
 have HU:Hid (Lib.Utf8Tabs 5 6 W0):=hU
 clear hU
 go_enter Tryz.func276,Tryz.ntmps276
 go_big_wp2_with (at_builtin;first
   | (refine Lib.wpList_append_byte rfl _ _ 164 rfl B 5 i0 u164 hi hz0 hz1 hz2 _ _ _ rfl W0 _ _ (by assumption) rfl (by first | omega | (simp only [Lib.size_two];omega)) ?_;intro _ _ hb)
   | (refine Lib.wpList_append_text rfl _ _ 164 9 rfl B 5 i0 u164 u9s hi hz0 hz1 hz2 _ _ _ rfl W0 (by assumption) _ rfl (by first | omega | (simp only [Lib.size_two];omega)) ?_;intro _ _ hb))
 have Hb0:=hb
 go_loopw [0,1,12,13] (fun vb vs _ _ wr=>∃ (rest:ByteArray) (acc:List Int) (f:Nat),vs=.string rest∧rest.size≤f∧Hid (Lib.OwnBuf B 5 vb (n+1+acc.length) (xs++[.int .u8 34]++Lib.intCells acc) W0 wr)∧Hid (acc++Pl.qfr f rest=Pl.qfr s.size s)∧acc.length+10*rest.size≤10*s.size)
  (fun _ vs _ _ _=>match vs with | .string r=>r.size | _=>0)
 case atStart=>exact ⟨s,[],s.size,rfl,Nat.le_refl _,by simpa [Hid,Lib.intCells] using Hb0,rfl,by simp⟩
 case round =>
  obtain ⟨rest,acc,f,rfl,hf,hbr,hq,hl⟩:=hrel
  have hBel:Below W0.heap.size W0 wr:=by have:=hbr.out.2.1;rwa [HB.out] at this
  by_cases h0:0<rest.size
  ·have h0':(0:Int)<(rest.size:Int):=by omega
   obtain ⟨R,hR⟩:∃ R,R=(Utf8.decode rest 0).1:=⟨_,rfl⟩
   obtain ⟨K,hK⟩:∃ K,K=(Utf8.decode rest 0).2:=⟨_,rfl⟩
   have hK1:1≤K:=by rw [hK];exact Lib.width_pos _ _
   have hK2:K≤rest.size:=by rw [hK];exact Lib.width_le _ h0
   have hRv:(R<55296∨57343<R)∧R≤1114111:=by
    have:=Lib.rune_valid rest
    rw [← hR] at this
    simp only [Lib.validRune,decide_eq_true_eq] at this
    omega
   have cD:Calls Tryz.prog 348 #[.string rest] wr fun e w'=>e=.returned (.tuple #[.int .i32 R,.int .i64 K])∧Below wr.heap.size wr w':=by
    have e:Lib.decodeGo rest=(R,K):=by
     have hne:¬ rest.size=0:=by omega
     rw [hR,hK];simp [Lib.decodeGo,hne]
    have:=dec_any rest wr (Utf8Tabs_below HU.out hBel)
    rwa [e] at this
   have HR:Hid (R=(Utf8.decode rest 0).1):=hR
   have HK:Hid (K=(Utf8.decode rest 0).2):=hK
   clear hR hK
   go_wp2_with fail
   refine cD.mono ?_
   rintro e w1 ⟨rfl,hbl⟩
   have hb1:=bufBelow hbr.out hbl
   have hlenA:n+1+acc.length+10≤140737488355328:=by omega
   have hsz:(rest.extract K rest.size).size=rest.size - K:=Lib.size_rest rest K
   by_cases hbad:K=1∧R=65533
   ·obtain ⟨rfl,rfl⟩:=hbad
    have hx255:=UInt8.toNat_lt (rest[0]'h0)
    have hx16:0≤(((rest[0]'h0).toNat:Nat):Int) / 16∧(((rest[0]'h0).toNat:Nat):Int) / 16<16:=by omega
    have hst:=qst_bad rest h0 HK.out HR.out
    go_big_wp2_with (at_builtin;first
   | (refine Lib.wpList_append_byte rfl _ _ 164 rfl B 5 i0 u164 hi hz0 hz1 hz2 _ _ _ rfl W0 _ _ (by assumption) rfl (by first | omega | (simp only [Lib.size_two];omega)) ?_;intro _ _ hb)
   | (refine Lib.wpList_append_text rfl _ _ 164 9 rfl B 5 i0 u164 u9s hi hz0 hz1 hz2 _ _ _ rfl W0 (by assumption) _ rfl (by first | omega | (simp only [Lib.size_two];omega)) ?_;intro _ _ hb))
    go_roundw
    case rel =>
     refine ⟨_,acc++Pl.qst rest,f - 1,rfl,by omega,?_,?_,?_⟩
     ·rw [hst]
      simpa [Hid,Lib.intCells,Lib.strCells,Lib.size_two,Lib.lowerhex_at,List.append_assoc,Nat.add_assoc] using hb
     ·show acc++Pl.qst rest++Pl.qfr (f - 1) (rest.extract 1 rest.size)=_
      rw [← hq.out,qfr_step f rest h0 hf,← HK.out,List.append_assoc]
     ·have:=qst_len rest
      simp only [List.length_append];omega
    case measure=>simp only [];omega
   ·have hst:Pl.qst rest=Pl.esc R:=by
     rw [HR.out];exact qst_good rest (by rw [← HK.out,← HR.out];exact hbad)
    have cE:Calls Tryz.prog 349 #[u0,.int .i32 R,.int .u8 34,.bool true,.bool false] w1 fun e w'=>∃ v',e=.returned v'∧Lib.OwnBuf B 5 v' (n+1+acc.length+(Pl.esc R).length) (xs++[.int .u8 34]++Lib.intCells acc++Lib.intCells (Pl.esc R)) W0 w' :=
     esc_any B u0 _ _ R R rfl W0 w1 hb1 hlenA hRv.1 hRv.2
    clear hRv
    by_cases hK1e:K=1
    ·subst hK1e
     have hR':¬ (R:Int)=65533:=by omega
     have hR2:((R:Int) == 65533)=false:=by simp;omega
     go_wp2_with fail
     refine cE.mono ?_
     rintro e w2 ⟨v2,rfl,hb2⟩
     go_wp2_with fail
     all_goals (
      go_roundw
      case rel =>
       refine ⟨_,acc++Pl.qst rest,f - 1,rfl,by omega,?_,?_,?_⟩
       ·rw [hst]
        simpa [Hid,Lib.intCells,List.append_assoc,Nat.add_assoc] using hb2
       ·show acc++Pl.qst rest++Pl.qfr (f - 1) (rest.extract 1 rest.size)=_
        rw [← hq.out,qfr_step f rest h0 hf,← HK.out,List.append_assoc]
       ·have:=qst_len rest
        simp only [List.length_append];omega
      case measure=>simp only [];omega)
    ·have hK2':(K:Int)≤(rest.size:Int):=by omega
     have hK1':¬ (K:Int)=1:=by omega
     have hK3:((K:Int) == 1)=false:=by simp;omega
     go_wp2_with fail
     refine cE.mono ?_
     rintro e w2 ⟨v2,rfl,hb2⟩
     go_wp2_with fail
     all_goals (
      go_roundw
      case rel =>
       refine ⟨_,acc++Pl.qst rest,f - 1,rfl,by omega,?_,?_,?_⟩
       ·rw [hst]
        simpa [Hid,Lib.intCells,List.append_assoc,Nat.add_assoc] using hb2
       ·show acc++Pl.qst rest++Pl.qfr (f - 1) (rest.extract K rest.size)=_
        rw [← hq.out,qfr_step f rest h0 hf,← HK.out,List.append_assoc]
       ·have:=qst_len rest
        simp only [List.length_append];omega
      case measure=>simp only [];omega)
  ·have h0':¬ (0:Int)<(rest.size:Int):=by omega
   have hbx:=hbr.out
   have hlenA:n+1+acc.length+10≤140737488355328:=by omega
   go_big_wp2_with (at_builtin;first
   | (refine Lib.wpList_append_byte rfl _ _ 164 rfl B 5 i0 u164 hi hz0 hz1 hz2 _ _ _ rfl W0 _ _ (by assumption) rfl (by first | omega | (simp only [Lib.size_two];omega)) ?_;intro _ _ hb)
   | (refine Lib.wpList_append_text rfl _ _ 164 9 rfl B 5 i0 u164 u9s hi hz0 hz1 hz2 _ _ _ rfl W0 (by assumption) _ rfl (by first | omega | (simp only [Lib.size_two];omega)) ?_;intro _ _ hb))
   go_ret
   refine ⟨_,rfl,?_⟩
   have hqe:Pl.qfr s.size s=acc:=by rw [← hq.out,qfr_end f rest h0];simp
   have hlenq:n+(Pl.quo s).length=n+1+acc.length+1:=by simp [Pl.quo,hqe];omega
   have hcells:xs++Lib.intCells (Pl.quo s)=xs++[.int .u8 34]++Lib.intCells acc++[.int .u8 34]:=by simp [Pl.quo,hqe,Lib.intCells]
   rw [hlenq,hcells]
   exact hb
end Go.Proofs.YtcmgclckknpecaaGreatDoor
