import Derived.Test.YtcmgclckknpecaaGreatDoorKab
import Derived.Test.YtcmgclckknpecaaGreatDoorKad
import Derived.Laws.Closers25b
namespace Go.Proofs.YtcmgclckknpecaaGreatDoor
open Go.RowKit Go.Shelf
structure UqO (s:ByteArray) (e:Ending):Prop where
 ex:∃ (v:Int) (m:Bool) (t:ByteArray) (er:Value),e=.returned (.tuple #[.int .i32 v,.bool m,.string t,er])∧((∃ te pe,er=.iface te pe)∨(er=.nilIface∧t.size<s.size∧-2147483648≤v∧v≤2147483647))
theorem UqO.err (s:ByteArray) (v:Int) (m:Bool) (t:ByteArray) (te:TypeId) (pe:Value):UqO s (.returned (.tuple #[.int .i32 v,.bool m,.string t,.iface te pe])):=⟨⟨v,m,t,_,rfl,.inl ⟨te,pe,rfl⟩⟩⟩
theorem UqO.ok (s:ByteArray) (v:Int) (m:Bool) (t:ByteArray) (h:t.size<s.size) (hv:-2147483648≤v∧v≤2147483647):UqO s (.returned (.tuple #[.int .i32 v,.bool m,.string t,.nilIface])):=⟨⟨v,m,t,_,rfl,.inr ⟨rfl,h,hv⟩⟩⟩
theorem results_four {fn:Func} {t u v x:Tmp} (h:fn.results=#[.tmp t,.tmp u,.tmp v,.tmp x]) (tmps:Array Value) (P:Program) (w:World):(results fn tmps).run P w=.ok (.tuple #[tmps.getD t undef,tmps.getD u undef,tmps.getD v undef,tmps.getD x undef]) w:=by simp [results,h]
set_option maxRecDepth 100000 in
set_option maxHeartbeats 4000000 in
theorem uqc_none (s:ByteArray) (q:Int) (w:World) (hT:Tbr w) (h0:s.size=0):Calls Tryz.prog 398 #[.string s,.int .u8 q] w fun e w'=>UqO s e∧Below w.heap.size w w':=by
 obtain ⟨te,pe,he⟩:=hT.s
 have h1:(s.size:Int)=0:=by omega
 have h2:((s.size:Int) == 0)=true:=by simp [h0]
 go_enter Tryz.func398,Tryz.ntmps398
 go_wp2_with fail
 (try simp only [Exit.inBlock,Exit.then])
 refine bodyPost_ret (results_four rfl _ _ _) rfl ?_
 exact ⟨UqO.err _ _ _ _ _ _,Below.refl _ _⟩
set_option maxRecDepth 100000 in
set_option maxHeartbeats 4000000 in
theorem uqc_plain (s:ByteArray) (q:Nat) (w:World) (h0:0<s.size) (hq:¬ (s[0]'h0).toNat=q) (hb:(s[0]'h0).toNat<128) (hn:¬ (s[0]'h0).toNat=92):Calls Tryz.prog 398 #[.string s,.int .u8 (q:Int)] w fun e w'=>UqO s e∧Below w.heap.size w w':=by
 have h1:(0:Int)<(s.size:Int):=by omega
 have h2:((s.size:Int) == 0)=false:=beq_eq_false_iff_ne.mpr (by omega)
 have h3:(1:Int)≤(s.size:Int):=by omega
 obtain ⟨c,hc⟩:∃ c,c=((s[0]'h0).toNat:Int):=⟨_,rfl⟩
 have b1:(c == (q:Int))=false:=by rw [hc];exact beq_eq_false_iff_ne.mpr (fun h=>hq (Int.ofNat.inj h))
 have b2:c<128:=by omega
 have b3:(c == 92)=false:=by rw [hc];exact beq_eq_false_iff_ne.mpr (by omega)
 have b4:¬ c ≥ 128:=by omega
 have b5:c≠92:=by omega
 have hsz:(s.extract 1 s.size).size<s.size:=by rw [Lib.size_rest];omega
 rw [hc] at b1 b2 b3 b4 b5
 go_enter Tryz.func398,Tryz.ntmps398
 go_wp2_with fail
 go_quiet (fail)
 go_wp2_with fail
 (try simp only [Exit.inBlock,Exit.then])
 refine bodyPost_ret (results_four rfl _ _ _) rfl ?_
 exact ⟨UqO.ok _ _ _ _ hsz (by first | omega | (unfold wrap32;omega)),⟨rfl,rfl,rfl,Nat.le_refl _,fun _ _=>rfl⟩⟩
set_option maxRecDepth 100000 in
set_option maxHeartbeats 4000000 in
theorem uqc_quote (s:ByteArray) (q:Nat) (hq2:q=34∨q=39) (w:World) (hT:Tbr w) (h0:0<s.size) (hq:(s[0]'h0).toNat=q):Calls Tryz.prog 398 #[.string s,.int .u8 (q:Int)] w fun e w'=>UqO s e∧Below w.heap.size w w':=by
 obtain ⟨te,pe,he⟩:=hT.s
 have h1:(0:Int)<(s.size:Int):=by omega
 have h2:((s.size:Int) == 0)=false:=beq_eq_false_iff_ne.mpr (by omega)
 have hc:((s[0]'h0).toNat:Int)=(q:Int):=by omega
 clear hq
 go_enter Tryz.func398,Tryz.ntmps398
 rcases hq2 with rfl | rfl
 all_goals (
  go_wp2_with fail
  (try simp only [Exit.inBlock,Exit.then])
  refine bodyPost_ret (results_four rfl _ _ _) rfl ?_
  exact ⟨UqO.err _ _ _ _ _ _,Below.refl _ _⟩)
set_option maxRecDepth 100000 in
set_option maxHeartbeats 4000000 in
theorem uqc_high (s:ByteArray) (q:Nat) (hq2:q=34∨q=39) (w:World) (hU:Lib.Utf8Tabs 5 6 w) (h0:0<s.size) (hb:¬ (s[0]'h0).toNat<128):Calls Tryz.prog 398 #[.string s,.int .u8 (q:Int)] w fun e w'=>UqO s e∧Below w.heap.size w w':=by
 have h1:(0:Int)<(s.size:Int):=by omega
 have h2:((s.size:Int) == 0)=false:=beq_eq_false_iff_ne.mpr (by omega)
 have b1:(((s[0]'h0).toNat:Int) == (q:Int))=false:=beq_eq_false_iff_ne.mpr (by omega)
 have b2:((s[0]'h0).toNat:Int) ≥ 128:=by omega
 obtain ⟨R,hR⟩:∃ R,R=(Utf8.decode s 0).1:=⟨_,rfl⟩
 obtain ⟨K,hK⟩:∃ K,K=(Utf8.decode s 0).2:=⟨_,rfl⟩
 have hK1:1≤K:=by rw [hK];exact Lib.width_pos _ _
 have hK2:K≤s.size:=by rw [hK];exact Lib.width_le _ h0
 have hK3:(K:Int)≤(s.size:Int):=by omega
 have cD:Calls Tryz.prog 348 #[.string s] w fun e w'=>e=.returned (.tuple #[.int .i32 R,.int .i64 K])∧Below w.heap.size w w':=by
  have e:Lib.decodeGo s=(R,K):=by
   have hne:¬ s.size=0:=by omega
   rw [hR,hK];simp [Lib.decodeGo,hne]
  have:=dec_any s w hU
  rwa [e] at this
 have hsz:(s.extract K s.size).size<s.size:=by rw [Lib.size_rest];omega
 have hRv:-2147483648≤(R:Int)∧(R:Int)≤2147483647:=by
  have:=Lib.rune_valid s
  rw [← hR] at this
  simp only [Lib.validRune,decide_eq_true_eq] at this
  omega
 clear hR hK hU hq2
 go_enter Tryz.func398,Tryz.ntmps398
 go_wp2_with fail
 refine cD.mono ?_
 rintro e w1 ⟨rfl,hb1⟩
 go_wp2_with fail
 go_quiet (fail)
 go_wp2_with fail
 (try simp only [Exit.inBlock,Exit.then])
 refine bodyPost_ret (results_four rfl _ _ _) rfl ?_
 exact ⟨UqO.ok _ _ _ _ hsz hRv,⟨hb1.os,hb1.tape,hb1.output,hb1.size,hb1.block⟩⟩
end Go.Proofs.YtcmgclckknpecaaGreatDoor
namespace Go.Proofs.YtcmgclckknpecaaGreatDoor
open Go.RowKit Go.Shelf
set_option maxRecDepth 100000 in
set_option maxHeartbeats 4000000 in
theorem uqc_short (s:ByteArray) (q:Nat) (hq2:q=34∨q=39) (w:World) (hT:Tbr w) (h0:0<s.size) (h01:s.size≤1) (hc0:(s[0]'h0).toNat=92):Calls Tryz.prog 398 #[.string s,.int .u8 (q:Int)] w fun e w'=>UqO s e∧Below w.heap.size w w':=by
 obtain ⟨te,pe,he⟩:=hT.s
 have h1:(0:Int)<(s.size:Int):=by omega
 have h2:((s.size:Int) == 0)=false:=beq_eq_false_iff_ne.mpr (by omega)
 have h3:(s.size:Int)≤1:=by omega
 have hc:((s[0]'h0).toNat:Int)=92:=by omega
 clear hc0
 go_enter Tryz.func398,Tryz.ntmps398
 rcases hq2 with rfl | rfl
 all_goals (
  go_wp2_with fail
  (try simp only [Exit.inBlock,Exit.then])
  refine bodyPost_ret (results_four rfl _ _ _) rfl ?_
  exact ⟨UqO.err _ _ _ _ _ _,Below.refl _ _⟩)
set_option maxRecDepth 100000 in
set_option maxHeartbeats 8000000 in
theorem uqc_named (s:ByteArray) (q:Nat) (hq2:q=34∨q=39) (w:World) (h0:2≤s.size) (hc0:(s[0]'(by omega)).toNat=92) (k:Nat) (hc1:(s[1]'(by omega)).toNat=k) (hk:k=97∨k=98∨k=102∨k=110∨k=114∨k=116∨k=118∨k=92):Calls Tryz.prog 398 #[.string s,.int .u8 (q:Int)] w fun e w'=>UqO s e∧Below w.heap.size w w':=by
 have h1:(0:Int)<(s.size:Int):=by omega
 have h2:((s.size:Int) == 0)=false:=beq_eq_false_iff_ne.mpr (by omega)
 have h3:¬ (s.size:Int)≤1:=by omega
 have h4:(1:Int)<(s.size:Int):=by omega
 have h5:(2:Int)≤(s.size:Int):=by omega
 have hc:((s[0]'(by omega)).toNat:Int)=92:=by omega
 have hd:((s[1]'(by omega)).toNat:Int)=(k:Int):=by omega
 have hsz:(s.extract 2 s.size).size<s.size:=by rw [Lib.size_rest];omega
 have b1:((92:Int) == (q:Int))=false:=beq_eq_false_iff_ne.mpr (by omega)
 clear hc0 hc1 hq2
 go_enter Tryz.func398,Tryz.ntmps398
 rcases hk with rfl | rfl | rfl | rfl | rfl | rfl | rfl | rfl
 all_goals (
  go_wp2_with fail
  (try simp only [Exit.inBlock,Exit.then])
  refine bodyPost_ret (results_four rfl _ _ _) rfl ?_
  exact ⟨UqO.ok _ _ _ _ hsz (by first | omega | (unfold wrap32;omega)),Below.refl _ _⟩)
set_option maxRecDepth 100000 in
set_option maxHeartbeats 8000000 in
theorem uqc_mark (s:ByteArray) (q:Nat) (hq2:q=34∨q=39) (w:World) (hT:Tbr w) (h0:2≤s.size) (hc0:(s[0]'(by omega)).toNat=92) (k:Nat) (hc1:(s[1]'(by omega)).toNat=k) (hk:k=34∨k=39):Calls Tryz.prog 398 #[.string s,.int .u8 (q:Int)] w fun e w'=>UqO s e∧Below w.heap.size w w':=by
 obtain ⟨te,pe,he⟩:=hT.s
 have h1:(0:Int)<(s.size:Int):=by omega
 have h2:((s.size:Int) == 0)=false:=beq_eq_false_iff_ne.mpr (by omega)
 have h3:¬ (s.size:Int)≤1:=by omega
 have h4:(1:Int)<(s.size:Int):=by omega
 have h5:(2:Int)≤(s.size:Int):=by omega
 have hc:((s[0]'(by omega)).toNat:Int)=92:=by omega
 have hd:((s[1]'(by omega)).toNat:Int)=(k:Int):=by omega
 have hsz:(s.extract 2 s.size).size<s.size:=by rw [Lib.size_rest];omega
 have b1:((92:Int) == (q:Int))=false:=beq_eq_false_iff_ne.mpr (by omega)
 clear hc0 hc1
 go_enter Tryz.func398,Tryz.ntmps398
 rcases hq2 with rfl | rfl <;> rcases hk with rfl | rfl
 all_goals (
  go_wp2_with fail
  (try simp only [Exit.inBlock,Exit.then])
  refine bodyPost_ret (results_four rfl _ _ _) rfl ?_
  first
   | exact ⟨UqO.ok _ _ _ _ hsz (by first | omega | (unfold wrap32;omega)),Below.refl _ _⟩
   | exact ⟨UqO.err _ _ _ _ _ _,Below.refl _ _⟩)
set_option maxRecDepth 100000 in
set_option maxHeartbeats 8000000 in
theorem uqc_other (s:ByteArray) (q:Nat) (hq2:q=34∨q=39) (w:World) (hT:Tbr w) (h0:2≤s.size) (hc0:(s[0]'(by omega)).toNat=92) (k:Nat) (hc1:(s[1]'(by omega)).toNat=k)
  (hk:¬ (k=97∨k=98∨k=102∨k=110∨k=114∨k=116∨k=118∨k=92)) (hm:¬ (k=34∨k=39)) (hx:¬ (k=120∨k=117∨k=85)) (ho:¬ (48≤k∧k≤55)):Calls Tryz.prog 398 #[.string s,.int .u8 (q:Int)] w fun e w'=>UqO s e∧Below w.heap.size w w':=by
 obtain ⟨te,pe,he⟩:=hT.s
 have h1:(0:Int)<(s.size:Int):=by omega
 have h2:((s.size:Int) == 0)=false:=beq_eq_false_iff_ne.mpr (by omega)
 have h3:¬ (s.size:Int)≤1:=by omega
 have h4:(1:Int)<(s.size:Int):=by omega
 have h5:(2:Int)≤(s.size:Int):=by omega
 have hc:((s[0]'(by omega)).toNat:Int)=92:=by omega
 have hd:((s[1]'(by omega)).toNat:Int)=(k:Int):=by omega
 have hsz:(s.extract 2 s.size).size<s.size:=by rw [Lib.size_rest];omega
 have b1:((92:Int) == (q:Int))=false:=beq_eq_false_iff_ne.mpr (by omega)
 have e0:((k:Int) == 97)=false:=beq_eq_false_iff_ne.mpr (by omega)
 have e1:((k:Int) == 98)=false:=beq_eq_false_iff_ne.mpr (by omega)
 have e2:((k:Int) == 102)=false:=beq_eq_false_iff_ne.mpr (by omega)
 have e3:((k:Int) == 110)=false:=beq_eq_false_iff_ne.mpr (by omega)
 have e4:((k:Int) == 114)=false:=beq_eq_false_iff_ne.mpr (by omega)
 have e5:((k:Int) == 116)=false:=beq_eq_false_iff_ne.mpr (by omega)
 have e6:((k:Int) == 118)=false:=beq_eq_false_iff_ne.mpr (by omega)
 have e7:((k:Int) == 120)=false:=beq_eq_false_iff_ne.mpr (by omega)
 have e8:((k:Int) == 117)=false:=beq_eq_false_iff_ne.mpr (by omega)
 have e9:((k:Int) == 85)=false:=beq_eq_false_iff_ne.mpr (by omega)
 have e10:((k:Int) == 48)=false:=beq_eq_false_iff_ne.mpr (by omega)
 have e11:((k:Int) == 49)=false:=beq_eq_false_iff_ne.mpr (by omega)
 have e12:((k:Int) == 50)=false:=beq_eq_false_iff_ne.mpr (by omega)
 have e13:((k:Int) == 51)=false:=beq_eq_false_iff_ne.mpr (by omega)
 have e14:((k:Int) == 52)=false:=beq_eq_false_iff_ne.mpr (by omega)
 have e15:((k:Int) == 53)=false:=beq_eq_false_iff_ne.mpr (by omega)
 have e16:((k:Int) == 54)=false:=beq_eq_false_iff_ne.mpr (by omega)
 have e17:((k:Int) == 55)=false:=beq_eq_false_iff_ne.mpr (by omega)
 have e18:((k:Int) == 92)=false:=beq_eq_false_iff_ne.mpr (by omega)
 have e19:((k:Int) == 39)=false:=beq_eq_false_iff_ne.mpr (by omega)
 have e20:((k:Int) == 34)=false:=beq_eq_false_iff_ne.mpr (by omega)
 clear hc0 hc1 hk hm hx ho hq2
 go_enter Tryz.func398,Tryz.ntmps398
 go_wp2_with fail
 (try simp only [Exit.inBlock,Exit.then])
 refine bodyPost_ret (results_four rfl _ _ _) rfl ?_
 exact ⟨UqO.err _ _ _ _ _ _,Below.refl _ _⟩
end Go.Proofs.YtcmgclckknpecaaGreatDoor
namespace Go.Proofs.YtcmgclckknpecaaGreatDoor
open Go.RowKit Go.Shelf
set_option maxRecDepth 100000 in
set_option maxHeartbeats 8000000 in
theorem uqc_hex (s:ByteArray) (q:Nat) (hq2:q=34∨q=39) (w:World) (hT:Tbr w) (h0:2≤s.size) (hc0:(s[0]'(by omega)).toNat=92) (k n:Nat) (hc1:(s[1]'(by omega)).toNat=k) (hk:(k=120∧n=2)∨(k=117∧n=4)∨(k=85∧n=8)):Calls Tryz.prog 398 #[.string s,.int .u8 (q:Int)] w fun e w'=>UqO s e∧Below w.heap.size w w':=by
 obtain ⟨te,pe,he⟩:=hT.s
 have h1:(0:Int)<(s.size:Int):=by omega
 have h2:((s.size:Int) == 0)=false:=beq_eq_false_iff_ne.mpr (by omega)
 have h3:¬ (s.size:Int)≤1:=by omega
 have h4:(1:Int)<(s.size:Int):=by omega
 have h5:(2:Int)≤(s.size:Int):=by omega
 have hc:((s[0]'(by omega)).toNat:Int)=92:=by omega
 have hd:((s[1]'(by omega)).toNat:Int)=(k:Int):=by omega
 have b1:((92:Int) == (q:Int))=false:=beq_eq_false_iff_ne.mpr (by omega)
 obtain ⟨t,ht⟩:∃ t,t=s.extract 2 s.size:=⟨_,rfl⟩
 have hts:t.size=s.size - 2:=by rw [ht,Lib.size_rest]
 clear hc0 hc1 hq2
 by_cases hn:t.size<n
 ·have hnI:((s.size - 2:Nat):Int)<(n:Int):=by omega
  go_enter Tryz.func398,Tryz.ntmps398
  rcases hk with ⟨rfl,rfl⟩ | ⟨rfl,rfl⟩ | ⟨rfl,rfl⟩
  ·have hnI':((s.size - 2:Nat):Int)<2:=by omega
   clear hnI hn hts
   go_wp2_with fail
   (try simp only [Exit.inBlock,Exit.then])
   refine bodyPost_ret (results_four rfl _ _ _) rfl ?_
   exact ⟨UqO.err _ _ _ _ _ _,Below.refl _ _⟩
  ·have hnI':((s.size - 2:Nat):Int)<4:=by omega
   clear hnI hn hts
   go_wp2_with fail
   (try simp only [Exit.inBlock,Exit.then])
   refine bodyPost_ret (results_four rfl _ _ _) rfl ?_
   exact ⟨UqO.err _ _ _ _ _ _,Below.refl _ _⟩
  ·have hnI':((s.size - 2:Nat):Int)<8:=by omega
   clear hnI hn hts
   go_wp2_with fail
   (try simp only [Exit.inBlock,Exit.then])
   refine bodyPost_ret (results_four rfl _ _ _) rfl ?_
   exact ⟨UqO.err _ _ _ _ _ _,Below.refl _ _⟩
 ·go_enter Tryz.func398,Tryz.ntmps398
  rcases hk with ⟨rfl,rfl⟩ | ⟨rfl,rfl⟩ | ⟨rfl,rfl⟩
  ·have hnI:¬ ((s.size - 2:Nat):Int)<2:=by omega
   have hn1:(2:Int)≤(t.size:Int):=by omega
   have hsz:(t.extract 2 t.size).size<s.size:=by rw [Lib.size_rest];omega
   clear hn
   go_wp2_with fail
   rw [← ht]
   clear hnI ht hts h1 h2 h3 h4 h5 hc hd
   go_loopw [7,13,14] (fun er v j wr=>wr=w∧er=.nilIface∧∃ (x:Int) (q:Nat),v=.int .i32 x∧(-2147483648≤x∧x≤2147483647)∧j=.int .i64 (q:Int)∧q≤2) (fun _ _ j _=>2 - (intOf j).toNat)
   case atStart=>exact ⟨rfl,rfl,0,0,rfl,by omega,rfl,by omega⟩
   case round =>
    obtain ⟨rfl,rfl,x,q,rfl,hxr,rfl,hqN⟩:=hrel
    by_cases hlt:q<2
    ·have hltI:(q:Int)<2:=by omega
     have hlt2:(q:Int)<(t.size:Int):=by omega
     have hb8:=UInt8.toNat_lt (t[q]'(by omega))
     go_wp2_with fail
     refine (unhex_any _ hb8 _).mono ?_
     rintro e w1 ⟨⟨y,b,rfl⟩,rfl⟩
     cases b
     ·go_wp2_with fail
      (try simp only [Exit.inBlock,Exit.then])
      refine bodyPost_ret (results_four rfl _ _ _) rfl ?_
      exact ⟨UqO.err _ _ _ _ _ _,Below.refl _ _⟩
     ·go_wp2_with fail
      go_roundw
      case rel=>exact ⟨trivial,rfl,_,q+1,rfl,⟨bits_lo_i32 _ _ _,bits_hi_i32 _ _ _⟩,by go_num,by omega⟩
      case measure=>simp [intOf];omega
    ·have hltI:¬ (q:Int)<2:=by omega
     go_wp2_with fail
     (try simp only [Exit.inBlock,Exit.then])
     refine bodyPost_ret (results_four rfl _ _ _) rfl ?_
     exact ⟨UqO.ok _ _ _ _ hsz hxr,Below.refl _ _⟩
  ·have hnI:¬ ((s.size - 2:Nat):Int)<4:=by omega
   have hn1:(4:Int)≤(t.size:Int):=by omega
   have hsz:(t.extract 4 t.size).size<s.size:=by rw [Lib.size_rest];omega
   clear hn
   go_wp2_with fail
   rw [← ht]
   clear hnI ht hts h1 h2 h3 h4 h5 hc hd
   go_loopw [7,13,14] (fun er v j wr=>wr=w∧er=.nilIface∧∃ (x:Int) (q:Nat),v=.int .i32 x∧(-2147483648≤x∧x≤2147483647)∧j=.int .i64 (q:Int)∧q≤4) (fun _ _ j _=>4 - (intOf j).toNat)
   case atStart=>exact ⟨rfl,rfl,0,0,rfl,by omega,rfl,by omega⟩
   case round =>
    obtain ⟨rfl,rfl,x,q,rfl,hxr,rfl,hqN⟩:=hrel
    by_cases hlt:q<4
    ·have hltI:(q:Int)<4:=by omega
     have hlt2:(q:Int)<(t.size:Int):=by omega
     have hb8:=UInt8.toNat_lt (t[q]'(by omega))
     go_wp2_with fail
     refine (unhex_any _ hb8 _).mono ?_
     rintro e w1 ⟨⟨y,b,rfl⟩,rfl⟩
     cases b
     ·go_wp2_with fail
      (try simp only [Exit.inBlock,Exit.then])
      refine bodyPost_ret (results_four rfl _ _ _) rfl ?_
      exact ⟨UqO.err _ _ _ _ _ _,Below.refl _ _⟩
     ·go_wp2_with fail
      go_roundw
      case rel=>exact ⟨trivial,rfl,_,q+1,rfl,⟨bits_lo_i32 _ _ _,bits_hi_i32 _ _ _⟩,by go_num,by omega⟩
      case measure=>simp [intOf];omega
    ·have hltI:¬ (q:Int)<4:=by omega
     go_wp2_with fail
     refine (validw_any _ _).mono ?_
     rintro e w1 ⟨⟨b,rfl⟩,rfl⟩
     cases b
     all_goals (
      go_wp2_with fail
      (try simp only [Exit.inBlock,Exit.then])
      refine bodyPost_ret (results_four rfl _ _ _) rfl ?_
      first
       | exact ⟨UqO.ok _ _ _ _ hsz hxr,Below.refl _ _⟩
       | exact ⟨UqO.err _ _ _ _ _ _,Below.refl _ _⟩)
  ·have hnI:¬ ((s.size - 2:Nat):Int)<8:=by omega
   have hn1:(8:Int)≤(t.size:Int):=by omega
   have hsz:(t.extract 8 t.size).size<s.size:=by rw [Lib.size_rest];omega
   clear hn
   go_wp2_with fail
   rw [← ht]
   clear hnI ht hts h1 h2 h3 h4 h5 hc hd
   go_loopw [7,13,14] (fun er v j wr=>wr=w∧er=.nilIface∧∃ (x:Int) (q:Nat),v=.int .i32 x∧(-2147483648≤x∧x≤2147483647)∧j=.int .i64 (q:Int)∧q≤8) (fun _ _ j _=>8 - (intOf j).toNat)
   case atStart=>exact ⟨rfl,rfl,0,0,rfl,by omega,rfl,by omega⟩
   case round =>
    obtain ⟨rfl,rfl,x,q,rfl,hxr,rfl,hqN⟩:=hrel
    by_cases hlt:q<8
    ·have hltI:(q:Int)<8:=by omega
     have hlt2:(q:Int)<(t.size:Int):=by omega
     have hb8:=UInt8.toNat_lt (t[q]'(by omega))
     go_wp2_with fail
     refine (unhex_any _ hb8 _).mono ?_
     rintro e w1 ⟨⟨y,b,rfl⟩,rfl⟩
     cases b
     ·go_wp2_with fail
      (try simp only [Exit.inBlock,Exit.then])
      refine bodyPost_ret (results_four rfl _ _ _) rfl ?_
      exact ⟨UqO.err _ _ _ _ _ _,Below.refl _ _⟩
     ·go_wp2_with fail
      go_roundw
      case rel=>exact ⟨trivial,rfl,_,q+1,rfl,⟨bits_lo_i32 _ _ _,bits_hi_i32 _ _ _⟩,by go_num,by omega⟩
      case measure=>simp [intOf];omega
    ·have hltI:¬ (q:Int)<8:=by omega
     go_wp2_with fail
     refine (validw_any _ _).mono ?_
     rintro e w1 ⟨⟨b,rfl⟩,rfl⟩
     cases b
     all_goals (
      go_wp2_with fail
      (try simp only [Exit.inBlock,Exit.then])
      refine bodyPost_ret (results_four rfl _ _ _) rfl ?_
      first
       | exact ⟨UqO.ok _ _ _ _ hsz hxr,Below.refl _ _⟩
       | exact ⟨UqO.err _ _ _ _ _ _,Below.refl _ _⟩)
end Go.Proofs.YtcmgclckknpecaaGreatDoor
namespace Go.Proofs.YtcmgclckknpecaaGreatDoor
open Go.RowKit Go.Shelf
set_option maxRecDepth 100000 in
set_option maxHeartbeats 8000000 in
theorem uqc_oct48 (s:ByteArray) (q:Nat) (hq2:q=34∨q=39) (w:World) (hT:Tbr w) (h0:2≤s.size) (hc0:(s[0]'(by omega)).toNat=92) (hc1:(s[1]'(by omega)).toNat=48):Calls Tryz.prog 398 #[.string s,.int .u8 (q:Int)] w fun e w'=>UqO s e∧Below w.heap.size w w':=by
 obtain ⟨te,pe,he⟩:=hT.s
 have h1:(0:Int)<(s.size:Int):=by omega
 have h2:((s.size:Int) == 0)=false:=beq_eq_false_iff_ne.mpr (by omega)
 have h3:¬ (s.size:Int)≤1:=by omega
 have h4:(1:Int)<(s.size:Int):=by omega
 have h5:(2:Int)≤(s.size:Int):=by omega
 have hc:((s[0]'(by omega)).toNat:Int)=92:=by omega
 have hd:((s[1]'(by omega)).toNat:Int)=48:=by omega
 have b1:((92:Int) == (q:Int))=false:=beq_eq_false_iff_ne.mpr (by omega)
 obtain ⟨t,ht⟩:∃ t,t=s.extract 2 s.size:=⟨_,rfl⟩
 have hts:t.size=s.size - 2:=by rw [ht,Lib.size_rest]
 clear hc0 hc1 hq2
 by_cases hn:t.size<2
 ·have hnI:((s.size - 2:Nat):Int)<2:=by omega
  clear hn hts
  go_enter Tryz.func398,Tryz.ntmps398
  go_wp2_with fail
  (try simp only [Exit.inBlock,Exit.then])
  refine bodyPost_ret (results_four rfl _ _ _) rfl ?_
  exact ⟨UqO.err _ _ _ _ _ _,Below.refl _ _⟩
 ·have hnI:¬ ((s.size - 2:Nat):Int)<2:=by omega
  have hn1:(2:Int)≤(t.size:Int):=by omega
  have hsz:(t.extract 2 t.size).size<s.size:=by rw [Lib.size_rest];omega
  clear hn hts
  go_enter Tryz.func398,Tryz.ntmps398
  go_wp2_with fail
  rw [← ht]
  clear hnI ht h1 h2 h3 h4 h5 hc hd
  go_loopw [7,17,18] (fun er v j wr=>wr=w∧er=.nilIface∧∃ (x:Int) (q:Nat),v=.int .i32 x∧(-2147483648≤x∧x≤2147483647)∧j=.int .i64 (q:Int)∧q≤2) (fun _ _ j _=>2 - (intOf j).toNat)
  case atStart=>exact ⟨rfl,rfl,_,0,rfl,by omega,rfl,by omega⟩
  case round =>
   obtain ⟨rfl,rfl,x,q,rfl,hxr,rfl,hqN⟩:=hrel
   by_cases hlt:q<2
   ·have hltI:(q:Int)<2:=by omega
    have hlt2:(q:Int)<(t.size:Int):=by omega
    obtain ⟨c,hc⟩:∃ c:Int,((t[q]'(by omega)).toNat:Int)=c:=⟨_,rfl⟩
    have hc8:0≤c∧c<256:=by have:=UInt8.toNat_lt (t[q]'(by omega));omega
    have hw:wrap32 c=c:=by unfold wrap32;omega
    by_cases hlo:c<48
    ·go_wp2_with fail
     (try simp only [Exit.inBlock,Exit.then])
     refine bodyPost_ret (results_four rfl _ _ _) rfl ?_
     exact ⟨UqO.err _ _ _ _ _ _,Below.refl _ _⟩
    ·by_cases hhi:7<c - 48
     ·have hge:48≤c:=by omega
      go_wp2_with fail
      (try simp only [Exit.inBlock,Exit.then])
      refine bodyPost_ret (results_four rfl _ _ _) rfl ?_
      exact ⟨UqO.err _ _ _ _ _ _,Below.refl _ _⟩
     ·have hge:48≤c:=by omega
      have hle:c - 48≤7:=by omega
      have hge0:0≤c - 48:=by omega
      go_wp2_with fail
      go_roundw
      case rel=>exact ⟨trivial,rfl,_,q+1,rfl,⟨bits_lo_i32 _ _ _,bits_hi_i32 _ _ _⟩,by go_num,by omega⟩
      case measure=>simp [intOf];omega
   ·have hltI:¬ (q:Int)<2:=by omega
    go_wp2_with fail
    all_goals (
     (try simp only [Exit.inBlock,Exit.then])
     refine bodyPost_ret (results_four rfl _ _ _) rfl ?_
     first
      | exact ⟨UqO.ok _ _ _ _ hsz hxr,Below.refl _ _⟩
      | exact ⟨UqO.err _ _ _ _ _ _,Below.refl _ _⟩)
set_option maxRecDepth 100000 in
set_option maxHeartbeats 8000000 in
theorem uqc_oct49 (s:ByteArray) (q:Nat) (hq2:q=34∨q=39) (w:World) (hT:Tbr w) (h0:2≤s.size) (hc0:(s[0]'(by omega)).toNat=92) (hc1:(s[1]'(by omega)).toNat=49):Calls Tryz.prog 398 #[.string s,.int .u8 (q:Int)] w fun e w'=>UqO s e∧Below w.heap.size w w':=by
 obtain ⟨te,pe,he⟩:=hT.s
 have h1:(0:Int)<(s.size:Int):=by omega
 have h2:((s.size:Int) == 0)=false:=beq_eq_false_iff_ne.mpr (by omega)
 have h3:¬ (s.size:Int)≤1:=by omega
 have h4:(1:Int)<(s.size:Int):=by omega
 have h5:(2:Int)≤(s.size:Int):=by omega
 have hc:((s[0]'(by omega)).toNat:Int)=92:=by omega
 have hd:((s[1]'(by omega)).toNat:Int)=49:=by omega
 have b1:((92:Int) == (q:Int))=false:=beq_eq_false_iff_ne.mpr (by omega)
 obtain ⟨t,ht⟩:∃ t,t=s.extract 2 s.size:=⟨_,rfl⟩
 have hts:t.size=s.size - 2:=by rw [ht,Lib.size_rest]
 clear hc0 hc1 hq2
 by_cases hn:t.size<2
 ·have hnI:((s.size - 2:Nat):Int)<2:=by omega
  clear hn hts
  go_enter Tryz.func398,Tryz.ntmps398
  go_wp2_with fail
  (try simp only [Exit.inBlock,Exit.then])
  refine bodyPost_ret (results_four rfl _ _ _) rfl ?_
  exact ⟨UqO.err _ _ _ _ _ _,Below.refl _ _⟩
 ·have hnI:¬ ((s.size - 2:Nat):Int)<2:=by omega
  have hn1:(2:Int)≤(t.size:Int):=by omega
  have hsz:(t.extract 2 t.size).size<s.size:=by rw [Lib.size_rest];omega
  clear hn hts
  go_enter Tryz.func398,Tryz.ntmps398
  go_wp2_with fail
  rw [← ht]
  clear hnI ht h1 h2 h3 h4 h5 hc hd
  go_loopw [7,17,18] (fun er v j wr=>wr=w∧er=.nilIface∧∃ (x:Int) (q:Nat),v=.int .i32 x∧(-2147483648≤x∧x≤2147483647)∧j=.int .i64 (q:Int)∧q≤2) (fun _ _ j _=>2 - (intOf j).toNat)
  case atStart=>exact ⟨rfl,rfl,_,0,rfl,by omega,rfl,by omega⟩
  case round =>
   obtain ⟨rfl,rfl,x,q,rfl,hxr,rfl,hqN⟩:=hrel
   by_cases hlt:q<2
   ·have hltI:(q:Int)<2:=by omega
    have hlt2:(q:Int)<(t.size:Int):=by omega
    obtain ⟨c,hc⟩:∃ c:Int,((t[q]'(by omega)).toNat:Int)=c:=⟨_,rfl⟩
    have hc8:0≤c∧c<256:=by have:=UInt8.toNat_lt (t[q]'(by omega));omega
    have hw:wrap32 c=c:=by unfold wrap32;omega
    by_cases hlo:c<48
    ·go_wp2_with fail
     (try simp only [Exit.inBlock,Exit.then])
     refine bodyPost_ret (results_four rfl _ _ _) rfl ?_
     exact ⟨UqO.err _ _ _ _ _ _,Below.refl _ _⟩
    ·by_cases hhi:7<c - 48
     ·have hge:48≤c:=by omega
      go_wp2_with fail
      (try simp only [Exit.inBlock,Exit.then])
      refine bodyPost_ret (results_four rfl _ _ _) rfl ?_
      exact ⟨UqO.err _ _ _ _ _ _,Below.refl _ _⟩
     ·have hge:48≤c:=by omega
      have hle:c - 48≤7:=by omega
      have hge0:0≤c - 48:=by omega
      go_wp2_with fail
      go_roundw
      case rel=>exact ⟨trivial,rfl,_,q+1,rfl,⟨bits_lo_i32 _ _ _,bits_hi_i32 _ _ _⟩,by go_num,by omega⟩
      case measure=>simp [intOf];omega
   ·have hltI:¬ (q:Int)<2:=by omega
    go_wp2_with fail
    all_goals (
     (try simp only [Exit.inBlock,Exit.then])
     refine bodyPost_ret (results_four rfl _ _ _) rfl ?_
     first
      | exact ⟨UqO.ok _ _ _ _ hsz hxr,Below.refl _ _⟩
      | exact ⟨UqO.err _ _ _ _ _ _,Below.refl _ _⟩)
set_option maxRecDepth 100000 in
set_option maxHeartbeats 8000000 in
theorem uqc_oct50 (s:ByteArray) (q:Nat) (hq2:q=34∨q=39) (w:World) (hT:Tbr w) (h0:2≤s.size) (hc0:(s[0]'(by omega)).toNat=92) (hc1:(s[1]'(by omega)).toNat=50):Calls Tryz.prog 398 #[.string s,.int .u8 (q:Int)] w fun e w'=>UqO s e∧Below w.heap.size w w':=by
 obtain ⟨te,pe,he⟩:=hT.s
 have h1:(0:Int)<(s.size:Int):=by omega
 have h2:((s.size:Int) == 0)=false:=beq_eq_false_iff_ne.mpr (by omega)
 have h3:¬ (s.size:Int)≤1:=by omega
 have h4:(1:Int)<(s.size:Int):=by omega
 have h5:(2:Int)≤(s.size:Int):=by omega
 have hc:((s[0]'(by omega)).toNat:Int)=92:=by omega
 have hd:((s[1]'(by omega)).toNat:Int)=50:=by omega
 have b1:((92:Int) == (q:Int))=false:=beq_eq_false_iff_ne.mpr (by omega)
 obtain ⟨t,ht⟩:∃ t,t=s.extract 2 s.size:=⟨_,rfl⟩
 have hts:t.size=s.size - 2:=by rw [ht,Lib.size_rest]
 clear hc0 hc1 hq2
 by_cases hn:t.size<2
 ·have hnI:((s.size - 2:Nat):Int)<2:=by omega
  clear hn hts
  go_enter Tryz.func398,Tryz.ntmps398
  go_wp2_with fail
  (try simp only [Exit.inBlock,Exit.then])
  refine bodyPost_ret (results_four rfl _ _ _) rfl ?_
  exact ⟨UqO.err _ _ _ _ _ _,Below.refl _ _⟩
 ·have hnI:¬ ((s.size - 2:Nat):Int)<2:=by omega
  have hn1:(2:Int)≤(t.size:Int):=by omega
  have hsz:(t.extract 2 t.size).size<s.size:=by rw [Lib.size_rest];omega
  clear hn hts
  go_enter Tryz.func398,Tryz.ntmps398
  go_wp2_with fail
  rw [← ht]
  clear hnI ht h1 h2 h3 h4 h5 hc hd
  go_loopw [7,17,18] (fun er v j wr=>wr=w∧er=.nilIface∧∃ (x:Int) (q:Nat),v=.int .i32 x∧(-2147483648≤x∧x≤2147483647)∧j=.int .i64 (q:Int)∧q≤2) (fun _ _ j _=>2 - (intOf j).toNat)
  case atStart=>exact ⟨rfl,rfl,_,0,rfl,by omega,rfl,by omega⟩
  case round =>
   obtain ⟨rfl,rfl,x,q,rfl,hxr,rfl,hqN⟩:=hrel
   by_cases hlt:q<2
   ·have hltI:(q:Int)<2:=by omega
    have hlt2:(q:Int)<(t.size:Int):=by omega
    obtain ⟨c,hc⟩:∃ c:Int,((t[q]'(by omega)).toNat:Int)=c:=⟨_,rfl⟩
    have hc8:0≤c∧c<256:=by have:=UInt8.toNat_lt (t[q]'(by omega));omega
    have hw:wrap32 c=c:=by unfold wrap32;omega
    by_cases hlo:c<48
    ·go_wp2_with fail
     (try simp only [Exit.inBlock,Exit.then])
     refine bodyPost_ret (results_four rfl _ _ _) rfl ?_
     exact ⟨UqO.err _ _ _ _ _ _,Below.refl _ _⟩
    ·by_cases hhi:7<c - 48
     ·have hge:48≤c:=by omega
      go_wp2_with fail
      (try simp only [Exit.inBlock,Exit.then])
      refine bodyPost_ret (results_four rfl _ _ _) rfl ?_
      exact ⟨UqO.err _ _ _ _ _ _,Below.refl _ _⟩
     ·have hge:48≤c:=by omega
      have hle:c - 48≤7:=by omega
      have hge0:0≤c - 48:=by omega
      go_wp2_with fail
      go_roundw
      case rel=>exact ⟨trivial,rfl,_,q+1,rfl,⟨bits_lo_i32 _ _ _,bits_hi_i32 _ _ _⟩,by go_num,by omega⟩
      case measure=>simp [intOf];omega
   ·have hltI:¬ (q:Int)<2:=by omega
    go_wp2_with fail
    all_goals (
     (try simp only [Exit.inBlock,Exit.then])
     refine bodyPost_ret (results_four rfl _ _ _) rfl ?_
     first
      | exact ⟨UqO.ok _ _ _ _ hsz hxr,Below.refl _ _⟩
      | exact ⟨UqO.err _ _ _ _ _ _,Below.refl _ _⟩)
set_option maxRecDepth 100000 in
set_option maxHeartbeats 8000000 in
theorem uqc_oct51 (s:ByteArray) (q:Nat) (hq2:q=34∨q=39) (w:World) (hT:Tbr w) (h0:2≤s.size) (hc0:(s[0]'(by omega)).toNat=92) (hc1:(s[1]'(by omega)).toNat=51):Calls Tryz.prog 398 #[.string s,.int .u8 (q:Int)] w fun e w'=>UqO s e∧Below w.heap.size w w':=by
 obtain ⟨te,pe,he⟩:=hT.s
 have h1:(0:Int)<(s.size:Int):=by omega
 have h2:((s.size:Int) == 0)=false:=beq_eq_false_iff_ne.mpr (by omega)
 have h3:¬ (s.size:Int)≤1:=by omega
 have h4:(1:Int)<(s.size:Int):=by omega
 have h5:(2:Int)≤(s.size:Int):=by omega
 have hc:((s[0]'(by omega)).toNat:Int)=92:=by omega
 have hd:((s[1]'(by omega)).toNat:Int)=51:=by omega
 have b1:((92:Int) == (q:Int))=false:=beq_eq_false_iff_ne.mpr (by omega)
 obtain ⟨t,ht⟩:∃ t,t=s.extract 2 s.size:=⟨_,rfl⟩
 have hts:t.size=s.size - 2:=by rw [ht,Lib.size_rest]
 clear hc0 hc1 hq2
 by_cases hn:t.size<2
 ·have hnI:((s.size - 2:Nat):Int)<2:=by omega
  clear hn hts
  go_enter Tryz.func398,Tryz.ntmps398
  go_wp2_with fail
  (try simp only [Exit.inBlock,Exit.then])
  refine bodyPost_ret (results_four rfl _ _ _) rfl ?_
  exact ⟨UqO.err _ _ _ _ _ _,Below.refl _ _⟩
 ·have hnI:¬ ((s.size - 2:Nat):Int)<2:=by omega
  have hn1:(2:Int)≤(t.size:Int):=by omega
  have hsz:(t.extract 2 t.size).size<s.size:=by rw [Lib.size_rest];omega
  clear hn hts
  go_enter Tryz.func398,Tryz.ntmps398
  go_wp2_with fail
  rw [← ht]
  clear hnI ht h1 h2 h3 h4 h5 hc hd
  go_loopw [7,17,18] (fun er v j wr=>wr=w∧er=.nilIface∧∃ (x:Int) (q:Nat),v=.int .i32 x∧(-2147483648≤x∧x≤2147483647)∧j=.int .i64 (q:Int)∧q≤2) (fun _ _ j _=>2 - (intOf j).toNat)
  case atStart=>exact ⟨rfl,rfl,_,0,rfl,by omega,rfl,by omega⟩
  case round =>
   obtain ⟨rfl,rfl,x,q,rfl,hxr,rfl,hqN⟩:=hrel
   by_cases hlt:q<2
   ·have hltI:(q:Int)<2:=by omega
    have hlt2:(q:Int)<(t.size:Int):=by omega
    obtain ⟨c,hc⟩:∃ c:Int,((t[q]'(by omega)).toNat:Int)=c:=⟨_,rfl⟩
    have hc8:0≤c∧c<256:=by have:=UInt8.toNat_lt (t[q]'(by omega));omega
    have hw:wrap32 c=c:=by unfold wrap32;omega
    by_cases hlo:c<48
    ·go_wp2_with fail
     (try simp only [Exit.inBlock,Exit.then])
     refine bodyPost_ret (results_four rfl _ _ _) rfl ?_
     exact ⟨UqO.err _ _ _ _ _ _,Below.refl _ _⟩
    ·by_cases hhi:7<c - 48
     ·have hge:48≤c:=by omega
      go_wp2_with fail
      (try simp only [Exit.inBlock,Exit.then])
      refine bodyPost_ret (results_four rfl _ _ _) rfl ?_
      exact ⟨UqO.err _ _ _ _ _ _,Below.refl _ _⟩
     ·have hge:48≤c:=by omega
      have hle:c - 48≤7:=by omega
      have hge0:0≤c - 48:=by omega
      go_wp2_with fail
      go_roundw
      case rel=>exact ⟨trivial,rfl,_,q+1,rfl,⟨bits_lo_i32 _ _ _,bits_hi_i32 _ _ _⟩,by go_num,by omega⟩
      case measure=>simp [intOf];omega
   ·have hltI:¬ (q:Int)<2:=by omega
    go_wp2_with fail
    all_goals (
     (try simp only [Exit.inBlock,Exit.then])
     refine bodyPost_ret (results_four rfl _ _ _) rfl ?_
     first
      | exact ⟨UqO.ok _ _ _ _ hsz hxr,Below.refl _ _⟩
      | exact ⟨UqO.err _ _ _ _ _ _,Below.refl _ _⟩)
end Go.Proofs.YtcmgclckknpecaaGreatDoor
