import Derived.Test.YtcmgclckknpecaaGreatDoorKaf
import Derived.Laws.Closers25b
import Derived.Test.YtcmgclckknpecaaGreatDoorKae
import Derived.Deep.DeepCutAuto
import Derived.Deep.CutBlock
namespace Go.Proofs.YtcmgclckknpecaaGreatDoor
open Go.RowKit Go.Shelf
set_option maxRecDepth 100000 in
set_option maxHeartbeats 8000000 in
theorem uqc_oct52 (s:ByteArray) (q:Nat) (hq2:q=34∨q=39) (w:World) (hT:Tbr w) (h0:2≤s.size) (hc0:(s[0]'(by omega)).toNat=92) (hc1:(s[1]'(by omega)).toNat=52):Calls Tryz.prog 398 #[.string s,.int .u8 (q:Int)] w fun e w'=>UqO s e∧Below w.heap.size w w':=by
 obtain ⟨te,pe,he⟩:=hT.s
 have h1:(0:Int)<(s.size:Int):=by omega
 have h2:((s.size:Int) == 0)=false:=beq_eq_false_iff_ne.mpr (by omega)
 have h3:¬ (s.size:Int)≤1:=by omega
 have h4:(1:Int)<(s.size:Int):=by omega
 have h5:(2:Int)≤(s.size:Int):=by omega
 have hc:((s[0]'(by omega)).toNat:Int)=92:=by omega
 have hd:((s[1]'(by omega)).toNat:Int)=52:=by omega
 have b1:((92:Int) == (q:Int))=false:=beq_eq_false_iff_ne.mpr (by omega)
 obtain ⟨t,ht⟩:∃ t,t=s.extract 2 s.size:=⟨_,rfl⟩
 have hts:t.size=s.size - 2:=by rw [ht,Lib.size_rest]
 clear hc0 hc1 hq2
 by_cases hn:t.size<2
 ·have hnI:((s.size - 2:Nat):Int)<2:=by omega
  clear hn hts
  go_enter Tryz.func398,Tryz.ntmps398
  go_wp2_with fail
  (try simp only [Exit.inBlock,Exit.then])
  refine bodyPost_ret (results_four rfl _ _ _) rfl ?_
  exact ⟨UqO.err _ _ _ _ _ _,Below.refl _ _⟩
 ·have hnI:¬ ((s.size - 2:Nat):Int)<2:=by omega
  have hn1:(2:Int)≤(t.size:Int):=by omega
  have hsz:(t.extract 2 t.size).size<s.size:=by rw [Lib.size_rest];omega
  clear hn hts
  go_enter Tryz.func398,Tryz.ntmps398
  go_wp2_with fail
  rw [← ht]
  clear hnI ht h1 h2 h3 h4 h5 hc hd
  go_loopw [7,17,18] (fun er v j wr=>wr=w∧er=.nilIface∧∃ (x:Int) (q:Nat),v=.int .i32 x∧(-2147483648≤x∧x≤2147483647)∧j=.int .i64 (q:Int)∧q≤2) (fun _ _ j _=>2 - (intOf j).toNat)
  case atStart=>exact ⟨rfl,rfl,_,0,rfl,by omega,rfl,by omega⟩
  case round =>
   obtain ⟨rfl,rfl,x,q,rfl,hxr,rfl,hqN⟩:=hrel
   by_cases hlt:q<2
   ·have hltI:(q:Int)<2:=by omega
    have hlt2:(q:Int)<(t.size:Int):=by omega
    obtain ⟨c,hc⟩:∃ c:Int,((t[q]'(by omega)).toNat:Int)=c:=⟨_,rfl⟩
    have hc8:0≤c∧c<256:=by have:=UInt8.toNat_lt (t[q]'(by omega));omega
    have hw:wrap32 c=c:=by unfold wrap32;omega
    by_cases hlo:c<48
    ·go_wp2_with fail
     (try simp only [Exit.inBlock,Exit.then])
     refine bodyPost_ret (results_four rfl _ _ _) rfl ?_
     exact ⟨UqO.err _ _ _ _ _ _,Below.refl _ _⟩
    ·by_cases hhi:7<c - 48
     ·have hge:48≤c:=by omega
      go_wp2_with fail
      (try simp only [Exit.inBlock,Exit.then])
      refine bodyPost_ret (results_four rfl _ _ _) rfl ?_
      exact ⟨UqO.err _ _ _ _ _ _,Below.refl _ _⟩
     ·have hge:48≤c:=by omega
      have hle:c - 48≤7:=by omega
      have hge0:0≤c - 48:=by omega
      go_wp2_with fail
      go_roundw
      case rel=>exact ⟨trivial,rfl,_,q+1,rfl,⟨bits_lo_i32 _ _ _,bits_hi_i32 _ _ _⟩,by go_num,by omega⟩
      case measure=>simp [intOf];omega
   ·have hltI:¬ (q:Int)<2:=by omega
    go_wp2_with fail
    all_goals (
     (try simp only [Exit.inBlock,Exit.then])
     refine bodyPost_ret (results_four rfl _ _ _) rfl ?_
     first
      | exact ⟨UqO.ok _ _ _ _ hsz hxr,Below.refl _ _⟩
      | exact ⟨UqO.err _ _ _ _ _ _,Below.refl _ _⟩)
set_option maxRecDepth 100000 in
set_option maxHeartbeats 8000000 in
theorem uqc_oct53 (s:ByteArray) (q:Nat) (hq2:q=34∨q=39) (w:World) (hT:Tbr w) (h0:2≤s.size) (hc0:(s[0]'(by omega)).toNat=92) (hc1:(s[1]'(by omega)).toNat=53):Calls Tryz.prog 398 #[.string s,.int .u8 (q:Int)] w fun e w'=>UqO s e∧Below w.heap.size w w':=by
 obtain ⟨te,pe,he⟩:=hT.s
 have h1:(0:Int)<(s.size:Int):=by omega
 have h2:((s.size:Int) == 0)=false:=beq_eq_false_iff_ne.mpr (by omega)
 have h3:¬ (s.size:Int)≤1:=by omega
 have h4:(1:Int)<(s.size:Int):=by omega
 have h5:(2:Int)≤(s.size:Int):=by omega
 have hc:((s[0]'(by omega)).toNat:Int)=92:=by omega
 have hd:((s[1]'(by omega)).toNat:Int)=53:=by omega
 have b1:((92:Int) == (q:Int))=false:=beq_eq_false_iff_ne.mpr (by omega)
 obtain ⟨t,ht⟩:∃ t,t=s.extract 2 s.size:=⟨_,rfl⟩
 have hts:t.size=s.size - 2:=by rw [ht,Lib.size_rest]
 clear hc0 hc1 hq2
 by_cases hn:t.size<2
 ·have hnI:((s.size - 2:Nat):Int)<2:=by omega
  clear hn hts
  go_enter Tryz.func398,Tryz.ntmps398
  go_wp2_with fail
  (try simp only [Exit.inBlock,Exit.then])
  refine bodyPost_ret (results_four rfl _ _ _) rfl ?_
  exact ⟨UqO.err _ _ _ _ _ _,Below.refl _ _⟩
 ·have hnI:¬ ((s.size - 2:Nat):Int)<2:=by omega
  have hn1:(2:Int)≤(t.size:Int):=by omega
  have hsz:(t.extract 2 t.size).size<s.size:=by rw [Lib.size_rest];omega
  clear hn hts
  go_enter Tryz.func398,Tryz.ntmps398
  go_wp2_with fail
  rw [← ht]
  clear hnI ht h1 h2 h3 h4 h5 hc hd
  go_loopw [7,17,18] (fun er v j wr=>wr=w∧er=.nilIface∧∃ (x:Int) (q:Nat),v=.int .i32 x∧(-2147483648≤x∧x≤2147483647)∧j=.int .i64 (q:Int)∧q≤2) (fun _ _ j _=>2 - (intOf j).toNat)
  case atStart=>exact ⟨rfl,rfl,_,0,rfl,by omega,rfl,by omega⟩
  case round =>
   obtain ⟨rfl,rfl,x,q,rfl,hxr,rfl,hqN⟩:=hrel
   by_cases hlt:q<2
   ·have hltI:(q:Int)<2:=by omega
    have hlt2:(q:Int)<(t.size:Int):=by omega
    obtain ⟨c,hc⟩:∃ c:Int,((t[q]'(by omega)).toNat:Int)=c:=⟨_,rfl⟩
    have hc8:0≤c∧c<256:=by have:=UInt8.toNat_lt (t[q]'(by omega));omega
    have hw:wrap32 c=c:=by unfold wrap32;omega
    by_cases hlo:c<48
    ·go_wp2_with fail
     (try simp only [Exit.inBlock,Exit.then])
     refine bodyPost_ret (results_four rfl _ _ _) rfl ?_
     exact ⟨UqO.err _ _ _ _ _ _,Below.refl _ _⟩
    ·by_cases hhi:7<c - 48
     ·have hge:48≤c:=by omega
      go_wp2_with fail
      (try simp only [Exit.inBlock,Exit.then])
      refine bodyPost_ret (results_four rfl _ _ _) rfl ?_
      exact ⟨UqO.err _ _ _ _ _ _,Below.refl _ _⟩
     ·have hge:48≤c:=by omega
      have hle:c - 48≤7:=by omega
      have hge0:0≤c - 48:=by omega
      go_wp2_with fail
      go_roundw
      case rel=>exact ⟨trivial,rfl,_,q+1,rfl,⟨bits_lo_i32 _ _ _,bits_hi_i32 _ _ _⟩,by go_num,by omega⟩
      case measure=>simp [intOf];omega
   ·have hltI:¬ (q:Int)<2:=by omega
    go_wp2_with fail
    all_goals (
     (try simp only [Exit.inBlock,Exit.then])
     refine bodyPost_ret (results_four rfl _ _ _) rfl ?_
     first
      | exact ⟨UqO.ok _ _ _ _ hsz hxr,Below.refl _ _⟩
      | exact ⟨UqO.err _ _ _ _ _ _,Below.refl _ _⟩)
set_option maxRecDepth 100000 in
set_option maxHeartbeats 8000000 in
theorem uqc_oct54 (s:ByteArray) (q:Nat) (hq2:q=34∨q=39) (w:World) (hT:Tbr w) (h0:2≤s.size) (hc0:(s[0]'(by omega)).toNat=92) (hc1:(s[1]'(by omega)).toNat=54):Calls Tryz.prog 398 #[.string s,.int .u8 (q:Int)] w fun e w'=>UqO s e∧Below w.heap.size w w':=by
 obtain ⟨te,pe,he⟩:=hT.s
 have h1:(0:Int)<(s.size:Int):=by omega
 have h2:((s.size:Int) == 0)=false:=beq_eq_false_iff_ne.mpr (by omega)
 have h3:¬ (s.size:Int)≤1:=by omega
 have h4:(1:Int)<(s.size:Int):=by omega
 have h5:(2:Int)≤(s.size:Int):=by omega
 have hc:((s[0]'(by omega)).toNat:Int)=92:=by omega
 have hd:((s[1]'(by omega)).toNat:Int)=54:=by omega
 have b1:((92:Int) == (q:Int))=false:=beq_eq_false_iff_ne.mpr (by omega)
 obtain ⟨t,ht⟩:∃ t,t=s.extract 2 s.size:=⟨_,rfl⟩
 have hts:t.size=s.size - 2:=by rw [ht,Lib.size_rest]
 clear hc0 hc1 hq2
 by_cases hn:t.size<2
 ·have hnI:((s.size - 2:Nat):Int)<2:=by omega
  clear hn hts
  go_enter Tryz.func398,Tryz.ntmps398
  go_wp2_with fail
  (try simp only [Exit.inBlock,Exit.then])
  refine bodyPost_ret (results_four rfl _ _ _) rfl ?_
  exact ⟨UqO.err _ _ _ _ _ _,Below.refl _ _⟩
 ·have hnI:¬ ((s.size - 2:Nat):Int)<2:=by omega
  have hn1:(2:Int)≤(t.size:Int):=by omega
  have hsz:(t.extract 2 t.size).size<s.size:=by rw [Lib.size_rest];omega
  clear hn hts
  go_enter Tryz.func398,Tryz.ntmps398
  go_wp2_with fail
  rw [← ht]
  clear hnI ht h1 h2 h3 h4 h5 hc hd
  go_loopw [7,17,18] (fun er v j wr=>wr=w∧er=.nilIface∧∃ (x:Int) (q:Nat),v=.int .i32 x∧(-2147483648≤x∧x≤2147483647)∧j=.int .i64 (q:Int)∧q≤2) (fun _ _ j _=>2 - (intOf j).toNat)
  case atStart=>exact ⟨rfl,rfl,_,0,rfl,by omega,rfl,by omega⟩
  case round =>
   obtain ⟨rfl,rfl,x,q,rfl,hxr,rfl,hqN⟩:=hrel
   by_cases hlt:q<2
   ·have hltI:(q:Int)<2:=by omega
    have hlt2:(q:Int)<(t.size:Int):=by omega
    obtain ⟨c,hc⟩:∃ c:Int,((t[q]'(by omega)).toNat:Int)=c:=⟨_,rfl⟩
    have hc8:0≤c∧c<256:=by have:=UInt8.toNat_lt (t[q]'(by omega));omega
    have hw:wrap32 c=c:=by unfold wrap32;omega
    by_cases hlo:c<48
    ·go_wp2_with fail
     (try simp only [Exit.inBlock,Exit.then])
     refine bodyPost_ret (results_four rfl _ _ _) rfl ?_
     exact ⟨UqO.err _ _ _ _ _ _,Below.refl _ _⟩
    ·by_cases hhi:7<c - 48
     ·have hge:48≤c:=by omega
      go_wp2_with fail
      (try simp only [Exit.inBlock,Exit.then])
      refine bodyPost_ret (results_four rfl _ _ _) rfl ?_
      exact ⟨UqO.err _ _ _ _ _ _,Below.refl _ _⟩
     ·have hge:48≤c:=by omega
      have hle:c - 48≤7:=by omega
      have hge0:0≤c - 48:=by omega
      go_wp2_with fail
      go_roundw
      case rel=>exact ⟨trivial,rfl,_,q+1,rfl,⟨bits_lo_i32 _ _ _,bits_hi_i32 _ _ _⟩,by go_num,by omega⟩
      case measure=>simp [intOf];omega
   ·have hltI:¬ (q:Int)<2:=by omega
    go_wp2_with fail
    all_goals (
     (try simp only [Exit.inBlock,Exit.then])
     refine bodyPost_ret (results_four rfl _ _ _) rfl ?_
     first
      | exact ⟨UqO.ok _ _ _ _ hsz hxr,Below.refl _ _⟩
      | exact ⟨UqO.err _ _ _ _ _ _,Below.refl _ _⟩)
set_option maxRecDepth 100000 in
set_option maxHeartbeats 8000000 in
theorem uqc_oct55 (s:ByteArray) (q:Nat) (hq2:q=34∨q=39) (w:World) (hT:Tbr w) (h0:2≤s.size) (hc0:(s[0]'(by omega)).toNat=92) (hc1:(s[1]'(by omega)).toNat=55):Calls Tryz.prog 398 #[.string s,.int .u8 (q:Int)] w fun e w'=>UqO s e∧Below w.heap.size w w':=by
 obtain ⟨te,pe,he⟩:=hT.s
 have h1:(0:Int)<(s.size:Int):=by omega
 have h2:((s.size:Int) == 0)=false:=beq_eq_false_iff_ne.mpr (by omega)
 have h3:¬ (s.size:Int)≤1:=by omega
 have h4:(1:Int)<(s.size:Int):=by omega
 have h5:(2:Int)≤(s.size:Int):=by omega
 have hc:((s[0]'(by omega)).toNat:Int)=92:=by omega
 have hd:((s[1]'(by omega)).toNat:Int)=55:=by omega
 have b1:((92:Int) == (q:Int))=false:=beq_eq_false_iff_ne.mpr (by omega)
 obtain ⟨t,ht⟩:∃ t,t=s.extract 2 s.size:=⟨_,rfl⟩
 have hts:t.size=s.size - 2:=by rw [ht,Lib.size_rest]
 clear hc0 hc1 hq2
 by_cases hn:t.size<2
 ·have hnI:((s.size - 2:Nat):Int)<2:=by omega
  clear hn hts
  go_enter Tryz.func398,Tryz.ntmps398
  go_wp2_with fail
  (try simp only [Exit.inBlock,Exit.then])
  refine bodyPost_ret (results_four rfl _ _ _) rfl ?_
  exact ⟨UqO.err _ _ _ _ _ _,Below.refl _ _⟩
 ·have hnI:¬ ((s.size - 2:Nat):Int)<2:=by omega
  have hn1:(2:Int)≤(t.size:Int):=by omega
  have hsz:(t.extract 2 t.size).size<s.size:=by rw [Lib.size_rest];omega
  clear hn hts
  go_enter Tryz.func398,Tryz.ntmps398
  go_wp2_with fail
  rw [← ht]
  clear hnI ht h1 h2 h3 h4 h5 hc hd
  go_loopw [7,17,18] (fun er v j wr=>wr=w∧er=.nilIface∧∃ (x:Int) (q:Nat),v=.int .i32 x∧(-2147483648≤x∧x≤2147483647)∧j=.int .i64 (q:Int)∧q≤2) (fun _ _ j _=>2 - (intOf j).toNat)
  case atStart=>exact ⟨rfl,rfl,_,0,rfl,by omega,rfl,by omega⟩
  case round =>
   obtain ⟨rfl,rfl,x,q,rfl,hxr,rfl,hqN⟩:=hrel
   by_cases hlt:q<2
   ·have hltI:(q:Int)<2:=by omega
    have hlt2:(q:Int)<(t.size:Int):=by omega
    obtain ⟨c,hc⟩:∃ c:Int,((t[q]'(by omega)).toNat:Int)=c:=⟨_,rfl⟩
    have hc8:0≤c∧c<256:=by have:=UInt8.toNat_lt (t[q]'(by omega));omega
    have hw:wrap32 c=c:=by unfold wrap32;omega
    by_cases hlo:c<48
    ·go_wp2_with fail
     (try simp only [Exit.inBlock,Exit.then])
     refine bodyPost_ret (results_four rfl _ _ _) rfl ?_
     exact ⟨UqO.err _ _ _ _ _ _,Below.refl _ _⟩
    ·by_cases hhi:7<c - 48
     ·have hge:48≤c:=by omega
      go_wp2_with fail
      (try simp only [Exit.inBlock,Exit.then])
      refine bodyPost_ret (results_four rfl _ _ _) rfl ?_
      exact ⟨UqO.err _ _ _ _ _ _,Below.refl _ _⟩
     ·have hge:48≤c:=by omega
      have hle:c - 48≤7:=by omega
      have hge0:0≤c - 48:=by omega
      go_wp2_with fail
      go_roundw
      case rel=>exact ⟨trivial,rfl,_,q+1,rfl,⟨bits_lo_i32 _ _ _,bits_hi_i32 _ _ _⟩,by go_num,by omega⟩
      case measure=>simp [intOf];omega
   ·have hltI:¬ (q:Int)<2:=by omega
    go_wp2_with fail
    all_goals (
     (try simp only [Exit.inBlock,Exit.then])
     refine bodyPost_ret (results_four rfl _ _ _) rfl ?_
     first
      | exact ⟨UqO.ok _ _ _ _ hsz hxr,Below.refl _ _⟩
      | exact ⟨UqO.err _ _ _ _ _ _,Below.refl _ _⟩)
end Go.Proofs.YtcmgclckknpecaaGreatDoor
namespace Go.Proofs.YtcmgclckknpecaaGreatDoor
open Go.RowKit Go.Shelf
theorem uqc_any (s:ByteArray) (q:Nat) (hq2:q=34∨q=39) (w:World) (hT:Tbr w) (hU:Lib.Utf8Tabs 5 6 w):Calls Tryz.prog 398 #[.string s,.int .u8 (q:Int)] w fun e w'=>UqO s e∧Below w.heap.size w w':=by
 by_cases h0:s.size=0
 ·exact uqc_none s q w hT h0
 have h0':0<s.size:=by omega
 by_cases hq:(s[0]'h0').toNat=q
 ·exact uqc_quote s q hq2 w hT h0' hq
 by_cases hb':¬ (s[0]'h0').toNat<128
 ·exact uqc_high s q hq2 w hU h0' hb'
 have hb:(s[0]'h0').toNat<128:=by omega
 by_cases hc0':¬ (s[0]'h0').toNat=92
 ·exact uqc_plain s q w h0' hq hb hc0'
 have hc0:(s[0]'h0').toNat=92:=by omega
 by_cases h1:s.size≤1
 ·exact uqc_short s q hq2 w hT h0' h1 hc0
 have h2:2≤s.size:=by omega
 obtain ⟨k,hk⟩:∃ k,(s[1]'(by omega)).toNat=k:=⟨_,rfl⟩
 by_cases hn:k=97∨k=98∨k=102∨k=110∨k=114∨k=116∨k=118∨k=92
 ·exact uqc_named s q hq2 w h2 hc0 k hk hn
 by_cases hm:k=34∨k=39
 ·exact uqc_mark s q hq2 w hT h2 hc0 k hk hm
 by_cases hx:k=120∨k=117∨k=85
 ·rcases hx with rfl | rfl | rfl
  ·exact uqc_hex s q hq2 w hT h2 hc0 _ 2 hk (.inl ⟨rfl,rfl⟩)
  ·exact uqc_hex s q hq2 w hT h2 hc0 _ 4 hk (.inr (.inl ⟨rfl,rfl⟩))
  ·exact uqc_hex s q hq2 w hT h2 hc0 _ 8 hk (.inr (.inr ⟨rfl,rfl⟩))
 by_cases ho:48≤k∧k≤55
 ·have:k=48∨k=49∨k=50∨k=51∨k=52∨k=53∨k=54∨k=55:=by omega
  rcases this with rfl | rfl | rfl | rfl | rfl | rfl | rfl | rfl
  ·exact uqc_oct48 s q hq2 w hT h2 hc0 hk
  ·exact uqc_oct49 s q hq2 w hT h2 hc0 hk
  ·exact uqc_oct50 s q hq2 w hT h2 hc0 hk
  ·exact uqc_oct51 s q hq2 w hT h2 hc0 hk
  ·exact uqc_oct52 s q hq2 w hT h2 hc0 hk
  ·exact uqc_oct53 s q hq2 w hT h2 hc0 hk
  ·exact uqc_oct54 s q hq2 w hT h2 hc0 hk
  ·exact uqc_oct55 s q hq2 w hT h2 hc0 hk
 exact uqc_other s q hq2 w hT h2 hc0 k hk hn hm hx ho
end Go.Proofs.YtcmgclckknpecaaGreatDoor
namespace Go.Proofs.YtcmgclckknpecaaGreatDoor
open Go.RowKit Go.Shelf
theorem cellLt {w:World} {a:Addr} {v:Value} (h:w.cell? a=some v):a.block<w.heap.size:=by
 rcases Nat.lt_or_ge a.block w.heap.size with h' | h'
 ·exact h'
 ·rw [World.cell?,Array.getElem?_eq_none h'] at h
  simp at h
theorem Tbr.below {w w':World} (h:Tbr w) (hb:Below w.heap.size w w'):Tbr w':=by
 obtain ⟨⟨m,h1⟩,⟨t2,p2,h2⟩,⟨t3,p3,h3⟩⟩:=h
 exact ⟨⟨m,(hb.cell (cellLt h1)).trans h1⟩,⟨t2,p2,(hb.cell (cellLt h2)).trans h2⟩,⟨t3,p3,(hb.cell (cellLt h3)).trans h3⟩⟩
theorem ownbuf_below {B:Nat} {v:Value} {n:Nat} {xs:List Value} {W0 w w':World} (h:Lib.OwnBuf B 5 v n xs W0 w) (hb:Below w.heap.size w w'):Lib.OwnBuf B 5 v n xs W0 w':=by
 refine ⟨⟨h.1.1,?_⟩,h.2.1.trans (hb.mono h.2.2),Nat.le_trans h.2.2 hb.size⟩
 rcases h.1.2 with h0 | ⟨g,cap,cur,fz,hv,hg,hc,r⟩
 ·exact .inl h0
 ·exact .inr ⟨g,cap,cur,fz,hv,hg,(hb.block g (Array.getElem?_eq_some_iff.1 hc).1).trans hc,r⟩
theorem ownbuf_rune {B:Nat} {v v':Value} {acc:List Int} {r:Int} {W0 w w':World} {o:Obj} (h:Lib.OwnBuf B 5 v acc.length (Lib.intCells acc) W0 w) (ho:w'.ownsRowF B 5 1 v' (acc.length+(Lib.runeCells r).length) (Lib.intCells acc++Lib.runeCells r)) (hg:(w.alloc o).grownBy w' v.ownBlock):Lib.OwnBuf B 5 v' (acc++Lib.encodeRuneZ r).length (Lib.intCells (acc++Lib.encodeRuneZ r)) W0 w':=by
 have h2:=(h.alloc o).grown ho hg
 have e1:(acc++Lib.encodeRuneZ r).length=acc.length+(Lib.runeCells r).length:=by simp [Lib.runeCells]
 have e2:Lib.intCells (acc++Lib.encodeRuneZ r)=Lib.intCells acc++Lib.runeCells r:=by simp [Lib.intCells,Lib.runeCells]
 rw [e1,e2]
 exact h2
set_option maxRecDepth 100000 in
set_option maxHeartbeats 8000000 in
theorem unq_str34f (s:ByteArray) (hsz:s.size≤1000000000000) (w:World) (hT:Tbr w) (hU:Lib.Utf8Tabs 5 6 w) (h0:2≤s.size) (hc0:(s[0]'(by omega)).toNat=34):Calls Tryz.prog 357 #[.string s,.bool false] w fun e w'=>UnO false s e∧Below w.heap.size w w':=by
 obtain ⟨i0,hi0,hz0,hz1,hz2⟩:=info5
 obtain ⟨te,pe,he⟩:=hT.s
 have h1:¬ (s.size:Int)<2:=by omega
 have h2:(0:Int)<(s.size:Int):=by omega
 have h3:(1:Int)≤(s.size:Int):=by omega
 have hc:((s[0]'(by omega)).toNat:Int)=34:=by omega
 have HT:Hid (Tbr w):=hT
 have HU:Hid (Lib.Utf8Tabs 5 6 w):=hU
 clear hc0 hT hU
 go_enter Tryz.func357,Tryz.ntmps357
 go_wp2_with fail
 refine (sidx_any _ _ _).mono ?_
 rintro e w1 ⟨⟨i,rfl,hi1,hi2,-⟩,rfl⟩
 rw [Lib.size_rest] at hi2
 by_cases hi:i<0
 ·go_wp2_with fail
  go_quiet (fail)
  go_wp2_with fail
  (try simp only [Exit.inBlock,Exit.then])
  refine bodyPost_ret (results_three' rfl _ _ _) rfl ?_
  exact ⟨UnO.err _ _ _ _ _,⟨rfl,rfl,rfl,Nat.le_refl _,fun _ _=>rfl⟩⟩
 ·obtain ⟨k,rfl⟩:∃ k:Nat,i=(k:Int):=⟨i.toNat,by omega⟩
  have hw:wrap64 ((k:Int)+2)=((k+2:Nat):Int):=by unfold wrap64;omega
  have hk1:((k+2:Nat):Int)≤(s.size:Int):=by omega
  have hk0:(0:Int)≤((k+2:Nat):Int):=by omega
  go_upto_region 25 with fail
  go_cut [99] (fun s99 wx=>wx=w1∧∃ b:Bool,s99=.bool b)
  case first =>
   go_wp2_with fail
   refine (scont_any _ _ _).mono ?_
   rintro e w2 ⟨⟨b,rfl,-⟩,rfl⟩
   cases b
   ·go_wp2_with fail
    refine (scont_any _ _ _).mono ?_
    rintro e w2 ⟨⟨b,rfl,-⟩,rfl⟩
    go_wp2_with fail
    go_meet
    case rel=>exact ⟨rfl,_,rfl⟩
   ·go_wp2_with fail
    go_meet
    case rel=>exact ⟨rfl,_,rfl⟩
  case rest =>
   obtain ⟨rfl,b,rfl⟩:=hcut
   obtain ⟨wA,rfl⟩:∃ wA:World,wA=wc:=⟨_,rfl⟩
   go_upto_if 99 with fail
   go_cut [11,12,13] (fun _ _ _ wx=>Below wA.heap.size wA wx)
   case first =>
    cases b
    ·go_wp2_with fail
     go_meet
     case rel=>exact Below.refl _ _
    ·go_wp2_with fail
     refine (validS_any _ (Nat.le_trans (ext_le _ _ _) (by omega)) _ HU.out).mono ?_
     rintro e w2 ⟨⟨v,rfl⟩,hb2⟩
     have HB2:Hid (Below wA.heap.size wA w2):=hb2
     clear hb2
     cases v
     ·go_wp2_with fail
      go_meet
      case rel=>exact HB2.out
     ·go_wp2_with fail
      go_quiet (fail)
      go_wp2_with fail
      (try simp only [Exit.inBlock,Exit.then])
      refine bodyPost_ret (results_three' rfl _ _ _) rfl ?_
      exact ⟨UnO.part _ _ _ _ (by rw [ByteArray.size_extract];omega) (ext_le _ _ _),below_drewN HB2.out _⟩
   case rest =>
    have HB1:Hid (Below wA.heap.size wA wc):=hcut
    clear hcut
    obtain ⟨wD,rfl⟩:∃ wD:World,wD=wc:=⟨_,rfl⟩
    have HTD:Hid (Tbr wD):=HT.out.below HB1.out
    have HUD:Hid (Lib.Utf8Tabs 5 6 wD):=Utf8Tabs_below HU.out HB1.out
    obtain ⟨te,pe,he⟩:=HTD.out.s
    obtain ⟨B,hB⟩:∃ B,B=wA.heap.size:=⟨_,rfl⟩
    have HB:Hid (B=wA.heap.size):=hB
    have HB0:Hid (Lib.OwnBuf B 5 (.slice none 0 0) 0 [] wA wD):=⟨World.ownsRowF_nil _ _ _ _,by rw [hB];exact HB1.out,by rw [hB];exact HB1.out.size⟩
    clear hB HB1 hw hk1 hk0 hc
    go_wp2_with fail
    go_loopw [0,14] (fun v0 v14 wr=>∃ (t:ByteArray) (acc:List Int),v0=.string t∧t.size+1≤s.size∧acc.length+4*t.size≤4*s.size∧Hid (Lib.OwnBuf B 5 v14 acc.length (Lib.intCells acc) wA wr)) (fun v0 _ _=>match v0 with | .string r=>r.size | _=>0)
    case atStart=>exact ⟨_,[],rfl,by rw [Lib.size_rest];omega,by rw [Lib.size_rest];simp;omega,HB0⟩
    case round =>
     obtain ⟨t,acc,rfl,ht,hal,hbr⟩:=hrel
     have HBr:Hid (Below wA.heap.size wA wr):=by have:=hbr.out.2.1;rwa [HB.out] at this
     have HTr:Hid (Tbr wr):=HT.out.below HBr.out
     have HUr:Hid (Lib.Utf8Tabs 5 6 wr):=Utf8Tabs_below HU.out HBr.out
     obtain ⟨te,pe,he⟩:=HTr.out.s
     by_cases h0:t.size=0
     ·have h0I:¬ (0:Int)<(t.size:Int):=by omega
      go_wp2_with fail
      go_quiet (fail)
      go_wp2_with fail
      (try simp only [Exit.inBlock,Exit.then])
      refine bodyPost_ret (results_three' rfl _ _ _) rfl ?_
      exact ⟨UnO.err _ _ _ _ _,below_drewN HBr.out _⟩
     ·have h0I:(0:Int)<(t.size:Int):=by omega
      by_cases hq:(t[0]'(by omega)).toNat=34
      ·have hqI:((t[0]'(by omega)).toNat:Int)=34:=by omega
       have h1I:(1:Int)≤(t.size:Int):=by omega
       clear hq
       go_wp2_with fail
       (try simp only [Exit.inBlock,Exit.then])
       refine bodyPost_ret (results_three' rfl _ _ _) rfl ?_
       exact ⟨UnO.part _ _ _ _ (by rw [ByteArray.size_extract];omega) (ext_le _ _ _),HBr.out⟩
      ·have hqI:(((t[0]'(by omega)).toNat:Int) == 34)=false:=beq_eq_false_iff_ne.mpr (by omega)
       have hqJ:((t[0]'(by omega)).toNat:Int)≠34:=by omega
       clear hq
       go_wp2_with fail
       refine (uqc_any t 34 (.inl rfl) _ HTr.out HUr.out).mono ?_
       rintro e w2 ⟨⟨v,m,r,er,rfl,her⟩,hb2⟩
       have HBs:Hid (Below wA.heap.size wA w2):=HBr.out.trans (hb2.mono HBr.out.size)
       have HTs:Hid (Tbr w2):=HT.out.below HBs.out
       have hbs:Lib.OwnBuf B 5 u14 acc.length (Lib.intCells acc) wA w2:=ownbuf_below hbr.out hb2
       have Hbs:Hid (Lib.OwnBuf B 5 u14 acc.length (Lib.intCells acc) wA w2):=hbs
       obtain ⟨te,pe,he⟩:=HTs.out.s
       clear hbs hbr hb2
       by_cases hn:(t[0]'(by omega)).toNat=10
       ·have hnI:((t[0]'(by omega)).toNat:Int)=10:=by omega
        clear her hn
        go_wp2_with fail
        go_quiet (fail)
        go_wp2_with fail
        (try simp only [Exit.inBlock,Exit.then])
        refine bodyPost_ret (results_three' rfl _ _ _) rfl ?_
        exact ⟨UnO.err _ _ _ _ _,below_drewN HBs.out _⟩
       ·have hnI:(((t[0]'(by omega)).toNat:Int) == 10)=false:=beq_eq_false_iff_ne.mpr (by omega)
        have hnJ:((t[0]'(by omega)).toNat:Int)≠10:=by omega
        clear hn
        rcases her with ⟨t2,p2,rfl⟩ | ⟨rfl,hrs,hv0,hv1⟩
        ·go_wp2_with fail
         go_quiet (fail)
         go_wp2_with fail
         (try simp only [Exit.inBlock,Exit.then])
         refine bodyPost_ret (results_three' rfl _ _ _) rfl ?_
         exact ⟨UnO.err _ _ _ _ _,below_drewN HBs.out _⟩
        ·go_wp2_with fail
         go_roundw
         case rel=>exact ⟨r,acc,rfl,by omega,by omega,Hbs⟩
         case measure=>exact hrs
end Go.Proofs.YtcmgclckknpecaaGreatDoor
