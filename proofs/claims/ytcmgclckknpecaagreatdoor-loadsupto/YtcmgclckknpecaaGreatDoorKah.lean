import Derived.Laws.BitsAllLaws
import Derived.Laws.Bits128
import Derived.Test.YtcmgclckknpecaaGreatDoorKaa
import Derived.Deep.RegionHeld3
import Derived.Deep.AppendLies
import Derived.WalkKit
import Derived.WalkSpells
import Derived.WalkLawsBesides
import Derived.RangeFuncNested
import Derived.RangeFuncBound
import Derived.RangeFuncCalls
import Derived.RangeFuncLeaves
import Derived.RangeFuncBox
import Derived.Shelf.Abstract
import Derived.Shelf.RegionOpen
import Derived.OwnWalkIn
import Derived.TacticsInMore
import Derived.LoopNIn
import Derived.LoopIn
import Derived.Maps.AppendAt
namespace Go.Proofs.YtcmgclckknpecaaGreatDoor
theorem i64_mask (n:Int) (j:Nat) (m:Int) (hj:(BitVec.ofInt 64 m).toNat=2 ^ j - 1) (hk:j≤8):bits .and .i64 n m=n % 2 ^ j:=by
 have key:(BitVec.ofInt 64 n &&& BitVec.ofInt 64 m).toNat=(n % ((2 ^ 64:Nat):Int)).toNat % 2 ^ j:=by
  rw [BitVec.toNat_and,BitVec.toNat_ofInt,hj,Nat.and_two_pow_sub_one_eq_mod]
 show IntKind.i64.wrap ((BitVec.ofInt 64 n &&& BitVec.ofInt 64 m).toNat:Nat)=n % 2 ^ j
 rw [key,IntKind.wrap_i64]
 clear key hj
 obtain rfl | rfl | rfl | rfl | rfl | rfl | rfl | rfl | rfl:j=0∨j=1∨j=2∨j=3∨j=4∨j=5∨j=6∨j=7∨j=8:=by omega
 all_goals omega
theorem i64_and7 (n:Int):bits .and .i64 n 7=n % 8:=i64_mask n 3 7 (by decide) (by decide)
theorem i64_and15 (n:Int):bits .and .i64 n 15=n % 16:=i64_mask n 4 15 (by decide) (by decide)
theorem i64_and31 (n:Int):bits .and .i64 n 31=n % 32:=i64_mask n 5 31 (by decide) (by decide)
theorem i64_and63 (n:Int):bits .and .i64 n 63=n % 64:=i64_mask n 6 63 (by decide) (by decide)
theorem ofInt_i64 (a:Nat) (ha:a<18446744073709551616):(BitVec.ofInt 64 (a:Int)).toNat=a:=by
 rw [BitVec.ofInt_natCast,BitVec.toNat_ofNat];exact Nat.mod_eq_of_lt (by omega)
theorem i64_or64 (x y:Int) (hx:0≤x) (hx':x<1099511627776) (hy:0≤y) (hy':y<64):bits .or .i64 (x*64) y=x*64+y:=by
 obtain ⟨a,rfl⟩:=Int.eq_ofNat_of_zero_le hx
 obtain ⟨b,rfl⟩:=Int.eq_ofNat_of_zero_le hy
 have hj:(a*64) ||| b=a*64+b:=nat_join 6 (a*64) b (by omega) (by omega)
 show IntKind.i64.wrap ((BitVec.ofInt 64 ((a:Int)*64) ||| BitVec.ofInt 64 (b:Int)).toNat:Nat)=_
 rw [show ((a:Int)*64)=((a*64:Nat):Int) by omega,BitVec.toNat_or,ofInt_i64 _ (by omega),ofInt_i64 _ (by omega),hj,IntKind.wrap_i64]
 omega
end Go.Proofs.YtcmgclckknpecaaGreatDoor
namespace Go.Proofs.YtcmgclckknpecaaGreatDoor
open Go.RowKit
theorem ret_int {k:IntKind} {a b:Int} (h:a=b):Ending.returned (.int k a)=.returned (.int k b):=by rw [h]
theorem w64_byte (b:UInt8):wrap64 (b.toNat:Int)=b.toNat:=by
 have:=UInt8.toNat_lt b
 unfold wrap64;omega
set_option maxHeartbeats 400000 in
theorem decode_one (t:ByteArray) (w:World) (hL:t.size=1) :
  Calls Tryz.prog 147 #[.string t] w fun e w'=>e=.returned (.int .i64 (Pl.bt t 0))∧w'=w:=by
 have h1:((t.size:Int) == 1)=true:=by simp [hL]
 have hlt:0<t.size:=by omega
 clear hL
 go_enter Tryz.func147,Tryz.ntmps147
 go_wp2
 go_ret
 refine ⟨?_,rfl⟩
 rw [Pl.bt_eq hlt]
 exact ret_int (w64_byte _)
set_option maxHeartbeats 400000 in
theorem decode_more (t:ByteArray) (w:World) (L:Nat) (h2:t.size=L) (hL2:2≤L) (hL4:L≤4) (hL:Pl.lenOf (Pl.bt t 0)=L) :
  Calls Tryz.prog 147 #[.string t] w fun e w'=>e=.returned (.int .i64 (Pl.codeTo (Pl.bt t) L))∧∃ q,w'=w.drewN q:=by
 have h1:((t.size:Int) == 1)=false:=by simp;omega
 have hlt:0<t.size:=by omega
 have hlt':(0:Int)<t.size:=by omega
 have hb:=UInt8.toNat_lt t[0]
 have hc:Pl.codeTo (Pl.bt t) 1=if L=2 then t[0].toNat % 32 else if L=3 then t[0].toNat % 16 else t[0].toNat % 8:=by
  rw [Pl.codeTo_one,Pl.cd0,hL,Pl.bt_eq hlt]
  repeat' split
  all_goals first | rfl | omega
 have HC:Hid (Pl.codeTo (Pl.bt t) 1=if L=2 then t[0].toNat % 32 else if L=3 then t[0].toNat % 16 else t[0].toNat % 8):=hc
 clear hc hL
 obtain rfl | rfl | rfl:L=2∨L=3∨L=4:=by omega
 all_goals
  go_enter Tryz.func147,Tryz.ntmps147
  go_wp2
  go_quiet (fail)
  go_wp2
  go_loop [3,4] (fun c a=>∃ k:Nat,1≤k∧k≤t.size∧a=.int .i64 k∧c=.int .i64 (Pl.codeTo (Pl.bt t) k)) (fun _ a=>4 - (intOf a).toNat)
  case atStart =>
   refine ⟨1,by omega,by omega,rfl,?_⟩
   go_light
   have hc:=HC.out
   simp at hc
   rw [hc]
   first | rw [i64_and31] | rw [i64_and15] | rw [i64_and7]
   go_num
  case round =>
   obtain ⟨k,hk1,hk2,rfl,rfl⟩:=hrel
   have hle:(Pl.codeTo (Pl.bt t) k:Int)≤67108863:=by have:=Pl.codeTo_le (Pl.bt t) (Pl.bt_lt t 0) (k:=k) (by omega);omega
   by_cases hkl:k<t.size
   ·have hbk:=UInt8.toNat_lt t[k]
    have hs:=Pl.codeTo_succ (Pl.bt t) hk1
    rw [Pl.bt_eq hkl] at hs
    have HS:Hid (Pl.codeTo (Pl.bt t) (k+1)=Pl.codeTo (Pl.bt t) k*64+t[k].toNat % 64):=hs
    clear hs
    go_wp2
    go_round
    case rel =>
     refine ⟨k+1,by omega,by omega,by go_num,?_⟩
     go_light
     rw [HS.out,i64_and63,i64_or64 _ _ (by omega) (by omega) (by omega) (by omega)]
     go_num
    case measure=>simp [intOf];omega
   ·go_wp2
    go_ret
    refine ⟨?_,nq,rfl⟩
    obtain rfl:k=t.size:=by omega
    exact ret_int (by rw [h2])
end Go.Proofs.YtcmgclckknpecaaGreatDoor
namespace Go.Proofs.YtcmgclckknpecaaGreatDoor
open Go.RowKit
theorem taken_good {lo hi:Int} {b k c:Nat} (hlo:lo=Pl.loOf b) (hhi:hi=Pl.hiOf b):Taken lo hi k c=Pl.good b k c:=by
 unfold Taken Pl.good
 subst hlo hhi
 by_cases h:k=1
 ·subst h;simp
 ·have h':¬ (k:Int)=1:=by omega
  rw [if_neg h',if_neg h]
  have e:(128≤(c:Int)∧(c:Int)≤191) ↔ (128≤c∧c≤191):=by omega
  simp only [e]
theorem bt_pre (t:ByteArray) (j i:Nat) (hj:j≤t.size) (hi:i<j):Pl.bt (t.extract 0 j) i=Pl.bt t i:=by
 unfold Pl.bt
 rw [dif_pos (by simp;omega),dif_pos (by omega)]
 simp [ByteArray.getElem_extract]
theorem codeTo_pre {f g:Nat→Nat}:∀ (k:Nat),(∀ i,i<k→f i=g i)→Pl.codeTo f k=Pl.codeTo g k
 | 0,_=>rfl
 | k+1,h=>by
  have e:=codeTo_pre k (fun i hi=>h i (by omega))
  unfold Pl.codeTo
  rw [e,h k (by omega),h 0 (by omega)]
theorem decode_pre (t:ByteArray) (w:World) (j:Nat) (h1:1≤j) (hj:j≤t.size) (hL:Pl.lenOf (Pl.bt t 0)=j) :
  Calls Tryz.prog 147 #[.string (t.extract 0 j)] w fun e w'=>e=.returned (.int .i64 (Pl.codeTo (Pl.bt t) j))∧∃ q,w'=w.drewN q:=by
 have hs:(t.extract 0 j).size=j:=by simp;omega
 have h0:Pl.bt (t.extract 0 j) 0=Pl.bt t 0:=bt_pre t j 0 hj (by omega)
 have h4:=Pl.lenOf_le (Pl.bt t 0)
 rw [← codeTo_pre (f:=Pl.bt (t.extract 0 j)) j (fun i hi=>bt_pre t j i hj hi)]
 by_cases hj1:j=1
 ·subst hj1
  refine (decode_one _ w hs).mono ?_
  rintro e w' ⟨rfl,rfl⟩
  refine ⟨ret_int ?_,0,rfl⟩
  rw [Pl.codeTo_one,Pl.cd0,h0,hL]
  simp
 ·exact decode_more _ w j hs (by omega) (by omega) (by rw [h0,hL])
theorem ret_two {a b c d:Int} (h:a=c) (h':b=d):Ending.returned (.tuple #[.int .i64 a,.int .i64 b])=.returned (.tuple #[.int .i64 c,.int .i64 d]):=by rw [h,h']
set_option maxHeartbeats 1000000 in
theorem first_any (t:ByteArray) (w:World) (h1:1≤t.size) (hm:t.size≤120) :
  Calls Tryz.prog 84 #[.string t] w fun e w'=>e=.returned (.tuple #[.int .i64 (Pl.code (Pl.bt t) t.size),.int .i64 (Pl.size (Pl.bt t) t.size)])∧Below w.heap.size w w':=by
 have hlt:0<t.size:=by omega
 have hb0:=UInt8.toNat_lt t[0]
 go_enter Tryz.func84,Tryz.ntmps84
 go_wp2_with (go_at_call 145;refine (shapeOf_any _ _ (by omega) (by omega)).mono ?_;rintro e w1 ⟨L,lo,hi,rfl,hsh,hb⟩)
 obtain ⟨hL,hlh⟩:=hsh
 rw [Int.toNat_natCast,← Pl.bt_eq hlt] at hL hlh
 obtain ⟨nL,hnL⟩:∃ nL,Pl.lenOf (Pl.bt t 0)=nL:=⟨_,rfl⟩
 have hn4:=Pl.lenOf_le (Pl.bt t 0)
 rw [hnL] at hL hn4
 subst hL
 have HnL:Hid (Pl.lenOf (Pl.bt t 0)=nL):=hnL
 clear hnL
 obtain ⟨W0,hW0⟩:∃ W0,w1.alloc (.cells #[.int .i64 nL,.int .u8 lo,.int .u8 hi] 293)=W0:=⟨_,rfl⟩
 rw [hW0]
 have hs0:w1.heap.size<W0.heap.size:=by rw [← hW0];simp
 have hbW:Below w.heap.size w W0:=by rw [← hW0];exact hb.alloc hb.size _
 have cc:W0.cell? ⟨w1.heap.size,0,none⟩=some (.int .i64 nL)∧W0.cell? ⟨w1.heap.size,1,none⟩=some (.int .u8 lo)∧W0.cell? ⟨w1.heap.size,2,none⟩=some (.int .u8 hi):=by
  rw [← hW0];simp [go_sem]
 clear hW0
 go_loopw [3] (fun k wr=>∃ j:Nat,k=.int .i64 j∧1≤j∧j≤4∧j≤t.size∧Pl.sz (Pl.bt t) t.size (4 - j) j=Pl.size (Pl.bt t) t.size∧Below W0.heap.size W0 wr) (fun k _=>4 - (intOf k).toNat)
 case atStart=>exact ⟨1,rfl,by omega,by omega,by omega,rfl,Below.refl _ _⟩
 case round =>
  obtain ⟨j,rfl,hj1,hj4,hjn,hsz,hB⟩:=hrel
  have HS:Hid (Pl.sz (Pl.bt t) t.size (4 - j) j=Pl.size (Pl.bt t) t.size):=hsz
  clear hsz
  have c0:wr.cell? ⟨w1.heap.size,0,none⟩=some (.int .i64 nL):=(hB.cell (p:=⟨w1.heap.size,0,none⟩) hs0).trans cc.1
  have c1:wr.cell? ⟨w1.heap.size,1,none⟩=some (.int .u8 lo):=(hB.cell (p:=⟨w1.heap.size,1,none⟩) hs0).trans cc.2.1
  have c2:wr.cell? ⟨w1.heap.size,2,none⟩=some (.int .u8 hi):=(hB.cell (p:=⟨w1.heap.size,2,none⟩) hs0).trans cc.2.2
  have hbr:Below w.heap.size w wr:=hbW.trans (hB.mono hbW.size)
  by_cases hk:j<nL
  ·by_cases hjs:j<t.size
   ·have hk':(j:Int)<(nL:Int):=by omega
    have hjs':(j:Int)<(t.size:Int):=by omega
    have n0:=World.new_ne wr _ c0
    have n1:=World.new_ne wr _ c1
    have n2:=World.new_ne wr _ c2
    by_cases hT:Taken lo hi j t[j].toNat=true
    ·go_wp2_with fail
     go_region_held3 (fun w'=>w'.cell? ⟨w1.heap.size,0,none⟩=some (.int .i64 nL)∧w'.cell? ⟨w1.heap.size,1,none⟩=some (.int .u8 lo)∧w'.cell? ⟨w1.heap.size,2,none⟩=some (.int .u8 hi)) (go_keep) ((go_at_call 146;refine (takes_any _ _ _ _ _ _).mono ?_;rintro e w' ⟨rfl,rfl⟩))
     go_wp2
     go_roundw
     case rel =>
      refine ⟨j+1,by go_num,by omega,by omega,by omega,?_,?_⟩
      ·refine Pl.sz_yes hj1 (by rw [HnL.out];exact hk) hjs ?_ HS.out
       rw [← taken_good (hlh (by omega)).1 (hlh (by omega)).2,Pl.bt_eq hjs];exact hT
      ·exact (hB.alloc hB.size _).drew
     case measure=>simp [intOf];omega
    ·have hT':Taken lo hi j t[j].toNat=false:=by simpa using hT
     have he':((j:Int) != (nL:Int))=true:=by simp;omega
     have HSJ:Hid (Pl.size (Pl.bt t) t.size=j):=by
      refine Pl.sz_no ?_ HS.out
      rintro ⟨_,_,hg⟩
      rw [← taken_good (hlh (by omega)).1 (hlh (by omega)).2,Pl.bt_eq hjs] at hg
      exact hT hg
     clear hT
     go_wp2_with fail
     go_region_held3 (fun w'=>w'.cell? ⟨w1.heap.size,0,none⟩=some (.int .i64 nL)∧w'.cell? ⟨w1.heap.size,1,none⟩=some (.int .u8 lo)∧w'.cell? ⟨w1.heap.size,2,none⟩=some (.int .u8 hi)) (go_keep) ((go_at_call 146;refine (takes_any _ _ _ _ _ _).mono ?_;rintro e w' ⟨rfl,rfl⟩))
     go_wp2
     go_ret2
     refine ⟨ret_two ?_ ?_,?_⟩
     ·rw [Pl.code_no (by rw [HSJ.out,HnL.out];omega)];rfl
     ·rw [HSJ.out]
     ·exact (hbr.alloc hbr.size _).drew
   ·have hk':(j:Int)<(nL:Int):=by omega
    have hd:decide ((j:Int)<(t.size:Int))=false:=by simp;omega
    have he':((j:Int) != (nL:Int))=true:=by simp;omega
    have HSJ:Hid (Pl.size (Pl.bt t) t.size=j):=Pl.sz_no (by rintro ⟨_,h,_⟩;exact hjs h) HS.out
    go_wp2_with fail
    go_quiet (fail)
    go_wp2
    go_ret2
    refine ⟨ret_two ?_ ?_,?_⟩
    ·rw [Pl.code_no (by rw [HSJ.out,HnL.out];omega)];rfl
    ·rw [HSJ.out]
    ·exact below_drewN hbr _
  ·have hd:decide ((j:Int)<(nL:Int))=false:=by simp;omega
   have HSJ:Hid (Pl.size (Pl.bt t) t.size=j):=Pl.sz_no (by rintro ⟨h,_⟩;rw [HnL.out] at h;exact hk h) HS.out
   go_wp2_with fail
   go_quiet (fail)
   by_cases he:j=nL
   ·subst he
    have he':((j:Int) != (j:Int))=false:=by simp
    go_wp2_with (go_at_call 147;refine (decode_pre t _ j hj1 hjn HnL.out).mono ?_;rintro e w2 ⟨rfl,q2,rfl⟩)
    go_ret2
    refine ⟨ret_two ?_ ?_,?_⟩
    ·rw [Pl.code_yes (by rw [HSJ.out,HnL.out]),HnL.out]
    ·rw [HSJ.out]
    ·exact below_drewN hbr _
   ·have he':((j:Int) != (nL:Int))=true:=by simp;omega
    go_wp2
    go_ret2
    refine ⟨ret_two ?_ ?_,?_⟩
    ·rw [Pl.code_no (by rw [HSJ.out,HnL.out];omega)];rfl
    ·rw [HSJ.out]
    ·exact below_drewN hbr _
end Go.Proofs.YtcmgclckknpecaaGreatDoor
namespace Go.Proofs.YtcmgclckknpecaaGreatDoor
open Go.RowKit
def enc (x:Nat × Nat × Nat):List Value:=[.int .i64 (x.1:Int),.int .i64 (x.2.1:Int),.int .i64 (x.2.2:Int)]
theorem enc_one (x:Nat × Nat × Nat):∀ u∈enc x,u.oneCell'=true:=by simp [enc,Value.oneCell']
theorem enc_snoc (xs:List (Nat × Nat × Nat)) (x:Nat × Nat × Nat):(xs++[x]).flatMap enc=xs.flatMap enc++enc x:=by simp [List.flatMap_append]
theorem ownsRow_below {A B:World} {base:Nat} {e:TypeId} {size:Nat} {v:Value} {n:Nat} {xs:List Value} (h:A.ownsRow base e size v n xs) (hb:Below A.heap.size A B):B.ownsRow base e size v n xs:=by
 refine ⟨h.1,?_⟩
 rcases h.2 with h | ⟨g,cap,cur,hv,hg,hh,r⟩
 ·exact .inl h
 ·exact .inr ⟨g,cap,cur,hv,hg,(hb.block g (Array.getElem?_eq_some_iff.1 hh).1).trans hh,r⟩
theorem ownBlock_lt {w:World} {base:Nat} {e:TypeId} {size:Nat} {v:Value} {n:Nat} {xs:List Value} (h:w.ownsRow base e size v n xs) {g:Nat} (hg:v.ownBlock=some g):g<w.heap.size∧base≤g:=by
 rcases h.2 with ⟨rfl,_⟩ | ⟨g',cap,cur,rfl,hb,hh,_⟩
 ·simp [Value.ownBlock] at hg
 ·obtain rfl:g'=g:=by simpa [Value.ownBlock] using hg
  exact ⟨(Array.getElem?_eq_some_iff.1 hh).1,hb⟩
end Go.Proofs.YtcmgclckknpecaaGreatDoor
namespace Go.Proofs.YtcmgclckknpecaaGreatDoor
open Go.RowKit Go.Shelf
attribute [local go_sem] Oper.semAt_some
def encs (x:Nat × Nat × Nat):Array Value:=#[.agg #[.int .i64 (x.1:Int),.int .i64 (x.2.1:Int),.int .i64 (x.2.2:Int)]]
theorem grown_below {A B:World} (h:Below A.heap.size A B):A.grownBy B none:=⟨h.os,h.tape,h.output,h.size,fun k hk _=>h.block k hk⟩
set_option maxHeartbeats 400000 in
theorem characters_in (F:Fence) (n:Nat) (h:F.fn 41) (hro:F.round=none) (s:ByteArray) (w:World) :
  CallsIn F n Tryz.prog 41 #[.string s] w fun e w'=>e=.returned (.func (.func 83) #[] #[.pointer (some ⟨w.heap.size,0,none⟩)])∧w'=w.alloc (.cells #[.string s] 9):=by
 refine callsIn_of_wp Tryz.func41 rfl h ?_ hro
 simp only [Tryz.ntmps41,List.size_toArray,List.length_cons,List.length_nil,Nat.reduceAdd,Nat.reduceSub,Array.replicate_succ,Array.replicate_zero,List.push_toArray,List.append_toArray,List.nil_append,List.cons_append]
 gi_wp2
 go_ret
 exact ⟨rfl,rfl⟩
set_option maxRecDepth 100000 in
set_option maxHeartbeats 1000000 in
theorem seq_in (n:Nat) (hn:1≤n) (l Bn n0:Nat) (s:ByteArray) (hm:s.size≤120) (xs:List (Nat × Nat × Nat)) (HXS:Hid (Pl.cs (Pl.bt s) s.size s.size 0=xs)) (J Jx:List (Nat × Nat × Nat)→World→Prop)
  (W:World) (hBn:Bn<n0) (hJ:AbidesFrom W.heap.size J)
  (hY:∀ pre x W,J pre W→pre.length<xs.length→YieldAt Fence.wide (n - 1) Tryz.prog l (encs x) W fun e W' =>
   (e=.returned (.bool true)∧J (pre++[x]) W'∧Below n0 W W')∨(e=.returned (.bool false)∧Jx (pre++[x]) W'))
  (hc:W.cell? ⟨Bn,0,none⟩=some (.string s)) (hn0:n0≤W.heap.size) (h0:J [] W) :
  CallsIn Fence.wide n Tryz.prog 83 #[.func (.yield l) #[] #[],.pointer (some ⟨Bn,0,none⟩)] W fun e W'=>(∃ v,e=.returned v) ∧
   ((∃ ys,ys=xs∧J ys W')∨(∃ pre,pre <+: xs∧Jx pre W')):=by
 refine callsIn_of_wp Tryz.func83 rfl trivial ?_ rfl
 simp only [Tryz.ntmps83,List.size_toArray,List.length_cons,List.length_nil,Nat.reduceAdd,Nat.reduceSub,Array.replicate_succ,Array.replicate_zero,List.push_toArray,List.append_toArray,List.nil_append,List.cons_append]
 gi_wp2
 gi_loopw [3] (fun a wr=>∃ (k m:Nat) (pre:List (Nat × Nat × Nat)),a=.int .i64 k∧k≤s.size∧s.size≤k+m∧Hid (pre++Pl.cs (Pl.bt s) s.size m k=xs)∧wr.cell? ⟨Bn,0,none⟩=some (.string s)∧n0≤wr.heap.size∧J pre wr) (fun a _=>s.size - (intOf a).toNat)
 case atStart=>exact ⟨0,s.size,[],rfl,by omega,by omega,HXS,hc,hn0,h0⟩
 case round =>
  obtain ⟨k,m,pre,rfl,hk,hkm,HX,hcr,hnr,hJr⟩:=hrel
  by_cases hlt:k<s.size
  ·have hlt':(k:Int)<(s.size:Int):=by omega
   obtain ⟨m',hm',hcs⟩:=Pl.cs_cons (g:=Pl.bt s) (m:=m) hlt hkm
   have hsz1:=Pl.size_ge (fun j=>Pl.bt s (k+j)) (s.size - k)
   have hsz2:=Pl.size_le (fun j=>Pl.bt s (k+j)) (s.size - k) (by omega)
   have hes:(s.extract k s.size).size=s.size - k:=by simp
   have hfi:=fun w=>first_any (s.extract k s.size) w (by omega) (by omega)
   have heb:Pl.bt (s.extract k s.size)=fun j=>Pl.bt s (k+j):=funext fun j=>Pl.bt_extract s k j (by omega)
   rw [hes,heb] at hfi
   obtain ⟨cd,hcd⟩:∃ cd,Pl.code (fun j=>Pl.bt s (k+j)) (s.size - k)=cd:=⟨_,rfl⟩
   obtain ⟨sz,hsz⟩:∃ sz,Pl.size (fun j=>Pl.bt s (k+j)) (s.size - k)=sz:=⟨_,rfl⟩
   rw [hcd,hsz] at hcs hfi
   rw [hsz] at hm' hsz1 hsz2
   have HX2:Hid ((pre++[(cd,k,k+sz)])++Pl.cs (Pl.bt s) s.size m' (k+sz)=xs):=by
    have:=HX.out;rw [hcs] at this;show _=_;rw [← this];simp
   have hpl:pre.length<xs.length:=by
    have:=congrArg List.length HX2.out;simp at this;omega
   have HFI:Hid (∀ w,Calls Tryz.prog 84 #[.string (s.extract k s.size)] w fun e w'=>e=.returned (.tuple #[.int .i64 (cd:Int),.int .i64 (sz:Int)])∧Below w.heap.size w w'):=hfi
   clear hfi hcs hcd hsz heb hes HX
   gi_wp2_with fail
   refine ⟨trivial,?_⟩
   refine (callsIn_wide.2 (HFI.out _)).mono ?_
   rintro e w2 ⟨rfl,h2⟩
   have hJ2:J pre w2:=hJ pre wr w2 none hJr (grown_below h2) (fun r e=>by cases e)
   have hc2:w2.cell? ⟨Bn,0,none⟩=some (.string s):=(h2.cell (p:=⟨Bn,0,none⟩) (by show Bn<_;omega)).trans hcr
   have hn2:n0≤w2.heap.size:=by have:=h2.size;omega
   obtain ⟨fn,tmps,assign,body,hy,hR⟩:=hY pre (cd,k,k+sz) w2 hJ2 hpl
   simp only [encs,Int.natCast_add] at hy
   gi_wp2
   refine hR.mono ?_
   rintro e W3 (⟨rfl,hJ3,hk3⟩ | ⟨rfl,hJx3⟩)
   ·have hc3:W3.cell? ⟨Bn,0,none⟩=some (.string s):=(hk3.cell (p:=⟨Bn,0,none⟩) hBn).trans hc2
    gi_wp2
    go_roundw
    case rel=>exact ⟨k+sz,m',pre++[(cd,k,k+sz)],by go_num,by omega,hm',HX2,hc3,by have:=hk3.size;omega,hJ3⟩
    case measure=>simp [intOf];omega
   ·gi_wp2
    refine bodyPost_ret (results_none rfl _ _ _) rfl ?_
    exact ⟨⟨_,rfl⟩,.inr ⟨pre++[(cd,k,k+sz)],⟨_,HX2.out⟩,hJx3⟩⟩
  ·have hx:pre=xs:=by have:=HX.out;rw [Pl.cs_nil hlt] at this;simpa using this
   gi_wp2
   go_end0
   exact ⟨⟨_,rfl⟩,.inl ⟨pre,hx,hJr⟩⟩
end Go.Proofs.YtcmgclckknpecaaGreatDoor
namespace Go.Proofs.YtcmgclckknpecaaGreatDoor
open Go.RowKit Go.Shelf
attribute [local go_sem] Oper.semAt_some
abbrev Pce (n:Nat):={ p:Nat × Nat // 1≤p.2∧p.1+p.2≤n }
def Pl.cutS (n:Nat) (zf:Nat→Nat) (hz:∀ i,i<n→i+zf i≤n):Nat→Nat→List (Pce n)
 | 0,_=>[]
 | m+1,i=>if h:i<n then (if h0:zf i=0 then Pl.cutS n zf hz m (i+1) else ⟨(i,zf i),by simp only;omega,hz i h⟩ :: Pl.cutS n zf hz m (i+zf i)) else []
theorem Pl.cutS_pass {n:Nat} {zf:Nat→Nat} {hz:∀ i,i<n→i+zf i≤n} {m i:Nat} (h:i<n) (hm:n≤i+m) (h0:zf i=0):∃ m',n≤i+1+m'∧Pl.cutS n zf hz m i=Pl.cutS n zf hz m' (i+1):=by
 obtain ⟨m',rfl⟩:∃ m',m=m'+1:=⟨m - 1,by omega⟩
 exact ⟨m',by omega,by rw [Pl.cutS,dif_pos h,dif_pos h0]⟩
theorem Pl.cutS_cons {n:Nat} {zf:Nat→Nat} {hz:∀ i,i<n→i+zf i≤n} {m i:Nat} (h:i<n) (hm:n≤i+m) (h0:zf i≠0):∃ (m':Nat) (x:Pce n),x.1=(i,zf i)∧n≤i+zf i+m'∧Pl.cutS n zf hz m i=x :: Pl.cutS n zf hz m' (i+zf i):=by
 obtain ⟨m',rfl⟩:∃ m',m=m'+1:=⟨m - 1,by omega⟩
 have hp:1≤zf i∧i+zf i≤n:=⟨by omega,hz i h⟩
 exact ⟨m',⟨(i,zf i),hp⟩,rfl,by omega,by rw [Pl.cutS,dif_pos h,dif_neg h0]⟩
theorem Pl.cutS_nil {n:Nat} {zf:Nat→Nat} {hz:∀ i,i<n→i+zf i≤n} {m i:Nat} (h:¬ i<n):Pl.cutS n zf hz m i=[]:=by
 cases m with
 | zero=>rfl
 | succ m=>rw [Pl.cutS,dif_neg h]
theorem Cr.below {g o n0:Nat} {xs:List (Nat × Nat × Nat)} {w w':World} (h:Cr g o xs w) (hb:Below n0 w w') (hg:0<xs.length→g<n0):Cr g o xs w' :=
 ⟨fun i hi=>by
  have hg':=hg (by omega)
  have k:∀ j,w'.cell? ⟨g,j,none⟩=w.cell? ⟨g,j,none⟩:=fun j=>hb.cell (p:=⟨g,j,none⟩) hg'
  rw [k,k,k];exact h.c i hi⟩
structure KeepB (n0 Bc:Nat) (W W':World):Prop where
 size:W.heap.size≤W'.heap.size
 block:∀ k,k<n0∨k=Bc→W'.heap[k]?=W.heap[k]?
theorem KeepB.trans {n0 Bc:Nat} {A B C:World} (h:KeepB n0 Bc A B) (k:KeepB n0 Bc B C):KeepB n0 Bc A C:=⟨Nat.le_trans h.size k.size,fun i hi=>(k.block i hi).trans (h.block i hi)⟩
theorem KeepB.cell {n0 Bc:Nat} {W W':World} (h:KeepB n0 Bc W W') {b:Nat} (hb:b<n0∨b=Bc) (o:Nat):W'.cell? ⟨b,o,none⟩=W.cell? ⟨b,o,none⟩:=by simp [World.cell?,h.block b hb]
theorem keepB_put {n0 Bc:Nat} {w:World} (h1:n0≤w.heap.size) (h2:Bc<w.heap.size) (W:World) (l:Nat) (o o':Obj) (hl:w.heap.size≤l) (_:W.heap[l]?=some o) (_:o.isCells=false) (_:o.isWalk=false):KeepB n0 Bc W (W.putObj l o') :=
 ⟨by simp,fun k hk=>World.putObj_heap_other (by omega)⟩
theorem Cr.keepB {g o n0 Bc:Nat} {xs:List (Nat × Nat × Nat)} {w w':World} (h:Cr g o xs w) (hb:KeepB n0 Bc w w') (hg:0<xs.length→g<n0):Cr g o xs w' :=
 ⟨fun i hi=>by
  have hg':=hg (by omega)
  rw [hb.cell (.inl hg'),hb.cell (.inl hg'),hb.cell (.inl hg')];exact h.c i hi⟩
def encp (g o cap:Nat) {n:Nat} (x:Pce n):Array Value:=#[.slice (some ⟨g,o+x.1.1*3,none⟩) x.1.2 (cap - x.1.1)]
set_option maxRecDepth 100000 in
set_option maxHeartbeats 1000000 in
theorem rows160_in (F0:Nat) (eF:∀ args w,(callFunc F0 args).run Tryz.prog w=.ok (.enter F0 args) w) (n:Nat) (hn:1≤n) (l Bc Bs n0 g o cap:Nat) (cs:List (Nat × Nat × Nat)) (hl:cs.length≤268435456) (hcap:cs.length≤cap) (a:Option Addr) (ha:0<cs.length→a=some ⟨g,o,none⟩) (hg:0<cs.length→g<n0)
  (zf:Nat→Nat) (hz:∀ i,i<cs.length→i+zf i≤cs.length) (HF:Hid (∀ k w,Cr g o cs w→k<cs.length→Calls Tryz.prog F0 #[.slice (some ⟨g,o,none⟩) cs.length cap,.int .i64 (k:Int)] w fun e w'=>e=.returned (.int .i64 ((zf k:Nat):Int))∧w'=w))
  (xs:List (Pce cs.length)) (HXS:Hid (Pl.cutS cs.length zf hz cs.length 0=xs)) (J Jx:List (Pce cs.length)→World→Prop)
  (W:World) (hBs:Bs<n0) (_hJ:AbidesFrom W.heap.size J)
  (hY:∀ pre x W,J pre W→pre.length<xs.length→YieldAt Fence.wide (n - 1) Tryz.prog l (encp g o cap x) W fun e W' =>
   (e=.returned (.bool true)∧J (pre++[x]) W'∧KeepB n0 Bc W W')∨(e=.returned (.bool false)∧Jx (pre++[x]) W'))
  (hc:W.cell? ⟨Bc,0,none⟩=some (.slice a cs.length cap)) (hs:W.cell? ⟨Bs,0,none⟩=some (.func (.func F0) #[] #[])) (hCr:Cr g o cs W) (hn0:n0≤W.heap.size) (h0:J [] W) :
  CallsIn Fence.wide n Tryz.prog 297 #[.func (.yield l) #[] #[],.pointer (some ⟨Bc,0,none⟩),.pointer (some ⟨Bs,0,none⟩)] W fun e W'=>(∃ v,e=.returned v) ∧
   ((∃ ys,ys=xs∧J ys W')∨(∃ pre,pre <+: xs∧Jx pre W')):=by
 refine callsIn_of_wp Tryz.func297 rfl trivial ?_ rfl
 simp only [Tryz.ntmps297,List.size_toArray,List.length_cons,List.length_nil,Nat.reduceAdd,Nat.reduceSub,Array.replicate_succ,Array.replicate_zero,List.push_toArray,List.append_toArray,List.nil_append,List.cons_append]
 gi_wp2
 gi_loopw [4] (fun b wr=>∃ (k m:Nat) (pre:List (Pce cs.length)),b=.int .i64 k∧k≤cs.length∧cs.length≤k+m∧Hid (pre++Pl.cutS cs.length zf hz m k=xs)∧wr.cell? ⟨Bc,0,none⟩=some (.slice a cs.length cap)∧wr.cell? ⟨Bs,0,none⟩=some (.func (.func F0) #[] #[])∧Cr g o cs wr∧n0≤wr.heap.size∧J pre wr) (fun b _=>cs.length - (intOf b).toNat)
 case atStart=>exact ⟨0,cs.length,[],rfl,by omega,by omega,HXS,hc,hs,hCr,hn0,h0⟩
 case round =>
  obtain ⟨k,m,pre,rfl,hk,hkm,HX,hcr,hsr,hCrr,hnr,hJr⟩:=hrel
  by_cases hlt:k<cs.length
  ·have hlt':(k:Int)<(cs.length:Int):=by omega
   obtain rfl:=ha (by omega)
   have hg':=hg (by omega)
   have hzk:=hz k hlt
   have hfk:=fun w h=>HF.out k w h hlt
   by_cases h0k:zf k=0
   ·obtain ⟨m',hm',hcs⟩:=Pl.cutS_pass (hz:=hz) hlt hkm h0k
    have HX2:Hid (pre++Pl.cutS cs.length zf hz m' (k+1)=xs):=by
     have:=HX.out;rw [hcs] at this;exact this
    rw [h0k] at hfk
    have HFI:Hid (∀ w,Cr g o cs w→Calls Tryz.prog F0 #[.slice (some ⟨g,o,none⟩) cs.length cap,.int .i64 (k:Int)] w fun e w'=>e=.returned (.int .i64 ((0:Nat):Int))∧w'=w):=hfk
    clear hfk hcs HX
    gi_wp2_with fail
    refine ⟨trivial,?_⟩
    refine (callsIn_wide.2 (HFI.out _ hCrr)).mono ?_
    rintro e w2 ⟨rfl,rfl⟩
    gi_wp2
    go_roundw
    case rel=>exact ⟨k+1,m',pre,by go_num,by omega,hm',HX2,hcr,hsr,hCrr,hnr,hJr⟩
    case measure=>simp [intOf];omega
   ·obtain ⟨m',x,hx1,hm',hcs⟩:=Pl.cutS_cons (hz:=hz) hlt hkm h0k
    obtain ⟨z,hzz⟩:∃ z,zf k=z:=⟨_,rfl⟩
    rw [hzz] at hfk hzk hm' hcs h0k hx1
    have HX2:Hid ((pre++[x])++Pl.cutS cs.length zf hz m' (k+z)=xs):=by
     have:=HX.out;rw [hcs] at this;show _=_;rw [← this];simp
    have hpl:pre.length<xs.length:=by
     have:=congrArg List.length HX2.out;simp at this;omega
    have HFI:Hid (∀ w,Cr g o cs w→Calls Tryz.prog F0 #[.slice (some ⟨g,o,none⟩) cs.length cap,.int .i64 (k:Int)] w fun e w'=>e=.returned (.int .i64 (z:Int))∧w'=w):=hfk
    have hzq:((z:Int) == 0)=false:=by simp;omega
    obtain ⟨fn,tmps,assign,body,hy,hR⟩:=hY pre x wr hJr hpl
    simp only [encp,hx1] at hy
    clear hfk hcs HX hx1 hzz
    gi_wp2_with fail
    refine ⟨trivial,?_⟩
    refine (callsIn_wide.2 (HFI.out _ hCrr)).mono ?_
    rintro e w2 ⟨rfl,rfl⟩
    gi_wp2
    refine hR.mono ?_
    rintro e W3 (⟨rfl,hJ3,hk3⟩ | ⟨rfl,hJx3⟩)
    ·have hc3:W3.cell? ⟨Bc,0,none⟩=some (.slice (some ⟨g,o,none⟩) cs.length cap):=(hk3.cell (.inr rfl) 0).trans hcr
     have hs3:W3.cell? ⟨Bs,0,none⟩=some (.func (.func F0) #[] #[]):=(hk3.cell (.inl hBs) 0).trans hsr
     have hC3:=hCrr.keepB hk3 hg
     gi_wp2
     go_roundw
     case rel=>exact ⟨k+z,m',pre++[x],by go_num,by omega,hm',HX2,hc3,hs3,hC3,by have:=hk3.size;omega,hJ3⟩
     case measure=>simp [intOf];omega
    ·gi_wp2
     refine bodyPost_ret (results_none rfl _ _ _) rfl ?_
     exact ⟨⟨_,rfl⟩,.inr ⟨pre++[x],⟨_,HX2.out⟩,hJx3⟩⟩
  ·have hx:pre=xs:=by have:=HX.out;rw [Pl.cutS_nil hlt] at this;simpa using this
   have hlt':¬ (k:Int)<(cs.length:Int):=by omega
   gi_wp2
   go_end0
   refine ⟨⟨_,rfl⟩,.inl ?_⟩
   first | exact ⟨pre,hx,hJr⟩ | (rw [← hx];exact hJr)
theorem rows160_stops (F0:Nat) (eF:∀ args w,(callFunc F0 args).run Tryz.prog w=.ok (.enter F0 args) w) (n:Nat) (hn:1≤n) (Bc Bs n0 g o cap:Nat) (cs:List (Nat × Nat × Nat)) (hl:cs.length≤268435456) (hcap:cs.length≤cap) (a:Option Addr) (ha:0<cs.length→a=some ⟨g,o,none⟩) (hg:0<cs.length→g<n0)
  (zf:Nat→Nat) (hz:∀ i,i<cs.length→i+zf i≤cs.length) (HF:Hid (∀ k w,Cr g o cs w→k<cs.length→Calls Tryz.prog F0 #[.slice (some ⟨g,o,none⟩) cs.length cap,.int .i64 (k:Int)] w fun e w'=>e=.returned (.int .i64 ((zf k:Nat):Int))∧w'=w))
  (xs:List (Pce cs.length)) (HXS:Hid (Pl.cutS cs.length zf hz cs.length 0=xs)) (w:World) (hBc:Bc<w.heap.size) (hBs:Bs<n0) (hn0:n0≤w.heap.size)
  (hc:w.cell? ⟨Bc,0,none⟩=some (.slice a cs.length cap)) (hs:w.cell? ⟨Bs,0,none⟩=some (.func (.func F0) #[] #[])) (hCr:Cr g o cs w) :
  SeqStopsK Fence.wide n Tryz.prog 297 #[.pointer (some ⟨Bc,0,none⟩),.pointer (some ⟨Bs,0,none⟩)] (encp g o cap) (KeepB n0 Bc) (fun ys=>ys=xs) (fun pre=>pre <+: xs) xs.length w:=fun l J Jx W hW hJ _ hY h0 =>
 rows160_in F0 eF n hn l Bc Bs n0 g o cap cs hl hcap a ha hg zf hz HF xs HXS J Jx W hBs hJ hY ((hW.cell (p:=⟨Bc,0,none⟩) (by show Bc<_;omega)).trans hc) ((hW.cell (p:=⟨Bs,0,none⟩) (by show Bs<_;omega)).trans hs) (hCr.below hW (fun h=>by have:=hg h;omega)) (by have:=hW.size;omega) h0
end Go.Proofs.YtcmgclckknpecaaGreatDoor
