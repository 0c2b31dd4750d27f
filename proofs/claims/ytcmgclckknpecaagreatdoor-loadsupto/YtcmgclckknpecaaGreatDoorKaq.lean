import Derived.Test.YtcmgclckknpecaaGreatDoorKao
import Derived.Test.YtcmgclckknpecaaGreatDoorKan
import Derived.Deep.RegionLaw
import Derived.BigRegion
import Derived.Test.YtcmgclckknpecaaGreatDoorKam
import Derived.Lib.Strings
namespace Go.Proofs.YtcmgclckknpecaaGreatDoor
open Go.RowKit
theorem info106:(Tryz.prog.info? 287).map (fun i=>(i.zero,i.size,i.bytes))=some (some (.agg #[.string ⟨#[]⟩,.string ⟨#[]⟩]),2,32):=by kernel_rfl
end Go.Proofs.YtcmgclckknpecaaGreatDoor
namespace Go.Proofs.YtcmgclckknpecaaGreatDoor
open Go.RowKit
def dig (s:ByteArray) (least a:Nat):Bool × Nat:=if Pl.byteIn s (48+least) 57 a=true then (true,a+1) else (false,a)
theorem dig_fits (s:ByteArray) (least:Nat):Pl.Fits s (dig s least):=fun a ha=>by
 unfold dig;split
 ·have:=Pl.byteIn_lt (by assumption);simp;omega
 ·simp;omega
set_option maxHeartbeats 400000 in
theorem digit_old (pb:Nat) (s:ByteArray) (a least:Nat) (bad:Int) (hb:0≤bad) (l:Value) (w:World) (h:Pn pb s a bad l w) :
  Calls Tryz.prog 134 #[.pointer (some ⟨pb,0,none⟩),.int .i64 (least:Int)] w fun e w'=>e=.returned (.int .i64 (least:Int))∧Pn pb s a bad l w'∧w.grownBy w' (some pb):=by
 have c0:=h.c0
 have c1:=h.c1
 have c2:=h.c2
 have hd:decide (0≤bad)=true:=by simp;omega
 go_enter Tryz.func134,Tryz.ntmps134
 go_wp2_with fail
 go_quiet (fail)
 go_wp2_with fail
 refine (fail_old pb s a bad hb l _ (h.drewN _)).mono ?_
 rintro e w2 ⟨rfl,hr2,hg2⟩
 go_wp2
 go_ret
 exact ⟨rfl,hr2,grown_trans (grown_drewN _ _ _) hg2⟩
set_option maxHeartbeats 400000 in
theorem digit_new (pb:Nat) (s:ByteArray) (a least:Nat) (l:Value) (w:World) (hl9:least≤9) (ha:a≤s.size) (hm:s.size≤80) (h:Pn pb s a (-1) l w) (o:Bool) (b:Nat) (hr:dig s least a=(o,b)) :
  Calls Tryz.prog 134 #[.pointer (some ⟨pb,0,none⟩),.int .i64 (least:Int)] w fun e w'=>∃ v:Nat,e=.returned (.int .i64 (v:Int))∧(o=true→48+v=Pl.bt s a)∧v≤9∧Pn pb s b (badOf o b) l w'∧w.grownBy w' (some pb):=by
 have c0:=h.c0
 have c1:=h.c1
 have c2:=h.c2
 have fz:=h.fz
 by_cases hlt:a<s.size
 ·have hlt':(a:Int)<(s.size:Int):=by omega
  have hge:decide (s.size≤a)=false:=by simp;omega
  have hbe:=Pl.bt_eq hlt
  have hb8:=UInt8.toNat_lt s[a]
  by_cases h9:57<s[a].toNat
  ·have h9':decide ((57:Int)<(s[a].toNat:Int))=true:=by simp;omega
   have hn:Pl.byteIn s (48+least) 57 a=false:=Pl.byteIn_no (by omega)
   simp only [dig,hn,Bool.false_eq_true,if_false,Prod.mk.injEq] at hr
   obtain ⟨rfl,rfl⟩:=hr
   clear hn hbe
   go_enter Tryz.func134,Tryz.ntmps134
   go_wp2_with fail
   go_quiet (fail)
   go_wp2_with fail
   refine (fail_new pb s a l _ (h.drewN _)).mono ?_
   rintro e w2 ⟨rfl,hr2,hg2⟩
   go_wp2
   go_ret
   exact ⟨least,rfl,by simp,hl9,hr2,grown_trans (grown_drewN _ _ _) hg2⟩
  ·have h9':decide ((57:Int)<(s[a].toNat:Int))=false:=by simp;omega
   by_cases hlo:s[a].toNat<48+least
   ·have hlo':decide ((s[a].toNat:Int) - 48<(least:Int))=true:=by simp;omega
    have hlo2:(s[a].toNat:Int) - 48<(least:Int):=by omega
    have hn:Pl.byteIn s (48+least) 57 a=false:=Pl.byteIn_no (by omega)
    simp only [dig,hn,Bool.false_eq_true,if_false,Prod.mk.injEq] at hr
    obtain ⟨rfl,rfl⟩:=hr
    have hw2:IntKind.i64.wrap ((s[a].toNat:Int) - 48)=(s[a].toNat:Int) - 48:=by rw [IntKind.wrap_i64];omega
    clear hn hbe
    go_enter Tryz.func134,Tryz.ntmps134
    go_wp2_with fail
    go_quiet (fail)
    go_wp2_with fail
    refine (fail_new pb s a l _ (h.drewN _)).mono ?_
    rintro e w2 ⟨rfl,hr2,hg2⟩
    go_wp2
    go_ret
    exact ⟨least,rfl,by simp,hl9,hr2,grown_trans (grown_drewN _ _ _) hg2⟩
   ·have hlo2:¬ (s[a].toNat:Int) - 48<(least:Int):=by omega
    have hy:Pl.byteIn s (48+least) 57 a=true:=Pl.byteIn_mk (by omega)
    simp only [dig,hy,if_true,Prod.mk.injEq] at hr
    obtain ⟨rfl,rfl⟩:=hr
    have HBE:Hid (Pl.bt s a=s[a].toNat):=hbe
    have hlo':(48:Int)≤(s[a].toNat:Int):=by omega
    have hw2:IntKind.i64.wrap ((s[a].toNat:Int) - 48)=(s[a].toNat:Int) - 48:=by rw [IntKind.wrap_i64];omega
    clear hy hbe
    go_enter Tryz.func134,Tryz.ntmps134
    go_wp2_with fail
    go_quiet (fail)
    go_wp2
    go_quiet (fail)
    go_wp2
    go_ret
    have e1:((a+1:Nat):Int)=(a:Int)+1:=by omega
    refine ⟨s[a].toNat - 48,ret_int (by omega),fun _=>by rw [HBE.out];omega,by omega,?_,grown_trans (grown_trans (grown_drewN _ _ _) (grown_set _ _ _ _)) (grown_drewN _ _ _)⟩
    rw [← e1];exact ((h.drewN _).set1 _).drewN _
 ·have hge:decide (s.size≤a)=true:=by simp;omega
  have hn:Pl.byteIn s (48+least) 57 a=false:=Pl.byteIn_no (by omega)
  simp only [dig,hn,Bool.false_eq_true,if_false,Prod.mk.injEq] at hr
  obtain ⟨rfl,rfl⟩:=hr
  clear hn
  go_enter Tryz.func134,Tryz.ntmps134
  go_wp2_with fail
  go_quiet (fail)
  go_wp2_with fail
  refine (fail_new pb s a l _ (h.drewN _)).mono ?_
  rintro e w2 ⟨rfl,hr2,hg2⟩
  go_wp2
  go_ret
  exact ⟨least,rfl,by simp,hl9,hr2,grown_trans (grown_drewN _ _ _) hg2⟩
theorem digit_st (pb:Nat) (s:ByteArray) (ok:Bool) (a least:Nat) (li:Int) (hli:li=(least:Int)) (l:Value) (w:World) (hl9:least≤9) (ha:a≤s.size) (hm:s.size≤80) (h:Pn pb s a (badOf ok a) l w) (o:Bool) (b:Nat) (hr:Pl.thenP (ok,a) (dig s least)=(o,b)) :
  Calls Tryz.prog 134 #[.pointer (some ⟨pb,0,none⟩),.int .i64 li] w fun e w'=>∃ v:Nat,e=.returned (.int .i64 (v:Int))∧(o=true→48+v=Pl.bt s a)∧v≤9∧Pn pb s b (badOf o b) l w'∧w.grownBy w' (some pb):=by
 subst hli
 cases ok with
 | true=>exact digit_new pb s a least l w hl9 ha hm h o b hr
 | false =>
  simp only [Pl.thenP,Bool.false_eq_true,if_false,Prod.mk.injEq] at hr
  obtain ⟨rfl,rfl⟩:=hr
  exact (digit_old pb s a least _ (by rw [badOf_false];omega) l w h).mono fun e w' ⟨he,hp,hg⟩=>⟨least,he,by simp,hl9,hp,hg⟩
end Go.Proofs.YtcmgclckknpecaaGreatDoor
namespace Go.Proofs.YtcmgclckknpecaaGreatDoor
open Go.RowKit
theorem info85:(Tryz.prog.info? 207).map (fun i=>(i.zero,i.size,i.bytes))=some (some (.agg #[.string ⟨#[]⟩,.slice none 0 0,.slice none 0 0,.int .i64 0,.int .i64 0]),5,80):=by kernel_rfl
theorem Pn.set3 {pb:Nat} {s:ByteArray} {a:Nat} {bad:Int} {l:Value} {w:World} (h:Pn pb s a bad l w) (b:Value):Pn pb s a bad b (w.setCell ⟨pb,3,none⟩ b) :=
 ⟨(World.cell?_setCell_other _ _ _ _ (by simp)).trans h.c0,(World.cell?_setCell_other _ _ _ _ (by simp)).trans h.c1,(World.cell?_setCell_other _ _ _ _ (by simp)).trans h.c2,World.cell?_setCell_same _ _ _ h.c3,fun o=>(World.frozen?_setCell _ _ _ _).trans (h.fz o),by simpa using h.lt⟩
theorem own_ne {v:Value} {g n c H pb:Nat} (hat:v.ownBlock=some g∨g=H) (hv:v.ownBlock≠some pb) (hH:pb<H):(Value.slice (some ⟨g,0,none⟩) n c).ownBlock≠some pb:=by
 simp only [Value.ownBlock,ne_eq,Option.some.injEq]
 rintro rfl
 rcases hat with h | h
 ·exact hv h
 ·omega
theorem below_of_grown {B:Nat} {A C:World} {pb:Nat} (h:A.grownBy C (some pb)) (hb:B≤pb) (hB:B≤A.heap.size):Below B A C :=
 ⟨h.os,h.tape,h.output,h.size,fun k hk=>h.block k (by omega) (by intro e;cases e;omega)⟩
theorem ownsRow_grown' {A B:World} {base:Nat} {e:TypeId} {size:Nat} {v:Value} {n:Nat} {xs:List Value} {rb:Nat} (h:A.ownsRow base e size v n xs) (hg:A.grownBy B (some rb)) (hb:v.ownBlock≠some rb):B.ownsRow base e size v n xs:=by
 refine ⟨h.1,?_⟩
 rcases h.2 with h | ⟨g,cap,cur,rfl,hg2,hh,r⟩
 ·exact .inl h
 ·exact .inr ⟨g,cap,cur,rfl,hg2,(hg.block g (Array.getElem?_eq_some_iff.1 hh).1 (fun e=>hb (by simp [Value.ownBlock,e]))).trans hh,r⟩
end Go.Proofs.YtcmgclckknpecaaGreatDoor
namespace Go.Proofs.YtcmgclckknpecaaGreatDoor
open Go.RowKit
end Go.Proofs.YtcmgclckknpecaaGreatDoor
namespace Go.Proofs.YtcmgclckknpecaaGreatDoor
open Go.RowKit
theorem bnds_eq (s:ByteArray) (a v1:Nat) (o1:Bool) (c1:Nat) (h1:Pl.thenP (true,a) (dig s 1)=(o1,c1)) (hv:o1=true→48+v1=Pl.bt s a) :
  Pl.thenP (Pl.thenP (Pl.thenP (o1,c1) (Pl.sign s 44)) (dig s v1)) (Pl.sign s 41)=Pl.bnds s a:=by
 have h1':dig s 1 a=(o1,c1):=h1
 unfold dig at h1'
 unfold Pl.bnds
 by_cases hb:Pl.byteIn s (48+1) 57 a=true
 ·rw [if_pos hb] at h1'
  simp only [Prod.mk.injEq] at h1'
  obtain ⟨rfl,rfl⟩:=h1'
  rw [if_pos (show Pl.byteIn s 49 57 a=true from hb)]
  have hv1:=hv rfl
  unfold dig
  rw [hv1]
  simp only [Pl.thenP,if_true]
  by_cases h2:(Pl.sign s 44 (a+1)).1=true
  ·simp only [h2,if_true]
   by_cases h3:Pl.byteIn s (Pl.bt s a) 57 (Pl.sign s 44 (a+1)).2=true
   ·simp [h3]
   ·simp [h3]
  ·simp [h2]
 ·rw [if_neg hb] at h1'
  simp only [Prod.mk.injEq] at h1'
  obtain ⟨rfl,rfl⟩:=h1'
  rw [if_neg (show ¬ Pl.byteIn s 49 57 a=true from hb)]
  simp [Pl.thenP]
end Go.Proofs.YtcmgclckknpecaaGreatDoor
namespace Go.Proofs.YtcmgclckknpecaaGreatDoor
open Go.RowKit
namespace Pl
theorem cm_ge_iff (s:ByteArray) (a:Nat) (w:ByteArray):∀ m k d,k+m=w.size→k≤d→(d≤cm s a w m k ↔ ∀ j,k≤j→j<d→j<w.size∧a+j<s.size∧bt s (a+j)=bt w j)
 | 0,k,d,hm,hk=>by
  unfold cm
  refine ⟨fun h j h1 h2=>by omega,fun h=>?_⟩
  rcases Nat.lt_or_ge k d with h' | h'
  ·have:=h k (Nat.le_refl _) h';omega
  ·exact h'
 | m+1,k,d,hm,hk=>by
  unfold cm
  by_cases hc:k<w.size∧a+k<s.size∧bt s (a+k)=bt w k
  ·rw [if_pos hc]
   rcases Nat.lt_or_ge k d with h' | h'
   ·rw [cm_ge_iff s a w m (k+1) d (by omega) (by omega)]
    refine ⟨fun h j h1 h2=>?_,fun h j h1 h2=>h j (by omega) h2⟩
    rcases Nat.lt_or_ge k j with h3 | h3
    ·exact h j h3 h2
    ·obtain rfl:j=k:=by omega
     exact hc
   ·refine ⟨fun _ j h1 h2=>by omega,fun _=>?_⟩
    have:=cm_ge s a w m (k+1);omega
  ·rw [if_neg hc]
   refine ⟨fun h j h1 h2=>by omega,fun h=>?_⟩
   rcases Nat.lt_or_ge k d with h' | h'
   ·exact absurd (h k (Nat.le_refl _) h') hc
   ·exact h'
theorem com_ge_iff (s:ByteArray) (a:Nat) (w:ByteArray) (d:Nat):d≤com s a w ↔ ∀ j,j<d→j<w.size∧a+j<s.size∧bt s (a+j)=bt w j:=by
 unfold com
 rw [cm_ge_iff s a w w.size 0 d (by omega) (Nat.zero_le _)]
 exact ⟨fun h j hj=>h j (Nat.zero_le _) hj,fun h j _ hj=>h j hj⟩
def Full (s:ByteArray) (a:Nat) (w:ByteArray):Prop:=com s a w=w.size
theorem nm_some (s:ByteArray) (a:Nat):∀ (names:List ByteArray) (i0 lg i:Nat) (hi:i<names.length),Full s a (names[i])→(∀ j (hj:j<names.length),Full s a (names[j])→j=i)→nm s a names i0 lg=(some (i0+i),a+(names[i]).size)
 | w :: r,i0,lg,0,_,hf,_=>by unfold nm;rw [if_pos (show com s a w=w.size from hf)];simp
 | w :: r,i0,lg,i+1,hi,hf,hu=>by
  have hw:¬ Full s a w:=fun e=>by have:=hu 0 (by simp) e;omega
  unfold nm
  rw [if_neg (show ¬ com s a w=w.size from hw),nm_some s a r (i0+1) _ i (by simpa using hi) (by simpa using hf) (fun j hj hfj=>by have:=hu (j+1) (by simpa using hj) (by simpa using hfj);omega)]
  simp;omega
theorem nm_none (s:ByteArray) (a:Nat):∀ (names:List ByteArray) (i0 lg M:Nat),(∀ w∈names,¬ Full s a w)→lg≤M→(∀ w∈names,com s a w≤M)→(lg=M∨∃ w∈names,com s a w=M)→nm s a names i0 lg=(none,a+M)
 | [],i0,lg,M,_,hlg,_,he=>by
  unfold nm
  rcases he with rfl | ⟨w,hw,_⟩
  ·rfl
  ·simp at hw
 | w :: r,i0,lg,M,hn,hlg,hle,he=>by
  unfold nm
  rw [if_neg (show ¬ com s a w=w.size from hn w (by simp))]
  refine nm_none s a r (i0+1) _ M (fun x hx=>hn x (by simp [hx])) (by have:=hle w (by simp);omega) (fun x hx=>hle x (by simp [hx])) ?_
  have hw:=hle w (by simp)
  rcases he with rfl | ⟨x,hx,hxe⟩
  ·left;omega
  ·rcases List.mem_cons.1 hx with rfl | hx
   ·left;omega
   ·exact .inr ⟨x,hx,hxe⟩
end Pl
theorem lates_any (w:World):Calls Tryz.prog 69 #[] w fun e w'=>e=.returned (.slice (some ⟨w.heap.size,0,none⟩) 7 7)∧w'=w.alloc (.cells ((Pl.lates.map Value.string).toArray) 9):=by
 go_enter Tryz.func69,Tryz.ntmps69
 go_wp2
 go_ret
 exact ⟨rfl,rfl⟩
theorem starts_any (w:World):Calls Tryz.prog 71 #[] w fun e w'=>e=.returned (.slice (some ⟨w.heap.size,0,none⟩) 6 6)∧w'=w.alloc (.cells ((Pl.starts.map Value.string).toArray) 9):=by
 go_enter Tryz.func71,Tryz.ntmps71
 go_wp2
 go_ret
 exact ⟨rfl,rfl⟩
theorem dataAt (y:ByteArray) (j:Nat) (h:j<y.size):y.data.toList[j]?=some y[j]:=by
 rw [Array.getElem?_toList];exact Array.getElem?_eq_getElem h
theorem ext_eq (y s:ByteArray) (a k d:Nat) (hk:k=a+d) (hd:d≤y.size) (hs:a+d≤s.size):((y.extract 0 d).toList == (s.extract a k).toList)=decide (d≤Pl.com s a y):=by
 subst hk
 rw [Bool.eq_iff_iff]
 simp only [beq_iff_eq,decide_eq_true_eq]
 rw [Pl.com_ge_iff,ByteArray.toList_eq,ByteArray.toList_eq,Lib.extract_data,Lib.extract_data]
 have key:∀ j,j<d→(((y.data.toList.drop 0).take (d - 0))[j]?=((s.data.toList.drop a).take (a+d - a))[j]? ↔ Pl.bt s (a+j)=Pl.bt y j):=fun j hj=>by
  rw [List.getElem?_take,List.getElem?_take,if_pos (by omega),if_pos (by omega),List.getElem?_drop,List.getElem?_drop,Nat.zero_add,dataAt y j (by omega),dataAt s (a+j) (by omega),Pl.bt_eq (s:=s) (k:=a+j) (by omega),Pl.bt_eq (s:=y) (k:=j) (by omega)]
  simp only [Option.some.injEq]
  exact ⟨fun e=>by rw [e],fun e=>(UInt8.toNat_inj.1 e).symm⟩
 constructor
 ·intro h j hj
  exact ⟨by omega,by omega,(key j hj).1 (by rw [h])⟩
 ·intro h
  apply List.ext_getElem?
  intro j
  by_cases hj:j<d
  ·exact (key j hj).2 (h j hj).2.2
  ·rw [List.getElem?_take,List.getElem?_take,if_neg (by omega),if_neg (by omega)]
set_option maxHeartbeats 400000 in
theorem begins_any (s y:ByteArray) (a k:Nat) (w:World) (hm:s.size≤80) (_hy:y.size≤8) (hak:a≤k) (hks:k≤s.size) :
  Calls Tryz.prog 131 #[.string y,.string s,.int .i64 (a:Int),.int .i64 (k:Int)] w fun e w'=>e=.returned (.bool (decide (k - a≤Pl.com s a y)))∧∃ q,w'=w.drewN q:=by
 obtain ⟨d,hkd⟩:∃ d,k=a+d:=⟨k - a,by omega⟩
 have hsub:k - a=d:=by omega
 rw [hsub]
 have HK:Hid (k=a+d):=hkd
 have hw1:IntKind.i64.wrap ((k:Int) - (a:Int))=(d:Int):=by rw [IntKind.wrap_i64];omega
 have hd2:a+d≤s.size:=by omega
 clear hsub hkd
 by_cases hd:d≤y.size
 ·have hd':(d:Int)≤(y.size:Int):=by omega
  have hks':(k:Int)≤(s.size:Int):=by omega
  have hak':(a:Int)≤(k:Int):=by omega
  go_enter Tryz.func131,Tryz.ntmps131
  go_wp2_with fail
  go_quiet (fail)
  go_wp2
  go_ret
  refine ⟨?_,nq,rfl⟩
  rw [← ext_eq y s a k d HK.out hd hd2]
  rfl
 ·have hdd:decide (d≤y.size)=false:=by simp;omega
  have hno:decide (d≤Pl.com s a y)=false:=by have:=(Pl.com_le s a y (by omega)).1;simp;omega
  rw [hno]
  clear hno
  go_enter Tryz.func131,Tryz.ntmps131
  go_wp2_with fail
  go_quiet (fail)
  go_wp2
  go_ret
  exact ⟨rfl,nq,rfl⟩
end Go.Proofs.YtcmgclckknpecaaGreatDoor
namespace Go.Proofs.YtcmgclckknpecaaGreatDoor
open Go.RowKit
theorem Nms.grown {g:Nat} {names:List ByteArray} {w w':World} {row:Option Nat} (h:Nms g names w) (hg:w.grownBy w' row) (hne:row≠some g):Nms g names w' :=
 ⟨fun i hi=>(hg.cell_far ⟨g,i,none⟩ h.lt (Ne.symm hne)).trans (h.cells i hi),Nat.lt_of_lt_of_le h.lt hg.size⟩
set_option maxHeartbeats 2000000 in
theorem pword_any (pb g:Nat) (s:ByteArray) (a:Nat) (names:List ByteArray) (l:Value) (w:World) (hm:s.size≤80) (ha:a≤s.size) (h:Pn pb s a (-1) l w) (hN:Nms g names w)
  (hsz:∀ i (hi:i<names.length),(names[i]).size≤8) (hlen:names.length≤8) (hpos:0<names.length)
  (hU:∀ i (hi:i<names.length) j (hj:j<names.length),Pl.Full s a (names[i])→Pl.Full s a (names[j])→i=j) (res:Option Nat) (b:Nat) (HR:Hid (Pl.nm s a names 0 0=(res,b))) :
  Calls Tryz.prog 70 #[.pointer (some ⟨pb,0,none⟩),.slice (some ⟨g,0,none⟩) names.length names.length] w fun e w' =>
   ((∃ i,i<names.length∧res=some i∧e=.returned (.int .i64 (i:Int))∧Pn pb s b (-1) l w')∨(res=none∧e=.returned (.int .i64 (-1))∧Pn pb s b (b:Int) l w'))∧w.grownBy w' (some pb):=by
 have HU:Hid (∀ i (hi:i<names.length) j (hj:j<names.length),Pl.Full s a (names[i])→Pl.Full s a (names[j])→i=j):=hU
 have HSZ:Hid (∀ i (hi:i<names.length),(names[i]).size≤8):=hsz
 clear hU hsz
 have c1:=h.c1
 have c2:=h.c2
 go_enter Tryz.func70,Tryz.ntmps70
 go_wp2
 clear c1 c2
 go_loopw [5,6,7] (fun k _ _ wr=>∃ d:Nat,k=.int .i64 ((a+d:Nat):Int)∧a+d≤s.size∧Pn pb s a (-1) l wr∧Nms g names wr∧w.grownBy wr (some pb) ∧
  Hid ((∀ i (hi:i<names.length),Pl.Full s a (names[i])→d≤(names[i]).size)∧(d=0∨∃ i,∃ hi:i<names.length,d≤Pl.com s a (names[i])+1))) (fun k _ _ _=>200 - (intOf k).toNat)
 case atStart=>exact ⟨0,rfl,by omega,h,hN,World.grownBy.refl _ _,⟨fun _ _ _=>Nat.zero_le _,.inl rfl⟩⟩
 case round =>
  obtain ⟨d,rfl,hds,hp,hn,hg,HI⟩:=hrel
  obtain ⟨k,hk⟩:∃ k,a+d=k:=⟨_,rfl⟩
  rw [hk] at hds ⊢
  have HK:Hid (a+d=k):=hk
  have hak:a≤k:=by omega
  have hkd:k - a=d:=by omega
  have HKD:Hid (k - a=d):=hkd
  clear hk hkd
  go_wp2
  go_loopw [6,7] (fun sm i wr2=>∃ (sv:Bool) (j:Nat),sm=.bool sv∧i=.int .i64 (j:Int)∧j≤names.length∧Pn pb s a (-1) l wr2∧Nms g names wr2∧w.grownBy wr2 (some pb) ∧
   Hid ((sv=true ↔ ∃ i,∃ hi:i<names.length,i<j∧d≤Pl.com s a (names[i]))∧(∀ i (hi:i<names.length),i<j→Pl.Full s a (names[i])→(names[i]).size≠d))) (fun _ i _=>10 - (intOf i).toNat)
  case atStart=>exact ⟨false,0,rfl,rfl,by omega,hp,hn,hg,⟨by simp,fun _ _ h=>by omega⟩⟩
  case round =>
   obtain ⟨sv,j,rfl,rfl,hj,hp2,hn2,hg2,HJ⟩:=hrel
   have c0:=hp2.c0
   have c1:=hp2.c1
   have c2:=hp2.c2
   have fz:=hp2.fz
   by_cases hjl:j<names.length
   ·have hjl':(j:Int)<(names.length:Int):=by omega
    have hcj:=hn2.cells j hjl
    obtain ⟨y,hy⟩:∃ y,names[j]=y:=⟨_,rfl⟩
    have hys:=HSZ.out j hjl
    rw [hy] at hcj hys
    have hbg:=fun w=>begins_any s y a k w hm hys hak hds
    rw [HKD.out] at hbg
    obtain ⟨C,hC⟩:∃ C,Pl.com s a y=C:=⟨_,rfl⟩
    rw [hC] at hbg
    have HY:Hid (names[j]=y):=hy
    have HC:Hid (Pl.com s a y=C):=hC
    clear hy hC
    by_cases hdC:d≤C
    ·rw [decide_eq_true hdC] at hbg
     have HBG:Hid (∀ w,Calls Tryz.prog 131 #[.string y,.string s,.int .i64 (a:Int),.int .i64 (k:Int)] w fun e w'=>e=.returned (.bool true)∧∃ q,w'=w.drewN q):=hbg
     clear hbg
     have hwk:IntKind.i64.wrap ((k:Int) - (a:Int))=(d:Int):=by have:=HK.out;rw [IntKind.wrap_i64];omega
     by_cases hfd:y.size=d
     ·have hq:((y.size:Int) == (d:Int))=true:=by simp;omega
      have HRES:Hid (res=some j∧b=k):=by
       have hfull:Pl.Full s a (names[j]):=by
        show Pl.com s a (names[j])=_
        have hcl:=(Pl.com_le s a y ha).1
        rw [HC.out] at hcl
        rw [HY.out,HC.out];omega
       have hnm:=Pl.nm_some s a names 0 0 j hjl hfull (fun i hi hfi=>HU.out i hi j hjl hfi hfull)
       rw [HR.out,HY.out,hfd,HK.out] at hnm
       simp only [Prod.mk.injEq,Nat.zero_add] at hnm
       exact hnm
      clear hfd
      go_wp2_with fail
      go_quiet ((go_at_call 131;exact Calls.quiet_of (HBG.out _)))
      go_wp2
      go_quiet (fail)
      go_wp2
      go_ret
      refine ⟨.inl ⟨j,hjl,HRES.out.1,rfl,?_⟩,grown_trans hg2 (grown_trans (grown_drewN _ _ _) (grown_set _ _ _ _))⟩
      rw [HRES.out.2];exact (hp2.drewN _).set1 k
     ·have hq:((y.size:Int) == (d:Int))=false:=by simp;omega
      go_wp2_with fail
      go_quiet ((go_at_call 131;exact Calls.quiet_of (HBG.out _)))
      go_wp2
      go_quiet (fail)
      go_wp2
      refine ⟨⟨true,j+1,rfl,by go_num,by omega,hp2.drewN _,hn2.of_below (below_drewN (Below.refl _ _) _),grown_trans hg2 (grown_drewN _ _ _),⟨⟨fun _=>⟨j,hjl,by omega,by rw [HY.out,HC.out];exact hdC⟩,fun _=>rfl⟩,fun i hi hij hf=>?_⟩⟩,by simp [intOf];omega⟩
      by_cases hij2:i<j
      ·exact HJ.out.2 i hi hij2 hf
      ·obtain rfl:i=j:=by omega
       rw [HY.out];exact hfd
    ·rw [decide_eq_false hdC] at hbg
     have HBG:Hid (∀ w,Calls Tryz.prog 131 #[.string y,.string s,.int .i64 (a:Int),.int .i64 (k:Int)] w fun e w'=>e=.returned (.bool false)∧∃ q,w'=w.drewN q):=hbg
     clear hbg
     go_wp2_with fail
     go_quiet ((go_at_call 131;exact Calls.quiet_of (HBG.out _)))
     go_wp2
     refine ⟨⟨sv,j+1,rfl,by go_num,by omega,hp2.drewN _,hn2.of_below (below_drewN (Below.refl _ _) _),grown_trans hg2 (grown_drewN _ _ _),⟨?_,fun i hi hij hf=>?_⟩⟩,by simp [intOf];omega⟩
     ·rw [HJ.out.1]
      refine ⟨fun ⟨i,hi,h1,h2⟩=>⟨i,hi,by omega,h2⟩,fun ⟨i,hi,h1,h2⟩=>⟨i,hi,?_,h2⟩⟩
      by_cases hij2:i<j
      ·exact hij2
      ·obtain rfl:i=j:=by omega
       rw [HY.out,HC.out] at h2;exact absurd h2 hdC
     ·by_cases hij2:i<j
      ·exact HJ.out.2 i hi hij2 hf
      ·obtain rfl:i=j:=by omega
       intro hs
       have hf':Pl.com s a (names[i])=(names[i]).size:=hf
       rw [HY.out] at hf' hs
       rw [HC.out] at hf'
       omega
   ·obtain ⟨hI1,hI2⟩:=HI.out
    obtain ⟨hJ1,hJ2⟩:=HJ.out
    have hKo:=HK.out
    cases sv with
    | false =>
     have hno:∀ i (hi:i<names.length),Pl.com s a (names[i])<d:=fun i hi=>by
      rcases Nat.lt_or_ge (Pl.com s a (names[i])) d with h' | h'
      ·exact h'
      ·exact absurd (hJ1.2 ⟨i,hi,by omega,h'⟩) (by simp)
     have hd1:1≤d:=by have:=hno 0 hpos;omega
     have HRES:Hid (res=none∧b=k - 1):=by
      have hnm:=Pl.nm_none s a names 0 0 (d - 1) (fun x hx hf=>by
        obtain ⟨i,hi,rfl⟩:=List.getElem_of_mem hx
        have:=hno i hi;have h2:=hI1 i hi hf;have h3:Pl.com s a (names[i])=_:=hf;omega) (by omega)
       (fun x hx=>by obtain ⟨i,hi,rfl⟩:=List.getElem_of_mem hx;have:=hno i hi;omega)
       (by rcases hI2 with h' | ⟨i, hi, h'⟩
           · omega
           · exact .inr ⟨_, List.getElem_mem hi, by have := hno i hi; omega⟩)
      rw [HR.out] at hnm
      simp only [Prod.mk.injEq] at hnm
      exact ⟨hnm.1,by omega⟩
     have hk1:1≤k:=by omega
     clear hno hI1 hI2 hJ1 hJ2 hKo
     go_wp2_with fail
     have e1:((k - 1:Nat):Int)=(k:Int) - 1:=by omega
     have hp3:Pn pb s (k - 1) (-1) l (wr.setCell ⟨pb,1,none⟩ (.int .i64 ((k:Int) - 1))):=by rw [← e1];exact hp2.set1 _
     refine (fail_new pb s (k - 1) l _ hp3).mono ?_
     rintro e w4 ⟨rfl,hp4,hg4⟩
     go_wp2
     go_ret
     refine ⟨.inr ⟨HRES.out.1,rfl,?_⟩,grown_trans hg2 (grown_trans (grown_set _ _ _ _) hg4)⟩
     rw [HRES.out.2];exact hp4
    | true =>
     obtain ⟨ix,hix,_,hdx⟩:=hJ1.1 rfl
     by_cases hend:k=s.size
     ·have hq:((k:Int) == (s.size:Int))=true:=by simp;omega
      have HRES:Hid (res=none∧b=k):=by
       have hle:∀ i (hi:i<names.length),Pl.com s a (names[i])≤d:=fun i hi=>by have:=(Pl.com_le s a (names[i]) ha).2;omega
       have hnm:=Pl.nm_none s a names 0 0 d (fun x hx hf=>by
         obtain ⟨i,hi,rfl⟩:=List.getElem_of_mem hx
         have h1:=hle i hi;have h2:=hI1 i hi hf;have h3:Pl.com s a (names[i])=_:=hf
         exact hJ2 i hi (by omega) hf (by omega)) (by omega)
        (fun x hx=>by obtain ⟨i,hi,rfl⟩:=List.getElem_of_mem hx;exact hle i hi)
        (.inr ⟨_,List.getElem_mem hix,by have:=hle ix hix;omega⟩)
       rw [HR.out] at hnm
       simp only [Prod.mk.injEq] at hnm
       exact ⟨hnm.1,by omega⟩
      clear hI1 hI2 hJ1 hJ2 hKo hdx hend
      go_wp2_with fail
      refine (fail_new pb s k l _ (hp2.set1 k)).mono ?_
      rintro e w4 ⟨rfl,hp4,hg4⟩
      go_wp2
      go_ret
      refine ⟨.inr ⟨HRES.out.1,rfl,?_⟩,grown_trans hg2 (grown_trans (grown_set _ _ _ _) hg4)⟩
      rw [HRES.out.2];exact hp4
     ·have hq:((k:Int) == (s.size:Int))=false:=by simp;omega
      have HN:Hid ((∀ i (hi:i<names.length),Pl.Full s a (names[i])→d+1≤(names[i]).size)∧(d+1=0∨∃ i,∃ hi:i<names.length,d+1≤Pl.com s a (names[i])+1)) :=
       ⟨fun i hi hf=>by have h1:=hI1 i hi hf;have h2:=hJ2 i hi (by omega) hf;omega,.inr ⟨ix,hix,by omega⟩⟩
      have hk3:k<s.size:=by omega
      have HKO:Hid (a+(d+1)=k+1):=by show _=_;omega
      clear hI1 hI2 hJ1 hJ2 hKo hdx hend
      go_wp2
      refine ⟨⟨d+1,by rw [HKO.out];go_num,by have:=HKO.out;omega,hp2,hn2,hg2,HN⟩,by simp [intOf];omega⟩
end Go.Proofs.YtcmgclckknpecaaGreatDoor
namespace Go.Proofs.YtcmgclckknpecaaGreatDoor
open Go.RowKit
def cutB (y:ByteArray):Bool:=(y.toList == [119,111,114,100,115] || y.toList == [98,108,97,110,107,115]) || y.toList == [119,104,111,108,101]
set_option maxHeartbeats 400000 in
theorem cutter_any (y:ByteArray) (w:World):Calls Tryz.prog 73 #[.string y] w fun e w'=>e=.returned (.bool (cutB y))∧w'=w:=by
 have hc:cutB y=((y.toList == [119,111,114,100,115] || y.toList == [98,108,97,110,107,115]) || y.toList == [119,104,111,108,101]):=rfl
 by_cases h1:(y.toList == [119,111,114,100,115])=true
 ·have hq:cutB y=true:=by rw [hc,h1];rfl
  rw [hq]
  clear hq hc
  go_enter Tryz.func73,Tryz.ntmps73
  go_wp2
  go_ret
  exact ⟨rfl,rfl⟩
 ·have h1':(y.toList == [119,111,114,100,115])=false:=eq_false_of_ne_true h1
  by_cases h2:(y.toList == [98,108,97,110,107,115])=true
  ·have hq:cutB y=true:=by rw [hc,h1',h2];rfl
   rw [hq]
   clear hq hc h1
   go_enter Tryz.func73,Tryz.ntmps73
   go_wp2
   go_ret
   exact ⟨rfl,rfl⟩
  ·have h2':(y.toList == [98,108,97,110,107,115])=false:=eq_false_of_ne_true h2
   obtain ⟨q,h3⟩:∃ q,(y.toList == [119,104,111,108,101])=q:=⟨_,rfl⟩
   have hq:cutB y=q:=by rw [hc,h1',h2',h3];rfl
   rw [hq]
   clear hq hc h1 h2
   go_enter Tryz.func73,Tryz.ntmps73
   go_wp2
   go_ret
   exact ⟨rfl,rfl⟩
theorem starts_diff:∀ i:Fin 6,∀ j:Fin 6,i≠j→∃ p:Fin 8,p.1<(Pl.starts.getD i.1 ⟨#[]⟩).size∧p.1<(Pl.starts.getD j.1 ⟨#[]⟩).size∧Pl.bt (Pl.starts.getD i.1 ⟨#[]⟩) p.1≠Pl.bt (Pl.starts.getD j.1 ⟨#[]⟩) p.1:=by decide +kernel
theorem lates_diff:∀ i:Fin 7,∀ j:Fin 7,i≠j→∃ p:Fin 8,p.1<(Pl.lates.getD i.1 ⟨#[]⟩).size∧p.1<(Pl.lates.getD j.1 ⟨#[]⟩).size∧Pl.bt (Pl.lates.getD i.1 ⟨#[]⟩) p.1≠Pl.bt (Pl.lates.getD j.1 ⟨#[]⟩) p.1:=by decide +kernel
theorem full_at {s:ByteArray} {a:Nat} {y:ByteArray} (h:Pl.Full s a y) (p:Nat) (hp:p<y.size):Pl.bt s (a+p)=Pl.bt y p:=by
 have h':y.size≤Pl.com s a y:=by rw [show Pl.com s a y=y.size from h];exact Nat.le_refl _
 exact ((Pl.com_ge_iff s a y y.size).1 h' p hp).2.2
theorem getD_get {l:List ByteArray} {i:Nat} (hi:i<l.length):l.getD i ⟨#[]⟩=l[i]:=by simp [List.getD,hi]
theorem starts_unique (s:ByteArray) (a:Nat):∀ i (hi:i<Pl.starts.length) j (hj:j<Pl.starts.length),Pl.Full s a (Pl.starts[i])→Pl.Full s a (Pl.starts[j])→i=j:=fun i hi j hj hfi hfj=>by
 by_cases e:i=j
 ·exact e
 ·obtain ⟨p,h1,h2,h3⟩:=starts_diff ⟨i,hi⟩ ⟨j,hj⟩ (fun e'=>e (congrArg Fin.val e'))
  simp only [getD_get hi,getD_get hj] at h1 h2 h3
  exact absurd ((full_at hfi p.1 h1).symm.trans (full_at hfj p.1 h2)) h3
theorem lates_unique (s:ByteArray) (a:Nat):∀ i (hi:i<Pl.lates.length) j (hj:j<Pl.lates.length),Pl.Full s a (Pl.lates[i])→Pl.Full s a (Pl.lates[j])→i=j:=fun i hi j hj hfi hfj=>by
 by_cases e:i=j
 ·exact e
 ·obtain ⟨p,h1,h2,h3⟩:=lates_diff ⟨i,hi⟩ ⟨j,hj⟩ (fun e'=>e (congrArg Fin.val e'))
  simp only [getD_get hi,getD_get hj] at h1 h2 h3
  exact absurd ((full_at hfi p.1 h1).symm.trans (full_at hfj p.1 h2)) h3
theorem starts_size:∀ i (hi:i<Pl.starts.length),(Pl.starts[i]).size≤8:=by decide +kernel
theorem lates_size:∀ i (hi:i<Pl.lates.length),(Pl.lates[i]).size≤8:=by decide +kernel
theorem starts_cut:∀ i (hi:i<Pl.starts.length),cutB (Pl.starts[i])=decide (3≤i):=by decide +kernel
end Go.Proofs.YtcmgclckknpecaaGreatDoor
namespace Go.Proofs.YtcmgclckknpecaaGreatDoor
open Go.RowKit
def verdict (R:(Bool × Nat) × Nat):Nat × Nat:=if R.1.1=true then (if 8<R.2 then (3,0) else (0,0)) else (2,R.1.2)
theorem nms_new (names:List ByteArray) (W:World):Nms W.heap.size names (W.alloc (.cells ((names.map Value.string).toArray) 9)):=by
 have hh:=heap_alloc_new W (.cells ((names.map Value.string).toArray) 9)
 refine ⟨fun i hi=>?_,by simp⟩
 have h1:=World.news_of_block hh i (.string names[i]) (by simp [hi])
 have h2:((⟨W.heap.size,0,none⟩:Addr).add i)=⟨W.heap.size,i,none⟩:=by
  unfold Addr.add
  by_cases h:i=0
  ·subst h;rfl
  ·rw [if_neg h,Nat.zero_add]
 rw [h2] at h1;exact h1
theorem chn_none (s:ByteArray) (m:Nat) (cut:Bool) (a c b:Nat) (h:Pl.nm s a (if cut=true then Pl.lates else Pl.starts) 0 0=(none,b)):Pl.chn s (m+1) cut a c=((false,b),c):=by
 unfold Pl.chn;rw [h]
theorem chn_some (s:ByteArray) (m:Nat) (cut:Bool) (a c b i:Nat) (o:Bool) (d:Nat) (h:Pl.nm s a (if cut=true then Pl.lates else Pl.starts) 0 0=(some i,b)) (hb:Pl.body s (if cut=true then Pl.kindL i else Pl.kindS i) b=(o,d)) :
  Pl.chn s (m+1) cut a c=if o=true then (if (cut=true∨3≤i)∧d=s.size then ((true,d),c+1) else if Pl.byteIn s 59 59 d=true then Pl.chn s m (cut || decide (3≤i)) (d+1) (c+1) else ((false,d),c+1)) else ((false,d),c+1):=by
 rw [Pl.chn];simp only [h,hb]
theorem Pn.below {pb:Nat} {s:ByteArray} {a:Nat} {bad:Int} {l:Value} {w:World} (h:Pn pb s a bad l w) (O:Obj):Pn pb s a bad l (w.alloc O):=h.of_below ((Below.refl _ w).alloc (Nat.le_refl _) O)
theorem nm_le (s:ByteArray) (a:Nat) (ha:a≤s.size):∀ (names:List ByteArray) (i lg:Nat) (res:Option Nat) (b:Nat),a+lg≤s.size→Pl.nm s a names i lg=(res,b)→a≤b∧b≤s.size
 | [],i,lg,res,b,hlg,h=>by simp only [Pl.nm,Prod.mk.injEq] at h;omega
 | w :: r,i,lg,res,b,hlg,h=>by
  have hc:=Pl.com_le s a w ha
  unfold Pl.nm at h
  by_cases hf:Pl.com s a w=w.size
  ·rw [if_pos hf] at h
   simp only [Prod.mk.injEq] at h
   omega
  ·rw [if_neg hf] at h
   exact nm_le s a ha r (i+1) _ res b (by omega) h
theorem nm_pos (s:ByteArray) (a:Nat):∀ (names:List ByteArray) (i lg j b:Nat),(∀ w∈names,1≤w.size)→Pl.nm s a names i lg=(some j,b)→a<b
 | [],i,lg,j,b,_,h=>by simp [Pl.nm] at h
 | w :: r,i,lg,j,b,hp,h=>by
  have h1:=hp w (by simp)
  unfold Pl.nm at h
  by_cases hf:Pl.com s a w=w.size
  ·rw [if_pos hf] at h
   simp only [Prod.mk.injEq] at h
   omega
  ·rw [if_neg hf] at h
   exact nm_pos s a r (i+1) _ j b (fun x hx=>hp x (by simp [hx])) h
theorem lst_fits (s:ByteArray) (item:Nat→Bool × Nat) (hi:Pl.Fits s item):∀ m,Pl.Fits s (Pl.lst s item m)
 | 0,a,ha=>⟨Nat.le_refl _,ha⟩
 | m+1,a,ha=>by
  unfold Pl.lst
  refine Pl.thenP_fits (hi a ha) fun b hb=>?_
  split
  ·have h1:=(Pl.byteIn_lt (by assumption)).1
   have:=lst_fits s item hi m (b+1) (by omega)
   omega
  ·exact Pl.sign_fits s 41 b hb
theorem bnds_fits (s:ByteArray):Pl.Fits s (Pl.bnds s):=fun a ha=>by
 unfold Pl.bnds;split
 ·have h1:=(Pl.byteIn_lt (by assumption)).1
  have h2:=Pl.sign_fits s 44 (a+1) (by omega)
  have:=Pl.thenP_fits (s:=s) (r:=Pl.sign s 44 (a+1)) (k:=fun b=>if Pl.byteIn s (Pl.bt s a) 57 b=true then Pl.sign s 41 (b+1) else (false,b)) h2 (fun b hb=>by
   dsimp only
   split
   ·have h3:=(Pl.byteIn_lt (by assumption)).1
    have:=Pl.sign_fits s 41 (b+1) (by omega)
    omega
   ·exact ⟨Nat.le_refl _,hb⟩)
  omega
 ·exact ⟨Nat.le_refl _,ha⟩
theorem body_fits (s:ByteArray) (k:Nat):Pl.Fits s (Pl.body s k):=fun a ha=>by
 unfold Pl.body
 repeat' split
 ·exact lst_fits s _ (Pl.pair_fits s) _ a ha
 ·exact lst_fits s _ (Pl.word_fits s) _ a ha
 ·exact bnds_fits s a ha
 ·exact ⟨Nat.le_refl _,ha⟩
theorem starts_pos:∀ w∈Pl.starts,1≤w.size:=by decide +kernel
theorem lates_pos:∀ w∈Pl.lates,1≤w.size:=by decide +kernel
theorem slice_of {w:World} {base:Nat} {e:TypeId} {size:Nat} {v:Value} {n:Nat} {xs:List Value} (h:w.ownsRow base e size v n xs):∃ p c,v=.slice p n c:=by
 rcases h.2 with ⟨h1,h2⟩ | ⟨g,cap,_,h1,_⟩
 ·exact ⟨none,0,by rw [h1,h2]⟩
 ·exact ⟨_,cap,h1⟩
end Go.Proofs.YtcmgclckknpecaaGreatDoor
