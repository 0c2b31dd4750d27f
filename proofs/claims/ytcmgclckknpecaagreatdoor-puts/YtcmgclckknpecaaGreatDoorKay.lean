import Derived.Test.YtcmgclckknpecaaGreatDoorKax
import Derived.Test.YtcmgclckknpecaaGreatDoorKab
import Derived.Deep.AppendLies
import Derived.WalkKit
import Derived.Test.YtcmgclckknpecaaGreatDoorKap
import Derived.Lib.Strings
namespace Go.Proofs.YtcmgclckknpecaaGreatDoor
open Go.RowKit Go.Shelf
theorem row96_agr {w W:World} (ha:Agr w W) {base:Nat} {size:Nat} {v:Value} {n:Nat} {xs:List Value} (h:w.ownsRow base 96 size v n xs):W.ownsRow base 96 size v n xs:=by
 refine ⟨h.1,?_⟩
 rcases h.2 with h | ⟨g,cap,cur,rfl,hg,hh,r⟩
 ·exact .inl h
 ·exact .inr ⟨g,cap,cur,rfl,hg,ha.block g _ hh (.inr ⟨_,_,_,rfl,.inr (.inl rfl)⟩),r⟩
theorem Sts.agr {w W:World} (ha:Agr w W) {base:Nat} {es:List Sp} {xs:List Value} (h:Sts base es xs w):Sts base es xs W:=by
 obtain ⟨L,h1,h2,h3⟩:=h.ex
 exact ⟨L,h1,h2,fun q hq=>(h3 q hq).agr ha⟩
structure Tsp (ch:ByteArray) (T es:List Sp) (cu:Sp) (ls:List Sp):Prop where
 t:T=es++cu :: ls
 e:∀ e∈es,Pl.isE ch e
 c:Pl.isC ch cu
 l:∀ e∈ls,Pl.isL ch e
 n:es.length≤7∧ls.length≤7
 z:ch.size≤80
structure FFr (b:Nat) (nm ch:ByteArray) (ib:Nat) (es:List Sp) (cu:Sp) (ls:List Sp) (w:World):Prop where
 ex:∃ base p1 c1 p2 n2 c2 p3 n3 c3 x z p4 c4 xs ys,Blk b 175 #[.string nm,.string ch,.slice p1 es.length c1,.string cu.nm,.slice p2 n2 c2,.slice p3 n3 c3,.int .i64 x,.int .i64 z,.slice p4 ls.length c4,.int .u32 0,.int .i32 0,.int .u32 0,.slice none 0 0,.nilFunc,.slice none 0 0,.map (some ib)] w ∧
  w.ownsRow base 96 5 (.slice p1 es.length c1) es.length xs∧Sts base es xs w∧StO base cu (.slice p2 n2 c2) (.slice p3 n3 c3) x z w∧w.ownsRow base 96 5 (.slice p4 ls.length c4) ls.length ys∧Sts base ls ys w
structure FA (b:Nat) (nm ch:ByteArray) (ib:Nat) (T:List Sp) (w:World):Prop where
 ex:b≠0∧∃ es cu ls,Tsp ch T es cu ls∧(FFr b nm ch ib es cu ls w∨∃ LE LL jC,LE.map (·.1)=es∧LL.map (·.1)=ls∧jC<Pl.starts.length∧3≤jC∧(∃ h:jC<Pl.starts.length,cu.nm=Pl.starts[jC])∧FMd b nm ch ib LE LL jC w)
theorem FA.blk {b:Nat} {nm ch:ByteArray} {ib:Nat} {T:List Sp} {w:World} (h:FA b nm ch ib T w):∃ cs,Blk b 175 cs w∧cs[0]?=some (.string nm)∧cs[1]?=some (.string ch)∧cs[15]?=some (.map (some ib)):=by
 obtain ⟨_,es,cu,ls,_,h | ⟨LE,LL,jC,_,_,_,_,_,h⟩⟩:=h.ex
 ·obtain ⟨base,p1,c1,p2,n2,c2,p3,n3,c3,x,z,p4,c4,xs,ys,h1,_⟩:=h.ex
  exact ⟨_,h1,rfl,rfl,rfl⟩
 ·obtain ⟨a0,a1,a2,a3,a4,a5,a6,sm,vE,fC,vL,fE,fL,h1,_⟩:=h.ex
  exact ⟨_,h1,rfl,rfl,rfl⟩
theorem FA.keep {b:Nat} {nm ch:ByteArray} {ib:Nat} {T:List Sp} {w w':World} (h:FA b nm ch ib T w) (ha:Agr w w') (hb:∀ k c t f,(t=175∧k=b∨t=189∨t=194)→w.heap[k]?=some (.cells c t f)→w'.heap[k]?=some (.cells c t f)):FA b nm ch ib T w':=by
 obtain ⟨h0,es,cu,ls,ht,h | ⟨LE,LL,jC,e1,e2,e3,e4,e5,h⟩⟩:=h.ex
 ·obtain ⟨base,p1,c1,p2,n2,c2,p3,n3,c3,x,z,p4,c4,xs,ys,h1,h2,h3,h4,h5,h6⟩:=h.ex
  exact ⟨h0,es,cu,ls,ht,.inl ⟨base,p1,c1,p2,n2,c2,p3,n3,c3,x,z,p4,c4,xs,ys,hb _ _ _ _ (.inl ⟨rfl,rfl⟩) h1,row96_agr ha h2,h3.agr ha,h4.agr ha,row96_agr ha h5,h6.agr ha⟩⟩
 ·exact ⟨h0,es,cu,ls,ht,.inr ⟨LE,LL,jC,e1,e2,e3,e4,e5,h.keep ha hb⟩⟩
structure FtO (b:Nat) (nm ch:ByteArray) (ib:Nat) (T:List Sp) (xs:Ch3) (w:World) (e:Ending) (w':World):Prop where
 ex:FA b nm ch ib T w'∧w.grownBy w' (some b)∧∃ es cu ls,Tsp ch T es cu ls∧TakO (Pl.takeP es cu ls xs) w.heap.size e w'
theorem fmade_again {b:Nat} {nm ch:ByteArray} {ib:Nat} {LE LL:List Sq} {jC:Nat} {w:World} (h:FMd b nm ch ib LE LL jC w):Calls Tryz.prog 65 #[.pointer (some ⟨b,9,none⟩),.func (.func 66) #[.pointer (some ⟨b,2,none⟩)] #[]] w fun e w3=>e=.returned (.tuple #[])∧FMd b nm ch ib LE LL jC w3∧w.grownBy w3 (some b):=by
 obtain ⟨a0,a1,a2,a3,a4,a5,a6,sm,vE,fC,vL,fE,fL,h1,_⟩:=h.ex
 refine (fdo_again b w (blk_cell h1 9)).mono ?_
 rintro e w' ⟨rfl,rfl⟩
 exact ⟨rfl,h,⟨rfl,rfl,rfl,Nat.le_refl _,fun _ _ _=>rfl⟩⟩
theorem ffresh_do (nm ch:ByteArray) (ib base b ge gl:Nat) (LE LL:List Sq) (cu:Sp) (jC:Nat) (pe:Option Addr) (ce:Nat) (p1 p2:Option Addr) (n1 c1 n2 c2:Nat) (x z:Int) (al:Option Addr) (cl:Nat) (sm:Value) (w1:World) (hkE:LE.length≤7) (hkL:LL.length≤8) (hb0:b≠0)
  (hA1:Blk b 175 #[.string nm,.string ch,.slice pe LE.length ce,.string cu.nm,.slice p1 n1 c1,.slice p2 n2 c2,.int .i64 x,.int .i64 z,.slice al LL.length cl,.int .u32 0,.int .i32 0,sm,.slice none 0 0,.nilFunc,.slice none 0 0,.map (some ib)] w1)
  (hpe:0<LE.length→pe=some ⟨ge,0,none⟩∧ge≠b∧ge<w1.heap.size) (hal:0<LL.length→al=some ⟨gl,0,none⟩∧gl≠b∧gl<w1.heap.size) (HSE:Hid (Srow base ge LE w1)) (HSL:Hid (Srow base gl LL w1)) (hSC:StO base cu (.slice p1 n1 c1) (.slice p2 n2 c2) x z w1) (HEN:Hid (Ends w1))
  (HIE:Hid (∀ q∈LE,∃ i,∃ hi:i<Pl.starts.length,i<3∧q.1.nm=Pl.starts[i]∧SpW q.1)) (HIL:Hid (∀ q∈LL,∃ i,∃ hi:i<Pl.lates.length,q.1.nm=Pl.lates[i]∧SpW q.1)) (hjC:jC<Pl.starts.length) (hjC3:3≤jC) (HCN:Hid (cu.nm=Pl.starts[jC])) :
  Calls Tryz.prog 65 #[.pointer (some ⟨b,9,none⟩),.func (.func 66) #[.pointer (some ⟨b,2,none⟩)] #[]] w1 fun e w3=>e=.returned (.tuple #[])∧FMd b nm ch ib LE LL jC w3∧w1.grownBy w3 (some b):=by
 have g8:w1.cell? ⟨b,10,none⟩=some (.int .i32 0):=blk_cell hA1 10
 have g7:w1.cell? ⟨b,9,none⟩=some (.int .u32 0):=blk_cell hA1 9
 have hA1':Blk b 175 #[.string nm,.string ch,.slice pe LE.length ce,.string cu.nm,.slice p1 n1 c1,.slice p2 n2 c2,.int .i64 x,.int .i64 z,.slice al LL.length cl,.int .u32 0,.int .i32 1,sm,.slice none 0 0,.nilFunc,.slice none 0 0,.map (some ib)] (w1.setCell ⟨b,10,none⟩ (.int .i32 1)):=hA1.set 10 (.int .i32 1)
 have hgw:w1.grownBy (w1.setCell ⟨b,10,none⟩ (.int .i32 1)) (some b):=grown_set w1 b 10 _
 have ag1:Agr w1 (w1.setCell ⟨b,10,none⟩ (.int .i32 1)):=fagr_set hA1 hb0 10 _
 have hms:=fmakeStages_ok nm ch ib base b ge gl LE LL cu jC pe ce p1 p2 n1 c1 n2 c2 x z al cl (.int .i32 1) sm (w1.setCell ⟨b,10,none⟩ (.int .i32 1)) (by omega) hkL hb0 hA1' (fun h=>⟨(hpe h).1,(hpe h).2.1,by have:=(hpe h).2.2;simp;omega⟩) (fun h=>⟨(hal h).1,(hal h).2.1,by have:=(hal h).2.2;simp;omega⟩)
  (HSE.out.keep ag1 (fun h o=>hgw.cell_far ⟨ge,o,none⟩ (hpe h).2.2 (by simpa using (hpe h).2.1))) (HSL.out.keep ag1 (fun h o=>hgw.cell_far ⟨gl,o,none⟩ (hal h).2.2 (by simpa using (hal h).2.1))) (hSC.agr ag1) (HEN.out.agr ag1) HIE HIL hjC hjC3 HCN
 have HM:Hid (Calls Tryz.prog 66 #[.pointer (some ⟨b,2,none⟩)] (w1.setCell ⟨b,10,none⟩ (.int .i32 1)) fun e w2=>e=.returned (.tuple #[])∧FMadeO (w1.setCell ⟨b,10,none⟩ (.int .i32 1)) LE LL jC b (fun vE fC vL=>#[.string nm,.string ch,.slice pe LE.length ce,.string cu.nm,.slice p1 n1 c1,.slice p2 n2 c2,.int .i64 x,.int .i64 z,.slice al LL.length cl,.int .u32 0,.int .i32 1,sm,vE,fC,vL,.map (some ib)]) w2∧w2.cell? ⟨b,9,none⟩=some (.int .u32 0)∧w2.cell? ⟨b,10,none⟩=some (.int .i32 1)∧(∀ o,w2.frozen? ⟨b,o,none⟩=false)):=hms.mono fun e w2 ⟨he,hm⟩=>by
  obtain ⟨vE,fC,vL,fE,fL,h1,h2⟩:=hm.ex
  exact ⟨he,hm,blk_cell h1 9,blk_cell h1 10,fun o=>blk_frozen h1 o⟩
 clear hms
 refine (fdo_first b w1 _ g7 g8 (blk_frozen hA1 10) HM).mono ?_
 rintro e w3 ⟨rfl,w2,hmade,_,hw3⟩
 obtain ⟨vE,fC,vL,fE,fL,hA2,hrE,hrL,haE,haL,hcO,hag2,hg2⟩:=hmade.ex
 simp only [World.size_setCell] at hrE hrL
 have hA3:Blk b 175 #[.string nm,.string ch,.slice pe LE.length ce,.string cu.nm,.slice p1 n1 c1,.slice p2 n2 c2,.int .i64 x,.int .i64 z,.slice al LL.length cl,.int .u32 1,.int .i32 0,sm,vE,fC,vL,.map (some ib)] w3:=by
  rw [hw3]
  exact Blk.set (Blk.set (show Blk b 175 #[.string nm,.string ch,.slice pe LE.length ce,.string cu.nm,.slice p1 n1 c1,.slice p2 n2 c2,.int .i64 x,.int .i64 z,.slice al LL.length cl,.int .u32 0,.int .i32 1,sm,vE,fC,vL,.map (some ib)] w2.drew from hA2) 9 (.int .u32 1)) 10 (.int .i32 0)
 have hg3:w2.grownBy w3 (some b):=by
  rw [hw3]
  exact grown_trans (grown_trans (⟨rfl,rfl,rfl,Nat.le_refl _,fun _ _ _=>rfl⟩:w2.grownBy w2.drew (some b)) (grown_set _ b 9 _)) (grown_set _ b 10 _)
 have ag3:Agr w2 w3:=Agr.of_grown hg3 (fun r o e ho hk=>by
  cases e
  rw [show w2.heap[b]?=_ from hA2] at ho
  cases ho
  rcases hk with h | ⟨c,t,fz,h1,h2⟩
  ·exact hb0 h
  ·cases h1
   exact absurd h2 (by decide))
 have hrE3:=hrE.kept hg3 (.inr (row_ne_blk hrE hA2 (by decide)))
 have hrL3:=hrL.kept hg3 (.inr (row_ne_blk hrL hA2 (by decide)))
 exact ⟨rfl,⟨_,_,_,_,_,_,_,_,vE,fC,vL,fE,fL,hA3,ownsRow_low hrE3 (Nat.zero_le _),ownsRow_low hrL3 (Nat.zero_le _),All2.mono (RE.agr ag3) haE,All2.mono (RL.agr ag3) haL,hcO.agr ag3⟩,grown_trans (grown_trans hgw hg2) hg3⟩
theorem Tsp.ie {ch:ByteArray} {T es:List Sp} {cu:Sp} {ls:List Sp} (h:Tsp ch T es cu ls) {L:List Sq} (hL:L.map (·.1)=es):∀ q∈L,∃ i,∃ hi:i<Pl.starts.length,i<3∧q.1.nm=Pl.starts[i]∧SpW q.1:=fun q hq=>by
 obtain ⟨i,b,k,hi,h3,e,hb,hbs⟩:=h.e q.1 (by rw [← hL];exact List.mem_map_of_mem hq)
 exact ⟨i,hi,h3,by rw [e];rfl,by rw [e];exact Pl.spW_of ch h.z _ _ b k hbs hb⟩
theorem Tsp.il {ch:ByteArray} {T es:List Sp} {cu:Sp} {ls:List Sp} (h:Tsp ch T es cu ls) {L:List Sq} (hL:L.map (·.1)=ls):∀ q∈L,∃ i,∃ hi:i<Pl.lates.length,q.1.nm=Pl.lates[i]∧SpW q.1:=fun q hq=>by
 obtain ⟨i,b,k,hi,e,hb,hbs⟩:=h.l q.1 (by rw [← hL];exact List.mem_map_of_mem hq)
 exact ⟨i,hi,by rw [e];rfl,by rw [e];exact Pl.spW_of ch h.z _ _ b k hbs hb⟩
theorem ftake_any (b:Nat) (nm ch:ByteArray) (ib:Nat) (T:List Sp) (s:ByteArray) (w:World) (hF:FA b nm ch ib T w) (HEN:Hid (Ends w)) (hs:s.size≤120) (xs:Ch3) (HCS:Hid (Pl.cs (Pl.bt s) s.size s.size 0=xs)) :
  Calls Tryz.prog 36 #[.pointer (some ⟨b,2,none⟩),.string s] w fun e w'=>FtO b nm ch ib T xs w e w':=by
 obtain ⟨hb0,es,cu,ls,hT,h⟩:=hF.ex
 have HIN:Hid (Pl.Inv (fun _=>True) xs):=(Pl.cs_inv s xs HCS.out).weak fun _ _=>trivial
 rcases h with h | ⟨LE,LL,jC,e1,e2,hj,hj3,⟨_,hcn⟩,h⟩
 ·obtain ⟨base,p1,c1,p2,n2,c2,p3,n3,c3,x,z,p4,c4,xr,yr,h1,r1,s1,sC,r4,s4⟩:=h.ex
  obtain ⟨LE,a1,k1,ge,he1,hv1,hg1,hS1⟩:=srow_of r1 s1
  obtain ⟨LL,a4,k4,gl,he4,hv4,hg4,hS4⟩:=srow_of r4 s4
  obtain ⟨jC,bC,cC,hjC,hjC3,heC,hbC,hbC'⟩:=hT.c
  have hlE:es.length=LE.length:=by rw [he1];simp
  have hlL:ls.length=LL.length:=by rw [he4];simp
  rw [hlE] at hv1 h1
  rw [hlL] at hv4 h1
  cases hv1
  cases hv4
  have hE7:=hT.n.1
  have hL7:=hT.n.2
  have hcn:cu.nm=Pl.starts[jC]:=by rw [heC];rfl
  have hgb:∀ {v n xr},w.ownsRow base 96 5 v n xr→v.ownBlock≠some b:=fun h=>row_ne_blk h h1 (by decide)
  refine (ftake_run nm ch ib b LE LL cu jC _ s hs xs HCS HIN w (by omega) (by omega) h1 (fun w1 hB1=>?_) (hT.ie he1.symm) (hT.il he4.symm) hjC hjC3 hcn _ rfl).mono ?_
  ·exact ffresh_do nm ch ib base b ge gl LE LL cu jC p1 c1 p2 p3 n2 c2 n3 c3 x z p4 c4 (.int .u32 0) w1 (by omega) (by omega) hb0 (h1.below hB1)
    (fun h=>⟨(hg1 h).1,fun e=>hgb r1 (by rw [(hg1 h).1,e];rfl),Nat.lt_of_lt_of_le (hg1 h).2 hB1.size⟩) (fun h=>⟨(hg4 h).1,fun e=>hgb r4 (by rw [(hg4 h).1,e];rfl),Nat.lt_of_lt_of_le (hg4 h).2 hB1.size⟩)
    (hS1.keep (Agr.below hB1) (fun h o=>hB1.cell (p:=⟨ge,o,none⟩) (hg1 h).2)) (hS4.keep (Agr.below hB1) (fun h o=>hB1.cell (p:=⟨gl,o,none⟩) (hg4 h).2)) (sC.agr (Agr.below hB1)) (HEN.out.below hB1) (hT.ie he1.symm) (hT.il he4.symm) hjC hjC3 hcn
  ·rintro e w' ⟨q1,q2,q3⟩
   refine ⟨⟨hb0,es,cu,ls,hT,.inr ⟨LE,LL,jC,he1.symm,he4.symm,hjC,hjC3,⟨hjC,hcn⟩,q2⟩⟩,q3,es,cu,ls,hT,?_⟩
   rw [he1,he4]
   exact q1
 ·obtain ⟨cs,hb,_⟩:=hF.blk
  have hE7:=hT.n.1
  have hL7:=hT.n.2
  rw [← e1,List.length_map] at hE7
  rw [← e2,List.length_map] at hL7
  refine (ftake_run nm ch ib b LE LL cu jC cs s hs xs HCS HIN w (by omega) (by omega) hb (fun w1 hB1=>fmade_again (h.below hB1)) (hT.ie e1) (hT.il e2) hj hj3 hcn _ rfl).mono ?_
  rintro e w' ⟨q1,q2,q3⟩
  refine ⟨⟨hb0,es,cu,ls,hT,.inr ⟨LE,LL,jC,e1,e2,hj,hj3,⟨hj,hcn⟩,q2⟩⟩,q3,es,cu,ls,hT,?_⟩
  rw [← e1,← e2]
  exact q1
end Go.Proofs.YtcmgclckknpecaaGreatDoor
namespace Go.Proofs.YtcmgclckknpecaaGreatDoor
open Go.RowKit
theorem info283:(Tryz.prog.info? 283).map (fun i=>(i.zero,i.size,i.bytes))=some (some (.agg #[.int .i64 0,.int .i64 0,.int .i64 0]),3,24):=by kernel_rfl
theorem info128:(Tryz.prog.info? 128).map (fun i=>(i.zero,i.size,i.bytes))=some (some (.agg #[.slice none 0 0,.int .i64 0,.int .i64 0,.int .i64 0]),4,48):=by kernel_rfl
end Go.Proofs.YtcmgclckknpecaaGreatDoor
namespace Go.Proofs.YtcmgclckknpecaaGreatDoor
open Go.RowKit
theorem decode_az (s:ByteArray) (i:Nat) (h:i<s.size):(Pl.bt s i<128→Utf8.decode s i=(Pl.bt s i,1))∧(128≤Pl.bt s i→128≤(Utf8.decode s i).1):=by
 have e:(s.get! i).toNat=Pl.bt s i:=by
  simp [Pl.bt,h,ByteArray.get!,ByteArray.getElem_eq_getElem_data]
 rw [Lib.decode_at,e]
 unfold Lib.decodeN
 refine ⟨fun hl=>by rw [if_pos hl],fun hl=>?_⟩
 rw [if_neg (by omega)]
 repeat' split
 all_goals (simp only;omega)
def Pl.azF (s:ByteArray):Nat→Nat→Bool
 | 0,_=>true
 | m+1,i=>if i<s.size then Pl.wit (Pl.bt s i) 97 122 && Pl.azF s m (i+1) else true
theorem Pl.plF_az (s:ByteArray):∀ m i,Pl.plF s m i=Pl.azF s m i
 | 0,_=>rfl
 | m+1,i=>by
  rw [Pl.plF,Pl.azF]
  by_cases h:i<s.size
  ·rw [if_pos h,if_pos h]
   obtain ⟨h1,h2⟩:=decode_az s i h
   by_cases hb:Pl.bt s i<128
   ·rw [h1 hb,Pl.plF_az s m]
   ·have:=h2 (by omega)
    have e1:Pl.wit (Utf8.decode s i).1 97 122=false:=by simp [Pl.wit];omega
    have e2:Pl.wit (Pl.bt s i) 97 122=false:=by simp [Pl.wit];omega
    rw [e1,e2,Bool.false_and,Bool.false_and]
  ·rw [if_neg h,if_neg h]
theorem ba_list (s:ByteArray):s.data.toList.length=s.size:=(Lib.size_eq s).symm
theorem Pl.stF_cons (s o nw:ByteArray) (l:Nat) (r:List (ByteArray × Nat × ByteArray)):Pl.stF s ((o,l,nw) :: r)=if o.size≤s.size∧l≤s.size - o.size∧s.extract (s.size - o.size) s.size=o then s.extract 0 (s.size - o.size)++nw else Pl.stF s r:=by
 rw [Pl.stF]
 have hd:(s.extract (s.size - o.size) s.size).data.toList=s.data.toList.drop (s.size - o.size):=by
  rw [ByteArray.data_extract,Array.toList_extract]
  show (s.data.toList.drop (s.size - o.size)).take (s.size - (s.size - o.size))=_
  exact List.take_of_length_le (by rw [List.length_drop,ba_list];omega)
 have ht:(s.extract 0 (s.size - o.size)).data.toList=s.data.toList.take (s.size - o.size):=by
  rw [ByteArray.data_extract,Array.toList_extract];simp
 have hsuf:Lib.hasSuffix s.data.toList o.data.toList=true ↔ (o.size≤s.size∧s.extract (s.size - o.size) s.size=o):=by
  unfold Lib.hasSuffix
  rw [List.isSuffixOf_iff_suffix,List.suffix_iff_eq_drop,ba_list,ba_list]
  constructor
  ·intro h
   have hl:=congrArg List.length h
   rw [ba_list,List.length_drop,ba_list] at hl
   refine ⟨by omega,ByteArray.ext (Array.toList_inj.1 ?_)⟩
   rw [hd,← h]
  ·rintro ⟨_,h⟩
   rw [← hd,h]
 by_cases hs:Lib.hasSuffix s.data.toList o.data.toList=true
 ·have hs2:=hsuf.1 hs
  have htr:Lib.trimSuffix s.data.toList o.data.toList=s.data.toList.take (s.size - o.size):=by unfold Lib.trimSuffix;rw [if_pos hs,ba_list,ba_list]
  simp only [htr,hs,true_and]
  have hlen:(s.data.toList.take (s.size - o.size)).length=s.size - o.size:=by rw [List.length_take,ba_list];omega
  rw [hlen]
  by_cases hl:l≤s.size - o.size
  ·rw [if_pos hl,if_pos ⟨hs2.1,hl,hs2.2⟩]
   congr 1
   apply ByteArray.ext
   apply Array.toList_inj.1
   rw [ht]
  ·rw [if_neg hl,if_neg (fun h=>hl h.2.1)]
 ·rw [if_neg (fun h=>hs h.1),if_neg (fun h=>hs (hsuf.2 ⟨h.1,h.2.2⟩))]
theorem rule_at (q:Nat) (hq:q<9):∃ (o:ByteArray) (l:Nat) (nw:ByteArray),endC[q*3]?=some (.string o)∧endC[q*3+1]?=some (.int .i64 (l:Int))∧endC[q*3+2]?=some (.string nw)∧Pl.ends9.drop q=(o,l,nw) :: Pl.ends9.drop (q+1)∧1≤l∧l≤3∧nw.size≤8∧o.size≤8:=by
 obtain rfl | rfl | rfl | rfl | rfl | rfl | rfl | rfl | rfl:q=0∨q=1∨q=2∨q=3∨q=4∨q=5∨q=6∨q=7∨q=8:=by omega
 ·exact ⟨⟨#[115,115,101,115]⟩,1,⟨#[115,115]⟩,rfl,rfl,rfl,rfl,by decide,by decide,by decide,by decide⟩
 ·exact ⟨⟨#[105,101,115]⟩,2,⟨#[121]⟩,rfl,rfl,rfl,rfl,by decide,by decide,by decide,by decide⟩
 ·exact ⟨⟨#[115,115]⟩,1,⟨#[115,115]⟩,rfl,rfl,rfl,rfl,by decide,by decide,by decide,by decide⟩
 ·exact ⟨⟨#[117,115]⟩,1,⟨#[117,115]⟩,rfl,rfl,rfl,rfl,by decide,by decide,by decide,by decide⟩
 ·exact ⟨⟨#[115]⟩,2,⟨#[]⟩,rfl,rfl,rfl,rfl,by decide,by decide,by decide,by decide⟩
 ·exact ⟨⟨#[105,110,103]⟩,3,⟨#[]⟩,rfl,rfl,rfl,rfl,by decide,by decide,by decide,by decide⟩
 ·exact ⟨⟨#[101,100,108,121]⟩,3,⟨#[]⟩,rfl,rfl,rfl,rfl,by decide,by decide,by decide,by decide⟩
 ·exact ⟨⟨#[101,100]⟩,3,⟨#[]⟩,rfl,rfl,rfl,rfl,by decide,by decide,by decide,by decide⟩
 ·exact ⟨⟨#[108,121]⟩,3,⟨#[]⟩,rfl,rfl,rfl,rfl,by decide,by decide,by decide,by decide⟩
set_option maxRecDepth 100000 in
set_option maxHeartbeats 2000000 in
theorem rrules_any (w:World) :
  Calls Tryz.prog 228 #[] w fun e w'=>∃ g,e=.returned (.slice (some ⟨g,0,none⟩) 9 9)∧w.heap.size≤g∧w'.heap[g]?=some (.cells endC 384 (0,0))∧Below w.heap.size w w':=by
 go_enter Tryz.func228,Tryz.ntmps228
 go_wp2
 go_ret
 exact ⟨w.heap.size,rfl,Nat.le_refl _,heap_alloc_new w _,(Below.refl _ w).alloc (Nat.le_refl _) _⟩
set_option maxRecDepth 100000 in
set_option maxHeartbeats 4000000 in
theorem rstem_any (s:ByteArray) (w:World) (hs:s.size≤1099511627776) :
  Calls Tryz.prog 141 #[.string s] w fun e w'=>e=.returned (.string (Pl.stm s))∧Below w.heap.size w w':=by
 obtain ⟨R,hR⟩:∃ R,Pl.stm s=R:=⟨_,rfl⟩
 rw [hR]
 unfold Pl.stm at hR
 rw [Pl.plF_az] at hR
 obtain ⟨P,hP⟩:∃ P,Pl.azF s s.size 0=P:=⟨_,rfl⟩
 rw [hP] at hR
 have HP:Hid (Pl.azF s s.size 0=P):=hP
 have HR:Hid ((if P=true then Pl.stF s Pl.ends9 else s)=R):=hR
 clear hP hR
 go_enter Tryz.func141,Tryz.ntmps141
 go_wp2
 go_loopw [3] (fun i wr=>Below w.heap.size w wr∧∃ (q m:Nat),i=.int .i64 (q:Int)∧q≤s.size∧s.size≤q+m∧Hid (Pl.azF s m q=P)) (fun i _=>s.size - (intOf i).toNat)
 case atStart=>exact ⟨Below.refl _ _,0,s.size,rfl,by omega,by omega,HP⟩
 case round =>
  obtain ⟨hB,q,m,rfl,hq,hqm,HQ⟩:=hrel
  obtain ⟨w0,hw0⟩:∃ w0,w0=wr:=⟨_,rfl⟩
  subst hw0
  have hs0:=hB.size
  by_cases hlt:q<s.size
  ·have hltI:(q:Int)<(s.size:Int):=by omega
   obtain ⟨m',rfl⟩:∃ m',m=m'+1:=⟨m - 1,by omega⟩
   have hQ:=HQ.out
   rw [Pl.azF,if_pos hlt] at hQ
   have hbe:=Pl.bt_eq hlt
   rw [hbe] at hQ
   have hb8:=UInt8.toNat_lt s[q]
   obtain ⟨c,hc⟩:∃ c,(s[q]).toNat=c:=⟨_,rfl⟩
   rw [hc] at hQ hb8
   clear hbe HQ
   by_cases h1:c<97
   ·have hPf:P=false:=by rw [← hQ];simp [Pl.wit];omega
    subst hPf
    have HX:Hid (s=R):=by have:=HR.out;rw [if_neg (by simp)] at this;exact this
    have h1I:(c:Int)<97:=by omega
    have h1d:decide ((c:Int)<97)=true:=by simp;omega
    clear hQ
    go_wp2_with fail
    go_ret
    exact ⟨by rw [HX.out];rfl,hB⟩
   ·have h1I:¬ (c:Int)<97:=by omega
    by_cases h2:122<c
    ·have hPf:P=false:=by rw [← hQ];simp [Pl.wit];omega
     subst hPf
     have HX:Hid (s=R):=by have:=HR.out;rw [if_neg (by simp)] at this;exact this
     have h2I:(122:Int)<(c:Int):=by omega
     clear hQ
     go_wp2_with fail
     go_ret
     exact ⟨by rw [HX.out];rfl,hB⟩
    ·have h2I:¬ (122:Int)<(c:Int):=by omega
     have HQ2:Hid (Pl.azF s m' (q+1)=P):=by
      have e:Pl.wit c 97 122=true:=by simp [Pl.wit];omega
      rw [e,Bool.true_and] at hQ;exact hQ
     clear hQ
     go_wp2_with fail
     exact ⟨⟨hB,q+1,m',by go_num,by omega,by omega,HQ2⟩,by simp [intOf];omega⟩
  ·have hltI:¬ (q:Int)<(s.size:Int):=by omega
   have hPt:P=true:=by
    rw [← HQ.out]
    cases m with
    | zero=>rfl
    | succ m=>rw [Pl.azF,if_neg hlt]
   subst hPt
   have HR2:Hid (Pl.stF s (Pl.ends9.drop 0)=R):=by have:=HR.out;rw [if_pos rfl] at this;exact this
   clear HQ HR HP
   go_wp2_with fail
   refine (rrules_any _).mono ?_
   rintro e w1 ⟨gr,rfl,hgr,hblk,h1⟩
   have hB1:Below w.heap.size w w1:=hB.trans (h1.mono hs0)
   obtain ⟨V,hV⟩:∃ V,endC=V:=⟨_,rfl⟩
   have hat:=rule_at
   rw [hV] at hblk hat
   have HAT:Hid (∀ q,q<9→∃ (o:ByteArray) (l:Nat) (nw:ByteArray),V[q*3]?=some (.string o)∧V[q*3+1]?=some (.int .i64 (l:Int))∧V[q*3+2]?=some (.string nw)∧Pl.ends9.drop q=(o,l,nw) :: Pl.ends9.drop (q+1)∧1≤l∧l≤3∧nw.size≤8∧o.size≤8):=hat
   have hgl:=(Array.getElem?_eq_some_iff.1 hblk).1
   clear hat hV
   go_wp2_with fail
   go_loopw [5] (fun i wr=>Below w1.heap.size w1 wr∧∃ q:Nat,i=.int .i64 (q:Int)∧q≤9∧Hid (Pl.stF s (Pl.ends9.drop q)=R)) (fun i _=>9 - (intOf i).toNat)
   case atStart=>exact ⟨Below.refl _ _,0,rfl,by omega,HR2⟩
   case round =>
    obtain ⟨h2,q,rfl,hq9,HQ⟩:=hrel
    obtain ⟨w2,hw2⟩:∃ w2,w2=wr:=⟨_,rfl⟩
    subst hw2
    have hB2:Below w.heap.size w w2:=hB1.trans (h2.mono hB1.size)
    by_cases hql:q<9
    ·have hqI:(q:Int)<9:=by omega
     obtain ⟨o,l,nw,c0,c1,c2,hd,hl1,hl3,hn8,ho8⟩:=HAT.out q hql
     have hb2:w2.heap[gr]?=some (.cells V 384 (0,0)):=(h2.block gr hgl).trans hblk
     have e0:w2.cell? ⟨gr,q*3,none⟩=some (.string o):=by simp [World.cell?,hb2,c0]
     have e1:w2.cell? ⟨gr,q*3+1,none⟩=some (.int .i64 (l:Int)):=by simp [World.cell?,hb2,c1]
     have e2:w2.cell? ⟨gr,q*3+2,none⟩=some (.string nw):=by simp [World.cell?,hb2,c2]
     have hQ:=HQ.out
     rw [hd,Pl.stF_cons] at hQ
     clear HQ hd c0 c1 c2 hb2
     have hw0:wrap64 ((s.size:Int) - (o.size:Int))=(s.size:Int) - (o.size:Int):=by unfold wrap64;omega
     by_cases hlo:o.size+l≤s.size
     ·obtain ⟨n,hn⟩:∃ n,s.size - o.size=n:=⟨_,rfl⟩
      have hnI:(s.size:Int) - (o.size:Int)=(n:Int):=by omega
      have hge:(l:Int)≤(n:Int):=by omega
      have hgd:decide (l≤n)=true:=by simp;omega
      have hn0:(0:Int)≤(n:Int):=by omega
      have hns:n≤s.size:=by omega
      have hnsI:(n:Int)≤(s.size:Int):=by omega
      rw [hn] at hQ
      by_cases heq:s.extract n s.size=o
      ·rw [if_pos ⟨by omega,by omega,heq⟩] at hQ
       have HX:Hid (s.extract 0 n++nw=R):=hQ
       have hcat:¬ 9223372036854775807<(s.extract 0 n).size+nw.size:=by rw [ByteArray.size_extract];omega
       have hee:((s.extract n s.size).toList == o.toList)=true:=by rw [heq];simp
       clear hQ heq
       go_wp2_with fail
       go_quiet (fail)
       go_wp2_with fail
       go_quiet (fail)
       go_wp2
       go_ret
       exact ⟨by rw [← HX.out];rfl,below_drewN (below_drewN hB2 _) _⟩
      ·rw [if_neg (fun h=>heq h.2.2)] at hQ
       have HX:Hid (Pl.stF s (Pl.ends9.drop (q+1))=R):=hQ
       have hee:((s.extract n s.size).toList == o.toList)=false:=by
        rw [beq_eq_false_iff_ne]
        intro h
        rw [ByteArray.toList_eq,ByteArray.toList_eq] at h
        exact heq (ByteArray.ext (Array.toList_inj.1 h))
       clear hQ heq
       go_wp2_with fail
       go_quiet (fail)
       go_wp2_with fail
       exact ⟨⟨below_drewN h2 _,q+1,by go_num,by omega,HX⟩,by simp [intOf];omega⟩
     ·rw [if_neg (fun h=>hlo (by omega))] at hQ
      have HX:Hid (Pl.stF s (Pl.ends9.drop (q+1))=R):=hQ
      have hge:¬ (l:Int)≤(s.size:Int) - (o.size:Int):=by omega
      have hgd:decide ((l:Int)≤(s.size:Int) - (o.size:Int))=false:=by simp;omega
      clear hQ
      go_wp2_with fail
      go_quiet (fail)
      go_wp2_with fail
      exact ⟨⟨below_drewN h2 _,q+1,by go_num,by omega,HX⟩,by simp [intOf];omega⟩
    ·have hqI:¬ (q:Int)<9:=by omega
     obtain rfl:q=9:=by omega
     have HX:Hid (s=R):=HQ.out
     clear HQ
     go_wp2_with fail
     go_ret
     exact ⟨by rw [HX.out];rfl,hB2⟩
end Go.Proofs.YtcmgclckknpecaaGreatDoor
