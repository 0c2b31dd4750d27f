import Derived.Test.YtcmgclckknpecaaGreatDoorKbf
import Derived.Test.YtcmgclckknpecaaGreatDoorKaa
import Derived.Deep.AppendLies
import Derived.WalkKit
import Derived.Test.YtcmgclckknpecaaGreatDoorKax
import Derived.Lib.Strings
import Derived.Laws.IdiomStrings
import Derived.Test.YtcmgclckknpecaaGreatDoorKbc
import Derived.Test.YtcmgclckknpecaaGreatDoorKaw
import Derived.Deep.RegionHeld3
import Derived.Deep.RegionLaw
import Derived.BigRegion
namespace Go.Proofs.YtcmgclckknpecaaGreatDoor
open Go.RowKit Go.Shelf
theorem row96_agr [Inhabited Exb] {w W:World} (ha:Agr w W) {base:Nat} {size:Nat} {v:Value} {n:Nat} {xs:List Value} (h:w.ownsRow base 96 size v n xs):W.ownsRow base 96 size v n xs:=by
 refine ⟨h.1,?_⟩
 rcases h.2 with h | ⟨g,cap,cur,rfl,hg,hh,r⟩
 ·exact .inl h
 ·exact .inr ⟨g,cap,cur,rfl,hg,ha.block g _ hh (.inr ⟨_,_,_,rfl,.inr (.inl rfl)⟩),r⟩
theorem StsE.agr [Inhabited Exb] {w W:World} (ha:Agr w W) {base:Nat} {es:List Sp} {xs:List Value} (h:StsE base es xs w):StsE base es xs W:=by
 obtain ⟨L,h1,h2,h3⟩:=h.ex
 exact ⟨L,h1,h2,fun q hq=>(h3 q hq).agr ha⟩
structure Tsp (ch:ByteArray) (T es:List Sp) (cu:Sp) (ls:List Sp):Prop where
 t:T=es++cu :: ls
 e:∀ e∈es,Pl.isE ch e
 c:Pl.isC ch cu
 l:∀ e∈ls,Pl.isL ch e
 n:es.length≤7∧ls.length≤7
 z:ch.size≤80
structure FFr [Inhabited Exb] (b:Nat) (nm ch:ByteArray) (ib:Nat) (es:List Sp) (cu:Sp) (ls:List Sp) (w:World):Prop where
 ex:∃ base p1 c1 p2 n2 c2 p3 n3 c3 x z p4 c4 xs ys,Blk b 175 #[.string nm,.string ch,.slice p1 es.length c1,.string cu.nm,.slice p2 n2 c2,.slice p3 n3 c3,.int .i64 x,.int .i64 z,.slice p4 ls.length c4,.int .u32 0,.int .i32 0,.int .u32 0,.slice none 0 0,.nilFunc,.slice none 0 0,.map (some ib)] w ∧
  w.ownsRow base 96 5 (.slice p1 es.length c1) es.length xs∧StsE base es xs w∧StE base cu (.slice p2 n2 c2) (.slice p3 n3 c3) x z w∧w.ownsRow base 96 5 (.slice p4 ls.length c4) ls.length ys∧StsE base ls ys w
structure FA [Inhabited Exb] (b:Nat) (nm ch:ByteArray) (ib:Nat) (T:List Sp) (w:World):Prop where
 ex:b≠0∧∃ es cu ls,Tsp ch T es cu ls∧(FFr b nm ch ib es cu ls w∨∃ LE LL jC,LE.map (·.1)=es∧LL.map (·.1)=ls∧jC<Pl.starts.length∧3≤jC∧(∃ h:jC<Pl.starts.length,cu.nm=Pl.starts[jC])∧FMd b nm ch ib LE LL jC w)
theorem FA.blk [Inhabited Exb] {b:Nat} {nm ch:ByteArray} {ib:Nat} {T:List Sp} {w:World} (h:FA b nm ch ib T w):∃ cs,Blk b 175 cs w∧cs[0]?=some (.string nm)∧cs[1]?=some (.string ch)∧cs[15]?=some (.map (some ib)):=by
 obtain ⟨_,es,cu,ls,_,h | ⟨LE,LL,jC,_,_,_,_,_,h⟩⟩:=h.ex
 ·obtain ⟨base,p1,c1,p2,n2,c2,p3,n3,c3,x,z,p4,c4,xs,ys,h1,_⟩:=h.ex
  exact ⟨_,h1,rfl,rfl,rfl⟩
 ·obtain ⟨a0,a1,a2,a3,a4,a5,a6,sm,vE,fC,vL,fE,fL,h1,_⟩:=h.ex
  exact ⟨_,h1,rfl,rfl,rfl⟩
theorem FA.keep [Inhabited Exb] {b:Nat} {nm ch:ByteArray} {ib:Nat} {T:List Sp} {w w':World} (h:FA b nm ch ib T w) (ha:Agr w w') (hb:∀ k c t f,(t=175∧k=b∨t=189∨t=194)→w.heap[k]?=some (.cells c t f)→w'.heap[k]?=some (.cells c t f)):FA b nm ch ib T w':=by
 obtain ⟨h0,es,cu,ls,ht,h | ⟨LE,LL,jC,e1,e2,e3,e4,e5,h⟩⟩:=h.ex
 ·obtain ⟨base,p1,c1,p2,n2,c2,p3,n3,c3,x,z,p4,c4,xs,ys,h1,h2,h3,h4,h5,h6⟩:=h.ex
  exact ⟨h0,es,cu,ls,ht,.inl ⟨base,p1,c1,p2,n2,c2,p3,n3,c3,x,z,p4,c4,xs,ys,hb _ _ _ _ (.inl ⟨rfl,rfl⟩) h1,row96_agr ha h2,h3.agr ha,h4.agr ha,row96_agr ha h5,h6.agr ha⟩⟩
 ·exact ⟨h0,es,cu,ls,ht,.inr ⟨LE,LL,jC,e1,e2,e3,e4,e5,h.keep ha hb⟩⟩
structure FtO [Inhabited Exb] (b:Nat) (nm ch:ByteArray) (ib:Nat) (T:List Sp) (xs:Ch3) (w:World) (e:Ending) (w':World):Prop where
 ex:FA b nm ch ib T w'∧w.grownBy w' (some b)∧∃ es cu ls,Tsp ch T es cu ls∧TakO (Pl.takeP es cu ls xs) w.heap.size e w'
theorem fmade_again [Inhabited Exb] {b:Nat} {nm ch:ByteArray} {ib:Nat} {LE LL:List Sq} {jC:Nat} {w:World} (h:FMd b nm ch ib LE LL jC w):Calls Tryz.prog 65 #[.pointer (some ⟨b,9,none⟩),.func (.func 66) #[.pointer (some ⟨b,2,none⟩)] #[]] w fun e w3=>e=.returned (.tuple #[])∧FMd b nm ch ib LE LL jC w3∧w.grownBy w3 (some b):=by
 obtain ⟨a0,a1,a2,a3,a4,a5,a6,sm,vE,fC,vL,fE,fL,h1,_⟩:=h.ex
 refine (fdo_again b w (blk_cell h1 9)).mono ?_
 rintro e w' ⟨rfl,rfl⟩
 exact ⟨rfl,h,⟨rfl,rfl,rfl,Nat.le_refl _,fun _ _ _=>rfl⟩⟩
theorem ffresh_do [Inhabited Exb] (nm ch:ByteArray) (ib base b ge gl:Nat) (LE LL:List Sq) (cu:Sp) (jC:Nat) (pe:Option Addr) (ce:Nat) (p1 p2:Option Addr) (n1 c1 n2 c2:Nat) (x z:Int) (al:Option Addr) (cl:Nat) (sm:Value) (w1:World) (hkE:LE.length≤7) (hkL:LL.length≤8) (hb0:b≠0)
  (hA1:Blk b 175 #[.string nm,.string ch,.slice pe LE.length ce,.string cu.nm,.slice p1 n1 c1,.slice p2 n2 c2,.int .i64 x,.int .i64 z,.slice al LL.length cl,.int .u32 0,.int .i32 0,sm,.slice none 0 0,.nilFunc,.slice none 0 0,.map (some ib)] w1)
  (hpe:0<LE.length→pe=some ⟨ge,0,none⟩∧ge≠b∧ge<w1.heap.size) (hal:0<LL.length→al=some ⟨gl,0,none⟩∧gl≠b∧gl<w1.heap.size) (HSE:Hid (Srow base ge LE w1)) (HSL:Hid (Srow base gl LL w1)) (hSC:StE base cu (.slice p1 n1 c1) (.slice p2 n2 c2) x z w1) (HEN:Hid (Ends w1))
  (HIE:Hid (∀ q∈LE,∃ i,∃ hi:i<Pl.starts.length,i<3∧q.1.nm=Pl.starts[i]∧SpW q.1)) (HIL:Hid (∀ q∈LL,∃ i,∃ hi:i<Pl.lates.length,q.1.nm=Pl.lates[i]∧SpW q.1)) (hjC:jC<Pl.starts.length) (hjC3:3≤jC) (HCN:Hid (cu.nm=Pl.starts[jC])) :
  Calls Tryz.prog 65 #[.pointer (some ⟨b,9,none⟩),.func (.func 66) #[.pointer (some ⟨b,2,none⟩)] #[]] w1 fun e w3=>e=.returned (.tuple #[])∧FMd b nm ch ib LE LL jC w3∧w1.grownBy w3 (some b):=by
 have g8:w1.cell? ⟨b,10,none⟩=some (.int .i32 0):=blk_cell hA1 10
 have g7:w1.cell? ⟨b,9,none⟩=some (.int .u32 0):=blk_cell hA1 9
 have hA1':Blk b 175 #[.string nm,.string ch,.slice pe LE.length ce,.string cu.nm,.slice p1 n1 c1,.slice p2 n2 c2,.int .i64 x,.int .i64 z,.slice al LL.length cl,.int .u32 0,.int .i32 1,sm,.slice none 0 0,.nilFunc,.slice none 0 0,.map (some ib)] (w1.setCell ⟨b,10,none⟩ (.int .i32 1)):=hA1.set 10 (.int .i32 1)
 have hgw:w1.grownBy (w1.setCell ⟨b,10,none⟩ (.int .i32 1)) (some b):=grown_set w1 b 10 _
 have ag1:Agr w1 (w1.setCell ⟨b,10,none⟩ (.int .i32 1)):=fagr_set hA1 hb0 10 _
 have hms:=fmakeStages_ok nm ch ib base b ge gl LE LL cu jC pe ce p1 p2 n1 c1 n2 c2 x z al cl (.int .i32 1) sm (w1.setCell ⟨b,10,none⟩ (.int .i32 1)) (by omega) hkL hb0 hA1' (fun h=>⟨(hpe h).1,(hpe h).2.1,by have:=(hpe h).2.2;simp;omega⟩) (fun h=>⟨(hal h).1,(hal h).2.1,by have:=(hal h).2.2;simp;omega⟩)
  (HSE.out.keep ag1 (fun h o=>hgw.cell_far ⟨ge,o,none⟩ (hpe h).2.2 (by simpa using (hpe h).2.1))) (HSL.out.keep ag1 (fun h o=>hgw.cell_far ⟨gl,o,none⟩ (hal h).2.2 (by simpa using (hal h).2.1))) (hSC.agr ag1) (HEN.out.agr ag1) HIE HIL hjC hjC3 HCN
 have HM:Hid (Calls Tryz.prog 66 #[.pointer (some ⟨b,2,none⟩)] (w1.setCell ⟨b,10,none⟩ (.int .i32 1)) fun e w2=>e=.returned (.tuple #[])∧FMadeO (w1.setCell ⟨b,10,none⟩ (.int .i32 1)) LE LL jC b (fun vE fC vL=>#[.string nm,.string ch,.slice pe LE.length ce,.string cu.nm,.slice p1 n1 c1,.slice p2 n2 c2,.int .i64 x,.int .i64 z,.slice al LL.length cl,.int .u32 0,.int .i32 1,sm,vE,fC,vL,.map (some ib)]) w2∧w2.cell? ⟨b,9,none⟩=some (.int .u32 0)∧w2.cell? ⟨b,10,none⟩=some (.int .i32 1)∧(∀ o,w2.frozen? ⟨b,o,none⟩=false)):=hms.mono fun e w2 ⟨he,hm⟩=>by
  obtain ⟨vE,fC,vL,fE,fL,h1,h2⟩:=hm.ex
  exact ⟨he,hm,blk_cell h1 9,blk_cell h1 10,fun o=>blk_frozen h1 o⟩
 clear hms
 refine (fdo_first b w1 _ g7 g8 (blk_frozen hA1 10) HM).mono ?_
 rintro e w3 ⟨rfl,w2,hmade,_,hw3⟩
 obtain ⟨vE,fC,vL,fE,fL,hA2,hrE,hrL,haE,haL,hcO,hag2,hg2⟩:=hmade.ex
 simp only [World.size_setCell] at hrE hrL
 have hA3:Blk b 175 #[.string nm,.string ch,.slice pe LE.length ce,.string cu.nm,.slice p1 n1 c1,.slice p2 n2 c2,.int .i64 x,.int .i64 z,.slice al LL.length cl,.int .u32 1,.int .i32 0,sm,vE,fC,vL,.map (some ib)] w3:=by
  rw [hw3]
  exact Blk.set (Blk.set (show Blk b 175 #[.string nm,.string ch,.slice pe LE.length ce,.string cu.nm,.slice p1 n1 c1,.slice p2 n2 c2,.int .i64 x,.int .i64 z,.slice al LL.length cl,.int .u32 0,.int .i32 1,sm,vE,fC,vL,.map (some ib)] w2.drew from hA2) 9 (.int .u32 1)) 10 (.int .i32 0)
 have hg3:w2.grownBy w3 (some b):=by
  rw [hw3]
  exact grown_trans (grown_trans (⟨rfl,rfl,rfl,Nat.le_refl _,fun _ _ _=>rfl⟩:w2.grownBy w2.drew (some b)) (grown_set _ b 9 _)) (grown_set _ b 10 _)
 have ag3:Agr w2 w3:=Agr.of_grown hg3 (fun r o e ho hk=>by
  cases e
  rw [show w2.heap[b]?=_ from hA2] at ho
  cases ho
  rcases hk with h | ⟨c,t,fz,h1,h2⟩
  ·exact hb0 h
  ·cases h1
   exact absurd (h2.imp_left And.left) (by decide))
 have hrE3:=hrE.kept hg3 (.inr (row_ne_blk hrE hA2 (by decide)))
 have hrL3:=hrL.kept hg3 (.inr (row_ne_blk hrL hA2 (by decide)))
 exact ⟨rfl,⟨_,_,_,_,_,_,_,_,vE,fC,vL,fE,fL,hA3,ownsRow_low hrE3 (Nat.zero_le _),ownsRow_low hrL3 (Nat.zero_le _),All2.mono (RE.agr ag3) haE,All2.mono (RL.agr ag3) haL,hcO.agr ag3⟩,grown_trans (grown_trans hgw hg2) hg3⟩
theorem Tsp.ie {ch:ByteArray} {T es:List Sp} {cu:Sp} {ls:List Sp} (h:Tsp ch T es cu ls) {L:List Sq} (hL:L.map (·.1)=es):∀ q∈L,∃ i,∃ hi:i<Pl.starts.length,i<3∧q.1.nm=Pl.starts[i]∧SpW q.1:=fun q hq=>by
 obtain ⟨i,b,k,hi,h3,e,hb,hbs⟩:=h.e q.1 (by rw [← hL];exact List.mem_map_of_mem hq)
 exact ⟨i,hi,h3,by rw [e];rfl,by rw [e];exact Pl.spW_of ch h.z _ _ b k hbs hb⟩
theorem Tsp.il {ch:ByteArray} {T es:List Sp} {cu:Sp} {ls:List Sp} (h:Tsp ch T es cu ls) {L:List Sq} (hL:L.map (·.1)=ls):∀ q∈L,∃ i,∃ hi:i<Pl.lates.length,q.1.nm=Pl.lates[i]∧SpW q.1:=fun q hq=>by
 obtain ⟨i,b,k,hi,e,hb,hbs⟩:=h.l q.1 (by rw [← hL];exact List.mem_map_of_mem hq)
 exact ⟨i,hi,by rw [e];rfl,by rw [e];exact Pl.spW_of ch h.z _ _ b k hbs hb⟩
theorem ftake_any [Inhabited Exb] (b:Nat) (nm ch:ByteArray) (ib:Nat) (T:List Sp) (s:ByteArray) (w:World) (hF:FA b nm ch ib T w) (HEN:Hid (Ends w)) (hs:s.size≤120) (xs:Ch3) (HCS:Hid (Pl.cs (Pl.bt s) s.size s.size 0=xs)) :
  Calls Tryz.prog 36 #[.pointer (some ⟨b,2,none⟩),.string s] w fun e w'=>FtO b nm ch ib T xs w e w':=by
 obtain ⟨hb0,es,cu,ls,hT,h⟩:=hF.ex
 have HIN:Hid (Pl.Inv (fun _=>True) xs):=(Pl.cs_inv s xs HCS.out).weak fun _ _=>trivial
 rcases h with h | ⟨LE,LL,jC,e1,e2,hj,hj3,⟨_,hcn⟩,h⟩
 ·obtain ⟨base,p1,c1,p2,n2,c2,p3,n3,c3,x,z,p4,c4,xr,yr,h1,r1,s1,sC,r4,s4⟩:=h.ex
  obtain ⟨LE,a1,k1,ge,he1,hv1,hg1,hS1⟩:=srow_of r1 s1
  obtain ⟨LL,a4,k4,gl,he4,hv4,hg4,hS4⟩:=srow_of r4 s4
  obtain ⟨jC,bC,cC,hjC,hjC3,heC,hbC,hbC'⟩:=hT.c
  have hlE:es.length=LE.length:=by rw [he1];simp
  have hlL:ls.length=LL.length:=by rw [he4];simp
  rw [hlE] at hv1 h1
  rw [hlL] at hv4 h1
  cases hv1
  cases hv4
  have hE7:=hT.n.1
  have hL7:=hT.n.2
  have hcn:cu.nm=Pl.starts[jC]:=by rw [heC];rfl
  have hgb:∀ {v n xr},w.ownsRow base 96 5 v n xr→v.ownBlock≠some b:=fun h=>row_ne_blk h h1 (by decide)
  refine (ftake_run nm ch ib b LE LL cu jC _ s hs xs HCS HIN w (by omega) (by omega) h1 (fun w1 hB1=>?_) (hT.ie he1.symm) (hT.il he4.symm) hjC hjC3 hcn _ rfl).mono ?_
  ·exact ffresh_do nm ch ib base b ge gl LE LL cu jC p1 c1 p2 p3 n2 c2 n3 c3 x z p4 c4 (.int .u32 0) w1 (by omega) (by omega) hb0 (h1.below hB1)
    (fun h=>⟨(hg1 h).1,fun e=>hgb r1 (by rw [(hg1 h).1,e];rfl),Nat.lt_of_lt_of_le (hg1 h).2 hB1.size⟩) (fun h=>⟨(hg4 h).1,fun e=>hgb r4 (by rw [(hg4 h).1,e];rfl),Nat.lt_of_lt_of_le (hg4 h).2 hB1.size⟩)
    (hS1.keep (Agr.below hB1) (fun h o=>hB1.cell (p:=⟨ge,o,none⟩) (hg1 h).2)) (hS4.keep (Agr.below hB1) (fun h o=>hB1.cell (p:=⟨gl,o,none⟩) (hg4 h).2)) (sC.agr (Agr.below hB1)) (HEN.out.below hB1) (hT.ie he1.symm) (hT.il he4.symm) hjC hjC3 hcn
  ·rintro e w' ⟨q1,q2,q3⟩
   refine ⟨⟨hb0,es,cu,ls,hT,.inr ⟨LE,LL,jC,he1.symm,he4.symm,hjC,hjC3,⟨hjC,hcn⟩,q2⟩⟩,q3,es,cu,ls,hT,?_⟩
   rw [he1,he4]
   exact q1
 ·obtain ⟨cs,hb,_⟩:=hF.blk
  have hE7:=hT.n.1
  have hL7:=hT.n.2
  rw [← e1,List.length_map] at hE7
  rw [← e2,List.length_map] at hL7
  refine (ftake_run nm ch ib b LE LL cu jC cs s hs xs HCS HIN w (by omega) (by omega) hb (fun w1 hB1=>fmade_again (h.below hB1)) (hT.ie e1) (hT.il e2) hj hj3 hcn _ rfl).mono ?_
  rintro e w' ⟨q1,q2,q3⟩
  refine ⟨⟨hb0,es,cu,ls,hT,.inr ⟨LE,LL,jC,e1,e2,hj,hj3,⟨hj,hcn⟩,q2⟩⟩,q3,es,cu,ls,hT,?_⟩
  rw [← e1,← e2]
  exact q1
end Go.Proofs.YtcmgclckknpecaaGreatDoor
namespace Go.Proofs.YtcmgclckknpecaaGreatDoor
open Go.RowKit
end Go.Proofs.YtcmgclckknpecaaGreatDoor
namespace Go.Proofs.YtcmgclckknpecaaGreatDoor
open Go.RowKit
theorem decode_az (s:ByteArray) (i:Nat) (h:i<s.size):(Pl.bt s i<128→Utf8.decode s i=(Pl.bt s i,1))∧(128≤Pl.bt s i→128≤(Utf8.decode s i).1):=by
 have e:(s.get! i).toNat=Pl.bt s i:=by
  simp [Pl.bt,h,ByteArray.get!,ByteArray.getElem_eq_getElem_data]
 rw [Lib.decode_at,e]
 unfold Lib.decodeN
 refine ⟨fun hl=>by rw [if_pos hl],fun hl=>?_⟩
 rw [if_neg (by omega)]
 repeat' split
 all_goals (simp only;omega)
def Pl.azF (s:ByteArray):Nat→Nat→Bool
 | 0,_=>true
 | m+1,i=>if i<s.size then Pl.wit (Pl.bt s i) 97 122 && Pl.azF s m (i+1) else true
theorem Pl.plF_az (s:ByteArray):∀ m i,Pl.plF s m i=Pl.azF s m i
 | 0,_=>rfl
 | m+1,i=>by
  rw [Pl.plF,Pl.azF]
  by_cases h:i<s.size
  ·rw [if_pos h,if_pos h]
   obtain ⟨h1,h2⟩:=decode_az s i h
   by_cases hb:Pl.bt s i<128
   ·rw [h1 hb,Pl.plF_az s m]
   ·have:=h2 (by omega)
    have e1:Pl.wit (Utf8.decode s i).1 97 122=false:=by simp [Pl.wit];omega
    have e2:Pl.wit (Pl.bt s i) 97 122=false:=by simp [Pl.wit];omega
    rw [e1,e2,Bool.false_and,Bool.false_and]
  ·rw [if_neg h,if_neg h]
end Go.Proofs.YtcmgclckknpecaaGreatDoor
namespace Go.Proofs.YtcmgclckknpecaaGreatDoor
open Go.RowKit
end Go.Proofs.YtcmgclckknpecaaGreatDoor
namespace Go.Proofs.YtcmgclckknpecaaGreatDoor
open Go.RowKit
end Go.Proofs.YtcmgclckknpecaaGreatDoor
namespace Go.Proofs.YtcmgclckknpecaaGreatDoor
open Go.RowKit
end Go.Proofs.YtcmgclckknpecaaGreatDoor
namespace Go.Proofs.YtcmgclckknpecaaGreatDoor
open Go.RowKit
end Go.Proofs.YtcmgclckknpecaaGreatDoor
namespace Go.Proofs.YtcmgclckknpecaaGreatDoor
open Go.RowKit
def Pl.isNm (s:ByteArray):Bool:=Pl.azF s s.size 0 && decide (0<s.size)
set_option maxRecDepth 100000 in
set_option maxHeartbeats 2000000 in
theorem rsmall_any (s:ByteArray) (hs:s.size≤9223372036854775807) (w:World) (R:Bool) (HR0:Hid (Pl.isNm s=R)) :
  Calls Tryz.prog 61 #[.string s] w fun e w'=>e=.returned (.bool R)∧Below w.heap.size w w':=by
 obtain ⟨P,hP⟩:∃ P,Pl.azF s s.size 0=P:=⟨_,rfl⟩
 have HR:Hid ((P && decide (0<s.size))=R):=by have:=HR0.out;unfold Pl.isNm at this;rw [hP] at this;exact this
 have HP:Hid (Pl.azF s s.size 0=P):=hP
 clear hP HR0
 go_enter Tryz.func61,Tryz.ntmps61
 go_wp2
 go_loopw [3] (fun i wr=>Below w.heap.size w wr∧∃ (q m:Nat),i=.int .i64 (q:Int)∧q≤s.size∧s.size≤q+m∧Hid (Pl.azF s m q=P)) (fun i _=>s.size - (intOf i).toNat)
 case atStart=>exact ⟨Below.refl _ _,0,s.size,rfl,by omega,by omega,HP⟩
 case round =>
  obtain ⟨hB,q,m,rfl,hq,hqm,HQ⟩:=hrel
  by_cases hlt:q<s.size
  ·have hltI:(q:Int)<(s.size:Int):=by omega
   obtain ⟨m',rfl⟩:∃ m',m=m'+1:=⟨m - 1,by omega⟩
   have hQ:=HQ.out
   rw [Pl.azF,if_pos hlt] at hQ
   have hbe:=Pl.bt_eq hlt
   rw [hbe] at hQ
   have hb8:=UInt8.toNat_lt s[q]
   obtain ⟨c,hc⟩:∃ c,(s[q]).toNat=c:=⟨_,rfl⟩
   rw [hc] at hQ hb8
   clear hbe HQ
   by_cases h1:c<97
   ·have hRf:R=false:=by
     have:P=false:=by rw [← hQ];simp [Pl.wit];omega
     rw [← HR.out,this,Bool.false_and]
    subst hRf
    have h1I:(c:Int)<97:=by omega
    clear hQ HR
    go_wp2_with fail
    go_ret
    exact ⟨rfl,hB⟩
   ·have h1I:¬ (c:Int)<97:=by omega
    by_cases h2:122<c
    ·have hRf:R=false:=by
      have:P=false:=by rw [← hQ];simp [Pl.wit];omega
      rw [← HR.out,this,Bool.false_and]
     subst hRf
     have h2I:(122:Int)<(c:Int):=by omega
     clear hQ HR
     go_wp2_with fail
     go_ret
     exact ⟨rfl,hB⟩
    ·have h2I:¬ (122:Int)<(c:Int):=by omega
     have HQ2:Hid (Pl.azF s m' (q+1)=P):=by
      have e:Pl.wit c 97 122=true:=by simp [Pl.wit];omega
      rw [e,Bool.true_and] at hQ;exact hQ
     clear hQ
     go_wp2_with fail
     exact ⟨⟨hB,q+1,m',by go_num,by omega,by omega,HQ2⟩,by simp [intOf];omega⟩
  ·have hltI:¬ (q:Int)<(s.size:Int):=by omega
   have hPt:P=true:=by
    rw [← HQ.out]
    cases m with
    | zero=>rfl
    | succ m=>rw [Pl.azF,if_neg hlt]
   have hR2:R=decide (0<s.size):=by rw [← HR.out,hPt,Bool.true_and]
   subst hR2
   clear HQ HR HP
   go_wp2_with fail
   go_ret
   exact ⟨ret_bool (by simp),hB⟩
structure Dg (d:Nat) (v0 v1 v2:Value) (w:World):Prop where
 b:w.heap[d]?=some (Obj.cells #[v0,v1,v2] 62 (0,0))
theorem Dg.cell {d:Nat} {v0 v1 v2:Value} {w:World} (h:Dg d v0 v1 v2 w):w.cell? ⟨d,0,none⟩=some v0∧w.cell? ⟨d,1,none⟩=some v1∧w.cell? ⟨d,2,none⟩=some v2∧∀ o,w.frozen? ⟨d,o,none⟩=false:=by
 simp [World.cell?,World.frozen?,h.b]
def fenc (f:ByteArray × ByteArray):List Value:=[.string f.1,.string f.2]
def Pl.fld (nm:ByteArray):List (ByteArray × ByteArray)→Nat→Int
 | [],_=>-1
 | f :: r,i=>if f.1=nm then (i:Int) else Pl.fld nm r (i+1)
set_option maxRecDepth 100000 in
set_option maxHeartbeats 2000000 in
theorem rfield_any (d:Nat) (v1 v2:Value) (a:Option Addr) (g cap:Nat) (fs:List (ByteArray × ByteArray)) (nm:ByteArray) (w:World) (hD:Dg d (.slice a fs.length cap) v1 v2 w) (HP:Hid (∀ i (h:i<fs.length),w.cell? ⟨g,i*2,none⟩=some (.string (fs[i]).1))) (ha:0<fs.length→a=some ⟨g,0,none⟩) (hl:fs.length≤1000) (R:Int) (HR:Hid (Pl.fld nm fs 0=R)) :
  Calls Tryz.prog 62 #[.pointer (some ⟨d,0,none⟩),.string nm] w fun e w'=>e=.returned (.int .i64 R)∧Below w.heap.size w w':=by
 obtain ⟨c0,c1,c2,cf⟩:=hD.cell
 go_enter Tryz.func62,Tryz.ntmps62
 go_wp2_with fail
 go_loopw [5] (fun iv wr=>∃ (j q:Nat),wr=w.drewN q∧iv=.int .i64 (j:Int)∧j≤fs.length∧Hid (Pl.fld nm (fs.drop j) j=R)) (fun iv _=>fs.length - (intOf iv).toNat)
 case atStart=>exact ⟨0,0,rfl,rfl,by omega,HR⟩
 case round =>
  obtain ⟨j,q,rfl,rfl,hj,HJ⟩:=hrel
  by_cases hjl:j<fs.length
  ·have hjI:(j:Int)<(fs.length:Int):=by omega
   obtain rfl:=ha (by omega)
   have hc:=HP.out j hjl
   have hd:fs.drop j=fs[j] :: fs.drop (j+1):=List.drop_eq_getElem_cons hjl
   obtain ⟨⟨y,z⟩,hy⟩:∃ y,fs[j]=y:=⟨_,rfl⟩
   rw [hy] at hc hd
   simp only at hc
   have hJ:=HJ.out
   rw [hd,Pl.fld] at hJ
   simp only at hJ
   clear hd hy HJ
   by_cases hyx:y=nm
   ·subst hyx
    rw [if_pos rfl] at hJ
    subst hJ
    go_wp2_with fail
    go_ret
    exact ⟨rfl,below_drewN (Below.refl _ _) _⟩
   ·rw [if_neg hyx] at hJ
    have HJ2:Hid (Pl.fld nm (fs.drop (j+1)) (j+1)=R):=hJ
    clear hJ
    go_wp2_with fail
    ·exfalso
     rename_i hno
     rw [ByteArray.toList_eq,ByteArray.toList_eq,beq_iff_eq] at hno
     exact hyx (ByteArray.ext (Array.toList_inj.1 hno))
    exact ⟨⟨j+1,q,rfl,by go_num,by omega,HJ2⟩,by simp [intOf];omega⟩
  ·have hjI:¬ (j:Int)<(fs.length:Int):=by omega
   have hJ:=HJ.out
   rw [List.drop_of_length_le (by omega),Pl.fld] at hJ
   subst hJ
   go_wp2_with fail
   go_ret
   exact ⟨rfl,below_drewN (Below.refl _ _) _⟩
end Go.Proofs.YtcmgclckknpecaaGreatDoor
