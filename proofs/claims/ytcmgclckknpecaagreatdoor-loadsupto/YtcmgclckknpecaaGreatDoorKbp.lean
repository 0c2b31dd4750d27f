import Derived.Test.YtcmgclckknpecaaGreatDoorKao
import Derived.Test.YtcmgclckknpecaaGreatDoorKbo
import Derived.Test.YtcmgclckknpecaaGreatDoorKae
import Derived.Shelf.Strconv.Itoa3
import Derived.Lib.AppendIntMem
import Derived.Lib.SmallJoins
import Derived.Lib.ItoaLen
import Derived.Test.YtcmgclckknpecaaGreatDoorProg
import Derived.Test.YtcmgclckknpecaaGreatDoorKad
import Derived.Shelf.Strings.BuilderK
namespace Go.Proofs.YtcmgclckknpecaaGreatDoor
open Go.RowKit Go.Shelf
structure Dok (ds:Dl):Prop where
 n:Dnd ds
 l:ds.length≤12
 d:∀ d∈ds,d.1≤999∧1≤d.2.length∧d.2.length≤3∧∀ t∈d.2,t.size≤120
theorem Dok.put {nf:Nat} {Cs:List (List Sp)} {ds:Dl} {id:Int} {tx:List ByteArray} (h:Dok ds) (hnf:nf≤3) (hnf1:1≤nf) (hC:Cs.length=nf):Dok (Pl.putD nf Cs ds id tx):=by
 unfold Pl.putD
 split
 ·rename_i hr
  unfold Pl.putR at hr
  split at hr
  ·simp at hr
  ·rename_i hb
   split at hr
   ·rename_i p hp
    exact absurd (by rw [hr]) (Pl.tkE_ne _ _ _ _ hp)
   ·rename_i hk
    have hid:0≤id∧id≤999∧tx.length=nf:=by omega
    have hpm:=Pl.ins_perm (id.toNat,tx) ds
    have hnid:((id.toNat:Nat):Int)=id:=by omega
    refine ⟨Dnd.ins h.n,?_,fun d hd=>?_⟩
    ·rw [hpm.length_eq,List.length_cons]
     have hf:=filter_len id ds h.n
     show (Pl.nid ((id.toNat:Nat):Int) ds).length+1≤12
     rw [hnid]
     unfold Pl.nid
     have hl:=h.l
     split at hr
     ·simp at hr
     ·rename_i hnb
      cases hh:dhas id ds
      ·rw [hh,if_neg (by simp)] at hf
       have:ds.length<12:=by
        rcases Nat.lt_or_ge ds.length 12 with h | h
        ·exact h
        ·exact absurd ⟨hh,h⟩ hnb
       omega
      ·rw [hh,if_pos rfl] at hf
       omega
    ·rcases List.mem_cons.1 (hpm.mem_iff.1 hd) with rfl | hd
     ·exact ⟨by show id.toNat≤999;omega,by show 1≤tx.length;omega,by show tx.length≤3;omega,Pl.tkE_sizes _ tx 0 (by omega) hk⟩
     ·exact h.d d (List.mem_filter.1 hd).1
 ·exact h
theorem Lib.cut_le (l p:List UInt8):(Lib.cut l p).1.length≤l.length∧(Lib.cut l p).2.1.length≤l.length:=by
 unfold Lib.cut
 split
 ·simp;omega
 ·simp
structure RdO [Inhabited Exb] (B b:Nat) (L:List Fe) (m:Nat) (X Y:Nat→Prop) (N:Nat) (w:World) (e:Ending) (w':World):Prop where
 ex:∃ (r:Bool) (ds':Dl) (Y':Nat→Prop),e=.returned (.bool r)∧PsO B b L m ds' X Y (N+900) w w' Y'∧Dok ds'
theorem PsO.same [Inhabited Exb] {B b:Nat} {L:List Fe} {m:Nat} {ds:Dl} {X Y:Nat→Prop} {N:Nat} {w w':World} (hE:Eng B b L m ds X w) (hG:Gl B X Y N w) (hB:B≤w.heap.size) (hb:Below w.heap.size w w'):PsO B b L m ds X Y (N+900) w w' Y :=
 ⟨hE.below hB hb,(hG.below hb).mono (by omega),fun _ q=>q,fun _ q=>.inl q,Mv.below hb⟩
set_option maxRecDepth 100000 in
set_option maxHeartbeats 4000000 in
theorem readDoc_any [Inhabited Exb] (B b:Nat) (L:List Fe) (m:Nat) (ds:Dl) (X Y:Nat→Prop) (N:Nat) (s:ByteArray) (hsz:s.size≤1000000000) (w:World) (hE:Eng B b L m ds X w) (hG:Gl B X Y N w) (hB:B≤w.heap.size) (hYm:¬ Y m) (HEN:Hid (Ends w)) (hN:N≤4611686018427380000) (HEX:Hid (∀ k,(default:Exb).p k→k<w.heap.size)) (hD:Dok ds) (hT:Tbr w) (hU:Lib.Utf8Tabs 5 6 w) :
  Calls Tryz.prog 122 #[.pointer (some ⟨b,0,none⟩),.string s] w fun e w'=>RdO B b L m X Y N w e w':=by
 have hcut:=cut_any s ⟨#[32]⟩ w (by omega) hT
 have hcl:=Lib.cut_le s.data.toList (ByteArray.mk #[32]).data.toList
 obtain ⟨p1,hp1⟩:∃ p1,p1=ByteArray.mk (Lib.cut s.data.toList (ByteArray.mk #[32]).data.toList).1.toArray:=⟨_,rfl⟩
 obtain ⟨p2,hp2⟩:∃ p2,p2=ByteArray.mk (Lib.cut s.data.toList (ByteArray.mk #[32]).data.toList).2.1.toArray:=⟨_,rfl⟩
 obtain ⟨p3,hp3⟩:∃ p3,p3=(Lib.cut s.data.toList (ByteArray.mk #[32]).data.toList).2.2:=⟨_,rfl⟩
 have hs0:s.data.toList.length=s.size:=by rw [Array.length_toList];rfl
 have hs1:p1.size≤s.size:=by rw [hp1,← hs0];show Array.size _≤_;rw [List.size_toArray];exact hcl.1
 have hs2:p2.size≤s.size:=by rw [hp2,← hs0];show Array.size _≤_;rw [List.size_toArray];exact hcl.2
 rw [← hp1,← hp2,← hp3] at hcut
 clear hp1 hp2 hp3 hcl hs0
 have HE:Hid (Eng B b L m ds X w):=hE
 have HG:Hid (Gl B X Y N w):=hG
 have HT:Hid (Tbr w):=hT
 have HU:Hid (Lib.Utf8Tabs 5 6 w):=hU
 have HD:Hid (Dok ds):=hD
 have hp0:=hE.p.1
 have hl3:=hE.l.2
 have hl1:=hE.l.1
 clear hE hG hT hU hD
 go_enter Tryz.func122,Tryz.ntmps122
 go_wp2_with fail
 refine hcut.mono ?_
 rintro e w1 ⟨rfl,nq,rfl⟩
 have HB1:Hid (Below w.heap.size w (w.drewN nq)):=below_drewN (Below.refl _ _) nq
 obtain ⟨w1,hw1⟩:∃ w1,w1=w.drewN nq:=⟨_,rfl⟩
 rw [← hw1] at HB1 ⊢
 have hat:=atoi_b p1 w1 (by omega) (HT.out.below HB1.out)
 clear hw1
 go_wp2_with fail
 refine hat.mono ?_
 rintro e w2 ⟨⟨v,er,rfl,her⟩,hb2⟩
 have HB2:Hid (Below w.heap.size w w2):=HB1.out.trans (hb2.mono HB1.out.size)
 clear hb2 HB1 hat hcut
 rcases her with ⟨te,pe,rfl⟩ | ⟨rfl,hwf⟩
 ·go_wp2_with fail
  go_ret
  exact ⟨⟨false,ds,Y,rfl,PsO.same HE.out HG.out hB HB2.out,HD.out⟩⟩
 ·have HE2:Hid (Eng B b L m ds X w2):=HE.out.below hB HB2.out
  have hhas:=has_any B b L m ds X v w2 HE2.out hwf (dhas v ds) rfl
  go_wp2_with fail
  refine hhas.mono ?_
  rintro e w3 ⟨rfl,hb3⟩
  have HB3:Hid (Below w.heap.size w w3):=HB2.out.trans (hb3.mono HB2.out.size)
  clear hb3 HB2 HE2 hhas
  cases hh:dhas v ds
  ·have hrt:=readTexts_any p2 (by omega) w3 (HT.out.below HB3.out) (Utf8Tabs_below HU.out HB3.out)
   clear hh
   go_wp2_with fail
   refine hrt.mono ?_
   rintro e w4 ⟨⟨tv,tx,rfl,htx,htl,hb4⟩⟩
   have HB4:Hid (Below w.heap.size w w4):=HB3.out.trans (hb4.mono HB3.out.size)
   have hs4:=HB4.out.size
   obtain ⟨ta,ga,tc,rfl,hTA,hta,hgt⟩:∃ (ta:Option Addr) (ga:Addr) (tc:Nat),tv=.slice ta tx.length tc∧TxA ga tx w4∧(0<tx.length→ta=some ga)∧(0<tx.length→Tlw B ga w4):=by
    rcases htx.2 with ⟨h1,h2⟩ | ⟨g,cap,cur,h1,h2,h3,h4⟩
    ·exact ⟨none,⟨0,0,none⟩,0,by rw [h1,h2],⟨fun i hi=>by omega⟩,fun h=>by omega,fun h=>by omega⟩
    ·exact ⟨some ⟨g,0,none⟩,⟨g,0,none⟩,cap,h1,⟨fun i hi=>htx.cells (g:=g) (by rw [h1];simp [Value.ownBlock]) i _ (by simp [hi])⟩,fun _=>rfl,fun _=>.inr ⟨cur,_,h3⟩⟩
   obtain ⟨r,hr⟩:∃ r,Pl.putR L.length (L.map fun f=>Pl.chOf f.2.1) ds v tx=r:=⟨_,rfl⟩
   have hput:=eput_any B b L m ds X Y N v tx ta ga tc w4 (HE.out.below hB HB4.out) (HG.out.below HB4.out) (by omega) hYm (HEN.out.below HB4.out) hN (fun k hk=>by have:=HEX.out k hk;omega) hwf HD.out.n HD.out.l hTA hta hgt (by omega) r hr
   have HMV:Hid (Mv B (EF L m) X Y w w4):=Mv.below HB4.out
   clear htx hb4 hTA hta hgt hrt HB3
   go_wp2_with fail
   refine hput.mono ?_
   rintro e w5 ⟨rfl,Y',hP⟩
   have HF:Hid (∃ Y',PsO B b L m (Pl.putD L.length (L.map fun f=>Pl.chOf f.2.1) ds v tx) X Y (N+900) w w5 Y'∧Dok (Pl.putD L.length (L.map fun f=>Pl.chOf f.2.1) ds v tx)):=⟨Y',⟨hP.e,hP.a.g,hP.a.s,fun i hi=>(hP.a.t i hi).imp id fun q=>by omega,HMV.out.trans hP.a.m (fun _ q=>.inl q) (fun _ q=>.inl q) (fun _ q=>.inl q)⟩,HD.out.put hl3 hl1 (by simp)⟩
   obtain ⟨r1,r2⟩:=r
   clear hP hput hr HMV
   by_cases hr0:r1=0
   ·have e0:((r1:Int) == 0)=true:=by rw [hr0];rfl
    have e1:(r1:Int)=0:=by omega
    go_wp2_with fail
    go_ret
    obtain ⟨Y',q1,q2⟩:=HF.out
    exact ⟨⟨_,_,Y',rfl,q1,q2⟩⟩
   ·have e0:((r1:Int) == 0)=false:=beq_eq_false_iff_ne.mpr (by omega)
    have e1:¬ (r1:Int)=0:=by omega
    go_wp2_with fail
    go_ret
    obtain ⟨Y',q1,q2⟩:=HF.out
    exact ⟨⟨_,_,Y',rfl,q1,q2⟩⟩
  ·go_wp2_with fail
   go_ret
   exact ⟨⟨false,ds,Y,rfl,PsO.same HE.out HG.out hB HB3.out,HD.out⟩⟩
end Go.Proofs.YtcmgclckknpecaaGreatDoor
namespace Go.Proofs.YtcmgclckknpecaaGreatDoor
open Go.RowKit Go.Shelf
def ren171:Ren:=⟨fun | 171=>118 | 243=>176 | 246=>275 | 283=>344 | 284=>345 | 285=>346 | 286=>347 | 129=>265 | 317=>382 | 318=>383 | 319=>384 | 320=>385 | 337=>415 | 338=>416 | n=>n,
 fun | 171=>460 | 53=>326 | 37=>164 | 173=>462 | 212=>491 | 51=>104 | 213=>492 | 46=>344 | 232=>527 | 233=>528 | n=>n,fun | 17=>2 | 18=>12 | 19=>13 | n=>n⟩
theorem lays171:LaysM.n171 Tryz.prog ren171 :=
 {mixed:=by kernel_rfl,f129:=by kernel_rfl,f171:=by kernel_rfl,f243:=by kernel_rfl,
  f246:=by kernel_rfl,f283:=by kernel_rfl,f284:=by kernel_rfl,f285:=by kernel_rfl,
  f286:=by kernel_rfl,f317:=by kernel_rfl,f318:=by kernel_rfl,f319:=by kernel_rfl,
  f320:=by kernel_rfl,f337:=by kernel_rfl,f338:=by kernel_rfl,t0:=by kernel_rfl,
  a0:=fun _=>by kernel_rfl,z0:=fun _=>by kernel_rfl,v0:=fun _=>by kernel_rfl,t2:=by kernel_rfl,
  a2:=fun _=>by kernel_rfl,z2:=fun _=>by kernel_rfl,v2:=fun _=>by kernel_rfl,t3:=by kernel_rfl,
  a3:=fun _=>by kernel_rfl,z3:=fun _=>by kernel_rfl,v3:=fun _=>by kernel_rfl,t4:=by kernel_rfl,
  a4:=fun _=>by kernel_rfl,z4:=fun _=>by kernel_rfl,v4:=fun _=>by kernel_rfl,t5:=by kernel_rfl,
  a5:=fun _=>by kernel_rfl,z5:=fun _=>by kernel_rfl,v5:=fun _=>by kernel_rfl,t9:=by kernel_rfl,
  a9:=fun _=>by kernel_rfl,z9:=fun _=>by kernel_rfl,v9:=fun _=>by kernel_rfl,t20:=by kernel_rfl,
  a20:=fun _=>by kernel_rfl,z20:=fun _=>by kernel_rfl,v20:=fun _=>by kernel_rfl,t37:=by kernel_rfl,
  a37:=fun _=>by kernel_rfl,z37:=fun _=>by kernel_rfl,v37:=fun _=>by kernel_rfl,t46:=by kernel_rfl,
  a46:=fun _=>by kernel_rfl,z46:=fun _=>by kernel_rfl,v46:=fun _=>by kernel_rfl,t51:=by kernel_rfl,
  a51:=fun _=>by kernel_rfl,z51:=fun _=>by kernel_rfl,v51:=fun _=>by kernel_rfl,t53:=by kernel_rfl,
  a53:=fun _=>by kernel_rfl,z53:=fun _=>by kernel_rfl,v53:=fun _=>by kernel_rfl,t171:=by kernel_rfl,
  a171:=fun _=>by kernel_rfl,z171:=fun _=>by kernel_rfl,v171:=fun _=>by kernel_rfl,t173:=by kernel_rfl,
  a173:=fun _=>by kernel_rfl,z173:=fun _=>by kernel_rfl,v173:=fun _=>by kernel_rfl,t212:=by kernel_rfl,
  a212:=fun _=>by kernel_rfl,z212:=fun _=>by kernel_rfl,v212:=fun _=>by kernel_rfl,t213:=by kernel_rfl,
  a213:=fun _=>by kernel_rfl,z213:=fun _=>by kernel_rfl,t232:=by kernel_rfl,a232:=fun _=>by kernel_rfl,
  z232:=fun _=>by kernel_rfl,v232:=fun _=>by kernel_rfl,t233:=by kernel_rfl,a233:=fun _=>by kernel_rfl,
  z233:=fun _=>by kernel_rfl,v233:=fun _=>by kernel_rfl,g17:=by kernel_rfl,g18:=by kernel_rfl,
  g19:=by kernel_rfl,i0:=by kernel_rfl,i2:=by kernel_rfl,i3:=by kernel_rfl,
  i4:=by kernel_rfl,i5:=by kernel_rfl,i9:=by kernel_rfl,i20:=by kernel_rfl,
  i37:=by kernel_rfl,i46:=by kernel_rfl,i51:=by kernel_rfl,i53:=by kernel_rfl,
  i171:=by kernel_rfl,i173:=by kernel_rfl,i212:=by kernel_rfl,i232:=by kernel_rfl,
  i233:=by kernel_rfl,m17:=by kernel_rfl,m18:=by kernel_rfl,m19:=by kernel_rfl }
structure Tbs (w:World):Prop where
 u:Lib.Utf8Tabs 5 6 w
 p:Lib.TabIs Tryz.prog w "internal/strconv.uint64pow10" .u64 Lib.pow10Tab
theorem Tbs.below {w w':World} (h:Tbs w) (hb:Below w.heap.size w w'):Tbs w' :=
 ⟨Utf8Tabs_below h.u hb,Lib.tabBelow_of_tabIs h.p w' hb⟩
theorem itoa_any (n:Int) (h0:0≤n) (h1:n≤999) (w:World) (hT:Tbs w):Calls Tryz.prog 118 #[.int .i64 n] w fun e w'=>e=.returned (.string ⟨(Lib.itoa n).toArray⟩)∧Below w.heap.size w w':=by
 refine (Any.strconv_Itoa lays171 n (by omega) (by omega) w hT.p).mono ?_
 rintro e w' ⟨rfl,k,os,rfl⟩
 exact ⟨rfl,Lib.below_grow _ w (Nat.le_refl _) k os⟩
def Pl.dtx (b:ByteArray):List ByteArray→ByteArray
 | []=>b
 | t :: ts=>Pl.dtx (b++(⟨#[32]⟩++strOfNums (Pl.quo t))) ts
def Pl.dln (id:Nat) (tx:List ByteArray):ByteArray:=Pl.dtx ⟨(Lib.itoa (id:Int)).toArray⟩ tx++⟨#[10]⟩
theorem qfr_len:∀ (f:Nat) (s:ByteArray),(Pl.qfr f s).length≤10*s.size
 | 0,_=>by simp [Pl.qfr]
 | f+1,s=>by
  unfold Pl.qfr
  split
  ·simp
  ·have h1:=qst_len s
   have h2:=qfr_len f (s.extract (Utf8.decode s 0).2 s.size)
   rw [Lib.size_rest] at h2
   have h3:=Lib.width_pos s 0
   rw [List.length_append]
   omega
theorem quo_size (s:ByteArray):(strOfNums (Pl.quo s)).size≤10*s.size+2:=by
 have:=qfr_len s.size s
 rw [strOfNums_size,Pl.quo]
 simp only [List.length_append,List.length_cons,List.length_nil]
 omega
structure DlR (tx:List ByteArray) (id:Nat) (w0 wr:World) (i:Nat) (b:ByteArray):Prop where
 hb:Below w0.heap.size w0 wr
 hi:i≤tx.length
 hz:b.size≤21+1203*i
 e:Pl.dtx b (tx.drop i)=Pl.dtx ⟨(Lib.itoa (id:Int)).toArray⟩ tx
set_option maxHeartbeats 4000000 in
theorem docline_any (id:Nat) (hid:id≤999) (g c:Nat) (tx:List ByteArray) (w:World) (hx:tx.length≤3) (hs:∀ t∈tx,t.size≤120) (hc:∀ i (h:i<tx.length),w.cell? ⟨g,i,none⟩=some (.string tx[i])) (hg:g<w.heap.size) (hT:Tbs w) :
  Calls Tryz.prog 58 #[.int .i64 (id:Int),.slice (some ⟨g,0,none⟩) tx.length c] w fun e w'=>e=.returned (.string (Pl.dln id tx))∧Below w.heap.size w w':=by
 have cI:=itoa_any (id:Int) (by omega) (by omega) w hT
 have HI:Hid ((⟨(Lib.itoa (id:Int)).toArray⟩:ByteArray).size≤21+1203*0):=(by have:=Lib.itoa_length_le (id:Int) (by omega) (by omega);simpa [ByteArray.size] using this:(⟨(Lib.itoa (id:Int)).toArray⟩:ByteArray).size≤21+1203*0)
 have HT:Hid (Tbs w):=hT
 have HC:Hid (∀ i (h:i<tx.length),w.cell? ⟨g,i,none⟩=some (.string tx[i])):=hc
 have HS:Hid (∀ t∈tx,t.size≤120):=hs
 clear hT hc hs
 obtain ⟨n,hn⟩:∃ n,tx.length=n:=⟨_,rfl⟩
 have HN:Hid (tx.length=n):=hn
 have hn3:n≤3:=by omega
 rw [hn]
 clear hn hx
 go_enter Tryz.func58,Tryz.ntmps58
 go_wp2_with fail
 refine cI.mono ?_
 rintro e w1 ⟨rfl,hb1⟩
 go_wp2_with fail
 go_loopw [5,7,12] (fun vb _ vi wr=>∃ (i:Nat) (b:ByteArray),vb=.string b∧vi=.int .i64 (i:Int)∧DlR tx id w wr i b) (fun _ _ vi _=>match vi with | .int _ i=>(3 - i).toNat | _=>0)
 case atStart=>exact ⟨0,_,rfl,rfl,⟨hb1,Nat.zero_le _,HI.out,by simp⟩⟩
 case round =>
  obtain ⟨i,b,rfl,rfl,hr⟩:=hrel
  by_cases hi:i<n
  ·have hi':(i:Int)<(n:Int):=by omega
   have hi2:i<tx.length:=by rw [HN.out];exact hi
   have hwi:wrap64 ((i:Int)+1)=(i:Int)+1:=by unfold wrap64;omega
   obtain ⟨t,ht⟩:∃ t,tx[i]=t:=⟨_,rfl⟩
   have hcell:wr.cell? ⟨g,i,none⟩=some (.string t):=by
    rw [hr.hb.cell (show (⟨g,i,none⟩:Addr).block<w.heap.size from hg),HC.out i hi2,ht]
   have hts:t.size≤120:=HS.out t (ht ▸ List.getElem_mem hi2)
   have cQ:=quoteA_any t wr (by omega) (HT.out.below hr.hb).u
   have HD:Hid (tx.drop i=t :: tx.drop (i+1)):=(by rw [List.drop_eq_getElem_cons hi2,ht]:tx.drop i=_)
   have hz1:(strOfNums (Pl.quo t)).size≤1202:=by have:=quo_size t;omega
   have hz2:=hr.hz
   have hz3:¬ 9223372036854775807<1+(strOfNums (Pl.quo t)).size:=by omega
   have hz4:¬ 9223372036854775807<b.size+(1+(strOfNums (Pl.quo t)).size):=by omega
   clear ht
   go_wp2_with fail
   refine cQ.mono ?_
   rintro e w2 ⟨rfl,hb2⟩
   go_wp2_with fail
   go_roundw
   case rel =>
    refine ⟨i+1,_,rfl,rfl,⟨hr.hb.trans (hb2.mono hr.hb.size),by omega,?_,?_⟩⟩
    ·simp only [ByteArray.size_append]
     have h5:(⟨#[32]⟩:ByteArray).size=1:=rfl
     omega
    rw [← hr.e,HD.out]
    rfl
   case measure=>simp only [];omega
  ·have hi':¬ (i:Int)<(n:Int):=by omega
   have hin:i≤n:=by have:=hr.hi;have:=HN.out;omega
   have hz2:=hr.hz
   have hz3:¬ 9223372036854775807<b.size+1:=by omega
   go_wp2_with fail
   go_ret
   refine ⟨?_,hr.hb⟩
   have h2:=hr.e
   rw [List.drop_eq_nil_of_le (by have:=HN.out;omega)] at h2
   show Ending.returned (.string (b++⟨#[10]⟩))=_
   rw [Pl.dln,← h2]
   rfl
end Go.Proofs.YtcmgclckknpecaaGreatDoor
namespace Go.Proofs.YtcmgclckknpecaaGreatDoor
open Go.RowKit Go.Shelf
def ren166:Ren:=⟨fun | 166=>56 | 240=>116 | 276=>174 | n=>n,fun | 37=>164 | 46=>344 | 51=>104 | 70=>163 | 72=>166 | 75=>169 | 80=>78 | 127=>263 | 164=>345 | n=>n,fun n=>n⟩
theorem lays166:Lays.n166 Tryz.prog ren166 :=
 {mixed:=by kernel_rfl,f166:=by kernel_rfl,f240:=by kernel_rfl,f276:=by kernel_rfl,
  t0:=by kernel_rfl,a0:=fun _=>by kernel_rfl,z0:=fun _=>by kernel_rfl,v0:=fun _=>by kernel_rfl,
  t3:=by kernel_rfl,a3:=fun _=>by kernel_rfl,z3:=fun _=>by kernel_rfl,v3:=fun _=>by kernel_rfl,
  t4:=by kernel_rfl,a4:=fun _=>by kernel_rfl,z4:=fun _=>by kernel_rfl,v4:=fun _=>by kernel_rfl,
  t9:=by kernel_rfl,a9:=fun _=>by kernel_rfl,z9:=fun _=>by kernel_rfl,v9:=fun _=>by kernel_rfl,
  t20:=by kernel_rfl,a20:=fun _=>by kernel_rfl,z20:=fun _=>by kernel_rfl,v20:=fun _=>by kernel_rfl,
  t37:=by kernel_rfl,a37:=fun _=>by kernel_rfl,z37:=fun _=>by kernel_rfl,v37:=fun _=>by kernel_rfl,
  t70:=by kernel_rfl,a70:=fun _=>by kernel_rfl,z70:=fun _=>by kernel_rfl,v70:=fun _=>by kernel_rfl,
  t72:=by kernel_rfl,a72:=fun _=>by kernel_rfl,z72:=fun _=>by kernel_rfl,v72:=fun _=>by kernel_rfl,
  t75:=by kernel_rfl,a75:=fun _=>by kernel_rfl,z75:=fun _=>by kernel_rfl,v75:=fun _=>by kernel_rfl,
  t164:=by kernel_rfl,a164:=fun _=>by kernel_rfl,z164:=fun _=>by kernel_rfl,v164:=fun _=>by kernel_rfl }
theorem extra166:Builder.Extra Tryz.prog ren166 :=
 {sizeBuilder:=by kernel_rfl,liesBuilder:=by kernel_rfl,t5:=by kernel_rfl,a5:=fun _=>by kernel_rfl,z5:=fun _=>by kernel_rfl,v5:=fun _=>by kernel_rfl,infoByte:=by kernel_rfl,cellsByte:=by kernel_rfl,sizeByte:=by kernel_rfl,neB5:=by decide }
theorem writeS_any (B b:Nat) (bs:List Value) (s:ByteArray) (w:World) (h:Lib.IsBuilderF 166 5 B b bs w) (hlen:bs.length+s.size≤140737488355328) (hBw:B≤w.heap.size) :
  Calls Tryz.prog 56 #[.pointer (some ⟨b,0,none⟩),.string s] w fun e w'=>e=.returned (.tuple #[.int .i64 s.size,.nilIface])∧(Lib.BuilderAtF 166 5 B b (.pointer (some ⟨b,0,none⟩)) (bs++Lib.strCells s) w'∧Below B w w'∧Lib.OthersKept 5 (some b) w w') :=
 Any.Builder_WriteString_k lays166 extra166 B b bs s w h hlen hBw
end Go.Proofs.YtcmgclckknpecaaGreatDoor
