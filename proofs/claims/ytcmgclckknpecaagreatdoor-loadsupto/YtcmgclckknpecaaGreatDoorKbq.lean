import Derived.Test.YtcmgclckknpecaaGreatDoorKak
import Derived.Test.YtcmgclckknpecaaGreatDoorKbp
import Derived.Deep.RegionHeld3
namespace Go.Proofs.YtcmgclckknpecaaGreatDoor
open Go.RowKit Go.Maps Go.Sort Go.Shelf
def Pl.fln (f:ByteArray × ByteArray):ByteArray:=f.1++⟨#[58]⟩++f.2++⟨#[10]⟩
def Pl.txo (ds:Dl) (id:Int):List ByteArray:=((ds.find? fun d=>decide ((d.1:Int)=id)).map (·.2)).getD []
def Pl.ids (ds:Dl):List Int:=(ds.map fun d=>(d.1:Int)).mergeSort leI
def Pl.savF (fs:List (ByteArray × ByteArray)):List UInt8:=fs.flatMap fun f=>(Pl.fln f).data.toList
def Pl.savD (ds:Dl) (is:List Int):List UInt8:=is.flatMap fun i=>(Pl.dln i.toNat (Pl.txo ds i)).data.toList
def Pl.sav (fs:List (ByteArray × ByteArray)) (ds:Dl):ByteArray:=⟨(Pl.savF fs++Pl.savD ds (Pl.ids ds)).toArray⟩
theorem txo_mem:∀ {ds:Dl} (_:Dnd ds) {d:Nat × List ByteArray} (_:d∈ds),Pl.txo ds (d.1:Int)=d.2
 | [],_,_,h=>by cases h
 | e :: ds,hn,d,h=>by
  unfold Dnd at hn
  rw [List.map_cons,List.nodup_cons] at hn
  rcases List.mem_cons.1 h with rfl | h
  ·simp [Pl.txo]
  ·have hne:¬ (e.1:Int)=(d.1:Int):=fun q=>hn.1 (List.mem_map.2 ⟨d,h,by omega⟩)
   have:=txo_mem (ds:=ds) hn.2 h
   unfold Pl.txo at this ⊢
   rw [List.find?_cons_of_neg (by simpa using hne)]
   exact this
theorem ids_mem {ds:Dl} {i:Int} (h:i∈Pl.ids ds):∃ d∈ds,i=(d.1:Int):=by
 have:=(List.mergeSort_perm (ds.map fun d=>(d.1:Int)) leI).mem_iff.1 h
 obtain ⟨d,hd,rfl⟩:=List.mem_map.1 this
 exact ⟨d,hd,rfl⟩
theorem ids_of {w:World} {m:Nat} {ds:Dl} {D:DataW Value} (hown:w.ownsMap Tryz.prog 3 slE m ds.length D) (hh:∀ id:Int,Maps.has D (.int .i64 id)=dhas id ds) (hn:Dnd ds) {ss:List Int} (hp:ss.Perm (intKeys D)):ss.mergeSort leI=Pl.ids ds:=by
 refine mergeSort_of_perm_i (hp.trans (List.Perm.symm ?_))
 obtain ⟨es,hD,hpw,_⟩:=hown.entries keyI
 obtain ⟨es',hD',hko⟩:=hown.keysOf
 obtain rfl:es=es':=by rw [hD] at hD';simpa using hD'
 subst hD
 refine perm_intKeys hpw (fun p hp=>by obtain ⟨v,hv⟩:=hko p hp;obtain ⟨x,_,hx,_⟩:=Maps.keyOf_i64 Tryz.underlying3 hv;exact ⟨x,hx⟩) ?_ (fun x=>?_)
 ·unfold Dnd at hn
  have:(ds.map fun d=>(d.1:Int))=(ds.map (·.1)).map (fun n:Nat=>(n:Int)):=by simp
  rw [this]
  exact List.pairwise_map.2 (hn.imp fun h e=>h (by omega))
 ·rw [hh,dhas_iff,List.mem_map]
theorem quo_len (t:ByteArray):(Pl.quo t).length≤10*t.size+2:=by
 have:=qfr_len t.size t
 simp [Pl.quo];omega
theorem dtx_len:∀ (tx:List ByteArray) (b:ByteArray),(∀ t∈tx,t.size≤120)→(Pl.dtx b tx).size≤b.size+1203*tx.length
 | [],b,_=>by simp [Pl.dtx]
 | t :: ts,b,h=>by
  have h1:=dtx_len ts (b++(⟨#[32]⟩++strOfNums (Pl.quo t))) (fun x hx=>h x (List.mem_cons_of_mem _ hx))
  have h2:=quo_len t
  have h3:=h t (List.mem_cons_self ..)
  have h4:(b++((⟨#[32]⟩:ByteArray)++strOfNums (Pl.quo t))).size=b.size+(1+(Pl.quo t).length):=by
   rw [ByteArray.size_append,ByteArray.size_append,strOfNums_size];rfl
  rw [h4] at h1
  rw [Pl.dtx,List.length_cons]
  omega
theorem dln_len {id:Nat} (hid:id≤999) {tx:List ByteArray} (hl:tx.length≤3) (hs:∀ t∈tx,t.size≤120):(Pl.dln id tx).size≤5000:=by
 have h1:=dtx_len tx ⟨(Lib.itoa (id:Int)).toArray⟩ hs
 have h2:(⟨(Lib.itoa (id:Int)).toArray⟩:ByteArray).size≤21:=by have:=Lib.itoa_length_le (id:Int) (by omega) (by omega);simpa [ByteArray.size] using this
 have h3:(Pl.dln id tx).size=(Pl.dtx ⟨(Lib.itoa (id:Int)).toArray⟩ tx).size+1:=by
  unfold Pl.dln
  rw [ByteArray.size_append];rfl
 omega
theorem isB_below {T e:TypeId} {B b:Nat} {bs:List Value} {w w':World} (h:Lib.IsBuilderF T e B b bs w) (hb:Below w.heap.size w w'):Lib.IsBuilderF T e B b bs w':=by
 have k:∀ p,Lib.BuilderAtF T e B b p bs w→Lib.BuilderAtF T e B b p bs w':=fun p h=>by
  have hlt:=h.lt
  obtain ⟨hB,v,h1,⟨h2,h3⟩,h4⟩:=h
  refine ⟨hB,v,(hb.block b hlt).trans h1,⟨h2,?_⟩,h4⟩
  rcases h3 with h3 | ⟨g,cap,cur,fz,q1,q2,q3,q4⟩
  ·exact .inl h3
  ·exact .inr ⟨g,cap,cur,fz,q1,q2,(hb.block g (Array.getElem?_eq_some_iff.1 q3).1).trans q3,q4⟩
 exact h.imp (k _) (k _)
theorem byteCells_append (l:List UInt8) (s:ByteArray):Lib.byteCells l++Lib.strCells s=Lib.byteCells (l++s.data.toList):=by simp [Lib.byteCells,Lib.strCells]
structure SvL (w:World) (L:List Fe) (iv:Value) (wr:World):Prop where
 ex:∃ k:Nat,iv=.int .i64 (k:Int)∧k≤L.length∧Lib.IsBuilderF 166 5 w.heap.size w.heap.size (Lib.byteCells (Pl.savF ((L.map (·.2.1)).take k))) wr∧Below w.heap.size w wr∧(Pl.savF ((L.map (·.2.1)).take k)).length≤2000*k∧w.heap.size<wr.heap.size
structure SvM (w:World) (fs:List (ByteArray × ByteArray)) (ds:Dl) (gr:Nat) (cur:Array Value) (iv:Value) (wr:World):Prop where
 ex:∃ k:Nat,iv=.int .i64 (k:Int)∧k≤(Pl.ids ds).length∧Lib.IsBuilderF 166 5 w.heap.size w.heap.size (Lib.byteCells (Pl.savF fs++Pl.savD ds ((Pl.ids ds).take k))) wr∧Below w.heap.size w wr∧(Pl.savF fs++Pl.savD ds ((Pl.ids ds).take k)).length≤6000+5000*k∧w.heap.size<wr.heap.size∧(0<(Pl.ids ds).length→wr.heap[gr]?=some (.cells cur 3 (0,0)))
set_option maxRecDepth 100000 in
set_option maxHeartbeats 8000000 in
theorem save_any [Inhabited Exb] (B b:Nat) (L:List Fe) (m:Nat) (ds:Dl) (X:Nat→Prop) (w:World) (hE:Eng B b L m ds X w) (hD:Dok ds) (hT:Tbs w) (hnm:∀ f∈L,f.2.1.1.size≤1000) :
  Calls Tryz.prog 29 #[.pointer (some ⟨b,0,none⟩)] w fun e w'=>e=.returned (.string (Pl.sav (L.map (·.2.1)) ds))∧Below w.heap.size w w':=by
 obtain ⟨g,cap,h1,hrow⟩:=hE.e
 have c0:w.cell? ⟨b,0,none⟩=some (.slice (some ⟨g,0,none⟩) L.length cap):=blk_cell h1 0
 have c1:w.cell? ⟨b,1,none⟩=some (.map (some m)):=blk_cell h1 1
 have hbl:b<w.heap.size:=h1.lt
 have hl3:=hE.l.2
 have hl0:=hE.l.1
 have HFL:Hid (∀ j (hj:j<L.length),∃ (fb:Nat) (nm ch:ByteArray),(nm,ch)=(L[j]).2.1∧nm.size≤1000∧ch.size≤80∧∀ W,Below w.heap.size w W→W.cell? ⟨g,j,none⟩=some (.pointer (some ⟨fb,0,none⟩))∧W.cell? ⟨fb,0,none⟩=some (.string nm)∧W.cell? ⟨fb,1,none⟩=some (.string ch)):=fun j hj=>by
  have hm:=List.getElem_mem hj
  obtain ⟨f1,f2,f3⟩:=hE.f _ hm
  obtain ⟨cs,b1,b2,b3,_⟩:=f1.blk
  obtain ⟨_,es,cu,ls,ht,_⟩:=f1.ex
  have ad:((⟨g,0,none⟩:Addr).add j)=⟨g,j,none⟩:=by unfold Addr.add;split <;> simp_all
  have hc:=hrow.cells (g:=g) rfl j (.pointer (some ⟨(L[j]).1,0,none⟩)) (by simp [hj])
  rw [ad] at hc
  refine ⟨(L[j]).1,(L[j]).2.1.1,(L[j]).2.1.2,rfl,hnm _ hm,ht.z,fun W hW=>?_⟩
  have e1:w.cell? ⟨(L[j]).1,0,none⟩=some (.string (L[j]).2.1.1):=by simp [World.cell?,show w.heap[(L[j]).1]?=_ from b1,b2]
  have e2:w.cell? ⟨(L[j]).1,1,none⟩=some (.string (L[j]).2.1.2):=by simp [World.cell?,show w.heap[(L[j]).1]?=_ from b1,b3]
  exact ⟨(hW.cell (cellLt hc)).trans hc,(hW.cell (cellLt e1)).trans e1,(hW.cell (cellLt e2)).trans e2⟩
 have HE:Hid (Eng B b L m ds X w):=hE
 have HD:Hid (Dok ds):=hD
 have HT:Hid (Tbs w):=hT
 have HBD:Hid (∀ W,Below w.heap.size w W→W.cell? ⟨b,0,none⟩=some (.slice (some ⟨g,0,none⟩) L.length cap)∧W.cell? ⟨b,1,none⟩=some (.map (some m))):=fun W hW=>⟨(hW.cell (p:=⟨b,0,none⟩) hbl).trans c0,(hW.cell (p:=⟨b,1,none⟩) hbl).trans c1⟩
 clear hE hD hT hnm hrow h1
 go_enter Tryz.func29,Tryz.ntmps29
 go_wp2_with fail
 go_loopw [13] (fun iv wr=>SvL w L iv wr) (fun iv _=>L.length - (intOf iv).toNat)
 case atStart=>exact ⟨0,rfl,by omega,Lib.IsBuilderF.of (Lib.fresh_isBuilder 166 5 w),(Below.refl _ w).alloc (Nat.le_refl _) _,by simp [Pl.savF],by simp⟩
 case round =>
  obtain ⟨k,rfl,hk,hB0,hBw,hsl,hwz⟩:=hrel.ex
  by_cases hlt:k<L.length
  ·have hltI:(k:Int)<(L.length:Int):=by omega
   obtain ⟨fb,nm,ch,hnc,hn8,hc80,hcells⟩:=HFL.out k hlt
   obtain ⟨k0,k1,k2⟩:=hcells wr hBw
   have h3I:(L.length:Int)≤3:=by omega
   have z1:¬ 9223372036854775807<nm.size+1:=by omega
   have z2:¬ 9223372036854775807<nm.size+1+ch.size:=by omega
   have z3:¬ 9223372036854775807<nm.size+1+ch.size+1:=by omega
   have hfs:(nm++⟨#[58]⟩++ch++⟨#[10]⟩:ByteArray).size=nm.size+1+ch.size+1:=by rw [ByteArray.size_append,ByteArray.size_append,ByteArray.size_append];rfl
   have cW:=writeS_any w.heap.size w.heap.size _ (nm++⟨#[58]⟩++ch++⟨#[10]⟩) wr.drew (show Lib.IsBuilderF 166 5 w.heap.size w.heap.size _ wr.drew from hB0) (by rw [Lib.byteCells_length,hfs];omega) (Nat.le_of_lt hwz)
   have HKP:Hid (∀ w',Below w.heap.size wr.drew w'→w'.cell? ⟨fb,0,none⟩=some (.string nm)∧w'.cell? ⟨fb,1,none⟩=some (.string ch)):=fun w' h=>(hcells w' (hBw.drew.trans h)).2
   have HNX:Hid (∀ w',Lib.BuilderAtF 166 5 w.heap.size w.heap.size (.pointer (some ⟨w.heap.size,0,none⟩)) (Lib.byteCells (Pl.savF ((L.map (·.2.1)).take k))++Lib.strCells (nm++⟨#[58]⟩++ch++⟨#[10]⟩)) w'→Below w.heap.size wr.drew w'→SvL w L (.int .i64 ((k:Int)+1)) w'):=fun w' h1 h2=>by
    have e1:Pl.savF ((L.map (·.2.1)).take (k+1))=Pl.savF ((L.map (·.2.1)).take k)++(nm++⟨#[58]⟩++ch++⟨#[10]⟩:ByteArray).data.toList:=by
     have:(L.map (·.2.1)).take (k+1)=(L.map (·.2.1)).take k++[(nm,ch)]:=by
      rw [List.take_succ_eq_append_getElem (by simpa using hlt)]
      simp [hnc]
     rw [this]
     simp [Pl.savF,Pl.fln]
    refine ⟨⟨k+1,by simp,by omega,?_,hBw.drew.trans h2,?_,Nat.lt_of_lt_of_le hwz h2.size⟩⟩
    ·rw [e1,← byteCells_append]
     exact .inr h1
    ·rw [e1,List.length_append]
     have:(nm++⟨#[58]⟩++ch++⟨#[10]⟩:ByteArray).data.toList.length=(nm++⟨#[58]⟩++ch++⟨#[10]⟩:ByteArray).size:=by rw [Array.length_toList];rfl
     omega
   clear hcells hB0 hrel hfs
   go_wp2_with fail
   go_region_held3 (fun w'=>w'.cell? ⟨fb,0,none⟩=some (.string nm)∧w'.cell? ⟨fb,1,none⟩=some (.string ch)) (first | go_keep | exact HKP.out _ hbl2) ((refine cW.mono ?_;rintro e w2 ⟨rfl,hb2,hbl2,hok2⟩))
   have HS:Hid (SvL w L (.int .i64 ((k:Int)+1)) w2):=HNX.out w2 hb2 hbl2
   clear hb2 hbl2 hok2 cW HKP HNX
   go_wp2_with fail
   go_roundw
   case rel=>exact HS.out
   case measure=>simp [intOf];omega
  ·have hltI:¬ (k:Int)<(L.length:Int):=by omega
   obtain rfl:k=L.length:=by omega
   rw [List.take_of_length_le (by simp)] at hB0 hsl
   obtain ⟨D,h2,hsz,hh,hdoc⟩:=HE.out.d.ex
   have hml:=h2.lt
   have hown:∀ W,Below w.heap.size w W→W.ownsMap Tryz.prog 3 slE m ds.length D:=fun W hW=>by
    obtain ⟨es,clock,q1,q2⟩:=h2
    exact ⟨es,clock,(hW.block m hml).trans q1,q2⟩
   have cK:=keys_any (some m) wr
   have cS:=sorted_any m _ D wr (hown wr hBw) (by rw [hsz];exact HD.out.l)
   have HOW:Hid (∀ W,Below w.heap.size w W→W.ownsMap Tryz.prog 3 slE m ds.length D):=hown
   have HH:Hid (∀ id:Int,Maps.has D (.int .i64 id)=dhas id ds):=hh
   have HDC:Hid (∀ i∈Pl.ids ds,∃ (d gt ct:Nat) (tx:List ByteArray),i=(d:Int)∧d≤999∧1≤tx.length∧tx.length≤3∧(∀ t∈tx,t.size≤120)∧Pl.txo ds i=tx∧(∀ z,D.atKey (.int .i64 i) z=.held (.slice (some ⟨gt,0,none⟩) tx.length ct))∧gt<w.heap.size∧∀ W,Below w.heap.size w W→∀ j (h:j<tx.length),W.cell? ⟨gt,j,none⟩=some (.string tx[j])):=fun i hi=>by
    obtain ⟨d,hd,rfl⟩:=ids_mem hi
    obtain ⟨v,q1,q2,_⟩:=hdoc d hd
    obtain ⟨r1,r2,r3,r4⟩:=HD.out.d d hd
    obtain ⟨gt,ct,rfl,_⟩:=q2.form (by omega)
    have ad:∀ j:Nat,((⟨gt,0,none⟩:Addr).add j)=⟨gt,j,none⟩:=fun j=>by unfold Addr.add;split <;> simp_all
    have hc:∀ j (h:j<d.2.length),w.cell? ⟨gt,j,none⟩=some (.string d.2[j]):=fun j h=>by
     have:=q2.cells (g:=gt) rfl j (.string d.2[j]) (by simp [h])
     rwa [ad] at this
    have hgt:gt<w.heap.size:=cellLt (hc 0 (by omega))
    exact ⟨d.1,gt,ct,d.2,rfl,r1,r2,r3,r4,txo_mem HD.out.n hd,q1,hgt,fun W hW j h=>(hW.cell (p:=⟨gt,j,none⟩) hgt).trans (hc j h)⟩
   have HN:Hid (Dnd ds):=HD.out.n
   have hdl:ds.length≤12:=HD.out.l
   obtain ⟨e0,e1⟩:=HBD.out wr hBw
   have HSL:Hid ((Pl.savF (L.map (·.2.1))).length≤6000):=by show _≤_;omega
   clear hown hh hdoc h2 hrel hsl hsz
   go_wp2_with fail
   refine cK.mono ?_
   rintro e w1 ⟨rfl,rfl⟩
   go_wp2_with fail
   refine cS.mono ?_
   rintro e w2 ⟨v,ss,rfl,hP,hrow,hb2⟩
   have hBa:Below w.heap.size w (wr.alloc (.cells #[.map (some m)] 154)):=hBw.alloc (Nat.le_of_lt hwz) _
   have hBb:Below wr.heap.size wr w2:=((Below.refl _ wr).alloc (Nat.le_refl _) _).trans (hb2.mono (by omega))
   have hB2:Below w.heap.size w w2:=hBw.trans (hBb.mono (Nat.le_of_lt hwz))
   have hI:=ids_of (HOW.out w (Below.refl _ _)) HH.out HN.out hP
   have hil:ss.length=(Pl.ids ds).length:=by rw [← hI,List.length_mergeSort]
   have hidl:(Pl.ids ds).length=ds.length:=by simp [Pl.ids,List.length_mergeSort]
   rw [hI,hil] at hrow
   have HIB:Hid (Lib.IsBuilderF 166 5 w.heap.size w.heap.size (Lib.byteCells (Pl.savF (L.map (·.2.1)))) w2):=isB_below hB0 hBb
   obtain ⟨p,cp,gr,cur,rfl,hcur,hgrb,hcur2⟩:∃ (p:Option Addr) (cp gr:Nat) (cur:Array Value),v=.slice p (Pl.ids ds).length cp∧(0<(Pl.ids ds).length→w2.heap[gr]?=some (.cells cur 3 (0,0)))∧(0<(Pl.ids ds).length→p=some ⟨gr,0,none⟩∧gr≠w.heap.size)∧(0<(Pl.ids ds).length→∀ j (h:j<(Pl.ids ds).length),cur[j]?=some (.int .i64 ((Pl.ids ds)[j]))):=by
    rcases hrow.2 with ⟨q1,q2⟩ | ⟨g',cap',cur',q1,q2,q3,q4,q5,q6,q7⟩
    ·exact ⟨none,0,0,#[],by rw [q1,q2],fun h=>by omega,fun h=>by omega,fun h=>by omega⟩
    ·refine ⟨some ⟨g',0,none⟩,cap',g',cur',q1,fun _=>q3,fun _=>⟨rfl,by omega⟩,fun _ j h=>?_⟩
     have e1:(cur'.toList.take ((Pl.ids ds).length*1))[j]?=some (.int .i64 ((Pl.ids ds)[j])):=by rw [q7];simp [h]
     rw [List.getElem?_take,if_pos (by omega)] at e1
     simpa using e1
   have HC1:Hid (0<(Pl.ids ds).length→w2.heap[gr]?=some (.cells cur 3 (0,0))):=hcur
   have HC2:Hid (0<(Pl.ids ds).length→p=some ⟨gr,0,none⟩∧gr≠w.heap.size):=hgrb
   have HC3:Hid (0<(Pl.ids ds).length→∀ j (h:j<(Pl.ids ds).length),cur[j]?=some (.int .i64 ((Pl.ids ds)[j]))):=hcur2
   have HB2:Hid (Below w.heap.size w w2):=hB2
   have hws2:w.heap.size<w2.heap.size:=Nat.lt_of_lt_of_le hwz hBb.size
   clear hcur hgrb hcur2 hrow hP hI hil cK cS hB0 hBa hBb hb2 hB2 HFL hBw
   go_wp2_with fail
   go_loopw [39] (fun iv wr=>SvM w (L.map (·.2.1)) ds gr cur iv wr) (fun iv _=>(Pl.ids ds).length - (intOf iv).toNat)
   case atStart=>exact ⟨0,rfl,by omega,by simpa [Pl.savD] using HIB.out,HB2.out,by simpa [Pl.savD] using HSL.out,hws2,HC1.out⟩
   case round =>
    obtain ⟨q,rfl,hq,hIB,hBq,hsq,hwq,hgq⟩:=hrel.ex
    by_cases hlq:q<(Pl.ids ds).length
    ·have hlqI:(q:Int)<((Pl.ids ds).length:Int):=by omega
     have h12:((Pl.ids ds).length:Int)≤12:=by omega
     obtain ⟨rfl,hgrw⟩:=HC2.out (by omega)
     obtain ⟨i,hi⟩:∃ i,i=(Pl.ids ds)[q]:=⟨_,rfl⟩
     obtain ⟨d,gt,ct,tx,hid,hd9,ht1,ht3,hts,htx,hat,hgt,htc⟩:=HDC.out i (by rw [hi];exact List.getElem_mem hlq)
     have k0:wr.cell? ⟨gr,q,none⟩=some (.int .i64 i):=by
      rw [hi]
      simp [World.cell?,hgq (by omega),HC3.out (by omega) q hlq]
     obtain ⟨e0,e1⟩:=HBD.out wr hBq
     have hoq:=HOW.out wr hBq
     have hwf:(Lit.int .i64 (d:Int)).wf=true:=by simp [Lit.wf,IntKind.min,IntKind.max,IntKind.signed,IntKind.bits];omega
     have cD:=docline_any d hd9 gt ct tx wr ht3 hts (htc wr hBq) (Nat.lt_of_lt_of_le hgt hBq.size) (HT.out.below hBq)
     have hdz:=dln_len hd9 ht3 hts
     have HNX:Hid (∀ w3 w4,Below wr.heap.size wr w3→Lib.BuilderAtF 166 5 w.heap.size w.heap.size (.pointer (some ⟨w.heap.size,0,none⟩)) (Lib.byteCells (Pl.savF (L.map (·.2.1))++Pl.savD ds ((Pl.ids ds).take q))++Lib.strCells (Pl.dln d tx)) w4→Below w.heap.size w3 w4→Lib.OthersKept 5 (some w.heap.size) w3 w4→SvM w (L.map (·.2.1)) ds gr cur (.int .i64 ((q:Int)+1)) w4):=fun w3 w4 g1 g2 g3 g4=>by
      have e1:Pl.savF (L.map (·.2.1))++Pl.savD ds ((Pl.ids ds).take (q+1))=Pl.savF (L.map (·.2.1))++Pl.savD ds ((Pl.ids ds).take q)++(Pl.dln d tx).data.toList:=by
       have htx':Pl.txo ds (d:Int)=tx:=by rw [← hid];exact htx
       rw [List.take_succ_eq_append_getElem hlq,← hi,hid]
       simp [Pl.savD,htx']
      refine ⟨⟨q+1,by simp,by omega,?_,hBq.trans ((g1.mono (Nat.le_of_lt hwq)).trans g3),?_,Nat.lt_of_lt_of_le hwq (Nat.le_trans g1.size g3.size),fun h=>?_⟩⟩
      ·rw [e1,← byteCells_append]
       exact .inr g2
      ·rw [e1,List.length_append]
       have:(Pl.dln d tx).data.toList.length=(Pl.dln d tx).size:=by rw [Array.length_toList];rfl
       omega
      ·exact g4 gr _ ((g1.block gr (Array.getElem?_eq_some_iff.1 (hgq h)).1).trans (hgq h)) (by simpa using hgrw) (fun c fz e=>by cases e)
     have HIQ:Hid (∀ w3,Below wr.heap.size wr w3→Calls Tryz.prog 56 #[.pointer (some ⟨w.heap.size,0,none⟩),.string (Pl.dln d tx)] w3 fun e w'=>e=.returned (.tuple #[.int .i64 (Pl.dln d tx).size,.nilIface])∧(Lib.BuilderAtF 166 5 w.heap.size w.heap.size (.pointer (some ⟨w.heap.size,0,none⟩)) (Lib.byteCells (Pl.savF (L.map (·.2.1))++Pl.savD ds ((Pl.ids ds).take q))++Lib.strCells (Pl.dln d tx)) w'∧Below w.heap.size w3 w'∧Lib.OthersKept 5 (some w.heap.size) w3 w')):=fun w3 h3 =>
      writeS_any w.heap.size w.heap.size _ (Pl.dln d tx) w3 (isB_below hIB h3) (by rw [Lib.byteCells_length];omega) (Nat.le_trans (Nat.le_of_lt hwq) h3.size)
     have HAT:Hid (D.atKey (.int .i64 (d:Int)) nlS=.held (.slice (some ⟨gt,0,none⟩) tx.length ct)):=by rw [← hid];exact hat nlS
     clear hrel hIB htc hat hgq hi
     subst hid
     go_wp2_with (at_lookup;refine wpList_lookup_tok _ rfl _ _ 154 rfl 3 63 keyI Tryz.underlying154 slE (fun _ _ _ h=>slE_held h) (zero63 _) nlS [] rfl m ds.length D rfl hoq _ _ rfl (klI hwf) (.slice (some ⟨gt,0,none⟩) tx.length ct) HAT.out ?_)
     refine cD.mono ?_
     rintro e w3 ⟨rfl,hb3⟩
     have cW:=HIQ.out w3 hb3
     have HB3:Hid (Below wr.heap.size wr w3):=hb3
     clear hb3 cD
     go_wp2_with fail
     refine cW.mono ?_
     rintro e w4 ⟨rfl,g2,g3,g4⟩
     have HS:Hid (SvM w (L.map (·.2.1)) ds gr cur (.int .i64 ((q:Int)+1)) w4):=HNX.out w3 w4 HB3.out g2 g3 g4
     clear g2 g3 g4 cW HNX HIQ
     go_wp2_with fail
     go_roundw
     case rel=>exact HS.out
     case measure=>simp [intOf];omega
    ·have hlqI:¬ (q:Int)<((Pl.ids ds).length:Int):=by omega
     have cT:=string_any w.heap.size w.heap.size _ wr hIB (Nat.le_of_lt hwq)
     rw [List.take_of_length_le (by omega)] at cT
     have HBq:Hid (Below w.heap.size w wr):=hBq
     clear hrel hIB hsq hgq hBq
     go_wp2_with fail
     refine cT.mono ?_
     rintro e w3 ⟨rfl,_,hb3,_⟩
     go_wp2_with fail
     go_ret
     exact ⟨rfl,HBq.out.trans hb3⟩
end Go.Proofs.YtcmgclckknpecaaGreatDoor
