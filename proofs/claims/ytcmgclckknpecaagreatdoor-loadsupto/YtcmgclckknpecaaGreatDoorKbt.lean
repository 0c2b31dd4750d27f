import Derived.Test.YtcmgclckknpecaaGreatDoorKbs
namespace Go.Proofs.YtcmgclckknpecaaGreatDoor
open Go.RowKit Go.Maps Go.Shelf
theorem info167:(Tryz.prog.info? 167).map (fun i=>(i.zero,i.size,i.bytes))=some (some (.pointer none),1,8):=by kernel_rfl
theorem nwE_cons (pre:List (ByteArray × ByteArray)) (f:ByteArray × ByteArray) (r:List (ByteArray × ByteArray)):Pl.nwE pre (f :: r)=if Pl.mfE pre f=0 then Pl.nwE (pre++[f]) r else some (Pl.mfE pre f,pre.length):=by
 rw [Pl.nwE,Pl.mfE]
 split
 ·rfl
 ·rfl
structure Nfs (w:World) (L:List Fe) (wr:World):Prop where
 f:∀ f∈L,FAa f.1 f.2.1.1 f.2.1.2 f.2.2 (Pl.chOf f.2.1) wr∧wr.ownsMap Tryz.prog 9 mpE f.2.2 0 (.map [])∧w.heap.size+2≤f.1∧w.heap.size+2≤f.2.2
 n:(L.map (·.1)).Nodup
structure NsL (w:World) (fs:List (ByteArray × ByteArray)) (E:Option (Nat × Nat)) (iv:Value) (wr:World):Prop where
 ex:∃ (j:Nat) (L:List Fe) (fv:Value),iv=.int .i64 (j:Int)∧j≤fs.length∧Pl.nwE (fs.take j) (fs.drop j)=E∧L.map (·.2.1)=fs.take j∧Blk (w.heap.size+1) 157 #[fv,.map (some w.heap.size)] wr∧wr.ownsRow (w.heap.size+2) 167 1 fv L.length (L.map fun f=>.pointer (some ⟨f.1,0,none⟩))∧Nfs w L wr∧wr.ownsMap Tryz.prog 3 slE w.heap.size 0 (.map [])∧Below w.heap.size w wr
structure NsO (fs:List (ByteArray × ByteArray)) (w:World) (e:Ending) (w':World):Prop where
 b:Below w.heap.size w w'
 r:(∃ c i:Nat,c≠0∧e=.returned (.tuple #[.pointer none,.int .i64 (c:Int),.int .i64 (i:Int)])∧((c=4∧i=0∧(fs.length=0∨3<fs.length))∨(0<fs.length∧fs.length≤3∧Pl.nwE [] fs=some (c,i)))) ∨
  (0<fs.length∧fs.length≤3∧Pl.nwE [] fs=none∧e=.returned (.tuple #[.pointer (some ⟨w.heap.size+1,0,none⟩),.int .i64 0,.int .i64 0])∧∃ L fv,L.map (·.2.1)=fs∧Blk (w.heap.size+1) 157 #[fv,.map (some w.heap.size)] w'∧w'.ownsRow (w.heap.size+2) 167 1 fv L.length (L.map fun f=>.pointer (some ⟨f.1,0,none⟩))∧Nfs w L w'∧w'.ownsMap Tryz.prog 3 slE w.heap.size 0 (.map []))
theorem Nfs.keep {w:World} {L:List Fe} {x y:World} (h:Nfs w L x) (ha:∀ E:Inhabited Exb,@Agr E x y) (hc:∀ (k:Nat) (cs:Array Value) (t:TypeId) (f:Nat × Nat),(t=175∨t=189∨t=194)→x.heap[k]?=some (Obj.cells cs t f)→y.heap[k]?=some (Obj.cells cs t f)) (hm:∀ (k:Nat) (es:Array MapEntry) (c:Nat),x.heap[k]?=some (Obj.map es c)→y.heap[k]?=some (Obj.map es c)):Nfs w L y:=by
 refine ⟨fun f hf=>?_,h.n⟩
 obtain ⟨h1,⟨es,c,q,r⟩,h3⟩:=h.f f hf
 refine ⟨h1.keep ha fun k c t f ht e=>hc k c t f ?_ e,⟨es,c,hm _ _ _ q,r⟩,h3⟩
 rcases ht with ⟨h,_⟩ | h | h
 ·exact .inl h
 ·exact .inr (.inl h)
 ·exact .inr (.inr h)
theorem Nfs.below {w:World} {L:List Fe} {x y:World} (h:Nfs w L x) (hb:Below x.heap.size x y):Nfs w L y:=h.keep (fun E=>@Agr.below E _ _ hb) (fun k _ _ _ _ e=>(hb.block k (Array.getElem?_eq_some_iff.1 e).1).trans e) (fun k _ _ e=>(hb.block k (Array.getElem?_eq_some_iff.1 e).1).trans e)
set_option maxRecDepth 100000 in
set_option maxHeartbeats 4000000 in
theorem snew_any (a:Option Addr) (g o cap:Nat) (fs:List (ByteArray × ByteArray)) (w:World) (hw0:0<w.heap.size) (hF:FsA g o fs w) (ha:0<fs.length→a=some ⟨g,o,none⟩) (hg:0<fs.length→g<w.heap.size) (hl:fs.length≤4398046510976) (HSZ:Hid (∀ f∈fs,f.1.size≤9223372036854775807)) :
  Calls Tryz.prog 44 #[.slice a fs.length cap] w fun e w'=>NsO fs w e w':=by
 obtain ⟨i1,hi1,hy0,hy1,hy2⟩:=info_parts info167
 have hmm:=@run_makeMap Tryz.prog
 by_cases hz:fs.length=0
 ·have hlI:(fs.length:Int)=0:=by omega
  have HF:Hid (NsO fs w (.returned (.tuple #[.pointer none,.int .i64 4,.int .i64 0])) w):=⟨Below.refl _ _,.inl ⟨4,0,by decide,rfl,.inl ⟨rfl,rfl,.inl hz⟩⟩⟩
  clear hF ha hg HSZ hz hl
  go_enter Tryz.func44,Tryz.ntmps44
  go_wp2_with fail
  go_ret3
  exact HF.out
 ·by_cases h3:3<fs.length
  ·have hlI:(3:Int)<(fs.length:Int):=by omega
   have hzI:¬ (fs.length:Int)=0:=by omega
   have HF:Hid (NsO fs w (.returned (.tuple #[.pointer none,.int .i64 4,.int .i64 0])) w):=⟨Below.refl _ _,.inl ⟨4,0,by decide,rfl,.inl ⟨rfl,rfl,.inr h3⟩⟩⟩
   clear hF ha hg HSZ
   go_enter Tryz.func44,Tryz.ntmps44
   go_wp2_with fail
   go_ret3
   exact HF.out
  ·have hlI:¬ (3:Int)<(fs.length:Int):=by omega
   have hzI:¬ (fs.length:Int)=0:=by omega
   obtain rfl:=ha (by omega)
   have hgl:=hg (by omega)
   obtain ⟨E,hE0⟩:∃ E,Pl.nwE [] fs=E:=⟨_,rfl⟩
   have HE:Hid (Pl.nwE [] fs=E):=hE0
   have HFA:Hid (∀ W,Below w.heap.size w W→∀ q (hq:q<fs.length),W.cell? ⟨g,o+q*2,none⟩=some (.string (fs[q]).1)∧W.cell? ⟨g,o+q*2+1,none⟩=some (.string (fs[q]).2)):=fun W hW q hq=>(hF.below (fun _=>hgl) hW).c q hq
   have hST:NsL w fs E (.int .i64 0) ((w.alloc (.map #[] 0)).alloc (.cells #[.slice none 0 0,.map (some w.heap.size)] 157)):=by
    refine ⟨0,[],.slice none 0 0,rfl,by omega,hE0,rfl,?_,World.ownsRow_nil _ _ _ _,⟨by simp,by simp⟩,(World.ownsMap_made w _ _ _).alloc _,((Below.refl _ w).alloc (Nat.le_refl _) _).alloc (by simp) _⟩
    have:=heap_alloc_new (w.alloc (.map #[] 0)) (.cells #[.slice none 0 0,.map (some w.heap.size)] 157)
    rw [World.size_alloc] at this
    exact this
   have HST:Hid (NsL w fs E (.int .i64 0) ((w.alloc (.map #[] 0)).alloc (.cells #[.slice none 0 0,.map (some w.heap.size)] 157))):=hST
   clear hF hg hE0 hST ha
   go_enter Tryz.func44,Tryz.ntmps44
   go_wp2_with fail
   go_loopw [23] (fun iv wr=>NsL w fs E iv wr) (fun iv _=>fs.length - (intOf iv).toNat)
   case atStart=>exact HST.out
   case round =>
    obtain ⟨j,L,fv,rfl,hj,hnw,hLf,hBk,hrow,hN,hMp,hB⟩:=hrel.ex
    clear hrel
    have hLl:L.length≤3:=by have:=congrArg List.length hLf;simp at this;omega
    have HLT:Hid (∀ f∈L,f.1<wr.heap.size):=fun f hf=>by obtain ⟨cs,q,_⟩:=(hN.f f hf).1.blk;exact q.lt
    have hs:=hB.size
    obtain ⟨xa,xc,rfl⟩:=slice_of_row hrow
    by_cases hjl:j<fs.length
    ·have hjI:(j:Int)<(fs.length:Int):=by omega
     obtain ⟨p0,p1⟩:=HFA.out wr hB j hjl
     have htk:fs.take (j+1)=fs.take j++[fs[j]]:=(List.take_append_getElem hjl).symm
     have hd:fs.drop j=fs[j] :: fs.drop (j+1):=List.drop_eq_getElem_cons hjl
     have hfz:=HSZ.out _ (List.getElem_mem hjl)
     obtain ⟨⟨nm,ch⟩,hx⟩:∃ x,fs[j]=x:=⟨_,rfl⟩
     rw [hx] at p0 p1 htk hd hfz
     simp only at p0 p1 hfz
     rw [hd,nwE_cons] at hnw
     obtain ⟨cd,hcd⟩:∃ cd,Pl.mfE (fs.take j) (nm,ch)=cd:=⟨_,rfl⟩
     rw [hcd] at hnw
     have htl:(fs.take j).length=j:=by simp;omega
     rw [htl] at hnw
     have hBa:Below wr.heap.size wr (wr.alloc (.cells #[.string nm,.string ch] 74)):=(Below.refl _ wr).alloc (Nat.le_refl _) _
     have c0:wr.cell? ⟨w.heap.size+1,0,none⟩=some (.slice xa L.length xc):=blk_cell hBk 0
     have hbl:=hBk.lt
     have HMF:Hid (Calls Tryz.prog 92 #[.pointer (some ⟨w.heap.size+1,0,none⟩),.agg #[.string nm,.string ch]] (wr.alloc (.cells #[.string nm,.string ch] 74)) fun e w'=>MfO nm ch cd (wr.alloc (.cells #[.string nm,.string ch] 74)) e w'):=by
      have hfn:(L.map fun f=>(f.1,f.2.1)).length=L.length:=by simp
      obtain ⟨gr,hgr⟩:∃ gr,(0<L.length→xa=some ⟨gr,0,none⟩∧gr<wr.heap.size)∧∀ i (h:i<L.length),wr.cell? ⟨gr,i,none⟩=some (.pointer (some ⟨(L[i]).1,0,none⟩)):=by
       rcases hrow.2 with ⟨_,q0⟩ | ⟨gr,cp,cur,q0,_,q2,_⟩
       ·exact ⟨0,fun h=>by omega,fun i h=>by omega⟩
       ·have:xa=some ⟨gr,0,none⟩:=by injection q0
        subst this
        refine ⟨gr,fun _=>⟨rfl,(Array.getElem?_eq_some_iff.1 q2).1⟩,fun i h=>?_⟩
        have:=hrow.cells (g:=gr) rfl i (.pointer (some ⟨(L[i]).1,0,none⟩)) (by simp [h])
        rw [show ((⟨gr,0,none⟩:Addr).add i)=⟨gr,i,none⟩ by unfold Addr.add;split <;> simp_all] at this
        exact this
      have hmf:=makefield_any (w.heap.size+1) xa gr xc (L.map fun f=>(f.1,f.2.1)) nm ch (wr.alloc (.cells #[.string nm,.string ch] 74)) (by simp) (by simp;omega) (by rw [hfn];exact (hBa.cell (p:=⟨w.heap.size+1,0,none⟩) hbl).trans c0)
       ⟨fun i hi=>by
        have hi':i<L.length:=by simpa using hi
        obtain ⟨cs,q1,q2,_⟩:=(hN.f _ (List.getElem_mem hi')).1.blk
        have e1:((L.map fun f=>(f.1,f.2.1))[i]'hi)=((L[i]).1,(L[i]).2.1):=by simp
        rw [e1]
        refine ⟨(hBa.cell (p:=⟨gr,i,none⟩) (hgr.1 (by omega)).2).trans (hgr.2 i hi'),?_,Nat.lt_of_lt_of_le q1.lt hBa.size⟩
        exact (hBa.cell (p:=⟨(L[i]).1,0,none⟩) q1.lt).trans ((blk_cell q1 0).trans q2)⟩
       (fun h=>(hgr.1 (by simpa using h)).1) (fun h=>by have:=(hgr.1 (by simpa using h)).2;simp;omega) (by simp;omega) hfz cd (by
        have:(L.map fun f=>(f.1,f.2.1)).map (·.2)=fs.take j:=by rw [← hLf];simp
        rw [this];exact hcd)
      exact hmf
     have HB:Hid (Below w.heap.size w wr):=hB
     clear hx hd hcd c0
     by_cases hcd0:cd=0
     ·rw [if_pos hcd0] at hnw
      have HNX:Hid (Pl.nwE (fs.take (j+1)) (fs.drop (j+1))=E):=by show _=_;rw [htk];exact hnw
      have HTK:Hid (fs.take (j+1)=fs.take j++[(nm,ch)]):=htk
      have HLF:Hid (L.map (·.2.1)=fs.take j):=hLf
      clear hnw htk hLf htl
      go_wp2_with fail
      refine HMF.out.mono ?_
      rintro e w2 hO
      obtain ⟨fb,ib,rfl,hFA,hib,hfbl,hibl⟩:∃ fb ib,e=.returned (.tuple #[.pointer (some ⟨fb,0,none⟩),.int .i64 0])∧FAa fb nm ch ib (Pl.chOf (nm,ch)) w2∧w2.ownsMap Tryz.prog 9 mpE ib 0 (.map [])∧(wr.alloc (.cells #[.string nm,.string ch] 74)).heap.size≤fb∧(wr.alloc (.cells #[.string nm,.string ch] 74)).heap.size≤ib:=by
       rcases hO.r with ⟨q,_⟩ | ⟨_,q⟩
       ·exact absurd hcd0 q
       ·exact q
      have hBr2:Below wr.heap.size wr w2:=hBa.trans (hO.b.mono (by simp))
      have hs2:=hBr2.size
      have hBk2:=hBk.below hBr2
      have hrow2:=ownsRow_below hrow hBr2
      have hN2:=hN.below hBr2
      have hMp2:=hMp.kept (grown_of_below none hBr2) (by simp)
      have hBw2:=hB.trans (hBr2.mono hs)
      simp only [World.size_alloc] at hfbl hibl
      clear hO HMF hBk hrow hN hMp hBa p0 p1
      have kA:(w2.alloc (.cells #[.pointer (some ⟨fb,0,none⟩)] 167)).cell? ⟨w.heap.size+1,0,none⟩=some (.slice xa L.length xc):=(((Below.refl _ w2).alloc (Nat.le_refl _) _).cell (p:=⟨w.heap.size+1,0,none⟩) hBk2.lt).trans (blk_cell hBk2 0)
      have kB:w2.cell? ⟨w.heap.size+1,0,none⟩=some (.slice xa L.length xc):=blk_cell hBk2 0
      have hne:(Value.slice xa L.length xc).ownBlock≠some (w.heap.size+1):=row_ne_blk hrow2 hBk2 (by decide)
      have HKD:Hid (∀ W,(w2.alloc (.cells #[.pointer (some ⟨fb,0,none⟩)] 167)).grownBy W (Value.slice xa L.length xc).ownBlock→Blk (w.heap.size+1) 157 #[.slice xa L.length xc,.map (some w.heap.size)] W):=fun W hW=>Blk.keep (Blk.alloc hBk2 _) hW hne
      have HFI:Hid (∀ gn capn w3,w3.ownsRow (w.heap.size+2) 167 1 (.slice (some ⟨gn,0,none⟩) (L.length+1) capn) (L.length+1) ((L.map fun f=>Value.pointer (some ⟨f.1,0,none⟩))++[.pointer (some ⟨fb,0,none⟩)])→(w2.alloc (.cells #[.pointer (some ⟨fb,0,none⟩)] 167)).grownBy w3 (Value.slice xa L.length xc).ownBlock→NsL w fs E (.int .i64 ((j+1:Nat):Int)) (w3.setCell ⟨w.heap.size+1,0,none⟩ (.slice (some ⟨gn,0,none⟩) (L.length+1) capn))):=fun gn capn w3 h3 hg3=>by
       have hBl:Below w2.heap.size w2 (w2.alloc (.cells #[.pointer (some ⟨fb,0,none⟩)] 167)):=(Below.refl _ w2).alloc (Nat.le_refl _) _
       have hBk3:=HKD.out w3 hg3
       have hrw:∀ {k:Nat} {ob:Obj},(w2.alloc (.cells #[.pointer (some ⟨fb,0,none⟩)] 167)).heap[k]?=some ob→(∀ cs f,ob≠.cells cs 167 f)→w3.heap[k]?=some ob:=fun {k ob} e hno=>by
        refine (hg3.block k (Array.getElem?_eq_some_iff.1 e).1 fun q=>?_).trans e
        rcases (hrow2.alloc (.cells #[.pointer (some ⟨fb,0,none⟩)] 167)).2 with ⟨r0,_⟩ | ⟨gr,cp,cur,r0,_,r2,_⟩
        ·rw [r0] at q;simp [Value.ownBlock] at q
        ·rw [r0] at q
         have:k=gr:=by simpa [Value.ownBlock] using q
         subst this
         rw [e] at r2
         injection r2 with r2
         exact hno _ _ r2
       have hst:∀ {k:Nat} {ob:Obj},w3.heap[k]?=some ob→(∀ cs f,ob≠.cells cs 157 f)→(w3.setCell ⟨w.heap.size+1,0,none⟩ (.slice (some ⟨gn,0,none⟩) (L.length+1) capn)).heap[k]?=some ob:=fun {k ob} e hno=>by
        refine ((grown_set w3 (w.heap.size+1) 0 _).block k (Array.getElem?_eq_some_iff.1 e).1 fun q=>?_).trans e
        injection q with q
        subst q
        rw [show w3.heap[w.heap.size+1]?=_ from hBk3] at e
        injection e with e
        exact hno _ _ e.symm
       have all:∀ {k:Nat} {ob:Obj},w2.heap[k]?=some ob→(∀ cs f,ob≠.cells cs 167 f)→(∀ cs f,ob≠.cells cs 157 f)→(w3.setCell ⟨w.heap.size+1,0,none⟩ (.slice (some ⟨gn,0,none⟩) (L.length+1) capn)).heap[k]?=some ob:=fun {k ob} e h1 h2=>hst (hrw ((hBl.block k (Array.getElem?_eq_some_iff.1 e).1).trans e) h1) h2
       have hsz:w2.heap.size≤(w3.setCell ⟨w.heap.size+1,0,none⟩ (.slice (some ⟨gn,0,none⟩) (L.length+1) capn)).heap.size:=by
        have:=hg3.size
        simp at this ⊢
        omega
       have hag:∀ E:Inhabited Exb,@Agr E w2 (w3.setCell ⟨w.heap.size+1,0,none⟩ (.slice (some ⟨gn,0,none⟩) (L.length+1) capn)):=fun E=>⟨hsz,fun k ob e hk=>by
        rcases hk with rfl | ⟨c,t,fz,rfl,ht⟩
        ·have hw3:w3.heap[0]?=some ob:=(hg3.block 0 (by simp) fun q=>by
          have:=((hrow2.alloc (.cells #[.pointer (some ⟨fb,0,none⟩)] 167)).lt 0 q.symm).1
          omega).trans ((hBl.block 0 (by omega)).trans e)
         exact ((grown_set w3 (w.heap.size+1) 0 _).block 0 (Array.getElem?_eq_some_iff.1 hw3).1 (by simp)).trans hw3
        ·exact all e (fun cs f q=>by injection q with _ q _;subst q;simp at ht) (fun cs f q=>by injection q with _ q _;subst q;simp at ht)⟩
       have hcs:∀ (k:Nat) (cs:Array Value) (t:TypeId) (f:Nat × Nat),(t=175∨t=189∨t=194)→w2.heap[k]?=some (Obj.cells cs t f)→(w3.setCell ⟨w.heap.size+1,0,none⟩ (.slice (some ⟨gn,0,none⟩) (L.length+1) capn)).heap[k]?=some (Obj.cells cs t f):=fun k cs t f ht e=>all e (fun cs f q=>by injection q with _ q _;subst q;simp at ht) (fun cs f q=>by injection q with _ q _;subst q;simp at ht)
       have hmp:∀ (k:Nat) (es:Array MapEntry) (c:Nat),w2.heap[k]?=some (Obj.map es c)→(w3.setCell ⟨w.heap.size+1,0,none⟩ (.slice (some ⟨gn,0,none⟩) (L.length+1) capn)).heap[k]?=some (Obj.map es c):=fun k es c e=>all e (fun cs f q=>by cases q) (fun cs f q=>by cases q)
       have hN3:=hN2.keep hag hcs hmp
       have hF3:FAa fb nm ch ib (Pl.chOf (nm,ch)) (w3.setCell ⟨w.heap.size+1,0,none⟩ (.slice (some ⟨gn,0,none⟩) (L.length+1) capn)):=hFA.keep hag fun k c t f ht e=>hcs k c t f (by
        rcases ht with ⟨h,_⟩ | h | h
        ·exact .inl h
        ·exact .inr (.inl h)
        ·exact .inr (.inr h)) e
       have hi3:(w3.setCell ⟨w.heap.size+1,0,none⟩ (.slice (some ⟨gn,0,none⟩) (L.length+1) capn)).ownsMap Tryz.prog 9 mpE ib 0 (.map []):=by
        obtain ⟨es,c,q,r⟩:=hib
        exact ⟨es,c,hmp _ _ _ q,r⟩
       have hm3:(w3.setCell ⟨w.heap.size+1,0,none⟩ (.slice (some ⟨gn,0,none⟩) (L.length+1) capn)).ownsMap Tryz.prog 3 slE w.heap.size 0 (.map []):=by
        obtain ⟨es,c,q,r⟩:=hMp2
        exact ⟨es,c,hmp _ _ _ q,r⟩
       refine ⟨j+1,L++[(fb,(nm,ch),ib)],.slice (some ⟨gn,0,none⟩) (L.length+1) capn,rfl,by omega,HNX.out,by rw [HTK.out,← HLF.out];simp,hBk3.t0 _,?_,⟨fun f hf=>?_,?_⟩,hm3,?_⟩
       ·rw [List.length_append,List.map_append]
        exact ownsRow_set_other h3 (row_ne_blk h3 hBk3 (by decide)) 0 _
       ·rcases List.mem_append.1 hf with hf | hf
        ·exact hN3.f f hf
        ·obtain rfl:=List.mem_singleton.1 hf
         exact ⟨hF3,hi3,by show _≤fb;omega,by show _≤ib;omega⟩
       ·rw [List.map_append,List.nodup_append]
        refine ⟨hN2.n,by simp,fun x hx y hy=>?_⟩
        obtain ⟨f,hf,rfl⟩:=List.mem_map.1 hx
        have hy':y=fb:=by simpa using hy
        subst hy'
        intro e
        have:=HLT.out f hf
        omega
       ·exact (Below.grown (hBw2.trans (hBl.mono (by omega))) hg3 (by simp;omega) fun k e=>by have:=((hrow2.alloc (.cells #[.pointer (some ⟨fb,0,none⟩)] 167)).lt k e).1;omega).setCell (p:=⟨w.heap.size+1,0,none⟩) (by show w.heap.size≤w.heap.size+1;omega) _
      clear hFA hib hN2 hMp2 hBw2 HNX HTK HLF HB
      go_wp2_with (at_builtin;refine wpList_append_lies _ (by rfl) _ _ 155 (by rfl) (w.heap.size+2) 167 i1 (.pointer none) 1 8 Tryz.underlying155 hi1 hy0 hy1 hy2 rfl (by decide) _ L.length (L.map fun f=>Value.pointer (some ⟨f.1,0,none⟩)) (by rfl) (hrow2.alloc _) ⟨w2.heap.size,0,none⟩ 1 1 [.pointer (some ⟨fb,0,none⟩)] (by rfl) rfl (World.news_of_block (heap_alloc_new w2 _)) (by simp [Value.oneCell']) (by decide) (by unfold maxLen;omega) (by omega) (by simp;omega) (w2.heap.size+1) (by simp) ?_;intro gn capn w3 hown3 hgrow3 hat3 hlt3;have hBk3:=HKD.out w3 hgrow3;have q0:=blk_cell hBk3 0;have q1:=blk_frozen hBk3 0)
      go_roundw
      case rel=>exact (show NsL w fs E (.int .i64 ((j:Int)+1)) _ from HFI.out _ _ _ hown3 hgrow3)
      case measure=>simp [intOf];omega
     ·rw [if_neg hcd0] at hnw
      have hcI:¬ (cd:Int)=0:=by omega
      have HFI:Hid (∀ w2,Below wr.heap.size wr w2→NsO fs w (.returned (.tuple #[.pointer none,.int .i64 (cd:Int),.int .i64 (j:Int)])) w2):=fun w2 h2=>⟨hB.trans (h2.mono hs),.inl ⟨cd,j,hcd0,rfl,.inr ⟨by omega,by omega,HE.out.trans hnw.symm⟩⟩⟩
      clear hnw htk hLf htl
      go_wp2_with fail
      refine HMF.out.mono ?_
      rintro e w2 hO
      have he:e=.returned (.tuple #[.pointer none,.int .i64 (cd:Int)]):=by
       rcases hO.r with ⟨_,q⟩ | ⟨q,_⟩
       ·exact q
       ·exact absurd q hcd0
      subst he
      have HF2:Hid (NsO fs w (.returned (.tuple #[.pointer none,.int .i64 (cd:Int),.int .i64 (j:Int)])) w2):=HFI.out w2 (hBa.trans (hO.b.mono (by simp)))
      clear hO HMF HFI hBk hrow hN hMp
      go_wp2_with fail
      go_ret3
      exact HF2.out
    ·have hjI:¬ (j:Int)<(fs.length:Int):=by omega
     obtain rfl:j=fs.length:=by omega
     rw [List.take_length] at hLf hnw
     rw [List.drop_length,Pl.nwE] at hnw
     subst hnw
     have HFI:Hid (NsO fs w (.returned (.tuple #[.pointer (some ⟨w.heap.size+1,0,none⟩),.int .i64 0,.int .i64 0])) wr):=⟨hB,.inr ⟨by omega,by omega,HE.out,rfl,L,_,hLf,hBk,hrow,hN,hMp⟩⟩
     clear hBk hrow hN hMp hLf
     go_wp2_with fail
     go_ret3
     exact HFI.out
end Go.Proofs.YtcmgclckknpecaaGreatDoor
