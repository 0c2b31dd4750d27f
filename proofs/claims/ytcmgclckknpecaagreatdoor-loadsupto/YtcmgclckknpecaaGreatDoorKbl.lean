import Derived.Test.YtcmgclckknpecaaGreatDoorKbk
namespace Go.Proofs.YtcmgclckknpecaaGreatDoor
open Go.RowKit
theorem row_far {w w':World} {b0 g:Nat} {t t2:TypeId} {sz n:Nat} {v:Value} {xs:List Value} {cur:Array Value} (h:w.ownsRow b0 t sz v n xs) (ht:t2≠t) (hg:w.grownBy w' v.ownBlock) (e:w.heap[g]?=some (Obj.cells cur t2 (0,0))):w'.heap[g]?=some (Obj.cells cur t2 (0,0)):=by
 refine (hg.block g (Array.getElem?_eq_some_iff.1 e).1 fun hs=>?_).trans e
 rcases h.2 with ⟨rfl,_⟩ | ⟨g',cap,c2,rfl,_,hh,_⟩
 ·simp [Value.ownBlock] at hs
 ·have:g=g':=by simpa [Value.ownBlock] using hs
  subst this
  rw [e] at hh
  injection hh with hh
  injection hh with _ h2 _
  exact ht h2
theorem set_far {w:World} {d g:Nat} {t2:TypeId} {cs cur:Array Value} (hd:w.heap[d]?=some (Obj.cells cs 62 (0,0))) (ht:t2≠62) (o:Nat) (u:Value) (e:w.heap[g]?=some (Obj.cells cur t2 (0,0))):(w.setCell ⟨d,o,none⟩ u).heap[g]?=some (Obj.cells cur t2 (0,0)):=by
 have hgd:g≠d:=fun h=>by
  subst h
  rw [e] at hd
  injection hd with hd
  injection hd with _ h2 _
  exact ht h2
 exact ((grown_set w d o u).block g (Array.getElem?_eq_some_iff.1 e).1 (by simpa using hgd)).trans e
theorem Dg.set0 {d:Nat} {v0 v1 v2:Value} {w:World} (h:Dg d v0 v1 v2 w) (u:Value):Dg d u v1 v2 (w.setCell ⟨d,0,none⟩ u):=⟨heap_set w d 0 u _ 62 h.b⟩
theorem Dg.set1 {d:Nat} {v0 v1 v2:Value} {w:World} (h:Dg d v0 v1 v2 w) (u:Value):Dg d v0 u v2 (w.setCell ⟨d,1,none⟩ u):=⟨heap_set w d 1 u _ 62 h.b⟩
structure NwL (w:World) (fs:List (ByteArray × ByteArray)) (E:Option (Nat × Nat)) (iv:Value) (wr:World):Prop where
 ex:∃ (j:Nat) (fv cv:Value),iv=.int .i64 (j:Int)∧j≤fs.length∧Pl.nwE (fs.take j) (fs.drop j)=E∧Dg w.heap.size fv cv (.slice none 0 0) wr∧wr.ownsRow w.heap.size 177 2 fv (fs.take j).length ((fs.take j).flatMap fenc)∧ChR w.heap.size cv ((fs.take j).map Pl.chOf) wr∧Below w.heap.size w wr
structure NewO (fs:List (ByteArray × ByteArray)) (w:World) (e:Ending) (w':World):Prop where
 ex:Below w.heap.size w w' ∧
  ((∃ c i : Nat, c ≠ 0 ∧ e = .returned (.tuple #[.pointer none, .int .i64 (c : Int), .int .i64 (i : Int)]) ∧ ((c = 4 ∧ i = 0 ∧ (fs.length = 0 ∨ 3 < fs.length)) ∨ (0 < fs.length ∧ fs.length ≤ 3 ∧ Pl.nwE [] fs = some (c, i)))) ∨
   (0 < fs.length ∧ fs.length ≤ 3 ∧ Pl.nwE [] fs = none ∧ e = .returned (.tuple #[.pointer (some ⟨w.heap.size, 0, none⟩), .int .i64 0, .int .i64 0]) ∧ ∃ fv cv, Dg w.heap.size fv cv (.slice none 0 0) w' ∧ w'.ownsRow w.heap.size 177 2 fv fs.length (fs.flatMap fenc) ∧ ChR w.heap.size cv (fs.map Pl.chOf) w'))
set_option maxRecDepth 100000 in
set_option maxHeartbeats 8000000 in
theorem rnew_any (fa:Option Addr) (g fc:Nat) (fs:List (ByteArray × ByteArray)) (w:World) (hF:FsI g fs w) (ha:0<fs.length→fa=some ⟨g,0,none⟩) (hg:0<fs.length→g<w.heap.size) (hz:∀ f∈fs,f.1.size≤9223372036854775807) :
  Calls Tryz.prog 33 #[.slice fa fs.length fc] w fun e w'=>NewO fs w e w':=by
 obtain ⟨i0,hi,hz0,hz1,hz2⟩:=info_parts info177
 obtain ⟨i1,hi1,hy0,hy1,hy2⟩:=info_parts info122
 by_cases h0:fs.length=0
 ·have h0I:(fs.length:Int)=0:=by omega
  go_enter Tryz.func33,Tryz.ntmps33
  go_wp2_with fail
  go_ret3
  exact ⟨Below.refl _ _,.inl ⟨4,0,by decide,rfl,.inl ⟨rfl,rfl,.inl h0⟩⟩⟩
 have h0I:¬ (fs.length:Int)=0:=by omega
 by_cases h3:3<fs.length
 ·have h3I:(3:Int)<(fs.length:Int):=by omega
  go_enter Tryz.func33,Tryz.ntmps33
  go_wp2_with fail
  go_ret3
  exact ⟨Below.refl _ _,.inl ⟨4,0,by decide,rfl,.inl ⟨rfl,rfl,.inr h3⟩⟩⟩
 have h3I:¬ (3:Int)<(fs.length:Int):=by omega
 obtain ⟨E,hE⟩:∃ E,Pl.nwE [] fs=E:=⟨_,rfl⟩
 have HE:Hid (Pl.nwE [] fs=E):=hE
 clear hE
 obtain rfl:=ha (by omega)
 have hgl:=hg (by omega)
 have HFA:Hid (∀ W,Below w.heap.size w W→∀ q (hq:q<fs.length),W.cell? ⟨g,q*2,none⟩=some (.string (fs[q]).1)∧W.cell? ⟨g,q*2+1,none⟩=some (.string (fs[q]).2)):=fun W hW q hq=>(hF.below hg hW).c q hq
 have HZ:Hid (∀ f∈fs,f.1.size≤9223372036854775807):=hz
 have hd0:Dg w.heap.size (.slice none 0 0) (.slice none 0 0) (.slice none 0 0) (w.alloc (.cells #[.slice none 0 0,.slice none 0 0,.slice none 0 0] 62)):=⟨heap_alloc_new w _⟩
 have hBe0:Below w.heap.size w (w.alloc (.cells #[.slice none 0 0,.slice none 0 0,.slice none 0 0] 62)):=(Below.refl _ w).alloc (Nat.le_refl _) _
 clear hF ha hg hz
 go_enter Tryz.func33,Tryz.ntmps33
 go_wp2_with fail
 go_loopw [6] (fun iv wr=>NwL w fs E iv wr) (fun iv _=>fs.length - (intOf iv).toNat)
 case atStart=>exact ⟨0,_,_,rfl,by omega,by simpa using HE.out,hd0,World.ownsRow_nil _ _ _ _,ChR.nil _ _,hBe0⟩
 case round =>
  clear hd0 hBe0
  obtain ⟨j,fv,cv,rfl,hj,hnw,hD,hFr,hCr,hB⟩:=hrel.ex
  clear hrel
  have hs1:=hB.size
  have hdl:w.heap.size<wr.heap.size:=(Array.getElem?_eq_some_iff.1 hD.b).1
  by_cases hjl:j<fs.length
  ·have hjI:(j:Int)<(fs.length:Int):=by omega
   obtain ⟨p0,p1⟩:=HFA.out wr hB j hjl
   have hzn:=HZ.out _ (List.getElem_mem hjl)
   have hdr:fs.drop j=fs[j] :: fs.drop (j+1):=List.drop_eq_getElem_cons hjl
   have htk:fs.take (j+1)=fs.take j++[fs[j]]:=(List.take_append_getElem hjl).symm
   obtain ⟨⟨y,z⟩,hx⟩:∃ x,fs[j]=x:=⟨_,rfl⟩
   rw [hx] at p0 p1 htk hdr hzn
   simp only at p0 p1 hzn
   rw [hdr,Pl.nwE] at hnw
   simp only at hnw
   have htl:(fs.take j).length=j:=by simp;omega
   rw [htl] at hnw
   have HTK:Hid (fs.take (j+1)=fs.take j++[(y,z)]):=htk
   clear hx htk hdr
   obtain ⟨fl,hfl⟩:∃ fl,fs.take j=fl:=⟨_,rfl⟩
   rw [hfl] at hnw htl hFr hCr HTK
   have HFL:Hid (fs.take j=fl):=hfl
   clear hfl
   obtain ⟨nm,hnm⟩:∃ nm,Pl.isNm y=nm:=⟨_,rfl⟩
   obtain ⟨fx,hfx⟩:∃ fx,Pl.fld y fl 0=fx:=⟨_,rfl⟩
   obtain ⟨⟨cd,at_⟩,hcd⟩:∃ r,ansOf z=r:=⟨_,rfl⟩
   rw [hnm,hfx,hcd] at hnw
   simp only at hnw
   have HNW:Hid ((if (nm && decide (y.size≤8) && decide (fx<0))=true then (if cd=0 then Pl.nwE (fl++[(y,z)]) (fs.drop (j+1)) else some (cd,j)) else some (5,j))=E):=hnw
   clear hnw
   obtain ⟨xa,xc,xg,rfl,hxa,hxg,hxF⟩:=fs_at hFr
   have HFI:Hid (∀ i (h:i<fl.length),wr.cell? ⟨xg,i*2,none⟩=some (.string (fl[i]).1)):=fun i h=>(hxF.c i h).1
   have HSM:Hid (∀ W,Calls Tryz.prog 61 #[.string y] W fun e w'=>e=.returned (.bool nm)∧Below W.heap.size W w'):=fun W=>rsmall_any y hzn W nm hnm
   have HFD:Hid (∀ W,Below wr.heap.size wr W→Calls Tryz.prog 62 #[.pointer (some ⟨w.heap.size,0,none⟩),.string y] W fun e w'=>e=.returned (.int .i64 fx)∧Below W.heap.size W w'):=fun W hW=>rfield_any w.heap.size cv (.slice none 0 0) xa xg xc fl y W ⟨(hW.block _ hdl).trans hD.b⟩ (fun i h=>(hW.cell (p:=⟨xg,i*2,none⟩) (hxg (by omega))).trans (hxF.c i h).1) hxa (by omega) fx hfx
   have HRD:Hid (∀ W,Calls Tryz.prog 37 #[.string z] W fun e w'=>∃ p n c,e=.returned (.tuple #[.slice p n c,.int .i64 (cd:Int),.int .i64 (at_:Int)])∧Below W.heap.size W w'∧RdC cd W.heap.size (Pl.chOf (y,z)) (.slice p n c) n w'):=fun W=>read_allC z W cd at_ hcd _ rfl
   clear hnm hfx hcd hxF
   have bF:Blk wr.heap.size 177 #[.string y,.string z] (wr.alloc (.cells #[.string y,.string z] 177)):=heap_alloc_new wr _
   have hBf:Below wr.heap.size wr (wr.alloc (.cells #[.string y,.string z] 177)):=(Below.refl _ wr).alloc (Nat.le_refl _) _
   obtain ⟨⟨f0,f1⟩,ff⟩:=bF.two
   go_wp2_with fail
   refine (HSM.out _).mono ?_
   rintro e w1 ⟨rfl,h1⟩
   have b1:Blk wr.heap.size 177 #[.string y,.string z] w1:=bF.below h1
   have hB1:Below wr.heap.size wr w1:=hBf.trans (h1.mono hBf.size)
   clear h1 f0 f1 ff bF hBf
   obtain ⟨⟨f0,f1⟩,ff⟩:=b1.two
   rcases (show nm=false∨nm=true by cases nm <;> simp) with rfl | rfl
   ·have hE5:E=some (5,j):=by have:=HNW.out;simpa using this.symm
    subst hE5
    clear HNW
    go_wp2_with fail
    go_ret3
    exact ⟨hB.trans (hB1.mono hs1),.inl ⟨5,j,by decide,rfl,.inr ⟨by omega,by omega,HE.out⟩⟩⟩
   by_cases h8n:8<y.size
   ·have h8I:(8:Int)<(y.size:Int):=by omega
    have h8:¬ y.size≤8:=by omega
    have hE5:E=some (5,j):=by have:=HNW.out;simpa [h8] using this.symm
    subst hE5
    clear HNW
    go_wp2_with fail
    go_ret3
    exact ⟨hB.trans (hB1.mono hs1),.inl ⟨5,j,by decide,rfl,.inr ⟨by omega,by omega,HE.out⟩⟩⟩
   have h8I:¬ (8:Int)<(y.size:Int):=by omega
   have h8:y.size≤8:=by omega
   go_wp2_with fail
   refine (HFD.out _ hB1).mono ?_
   rintro e w2 ⟨rfl,h2⟩
   have b2:Blk wr.heap.size 177 #[.string y,.string z] w2:=b1.below h2
   have hB2:Below wr.heap.size wr w2:=hB1.trans (h2.mono hB1.size)
   clear h2 f0 f1 ff b1 hB1
   obtain ⟨⟨f0,f1⟩,ff⟩:=b2.two
   by_cases hfI:(0:Int)≤fx
   ·have hfx:¬ fx<0:=by omega
    have hE5:E=some (5,j):=by have:=HNW.out;simpa [h8,hfx] using this.symm
    subst hE5
    clear HNW
    go_wp2_with fail
    go_ret3
    exact ⟨hB.trans (hB2.mono hs1),.inl ⟨5,j,by decide,rfl,.inr ⟨by omega,by omega,HE.out⟩⟩⟩
   have hfx:fx<0:=by omega
   go_wp2_with fail
   refine (HRD.out _).mono ?_
   rintro e w3 ⟨rp,rn,rc,rfl,h3',hRd⟩
   have b3:Blk wr.heap.size 177 #[.string y,.string z] w3:=b2.below h3'
   have hB3:Below wr.heap.size wr w3:=hB2.trans (h3'.mono hB2.size)
   clear h3' f0 f1 ff b2 hB2
   obtain ⟨⟨f0,f1⟩,ff⟩:=b3.two
   by_cases hcd:cd≠0
   ·have hcI:¬ (cd:Int)=0:=by omega
    have hE5:E=some (cd,j):=by have:=HNW.out;simpa [h8,hfx,hcd] using this.symm
    subst hE5
    clear HNW
    go_wp2_with fail
    go_ret3
    exact ⟨hB.trans (hB3.mono hs1),.inl ⟨cd,j,hcd,rfl,.inr ⟨by omega,by omega,HE.out⟩⟩⟩
   obtain rfl:cd=0:=by omega
   have HNX:Hid (Pl.nwE (fl++[(y,z)]) (fs.drop (j+1))=E):=by have h:=HNW.out;simp only [h8,hfx,decide_true,Bool.and_self,if_true] at h;exact h
   clear HNW HRD HFD HSM
   have hD3:Dg w.heap.size (.slice xa fl.length xc) cv (.slice none 0 0) w3:=⟨(hB3.block _ hdl).trans hD.b⟩
   have hFr3:=ownsRow_below hFr hB3
   have hCr3:=hCr.below hB3
   have hs3:=hB3.size
   obtain ⟨c0,c1,c2,cf⟩:=hD3.cell
   have hcU:ChU (.slice rp rn rc) (Pl.chOf (y,z)) w3:=by
    obtain ⟨xs,h1,h2⟩:=hRd.h rfl
    exact ⟨_,_,_,xs,_,_,rfl,h1,h2⟩
   have HNF:(Value.slice xa fl.length xc).ownBlock≠some wr.heap.size:=fun h=>by have:=(ownBlock_lt hFr h).1;omega
   clear hRd hD hFr hCr
   have hne0:(Value.slice xa fl.length xc).ownBlock≠some w.heap.size:=row_ne_blk hFr3 hD3.b (by decide)
   have hneF:(Value.slice xa fl.length xc).ownBlock≠some wr.heap.size:=HNF
   have HKD:Hid (∀ o W,((w3.alloc o).drew).grownBy W (Value.slice xa fl.length xc).ownBlock→Dg w.heap.size (.slice xa fl.length xc) cv (.slice none 0 0) W∧Blk wr.heap.size 177 #[.string y,.string z] W):=fun o W hW=>⟨⟨Blk.keep (show Blk w.heap.size 62 _ ((w3.alloc o).drew) from Blk.alloc (show Blk w.heap.size 62 _ w3 from hD3.b) o) hW hne0⟩,Blk.keep (show Blk wr.heap.size 177 _ ((w3.alloc o).drew) from Blk.alloc b3 o) hW hneF⟩
   have HNB:Hid (∀ W:World,(W.alloc (.cells #[.string y,.string z] 177)).heap[W.heap.size]?=some (Obj.cells #[.string y,.string z] 177 (0,0))):=fun W=>heap_alloc_new W _
   have hfl3:fl.length≤3:=by omega
   have HTL:Hid (fl.length=j):=htl
   clear htl
   have kA:(w3.alloc (.cells #[.string y,.string z] 177)).cell? ⟨w.heap.size,0,none⟩=some (.slice xa fl.length xc):=(((Below.refl _ w3).alloc (Nat.le_refl _) _).cell (p:=⟨w.heap.size,0,none⟩) (show w.heap.size<w3.heap.size by omega)).trans c0
   have hBw3:Below w.heap.size w w3:=hB.trans (hB3.mono hs1)
   have hsw3:=hBw3.size
   go_wp2_with fail
   go_region_law
    ((refine step_append_lies _ (by rfl) _ _ _ (by rfl) w.heap.size 177 i0 _ 2 32 Tryz.underlying58 hi hz0 hz1 hz2 rfl (by omega) (.slice xa fl.length xc) fl.length (fl.flatMap fenc) (by rfl) ((hFr3.alloc _).drew) ⟨w3.heap.size,0,none⟩ 1 1 (fenc (y,z)) (by rfl) (by rfl) (World.news_of_block (cs:=#[.string y,.string z]) (t:=177) (fr:=(0,0)) (heap_alloc_new w3 _)) (by simp [fenc,Value.oneCell']) (by omega) (by unfold maxLen;omega) (by omega) (by simp;omega) (w3.heap.size+1) (by simp) ?_;intro gn capn w4 hown1 hgrow hat hlt1;obtain ⟨hD4,hb4⟩:=HKD.out _ _ hgrow;obtain ⟨q0,q1,q2,qf⟩:=hD4.cell;have qf0:=qf 0))
   all_goals
    have hB4:Below w.heap.size w w4:=Below.grown ((hBw3.alloc hsw3 _).drew) hgrow (by simp;omega) fun j ej=>(ownBlock_lt hFr3 ej).2
    have hK4:KqG w3 w4:=(KqG.below (((Below.refl _ w3).alloc (Nat.le_refl _) _).drew)).trans (KqG.row ((hFr3.alloc _).drew) (by decide) (by decide) (by decide) hgrow)
    have hC4:ChR w.heap.size cv (fl.map Pl.chOf) w4:=hCr3.far hK4 fun xs n h=>row_keep h fun g cur _ e=>row_far ((hFr3.alloc _).drew) (by decide) hgrow (((((Below.refl _ w3).alloc (Nat.le_refl _) _).drew).block g (Array.getElem?_eq_some_iff.1 e).1).trans e)
    have hcU4:=hcU.keep hK4
    obtain ⟨w5,hw5⟩:∃ w5,w4.setCell ⟨w.heap.size,0,none⟩ (.slice (some ⟨gn,0,none⟩) (fl.length+1) capn)=w5:=⟨_,rfl⟩
    have hD5:Dg w.heap.size (.slice (some ⟨gn,0,none⟩) (fl.length+1) capn) cv (.slice none 0 0) w5:=hw5 ▸ hD4.set0 _
    have hB5:Below w.heap.size w w5:=hw5 ▸ hB4.setCell (p:=⟨w.heap.size,0,none⟩) (Nat.le_refl _) _
    have hFr5:w5.ownsRow w.heap.size 177 2 (.slice (some ⟨gn,0,none⟩) (fl.length+1) capn) (fl.length+1) (fl.flatMap fenc++fenc (y,z)):=hw5 ▸ ownsRow_set_other hown1 (row_ne_blk hown1 hD4.b (by decide)) 0 _
    have hC5:ChR w.heap.size cv (fl.map Pl.chOf) w5:=hw5 ▸ hC4.far (KqG.set hD4.b 0 _) fun xs n h=>row_keep h fun g cur _ e=>set_far hD4.b (by decide) 0 _ e
    have hcU5:ChU (.slice rp rn rc) (Pl.chOf (y,z)) w5:=hw5 ▸ hcU4.keep (KqG.set hD4.b 0 _)
    have hd5:w.heap.size<w5.heap.size:=(Array.getElem?_eq_some_iff.1 hD5.b).1
    clear hB4 hK4 hC4 hcU4 hD4 hb4 q0 q1 q2 qf qf0 hown1 hgrow hat hlt1 kA c0 c1 c2 cf f0 f1 ff hcU hD3 hFr3 hCr3 b3 HKD hne0 hneF HNB
    rw [hw5]
    clear hw5 w4
    obtain ⟨us,hus,hrow5,hall5⟩:=hC5.ex
    have hul:us.length≤3:=by have:=congrArg List.length hus;simp at this;omega
    obtain ⟨va,vc,rfl⟩:=slice_of_row hrow5
    obtain ⟨c0,c1,c2,cf⟩:=hD5.cell
    have kB:(w5.alloc (.cells #[.slice rp rn rc] 122)).cell? ⟨w.heap.size,1,none⟩=some (.slice va us.length vc):=(((Below.refl _ w5).alloc (Nat.le_refl _) _).cell (p:=⟨w.heap.size,1,none⟩) hd5).trans c1
    have hne5:(Value.slice va us.length vc).ownBlock≠some w.heap.size:=row_ne_blk hrow5 hD5.b (by decide)
    have HKE:Hid (∀ o W,(w5.alloc o).grownBy W (Value.slice va us.length vc).ownBlock→Dg w.heap.size (.slice (some ⟨gn,0,none⟩) (fl.length+1) capn) (.slice va us.length vc) (.slice none 0 0) W):=fun o W hW=>⟨Blk.keep (show Blk w.heap.size 62 _ (w5.alloc o) from Blk.alloc (show Blk w.heap.size 62 _ w5 from hD5.b) o) hW hne5⟩
    go_wp2_with (at_builtin;go_must (refine wpList_append_lies _ (by rfl) _ _ 59 (by rfl) w.heap.size 122 i1 (.slice none 0 0) 1 24 Tryz.underlying59 hi1 hy0 hy1 hy2 rfl (by decide) _ us.length (us.map (·.1)) (by rfl) (hrow5.alloc _) ⟨w5.heap.size,0,none⟩ 1 1 [.slice rp rn rc] (by rfl) rfl (World.news_of_block (heap_alloc_new w5 _)) (by simp [Value.oneCell']) (by decide) (by unfold maxLen;omega) (by omega) (by simp;omega) (w5.heap.size+1) (by simp) ?_);intro gm capm w6 hown6 hgrow6 hat6 hlt6;have hD6:=HKE.out _ _ hgrow6;obtain ⟨q0,q1,q2,qf⟩:=hD6.cell;have qf0:=qf 1)
    have hB6:Below w.heap.size w w6:=Below.grown (hB5.alloc (by omega) _) hgrow6 (by simp;omega) fun j ej=>(ownBlock_lt hrow5 ej).2
    have hK6:KqG w5 w6:=(KqG.below ((Below.refl _ w5).alloc (Nat.le_refl _) _)).trans (KqG.row (hrow5.alloc _) (by decide) (by decide) (by decide) hgrow6)
    have hFr6:w6.ownsRow w.heap.size 177 2 (.slice (some ⟨gn,0,none⟩) (fl.length+1) capn) (fl.length+1) (fl.flatMap fenc++fenc (y,z)):=row_keep hFr5 fun g cur _ e=>row_far (hrow5.alloc _) (by decide) hgrow6 ((((Below.refl _ w5).alloc (Nat.le_refl _) _).block g (Array.getElem?_eq_some_iff.1 e).1).trans e)
    refine ⟨⟨j+1,_,_,by go_num,by omega,?_,hD6.set1 _,?_,?_,hB6.setCell (p:=⟨w.heap.size,1,none⟩) (Nat.le_refl _) _⟩,by simp [intOf];omega⟩
    ·rw [HTK.out];exact HNX.out
    ·rw [HTK.out,List.flatMap_append,List.length_append]
     have h:=ownsRow_set_other hFr6 (row_ne_blk hFr6 hD6.b (by decide)) 1 (.slice (some ⟨gm,0,none⟩) (us.length+1) capm)
     simpa using h
    ·rw [HTK.out,List.map_append]
     refine ⟨us++[(.slice rp rn rc,Pl.chOf (y,z))],by simp [hus],?_,fun u hu=>?_⟩
     ·rw [List.length_append,List.map_append]
      exact ownsRow_set_other hown6 (row_ne_blk hown6 hD6.b (by decide)) 1 _
     ·rcases List.mem_append.1 hu with hu | hu
      ·exact ((hall5 u hu).keep hK6).keep (KqG.set hD6.b 1 _)
      ·obtain rfl:=List.mem_singleton.1 hu
       exact (hcU5.keep hK6).keep (KqG.set hD6.b 1 _)
  ·have hjI:¬ (j:Int)<(fs.length:Int):=by omega
   obtain rfl:j=fs.length:=by omega
   rw [List.take_length] at hFr hCr hnw
   rw [List.drop_length,Pl.nwE] at hnw
   subst hnw
   go_wp2_with fail
   go_ret3
   exact ⟨hB,.inr ⟨by omega,by omega,HE.out,rfl,_,_,hD,hFr,hCr⟩⟩
end Go.Proofs.YtcmgclckknpecaaGreatDoor
namespace Go.Proofs.YtcmgclckknpecaaGreatDoor
open Go.RowKit Go.Shelf
set_option maxRecDepth 100000 in
set_option maxHeartbeats 2000000 in
theorem isname_any (s:ByteArray) (w:World) (R:Bool) (HR0:Hid (Pl.isNm s=R)) :
  Calls Tryz.prog 157 #[.string s] w fun e w'=>e=.returned (.bool R)∧Below w.heap.size w w':=by
 have HPL:Hid (∀ W,Calls Tryz.prog 232 #[.string s] W fun e w'=>e=.returned (.bool (Pl.azF s s.size 0))∧Below W.heap.size W w'):=fun W=>by rw [← Pl.plF_az];exact plain_any s W
 by_cases h0:s.size=0
 ·have hs:s=⟨#[]⟩:=ByteArray.ext (Array.eq_empty_of_size_eq_zero h0)
  have hR:R=false:=by rw [← HR0.out];unfold Pl.isNm;simp [h0]
  subst hR
  subst hs
  go_enter Tryz.func157,Tryz.ntmps157
  go_wp2_with fail
  go_ret
  exact ⟨rfl,Below.refl _ _⟩
 ·have hR:R=Pl.azF s s.size 0:=by rw [← HR0.out];unfold Pl.isNm;simp;omega
  subst hR
  have hne:¬ s=⟨#[]⟩:=fun h=>h0 (by rw [h];rfl)
  have hE:s.toList.isEmpty=false:=by
   rw [ByteArray.toList_eq]
   rw [Bool.eq_false_iff]
   intro h
   rw [List.isEmpty_iff] at h
   apply h0
   have:=congrArg List.length h
   simpa using this
  clear HR0 hne
  go_enter Tryz.func157,Tryz.ntmps157
  go_wp2_with fail
  refine (HPL.out _).mono ?_
  rintro e w1 ⟨rfl,hB⟩
  go_wp2_with fail
  go_ret
  exact ⟨rfl,hB⟩
set_option maxRecDepth 100000 in
set_option maxHeartbeats 2000000 in
theorem isfield_any (p fb:Nat) (nm x:ByteArray) (w:World) (c0:w.cell? ⟨fb,0,none⟩=some (.string x)) (c1:w.cell? ⟨p,0,none⟩=some (.string nm)) :
  Calls Tryz.prog 108 #[.pointer (some ⟨fb,0,none⟩),.pointer (some ⟨p,0,none⟩)] w fun e w'=>e=.returned (.bool (decide (x=nm)))∧Below w.heap.size w w':=by
 go_enter Tryz.func108,Tryz.ntmps108
 go_wp2_with fail
 go_region_held3 (fun w'=>w'.cell? ⟨fb,0,none⟩=some (.string x)∧w'.cell? ⟨p,0,none⟩=some (.string nm)) (first | go_keep) (fail)
 go_wp2
 go_ret
 refine ⟨?_,(Below.refl _ w).drew⟩
 apply ret_bool
 rw [ByteArray.toList_eq,ByteArray.toList_eq]
 by_cases h:x=nm
 ·subst h;simp
 ·have h3:¬ x.data=nm.data:=fun e=>h (ByteArray.ext e)
  simp [h,h3]
structure Fdn (g:Nat) (fn:List (Nat × ByteArray × ByteArray)) (w:World):Prop where
 c:∀ i (h:i<fn.length),w.cell? ⟨g,i,none⟩=some (.pointer (some ⟨(fn[i]).1,0,none⟩))∧w.cell? ⟨(fn[i]).1,0,none⟩=some (.string (fn[i]).2.1)∧(fn[i]).1<w.heap.size
set_option maxRecDepth 100000 in
set_option maxHeartbeats 2000000 in
theorem index_any (p:Nat) (a:Option Addr) (g c:Nat) (fn:List (Nat × ByteArray × ByteArray)) (nm:ByteArray) (w:World) (hF:Fdn g fn w) (ha:0<fn.length→a=some ⟨g,0,none⟩) (hg:0<fn.length→g<w.heap.size) (hl:fn.length≤1000) (hp:w.cell? ⟨p,0,none⟩=some (.string nm)) (hpl:p<w.heap.size) (R:Int) (HR:Hid (Pl.fld nm (fn.map (·.2)) 0=R)) :
  Calls Tryz.prog 107 #[.slice a fn.length c,.func (.func 108) #[] #[.pointer (some ⟨p,0,none⟩)]] w fun e w'=>e=.returned (.int .i64 R)∧Below w.heap.size w w':=by
 have HFA:Hid (∀ W,Below w.heap.size w W→∀ q (hq:q<fn.length),a=some ⟨g,0,none⟩∧W.cell? ⟨g,q,none⟩=some (.pointer (some ⟨(fn[q]).1,0,none⟩))∧W.cell? ⟨(fn[q]).1,0,none⟩=some (.string (fn[q]).2.1)):=fun W hW q hq=>by
  obtain ⟨h1,h2,h3⟩:=hF.c q hq
  exact ⟨ha (by omega),(hW.cell (p:=⟨g,q,none⟩) (hg (by omega))).trans h1,(hW.cell (p:=⟨(fn[q]).1,0,none⟩) h3).trans h2⟩
 clear hF ha hg
 go_enter Tryz.func107,Tryz.ntmps107
 go_wp2_with fail
 go_loopw [8] (fun iv wr=>∃ j:Nat,iv=.int .i64 (j:Int)∧j≤fn.length∧Below w.heap.size w wr∧Hid (Pl.fld nm ((fn.map (·.2)).drop j) j=R)) (fun iv _=>fn.length - (intOf iv).toNat)
 case atStart=>exact ⟨0,rfl,by omega,Below.refl _ _,HR⟩
 case round =>
  obtain ⟨j,rfl,hj,hB,HJ⟩:=hrel
  have hs1:=hB.size
  by_cases hjl:j<fn.length
  ·have hjI:(j:Int)<(fn.length:Int):=by omega
   obtain ⟨rfl,p0,p1⟩:=HFA.out wr hB j hjl
   have hd:(fn.map (·.2)).drop j=(fn[j]).2 :: (fn.map (·.2)).drop (j+1):=by rw [List.drop_eq_getElem_cons (by simpa using hjl)];simp
   obtain ⟨⟨fb,y,z⟩,hy⟩:∃ y,fn[j]=y:=⟨_,rfl⟩
   rw [hy] at p0 p1 hd
   simp only at p0 p1 hd
   have hJ:=HJ.out
   rw [hd,Pl.fld] at hJ
   simp only at hJ
   clear hd hy HJ
   have HCL:Hid (Calls Tryz.prog 108 #[.pointer (some ⟨fb,0,none⟩),.pointer (some ⟨p,0,none⟩)] wr fun e w'=>e=.returned (.bool (decide (y=nm)))∧Below wr.heap.size wr w'):=isfield_any p fb nm y wr p1 ((hB.cell (p:=⟨p,0,none⟩) hpl).trans hp)
   by_cases hyx:y=nm
   ·rw [if_pos hyx] at hJ
    rw [decide_eq_true hyx] at HCL
    clear hyx
    subst hJ
    go_wp2_with fail
    refine HCL.out.mono ?_
    rintro e w1 ⟨rfl,h1⟩
    go_wp2_with fail
    go_ret
    exact ⟨rfl,hB.trans (h1.mono hs1)⟩
   ·rw [if_neg hyx] at hJ
    rw [decide_eq_false hyx] at HCL
    have HJ2:Hid (Pl.fld nm ((fn.map (·.2)).drop (j+1)) (j+1)=R):=hJ
    clear hJ hyx
    go_wp2_with fail
    refine HCL.out.mono ?_
    rintro e w1 ⟨rfl,h1⟩
    go_wp2_with fail
    exact ⟨⟨j+1,by go_num,by omega,hB.trans (h1.mono hs1),HJ2⟩,by simp [intOf];omega⟩
  ·have hjI:¬ (j:Int)<(fn.length:Int):=by omega
   have hJ:=HJ.out
   rw [List.drop_of_length_le (by simp;omega),Pl.fld] at hJ
   subst hJ
   go_wp2_with fail
   go_ret
   exact ⟨rfl,hB⟩
set_option maxRecDepth 100000 in
set_option maxHeartbeats 2000000 in
theorem numberof_any (b:Nat) (a:Option Addr) (g c:Nat) (fn:List (Nat × ByteArray × ByteArray)) (nm:ByteArray) (w:World) (hb:b<w.heap.size) (c0:w.cell? ⟨b,0,none⟩=some (.slice a fn.length c)) (hF:Fdn g fn w) (ha:0<fn.length→a=some ⟨g,0,none⟩) (hg:0<fn.length→g<w.heap.size) (hl:fn.length≤1000) (R:Int) (HR:Hid (Pl.fld nm (fn.map (·.2)) 0=R)) :
  Calls Tryz.prog 51 #[.pointer (some ⟨b,0,none⟩),.string nm] w fun e w'=>e=.returned (.int .i64 R)∧Below w.heap.size w w':=by
 have hBa:Below w.heap.size w (w.alloc (.cells #[.string nm] 9)):=(Below.refl _ w).alloc (Nat.le_refl _) _
 have kA:(w.alloc (.cells #[.string nm] 9)).cell? ⟨b,0,none⟩=some (.slice a fn.length c):=(hBa.cell (p:=⟨b,0,none⟩) hb).trans c0
 have HIX:Hid (Calls Tryz.prog 107 #[.slice a fn.length c,.func (.func 108) #[] #[.pointer (some ⟨w.heap.size,0,none⟩)]] (w.alloc (.cells #[.string nm] 9)) fun e w'=>e=.returned (.int .i64 R)∧Below (w.alloc (.cells #[.string nm] 9)).heap.size (w.alloc (.cells #[.string nm] 9)) w') :=
  index_any w.heap.size a g c fn nm _ ⟨fun i h=>by
   obtain ⟨h1,h2,h3⟩:=hF.c i h
   exact ⟨(hBa.cell (p:=⟨g,i,none⟩) (hg (by omega))).trans h1,(hBa.cell (p:=⟨(fn[i]).1,0,none⟩) h3).trans h2,Nat.lt_of_lt_of_le h3 hBa.size⟩⟩ ha (fun h=>Nat.lt_of_lt_of_le (hg h) hBa.size) hl (by simp [go_sem]) (by simp) R HR
 go_enter Tryz.func51,Tryz.ntmps51
 go_wp2_with fail
 refine HIX.out.mono ?_
 rintro e w1 ⟨rfl,h1⟩
 go_wp2_with fail
 go_ret
 exact ⟨rfl,hBa.trans (h1.mono hBa.size)⟩
end Go.Proofs.YtcmgclckknpecaaGreatDoor
