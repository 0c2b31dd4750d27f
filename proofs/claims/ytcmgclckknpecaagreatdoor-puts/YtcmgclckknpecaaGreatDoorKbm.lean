import Derived.Test.YtcmgclckknpecaaGreatDoorKbl
import Derived.Test.YtcmgclckknpecaaGreatDoorKag
import Derived.Test.YtcmgclckknpecaaGreatDoorKax
namespace Go.Proofs.YtcmgclckknpecaaGreatDoor
open Go.RowKit
theorem info177:(Tryz.prog.info? 177).map (fun i=>(i.zero,i.size,i.bytes))=some (some (.agg #[.string ⟨#[]⟩,.string ⟨#[]⟩]),2,32):=by kernel_rfl
structure FsA (g o:Nat) (fs:List (ByteArray × ByteArray)) (w:World):Prop where
 c:∀ i (h:i<fs.length),w.cell? ⟨g,o+i*2,none⟩=some (.string (fs[i]).1)∧w.cell? ⟨g,o+i*2+1,none⟩=some (.string (fs[i]).2)
theorem FsA.below {g o:Nat} {fs:List (ByteArray × ByteArray)} {B:Nat} {w w':World} (h:FsA g o fs w) (hg:0<fs.length→g<B) (hb:Below B w w'):FsA g o fs w' :=
 ⟨fun i hi=>⟨(hb.cell (p:=⟨g,o+i*2,none⟩) (hg (by omega))).trans (h.c i hi).1,(hb.cell (p:=⟨g,o+i*2+1,none⟩) (hg (by omega))).trans (h.c i hi).2⟩⟩
structure FsI (g:Nat) (fs:List (ByteArray × ByteArray)) (w:World):Prop where
 c:∀ i (h:i<fs.length),w.cell? ⟨g,i*2,none⟩=some (.string (fs[i]).1)∧w.cell? ⟨g,i*2+1,none⟩=some (.string (fs[i]).2)
theorem FsI.below {g:Nat} {fs:List (ByteArray × ByteArray)} {w w':World} (h:FsI g fs w) (hg:0<fs.length→g<w.heap.size) (hb:Below w.heap.size w w'):FsI g fs w' :=
 ⟨fun i hi=>⟨(hb.cell (p:=⟨g,i*2,none⟩) (hg (by omega))).trans (h.c i hi).1,(hb.cell (p:=⟨g,i*2+1,none⟩) (hg (by omega))).trans (h.c i hi).2⟩⟩
theorem slice_of_row {w:World} {b sz n:Nat} {t:TypeId} {v:Value} {xs:List Value} (h:w.ownsRow b t sz v n xs):∃ p c,v=.slice p n c:=by
 rcases h.2 with ⟨rfl,rfl,_⟩ | ⟨g',cap,c2,rfl,_⟩
 ·exact ⟨none,0,rfl⟩
 ·exact ⟨_,_,rfl⟩
structure LpL (w:World) (fs:List (ByteArray × ByteArray)) (ov iv:Value) (wr:World):Prop where
 ex:∃ j:Nat,iv=.int .i64 (j:Int)∧j≤fs.length∧wr.ownsRow w.heap.size 177 2 ov j ((fs.take j).flatMap fenc)∧Below w.heap.size w wr
set_option maxRecDepth 100000 in
set_option maxHeartbeats 4000000 in
theorem lplain_any (a:Option Addr) (g o cap:Nat) (fs:List (ByteArray × ByteArray)) (w:World) (hF:FsA g o fs w) (ha:0<fs.length→a=some ⟨g,o,none⟩) (hg:0<fs.length→g<w.heap.size) (hl:fs.length≤4398046510976) :
  Calls Tryz.prog 34 #[.slice a fs.length cap] w fun e w'=>∃ p c,e=.returned (.slice p fs.length c)∧w'.ownsRow w.heap.size 177 2 (.slice p fs.length c) fs.length (fs.flatMap fenc)∧Below w.heap.size w w':=by
 obtain ⟨i0,hi,hz0,hz1,hz2⟩:=info_parts info177
 have HFA:Hid (∀ W,Below w.heap.size w W→∀ q (hq:q<fs.length),a=some ⟨g,o,none⟩∧W.cell? ⟨g,o+q*2,none⟩=some (.string (fs[q]).1)∧W.cell? ⟨g,o+q*2+1,none⟩=some (.string (fs[q]).2)):=fun W hW q hq=>⟨ha (by omega),(hF.below hg hW).c q hq⟩
 clear hF ha hg
 go_enter Tryz.func34,Tryz.ntmps34
 go_wp2_with fail
 go_loopw [3,4] (fun ov iv wr=>LpL w fs ov iv wr) (fun _ iv _=>fs.length - (intOf iv).toNat)
 case atStart=>exact ⟨0,rfl,by omega,World.ownsRow_nil _ _ _ _,Below.refl _ _⟩
 case round =>
  obtain ⟨j,rfl,hj,hP,hB⟩:=hrel.ex
  clear hrel
  have hs1:=hB.size
  obtain ⟨la,lc,rfl⟩:=slice_of_row hP
  by_cases hjl:j<fs.length
  ·have hjI:(j:Int)<(fs.length:Int):=by omega
   obtain ⟨rfl,p0,p1⟩:=HFA.out wr hB j hjl
   have htk:fs.take (j+1)=fs.take j++[fs[j]]:=(List.take_append_getElem hjl).symm
   obtain ⟨⟨y,z⟩,hx⟩:∃ x,fs[j]=x:=⟨_,rfl⟩
   rw [hx] at p0 p1 htk
   simp only at p0 p1
   have HTK:Hid (fs.take (j+1)=fs.take j++[(y,z)]):=htk
   have HCK:Hid (∀ W,Below w.heap.size w W→W.cell? ⟨g,o+j*2,none⟩=some (.string y)∧W.cell? ⟨g,o+j*2+1,none⟩=some (.string z)):=fun W hW=>by have h:=(HFA.out W hW j hjl).2;rw [hx] at h;exact h
   have HNB:Hid (∀ W:World,(W.alloc (.cells #[.string y,.string z] 177)).heap[W.heap.size]?=some (Obj.cells #[.string y,.string z] 177 (0,0))):=fun W=>heap_alloc_new W _
   clear hx htk
   go_wp2_with fail
   go_region_held3 (fun w'=>w'.cell? ⟨g,o+j*2,none⟩=some (.string y)∧w'.cell? ⟨g,o+j*2+1,none⟩=some (.string z)) (first | go_keep | exact HCK.out _ hB3) ((refine step_append_lies _ (by rfl) _ _ 58 (by rfl) w.heap.size 177 i0 (.agg #[.string ⟨#[]⟩,.string ⟨#[]⟩]) 2 32 Tryz.underlying58 hi hz0 hz1 hz2 rfl (by decide) _ j ((fs.take j).flatMap fenc) (by rfl) (hP.drew.alloc _) ⟨wr.heap.size,0,none⟩ 1 1 (fenc (y,z)) (by rfl) rfl (World.news_of_block (HNB.out wr.drew)) (by simp [fenc,Value.oneCell']) (by decide) (by unfold maxLen;omega) (by omega) (by simp;omega) (wr.heap.size+1) (by simp) ?_;intro gn capn w3 hown1 hgrow hat hlt1;have hB3:Below w.heap.size w w3:=Below.grown (hB.drew.alloc (by simp;omega) _) hgrow (by simp;omega) fun j ej=>(ownBlock_lt hP ej).2))
   go_wp2
   refine ⟨⟨j+1,by go_num,by omega,?_,hB3⟩,by simp [intOf];omega⟩
   rw [HTK.out,List.flatMap_append]
   simpa using hown1
  ·have hjI:¬ (j:Int)<(fs.length:Int):=by omega
   obtain rfl:j=fs.length:=by omega
   rw [List.take_length] at hP
   go_wp2_with fail
   go_ret
   exact ⟨_,_,rfl,hP,hB⟩
end Go.Proofs.YtcmgclckknpecaaGreatDoor
namespace Go.Proofs.YtcmgclckknpecaaGreatDoor
open Go.RowKit
end Go.Proofs.YtcmgclckknpecaaGreatDoor
namespace Go.Proofs.YtcmgclckknpecaaGreatDoor
open Go.RowKit Go.Shelf
set_option maxHeartbeats 1000000 in
theorem chain_long (s:ByteArray) (w:World) (hm:80<s.size) :
  Calls Tryz.prog 35 #[.string s] w fun e w'=>∃ p1 n1 c1 p2 n2 c2 p3 n3 c3 p4 n4 c4,∃ t:ByteArray,∃ x z:Int,e=.returned (.tuple #[.agg #[.slice p1 n1 c1,.string t,.slice p2 n2 c2,.slice p3 n3 c3,.int .i64 x,.int .i64 z,.slice p4 n4 c4],.int .i64 1,.int .i64 0])∧Below w.heap.size w w':=by
 have hm':(80:Int)<(s.size:Int):=by omega
 have bR:Blk w.heap.size 98 #[.slice none 0 0,.string ⟨#[]⟩,.slice none 0 0,.slice none 0 0,.int .i64 0,.int .i64 0,.slice none 0 0] (w.alloc (.cells #[.slice none 0 0,.string ⟨#[]⟩,.slice none 0 0,.slice none 0 0,.int .i64 0,.int .i64 0,.slice none 0 0] 98)):=heap_alloc_new w _
 obtain ⟨⟨r0,r1,r2,r3,r4,r5,r6⟩,rf⟩:=bR.seven
 go_enter Tryz.func35,Tryz.ntmps35
 go_wp2
 refine bodyPost_ret (res13 rfl rfl rfl ⟨r0,r1,r2,r3,r4,r5,r6⟩) rfl ⟨_,_,_,_,_,_,_,_,_,_,_,_,_,_,_,rfl,?_⟩
 exact (Below.refl _ w).alloc (Nat.le_refl _) _
theorem read_long (s:ByteArray) (w:World) (hm:80<s.size) :
  Calls Tryz.prog 37 #[.string s] w fun e w'=>∃ p n c,e=.returned (.tuple #[.slice p n c,.int .i64 1,.int .i64 0])∧Below w.heap.size w w':=by
 have hm':(80:Int)<(s.size:Int):=by omega
 go_enter Tryz.func37,Tryz.ntmps37
 go_wp2
 go_ret3
 exact ⟨none,0,0,rfl,Below.refl _ _⟩
def ansOf (s:ByteArray):Nat × Nat:=if 80<s.size then (1,0) else verdict (Pl.chn s (s.size+1) false 0 0)
namespace Pl
theorem eaAll_inv {b:Nat→Prop}:∀ (es:List Sp) (xs:Ch3),(∀ e∈es,SpW e)→Inv b xs→Inv b (eaAll es xs)
 | [],_,_,h=>h
 | e :: r,xs,hw,h=>eaAll_inv r _ (fun x hx=>hw x (by simp [hx])) (eaK_inv h _ e (hw e (by simp)))
end Pl
end Go.Proofs.YtcmgclckknpecaaGreatDoor
namespace Go.Proofs.YtcmgclckknpecaaGreatDoor
open Go.RowKit
theorem info122:(Tryz.prog.info? 122).map (fun i=>(i.zero,i.size,i.bytes))=some (some (.slice none 0 0),1,24):=by kernel_rfl
namespace Pl
def chOf (f:ByteArray × ByteArray):List Sp:=Pl.chC f.2 (f.2.size+1) false 0
def nwE:List (ByteArray × ByteArray)→List (ByteArray × ByteArray)→Option (Nat × Nat)
 | _,[]=>none
 | pre,f :: r=>if (Pl.isNm f.1 && decide (f.1.size≤8) && decide (Pl.fld f.1 pre 0<0))=true then (if (ansOf f.2).1=0 then nwE (pre++[f]) r else some ((ansOf f.2).1,pre.length)) else some (5,pre.length)
end Pl
structure KqG (w w':World):Prop where
 k:∀ (g:Nat) (cur:Array Value) (t:TypeId),(t=9∨t=287∨t=207)→w.heap[g]?=some (Obj.cells cur t (0,0))→w'.heap[g]?=some (Obj.cells cur t (0,0))
theorem KqG.trans {x y z:World} (h:KqG x y) (k:KqG y z):KqG x z:=⟨fun g cur t ht e=>k.k g cur t ht (h.k g cur t ht e)⟩
theorem KqG.below {w w':World} (h:Below w.heap.size w w'):KqG w w':=⟨fun g _ _ _ e=>(h.block g (Array.getElem?_eq_some_iff.1 e).1).trans e⟩
theorem KqG.row {w w':World} {b0:Nat} {t:TypeId} {sz n:Nat} {v:Value} {xs:List Value} (h:w.ownsRow b0 t sz v n xs) (h9:t≠9) (h287:t≠287) (h207:t≠207) (hg:w.grownBy w' v.ownBlock):KqG w w':=⟨fun g cur t2 ht e=>by
 refine (hg.block g (Array.getElem?_eq_some_iff.1 e).1 fun hs=>?_).trans e
 rcases h.2 with ⟨rfl,_⟩ | ⟨g',cap,c2,rfl,_,hh,_⟩
 ·simp [Value.ownBlock] at hs
 ·have:g=g':=by simpa [Value.ownBlock] using hs
  subst this
  rw [e] at hh
  injection hh with hh
  injection hh with _ h2 _
  subst h2
  rcases ht with h | h | h
  ·exact h9 h
  ·exact h287 h
  ·exact h207 h⟩
theorem KqG.set {w:World} {d:Nat} {cs:Array Value} (hd:w.heap[d]?=some (Obj.cells cs 62 (0,0))) (o:Nat) (u:Value):KqG w (w.setCell ⟨d,o,none⟩ u):=⟨fun g cur t ht e=>by
 have hgd:g≠d:=fun h=>by
  subst h
  rw [e] at hd
  injection hd with hd
  injection hd with _ h2 _
  subst h2
  rcases ht with h | h | h <;> exact absurd h (by decide)
 exact ((grown_set w d o u).block g (Array.getElem?_eq_some_iff.1 e).1 (by simpa using hgd)).trans e⟩
structure ChU (v:Value) (C:List Sp) (w:World):Prop where
 ex:∃ p n k xs b b2,v=.slice p n k∧w.ownsRow b 207 5 v n xs∧Stq b2 C xs w
theorem ChU.keep {v:Value} {C:List Sp} {w w':World} (h:ChU v C w) (k:KqG w w'):ChU v C w':=by
 obtain ⟨p,n,c,xs,b,b2,h1,h2,h3⟩:=h.ex
 exact ⟨p,n,c,xs,b,b2,h1,row_keep h2 fun g cur _=>k.k g cur 207 (.inr (.inr rfl)),h3.keep fun g cur t _ ht=>k.k g cur t (ht.elim .inl fun h=>.inr (.inl h))⟩
structure ChR (base:Nat) (v:Value) (Cs:List (List Sp)) (w:World):Prop where
 ex:∃ us:List (Value × List Sp),us.map (·.2)=Cs∧w.ownsRow base 122 1 v us.length (us.map (·.1))∧∀ u∈us,ChU u.1 u.2 w
theorem ChR.nil (base:Nat) (w:World):ChR base (.slice none 0 0) [] w:=⟨[],rfl,World.ownsRow_nil _ _ _ _,by simp⟩
theorem ChR.below {base:Nat} {v:Value} {Cs:List (List Sp)} {w w':World} (h:ChR base v Cs w) (hb:Below w.heap.size w w'):ChR base v Cs w':=by
 obtain ⟨us,h1,h2,h3⟩:=h.ex
 exact ⟨us,h1,ownsRow_below h2 hb,fun u hu=>(h3 u hu).keep (KqG.below hb)⟩
theorem ChR.far {base:Nat} {v:Value} {Cs:List (List Sp)} {w w':World} (h:ChR base v Cs w) (hk:KqG w w') (h2:∀ xs n,w.ownsRow base 122 1 v n xs→w'.ownsRow base 122 1 v n xs):ChR base v Cs w':=by
 obtain ⟨us,h1,h3,h4⟩:=h.ex
 exact ⟨us,h1,h2 _ _ h3,fun u hu=>(h4 u hu).keep hk⟩
theorem ChR.chs {base:Nat} {v:Value} {Cs:List (List Sp)} {w:World} (h:ChR base v Cs w):Chs v Cs w:=by
 obtain ⟨us,rfl,h2,h3⟩:=h.ex
 rcases h2.2 with ⟨rfl,hn⟩ | ⟨g,cap,cur,rfl,hb,hh,_,_,_,ht⟩
 ·exact ⟨none,0,0,by simp [hn],by simp [hn],fun i hi=>by simp [hn] at hi⟩
 ·refine ⟨some ⟨g,0,none⟩,cap,g,by simp,fun _=>⟨rfl,(Array.getElem?_eq_some_iff.1 hh).1⟩,fun i hi=>?_⟩
  have hi':i<us.length:=by simpa using hi
  obtain ⟨p,n,k,xs,b,b2,e1,e2,e3⟩:=(h3 _ (List.getElem_mem hi')).ex
  have hu:(us.map (·.1))[i]?=some (us[i]).1:=by simp [hi']
  rw [← ht,List.getElem?_take_of_lt (by omega)] at hu
  have h5:cur[i]?=some (us[i]).1:=by simpa using hu
  refine ⟨p,n,k,xs,b,b2,?_,e1 ▸ e2,?_⟩
  ·simp [World.cell?,hh,h5,e1]
  ·simpa using e3
theorem fenc_at (us:List (ByteArray × ByteArray)):∀ (i:Nat) (hi:i<us.length),(us.flatMap fenc)[i*2]?=some (.string (us[i]).1)∧(us.flatMap fenc)[i*2+1]?=some (.string (us[i]).2):=by
 induction us with
 | nil=>intro i hi;simp at hi
 | cons p r ih =>
  intro i hi
  rw [List.flatMap_cons]
  cases i with
  | zero=>simp [fenc]
  | succ i =>
   have:=ih i (by simpa using hi)
   rw [List.getElem?_append_right (by simp [fenc];omega),List.getElem?_append_right (by simp [fenc];omega)]
   rw [show (i+1)*2 - (fenc p).length=i*2 by simp [fenc];omega,show (i+1)*2+1 - (fenc p).length=i*2+1 by simp [fenc];omega]
   simpa using this
theorem fs_at {w:World} {base:Nat} {v:Value} {fs:List (ByteArray × ByteArray)} (h:w.ownsRow base 177 2 v fs.length (fs.flatMap fenc)):∃ a cap g,v=.slice a fs.length cap∧(0<fs.length→a=some ⟨g,0,none⟩)∧(0<fs.length→g<w.heap.size)∧FsI g fs w:=by
 rcases h.2 with ⟨rfl,hn⟩ | ⟨g,cap,cur,rfl,hb,hh,_,_,_,ht⟩
 ·exact ⟨none,0,0,by simp [hn],by simp [hn],by simp [hn],⟨fun i hi=>by omega⟩⟩
 ·refine ⟨some ⟨g,0,none⟩,cap,g,rfl,fun _=>rfl,fun _=>(Array.getElem?_eq_some_iff.1 hh).1,⟨fun i hi=>?_⟩⟩
  have hp:=fenc_at fs i hi
  have c:∀ j u,j<fs.length*2→(fs.flatMap fenc)[j]?=some u→w.cell? ⟨g,j,none⟩=some u:=fun j u hj hu=>by
   rw [← ht,List.getElem?_take_of_lt hj] at hu
   have h3:cur[j]?=some u:=by simpa using hu
   simp [World.cell?,hh,h3]
  exact ⟨c _ _ (by omega) hp.1,c _ _ (by omega) hp.2⟩
theorem read_allC (s:ByteArray) (w:World) (cd at_:Nat) (h:Hid (ansOf s=(cd,at_))) (LL:List Sp) (HLL:Hid (Pl.chC s (s.size+1) false 0=LL)) :
  Calls Tryz.prog 37 #[.string s] w fun e w'=>∃ p n c,e=.returned (.tuple #[.slice p n c,.int .i64 (cd:Int),.int .i64 (at_:Int)])∧Below w.heap.size w w'∧RdC cd w.heap.size LL (.slice p n c) n w':=by
 have h0:=h.out
 unfold ansOf at h0
 by_cases hm:80<s.size
 ·rw [if_pos hm] at h0
  simp only [Prod.mk.injEq] at h0
  obtain ⟨rfl,rfl⟩:=h0
  refine (read_long s w hm).mono ?_
  rintro e w' ⟨p,n,c,rfl,hB⟩
  exact ⟨p,n,c,rfl,hB,⟨fun h=>absurd h (by decide)⟩⟩
 ·rw [if_neg hm] at h0
  exact read_anyC s w (by omega) _ rfl cd at_ h0 LL HLL
end Go.Proofs.YtcmgclckknpecaaGreatDoor
namespace Go.Proofs.YtcmgclckknpecaaGreatDoor
open Go.RowKit
theorem row_far {w w':World} {b0 g:Nat} {t t2:TypeId} {sz n:Nat} {v:Value} {xs:List Value} {cur:Array Value} (h:w.ownsRow b0 t sz v n xs) (ht:t2≠t) (hg:w.grownBy w' v.ownBlock) (e:w.heap[g]?=some (Obj.cells cur t2 (0,0))):w'.heap[g]?=some (Obj.cells cur t2 (0,0)):=by
 refine (hg.block g (Array.getElem?_eq_some_iff.1 e).1 fun hs=>?_).trans e
 rcases h.2 with ⟨rfl,_⟩ | ⟨g',cap,c2,rfl,_,hh,_⟩
 ·simp [Value.ownBlock] at hs
 ·have:g=g':=by simpa [Value.ownBlock] using hs
  subst this
  rw [e] at hh
  injection hh with hh
  injection hh with _ h2 _
  exact ht h2
theorem set_far {w:World} {d g:Nat} {t2:TypeId} {cs cur:Array Value} (hd:w.heap[d]?=some (Obj.cells cs 62 (0,0))) (ht:t2≠62) (o:Nat) (u:Value) (e:w.heap[g]?=some (Obj.cells cur t2 (0,0))):(w.setCell ⟨d,o,none⟩ u).heap[g]?=some (Obj.cells cur t2 (0,0)):=by
 have hgd:g≠d:=fun h=>by
  subst h
  rw [e] at hd
  injection hd with hd
  injection hd with _ h2 _
  exact ht h2
 exact ((grown_set w d o u).block g (Array.getElem?_eq_some_iff.1 e).1 (by simpa using hgd)).trans e
theorem Dg.set0 {d:Nat} {v0 v1 v2:Value} {w:World} (h:Dg d v0 v1 v2 w) (u:Value):Dg d u v1 v2 (w.setCell ⟨d,0,none⟩ u):=⟨heap_set w d 0 u _ 62 h.b⟩
theorem Dg.set1 {d:Nat} {v0 v1 v2:Value} {w:World} (h:Dg d v0 v1 v2 w) (u:Value):Dg d v0 u v2 (w.setCell ⟨d,1,none⟩ u):=⟨heap_set w d 1 u _ 62 h.b⟩
structure NwL (w:World) (fs:List (ByteArray × ByteArray)) (E:Option (Nat × Nat)) (iv:Value) (wr:World):Prop where
 ex:∃ (j:Nat) (fv cv:Value),iv=.int .i64 (j:Int)∧j≤fs.length∧Pl.nwE (fs.take j) (fs.drop j)=E∧Dg w.heap.size fv cv (.slice none 0 0) wr∧wr.ownsRow w.heap.size 177 2 fv (fs.take j).length ((fs.take j).flatMap fenc)∧ChR w.heap.size cv ((fs.take j).map Pl.chOf) wr∧Below w.heap.size w wr
structure NewO (fs:List (ByteArray × ByteArray)) (w:World) (e:Ending) (w':World):Prop where
 ex:Below w.heap.size w w' ∧
  ((∃ c i : Nat, c ≠ 0 ∧ e = .returned (.tuple #[.pointer none, .int .i64 (c : Int), .int .i64 (i : Int)]) ∧ ((c = 4 ∧ i = 0 ∧ (fs.length = 0 ∨ 3 < fs.length)) ∨ (0 < fs.length ∧ fs.length ≤ 3 ∧ Pl.nwE [] fs = some (c, i)))) ∨
   (0 < fs.length ∧ fs.length ≤ 3 ∧ Pl.nwE [] fs = none ∧ e = .returned (.tuple #[.pointer (some ⟨w.heap.size, 0, none⟩), .int .i64 0, .int .i64 0]) ∧ ∃ fv cv, Dg w.heap.size fv cv (.slice none 0 0) w' ∧ w'.ownsRow w.heap.size 177 2 fv fs.length (fs.flatMap fenc) ∧ ChR w.heap.size cv (fs.map Pl.chOf) w'))
set_option maxRecDepth 100000 in
set_option maxHeartbeats 8000000 in
theorem rnew_any (fa:Option Addr) (g fc:Nat) (fs:List (ByteArray × ByteArray)) (w:World) (hF:FsI g fs w) (ha:0<fs.length→fa=some ⟨g,0,none⟩) (hg:0<fs.length→g<w.heap.size) (hz:∀ f∈fs,f.1.size≤9223372036854775807) :
  Calls Tryz.prog 33 #[.slice fa fs.length fc] w fun e w'=>NewO fs w e w':=by
 obtain ⟨i0,hi,hz0,hz1,hz2⟩:=info_parts info177
 obtain ⟨i1,hi1,hy0,hy1,hy2⟩:=info_parts info122
 by_cases h0:fs.length=0
 ·have h0I:(fs.length:Int)=0:=by omega
  go_enter Tryz.func33,Tryz.ntmps33
  go_wp2_with fail
  go_ret3
  exact ⟨Below.refl _ _,.inl ⟨4,0,by decide,rfl,.inl ⟨rfl,rfl,.inl h0⟩⟩⟩
 have h0I:¬ (fs.length:Int)=0:=by omega
 by_cases h3:3<fs.length
 ·have h3I:(3:Int)<(fs.length:Int):=by omega
  go_enter Tryz.func33,Tryz.ntmps33
  go_wp2_with fail
  go_ret3
  exact ⟨Below.refl _ _,.inl ⟨4,0,by decide,rfl,.inl ⟨rfl,rfl,.inr h3⟩⟩⟩
 have h3I:¬ (3:Int)<(fs.length:Int):=by omega
 obtain ⟨E,hE⟩:∃ E,Pl.nwE [] fs=E:=⟨_,rfl⟩
 have HE:Hid (Pl.nwE [] fs=E):=hE
 clear hE
 obtain rfl:=ha (by omega)
 have hgl:=hg (by omega)
 have HFA:Hid (∀ W,Below w.heap.size w W→∀ q (hq:q<fs.length),W.cell? ⟨g,q*2,none⟩=some (.string (fs[q]).1)∧W.cell? ⟨g,q*2+1,none⟩=some (.string (fs[q]).2)):=fun W hW q hq=>(hF.below hg hW).c q hq
 have HZ:Hid (∀ f∈fs,f.1.size≤9223372036854775807):=hz
 have hd0:Dg w.heap.size (.slice none 0 0) (.slice none 0 0) (.slice none 0 0) (w.alloc (.cells #[.slice none 0 0,.slice none 0 0,.slice none 0 0] 62)):=⟨heap_alloc_new w _⟩
 have hBe0:Below w.heap.size w (w.alloc (.cells #[.slice none 0 0,.slice none 0 0,.slice none 0 0] 62)):=(Below.refl _ w).alloc (Nat.le_refl _) _
 clear hF ha hg hz
 go_enter Tryz.func33,Tryz.ntmps33
 go_wp2_with fail
 go_loopw [6] (fun iv wr=>NwL w fs E iv wr) (fun iv _=>fs.length - (intOf iv).toNat)
 case atStart=>exact ⟨0,_,_,rfl,by omega,by simpa using HE.out,hd0,World.ownsRow_nil _ _ _ _,ChR.nil _ _,hBe0⟩
 case round =>
  clear hd0 hBe0
  obtain ⟨j,fv,cv,rfl,hj,hnw,hD,hFr,hCr,hB⟩:=hrel.ex
  clear hrel
  have hs1:=hB.size
  have hdl:w.heap.size<wr.heap.size:=(Array.getElem?_eq_some_iff.1 hD.b).1
  by_cases hjl:j<fs.length
  ·have hjI:(j:Int)<(fs.length:Int):=by omega
   obtain ⟨p0,p1⟩:=HFA.out wr hB j hjl
   have hzn:=HZ.out _ (List.getElem_mem hjl)
   have hdr:fs.drop j=fs[j] :: fs.drop (j+1):=List.drop_eq_getElem_cons hjl
   have htk:fs.take (j+1)=fs.take j++[fs[j]]:=(List.take_append_getElem hjl).symm
   obtain ⟨⟨y,z⟩,hx⟩:∃ x,fs[j]=x:=⟨_,rfl⟩
   rw [hx] at p0 p1 htk hdr hzn
   simp only at p0 p1 hzn
   rw [hdr,Pl.nwE] at hnw
   simp only at hnw
   have htl:(fs.take j).length=j:=by simp;omega
   rw [htl] at hnw
   have HTK:Hid (fs.take (j+1)=fs.take j++[(y,z)]):=htk
   clear hx htk hdr
   obtain ⟨fl,hfl⟩:∃ fl,fs.take j=fl:=⟨_,rfl⟩
   rw [hfl] at hnw htl hFr hCr HTK
   have HFL:Hid (fs.take j=fl):=hfl
   clear hfl
   obtain ⟨nm,hnm⟩:∃ nm,Pl.isNm y=nm:=⟨_,rfl⟩
   obtain ⟨fx,hfx⟩:∃ fx,Pl.fld y fl 0=fx:=⟨_,rfl⟩
   obtain ⟨⟨cd,at_⟩,hcd⟩:∃ r,ansOf z=r:=⟨_,rfl⟩
   rw [hnm,hfx,hcd] at hnw
   simp only at hnw
   have HNW:Hid ((if (nm && decide (y.size≤8) && decide (fx<0))=true then (if cd=0 then Pl.nwE (fl++[(y,z)]) (fs.drop (j+1)) else some (cd,j)) else some (5,j))=E):=hnw
   clear hnw
   obtain ⟨xa,xc,xg,rfl,hxa,hxg,hxF⟩:=fs_at hFr
   have HFI:Hid (∀ i (h:i<fl.length),wr.cell? ⟨xg,i*2,none⟩=some (.string (fl[i]).1)):=fun i h=>(hxF.c i h).1
   have HSM:Hid (∀ W,Calls Tryz.prog 61 #[.string y] W fun e w'=>e=.returned (.bool nm)∧Below W.heap.size W w'):=fun W=>rsmall_any y hzn W nm hnm
   have HFD:Hid (∀ W,Below wr.heap.size wr W→Calls Tryz.prog 62 #[.pointer (some ⟨w.heap.size,0,none⟩),.string y] W fun e w'=>e=.returned (.int .i64 fx)∧Below W.heap.size W w'):=fun W hW=>rfield_any w.heap.size cv (.slice none 0 0) xa xg xc fl y W ⟨(hW.block _ hdl).trans hD.b⟩ (fun i h=>(hW.cell (p:=⟨xg,i*2,none⟩) (hxg (by omega))).trans (hxF.c i h).1) hxa (by omega) fx hfx
   have HRD:Hid (∀ W,Calls Tryz.prog 37 #[.string z] W fun e w'=>∃ p n c,e=.returned (.tuple #[.slice p n c,.int .i64 (cd:Int),.int .i64 (at_:Int)])∧Below W.heap.size W w'∧RdC cd W.heap.size (Pl.chOf (y,z)) (.slice p n c) n w'):=fun W=>read_allC z W cd at_ hcd _ rfl
   clear hnm hfx hcd hxF
   have bF:Blk wr.heap.size 177 #[.string y,.string z] (wr.alloc (.cells #[.string y,.string z] 177)):=heap_alloc_new wr _
   have hBf:Below wr.heap.size wr (wr.alloc (.cells #[.string y,.string z] 177)):=(Below.refl _ wr).alloc (Nat.le_refl _) _
   obtain ⟨⟨f0,f1⟩,ff⟩:=bF.two
   go_wp2_with fail
   refine (HSM.out _).mono ?_
   rintro e w1 ⟨rfl,h1⟩
   have b1:Blk wr.heap.size 177 #[.string y,.string z] w1:=bF.below h1
   have hB1:Below wr.heap.size wr w1:=hBf.trans (h1.mono hBf.size)
   clear h1 f0 f1 ff bF hBf
   obtain ⟨⟨f0,f1⟩,ff⟩:=b1.two
   rcases (show nm=false∨nm=true by cases nm <;> simp) with rfl | rfl
   ·have hE5:E=some (5,j):=by have:=HNW.out;simpa using this.symm
    subst hE5
    clear HNW
    go_wp2_with fail
    go_ret3
    exact ⟨hB.trans (hB1.mono hs1),.inl ⟨5,j,by decide,rfl,.inr ⟨by omega,by omega,HE.out⟩⟩⟩
   by_cases h8n:8<y.size
   ·have h8I:(8:Int)<(y.size:Int):=by omega
    have h8:¬ y.size≤8:=by omega
    have hE5:E=some (5,j):=by have:=HNW.out;simpa [h8] using this.symm
    subst hE5
    clear HNW
    go_wp2_with fail
    go_ret3
    exact ⟨hB.trans (hB1.mono hs1),.inl ⟨5,j,by decide,rfl,.inr ⟨by omega,by omega,HE.out⟩⟩⟩
   have h8I:¬ (8:Int)<(y.size:Int):=by omega
   have h8:y.size≤8:=by omega
   go_wp2_with fail
   refine (HFD.out _ hB1).mono ?_
   rintro e w2 ⟨rfl,h2⟩
   have b2:Blk wr.heap.size 177 #[.string y,.string z] w2:=b1.below h2
   have hB2:Below wr.heap.size wr w2:=hB1.trans (h2.mono hB1.size)
   clear h2 f0 f1 ff b1 hB1
   obtain ⟨⟨f0,f1⟩,ff⟩:=b2.two
   by_cases hfI:(0:Int)≤fx
   ·have hfx:¬ fx<0:=by omega
    have hE5:E=some (5,j):=by have:=HNW.out;simpa [h8,hfx] using this.symm
    subst hE5
    clear HNW
    go_wp2_with fail
    go_ret3
    exact ⟨hB.trans (hB2.mono hs1),.inl ⟨5,j,by decide,rfl,.inr ⟨by omega,by omega,HE.out⟩⟩⟩
   have hfx:fx<0:=by omega
   go_wp2_with fail
   refine (HRD.out _).mono ?_
   rintro e w3 ⟨rp,rn,rc,rfl,h3',hRd⟩
   have b3:Blk wr.heap.size 177 #[.string y,.string z] w3:=b2.below h3'
   have hB3:Below wr.heap.size wr w3:=hB2.trans (h3'.mono hB2.size)
   clear h3' f0 f1 ff b2 hB2
   obtain ⟨⟨f0,f1⟩,ff⟩:=b3.two
   by_cases hcd:cd≠0
   ·have hcI:¬ (cd:Int)=0:=by omega
    have hE5:E=some (cd,j):=by have:=HNW.out;simpa [h8,hfx,hcd] using this.symm
    subst hE5
    clear HNW
    go_wp2_with fail
    go_ret3
    exact ⟨hB.trans (hB3.mono hs1),.inl ⟨cd,j,hcd,rfl,.inr ⟨by omega,by omega,HE.out⟩⟩⟩
   obtain rfl:cd=0:=by omega
   have HNX:Hid (Pl.nwE (fl++[(y,z)]) (fs.drop (j+1))=E):=by have h:=HNW.out;simp only [h8,hfx,decide_true,Bool.and_self,if_true] at h;exact h
   clear HNW HRD HFD HSM
   have hD3:Dg w.heap.size (.slice xa fl.length xc) cv (.slice none 0 0) w3:=⟨(hB3.block _ hdl).trans hD.b⟩
   have hFr3:=ownsRow_below hFr hB3
   have hCr3:=hCr.below hB3
   have hs3:=hB3.size
   obtain ⟨c0,c1,c2,cf⟩:=hD3.cell
   have hcU:ChU (.slice rp rn rc) (Pl.chOf (y,z)) w3:=by
    obtain ⟨xs,h1,h2⟩:=hRd.h rfl
    exact ⟨_,_,_,xs,_,_,rfl,h1,h2⟩
   have HNF:(Value.slice xa fl.length xc).ownBlock≠some wr.heap.size:=fun h=>by have:=(ownBlock_lt hFr h).1;omega
   clear hRd hD hFr hCr
   have hne0:(Value.slice xa fl.length xc).ownBlock≠some w.heap.size:=row_ne_blk hFr3 hD3.b (by decide)
   have hneF:(Value.slice xa fl.length xc).ownBlock≠some wr.heap.size:=HNF
   have HKD:Hid (∀ o W,((w3.alloc o).drew).grownBy W (Value.slice xa fl.length xc).ownBlock→Dg w.heap.size (.slice xa fl.length xc) cv (.slice none 0 0) W∧Blk wr.heap.size 177 #[.string y,.string z] W):=fun o W hW=>⟨⟨Blk.keep (show Blk w.heap.size 62 _ ((w3.alloc o).drew) from Blk.alloc (show Blk w.heap.size 62 _ w3 from hD3.b) o) hW hne0⟩,Blk.keep (show Blk wr.heap.size 177 _ ((w3.alloc o).drew) from Blk.alloc b3 o) hW hneF⟩
   have HNB:Hid (∀ W:World,(W.alloc (.cells #[.string y,.string z] 177)).heap[W.heap.size]?=some (Obj.cells #[.string y,.string z] 177 (0,0))):=fun W=>heap_alloc_new W _
   have hfl3:fl.length≤3:=by omega
   have HTL:Hid (fl.length=j):=htl
   clear htl
   have kA:(w3.alloc (.cells #[.string y,.string z] 177)).cell? ⟨w.heap.size,0,none⟩=some (.slice xa fl.length xc):=(((Below.refl _ w3).alloc (Nat.le_refl _) _).cell (p:=⟨w.heap.size,0,none⟩) (show w.heap.size<w3.heap.size by omega)).trans c0
   have hBw3:Below w.heap.size w w3:=hB.trans (hB3.mono hs1)
   have hsw3:=hBw3.size
   go_wp2_with fail
   go_region_law
    ((refine step_append_lies _ (by rfl) _ _ _ (by rfl) w.heap.size 177 i0 _ 2 32 Tryz.underlying58 hi hz0 hz1 hz2 rfl (by omega) (.slice xa fl.length xc) fl.length (fl.flatMap fenc) (by rfl) ((hFr3.alloc _).drew) ⟨w3.heap.size,0,none⟩ 1 1 (fenc (y,z)) (by rfl) (by rfl) (World.news_of_block (cs:=#[.string y,.string z]) (t:=177) (fr:=(0,0)) (heap_alloc_new w3 _)) (by simp [fenc,Value.oneCell']) (by omega) (by unfold maxLen;omega) (by omega) (by simp;omega) (w3.heap.size+1) (by simp) ?_;intro gn capn w4 hown1 hgrow hat hlt1;obtain ⟨hD4,hb4⟩:=HKD.out _ _ hgrow;obtain ⟨q0,q1,q2,qf⟩:=hD4.cell;have qf0:=qf 0))
   all_goals
    have hB4:Below w.heap.size w w4:=Below.grown ((hBw3.alloc hsw3 _).drew) hgrow (by simp;omega) fun j ej=>(ownBlock_lt hFr3 ej).2
    have hK4:KqG w3 w4:=(KqG.below (((Below.refl _ w3).alloc (Nat.le_refl _) _).drew)).trans (KqG.row ((hFr3.alloc _).drew) (by decide) (by decide) (by decide) hgrow)
    have hC4:ChR w.heap.size cv (fl.map Pl.chOf) w4:=hCr3.far hK4 fun xs n h=>row_keep h fun g cur _ e=>row_far ((hFr3.alloc _).drew) (by decide) hgrow (((((Below.refl _ w3).alloc (Nat.le_refl _) _).drew).block g (Array.getElem?_eq_some_iff.1 e).1).trans e)
    have hcU4:=hcU.keep hK4
    obtain ⟨w5,hw5⟩:∃ w5,w4.setCell ⟨w.heap.size,0,none⟩ (.slice (some ⟨gn,0,none⟩) (fl.length+1) capn)=w5:=⟨_,rfl⟩
    have hD5:Dg w.heap.size (.slice (some ⟨gn,0,none⟩) (fl.length+1) capn) cv (.slice none 0 0) w5:=hw5 ▸ hD4.set0 _
    have hB5:Below w.heap.size w w5:=hw5 ▸ hB4.setCell (p:=⟨w.heap.size,0,none⟩) (Nat.le_refl _) _
    have hFr5:w5.ownsRow w.heap.size 177 2 (.slice (some ⟨gn,0,none⟩) (fl.length+1) capn) (fl.length+1) (fl.flatMap fenc++fenc (y,z)):=hw5 ▸ ownsRow_set_other hown1 (row_ne_blk hown1 hD4.b (by decide)) 0 _
    have hC5:ChR w.heap.size cv (fl.map Pl.chOf) w5:=hw5 ▸ hC4.far (KqG.set hD4.b 0 _) fun xs n h=>row_keep h fun g cur _ e=>set_far hD4.b (by decide) 0 _ e
    have hcU5:ChU (.slice rp rn rc) (Pl.chOf (y,z)) w5:=hw5 ▸ hcU4.keep (KqG.set hD4.b 0 _)
    have hd5:w.heap.size<w5.heap.size:=(Array.getElem?_eq_some_iff.1 hD5.b).1
    clear hB4 hK4 hC4 hcU4 hD4 hb4 q0 q1 q2 qf qf0 hown1 hgrow hat hlt1 kA c0 c1 c2 cf f0 f1 ff hcU hD3 hFr3 hCr3 b3 HKD hne0 hneF HNB
    rw [hw5]
    clear hw5 w4
    obtain ⟨us,hus,hrow5,hall5⟩:=hC5.ex
    have hul:us.length≤3:=by have:=congrArg List.length hus;simp at this;omega
    obtain ⟨va,vc,rfl⟩:=slice_of_row hrow5
    obtain ⟨c0,c1,c2,cf⟩:=hD5.cell
    have kB:(w5.alloc (.cells #[.slice rp rn rc] 122)).cell? ⟨w.heap.size,1,none⟩=some (.slice va us.length vc):=(((Below.refl _ w5).alloc (Nat.le_refl _) _).cell (p:=⟨w.heap.size,1,none⟩) hd5).trans c1
    have hne5:(Value.slice va us.length vc).ownBlock≠some w.heap.size:=row_ne_blk hrow5 hD5.b (by decide)
    have HKE:Hid (∀ o W,(w5.alloc o).grownBy W (Value.slice va us.length vc).ownBlock→Dg w.heap.size (.slice (some ⟨gn,0,none⟩) (fl.length+1) capn) (.slice va us.length vc) (.slice none 0 0) W):=fun o W hW=>⟨Blk.keep (show Blk w.heap.size 62 _ (w5.alloc o) from Blk.alloc (show Blk w.heap.size 62 _ w5 from hD5.b) o) hW hne5⟩
    go_wp2_with (at_builtin;go_must (refine wpList_append_lies _ (by rfl) _ _ 59 (by rfl) w.heap.size 122 i1 (.slice none 0 0) 1 24 Tryz.underlying59 hi1 hy0 hy1 hy2 rfl (by decide) _ us.length (us.map (·.1)) (by rfl) (hrow5.alloc _) ⟨w5.heap.size,0,none⟩ 1 1 [.slice rp rn rc] (by rfl) rfl (World.news_of_block (heap_alloc_new w5 _)) (by simp [Value.oneCell']) (by decide) (by unfold maxLen;omega) (by omega) (by simp;omega) (w5.heap.size+1) (by simp) ?_);intro gm capm w6 hown6 hgrow6 hat6 hlt6;have hD6:=HKE.out _ _ hgrow6;obtain ⟨q0,q1,q2,qf⟩:=hD6.cell;have qf0:=qf 1)
    have hB6:Below w.heap.size w w6:=Below.grown (hB5.alloc (by omega) _) hgrow6 (by simp;omega) fun j ej=>(ownBlock_lt hrow5 ej).2
    have hK6:KqG w5 w6:=(KqG.below ((Below.refl _ w5).alloc (Nat.le_refl _) _)).trans (KqG.row (hrow5.alloc _) (by decide) (by decide) (by decide) hgrow6)
    have hFr6:w6.ownsRow w.heap.size 177 2 (.slice (some ⟨gn,0,none⟩) (fl.length+1) capn) (fl.length+1) (fl.flatMap fenc++fenc (y,z)):=row_keep hFr5 fun g cur _ e=>row_far (hrow5.alloc _) (by decide) hgrow6 ((((Below.refl _ w5).alloc (Nat.le_refl _) _).block g (Array.getElem?_eq_some_iff.1 e).1).trans e)
    refine ⟨⟨j+1,_,_,by go_num,by omega,?_,hD6.set1 _,?_,?_,hB6.setCell (p:=⟨w.heap.size,1,none⟩) (Nat.le_refl _) _⟩,by simp [intOf];omega⟩
    ·rw [HTK.out];exact HNX.out
    ·rw [HTK.out,List.flatMap_append,List.length_append]
     have h:=ownsRow_set_other hFr6 (row_ne_blk hFr6 hD6.b (by decide)) 1 (.slice (some ⟨gm,0,none⟩) (us.length+1) capm)
     simpa using h
    ·rw [HTK.out,List.map_append]
     refine ⟨us++[(.slice rp rn rc,Pl.chOf (y,z))],by simp [hus],?_,fun u hu=>?_⟩
     ·rw [List.length_append,List.map_append]
      exact ownsRow_set_other hown6 (row_ne_blk hown6 hD6.b (by decide)) 1 _
     ·rcases List.mem_append.1 hu with hu | hu
      ·exact ((hall5 u hu).keep hK6).keep (KqG.set hD6.b 1 _)
      ·obtain rfl:=List.mem_singleton.1 hu
       exact (hcU5.keep hK6).keep (KqG.set hD6.b 1 _)
  ·have hjI:¬ (j:Int)<(fs.length:Int):=by omega
   obtain rfl:j=fs.length:=by omega
   rw [List.take_length] at hFr hCr hnw
   rw [List.drop_length,Pl.nwE] at hnw
   subst hnw
   go_wp2_with fail
   go_ret3
   exact ⟨hB,.inr ⟨by omega,by omega,HE.out,rfl,_,_,hD,hFr,hCr⟩⟩
end Go.Proofs.YtcmgclckknpecaaGreatDoor
