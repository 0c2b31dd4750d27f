import Derived.Test.YtcmgclckknpecaaGreatDoorKbj
import Derived.Test.YtcmgclckknpecaaGreatDoorKbg
import Derived.Test.YtcmgclckknpecaaGreatDoorKbi
import Derived.Test.YtcmgclckknpecaaGreatDoorKbc
import Derived.Test.YtcmgclckknpecaaGreatDoorKav
import Derived.Test.YtcmgclckknpecaaGreatDoorKah
import Derived.Test.YtcmgclckknpecaaGreatDoorKaq
import Derived.Test.YtcmgclckknpecaaGreatDoorKbf
namespace Go.Proofs.YtcmgclckknpecaaGreatDoor
open Go.RowKit
end Go.Proofs.YtcmgclckknpecaaGreatDoor
namespace Go.Proofs.YtcmgclckknpecaaGreatDoor
open Go.RowKit
end Go.Proofs.YtcmgclckknpecaaGreatDoor
namespace Go.Proofs.YtcmgclckknpecaaGreatDoor
namespace Pl
def stT (sp:Sp) (st:Ch3 × List Tc):Ch3 × List Tc:=if iS sp.nm<3 then (eaS sp st.1,st.2) else if iS sp.nm<6 then (st.1,cutC sp st.1) else (st.1,lgC sp st.2)
def runT:List Sp→Ch3 × List Tc→Option (List Tc)
 | [],st=>some st.2
 | sp :: r,st=>if (stT sp st).2.length≤300 then runT r (stT sp st) else none
theorem lateAll_big (ls:List Sp) (ts:List Tc) (h:¬ ts.length≤300):lateAll ls ts=none:=by
 cases ls with
 | nil=>rw [lateAll,if_neg h]
 | cons l r=>rw [lateAll,if_neg h]
theorem runT_late:∀ (ls:List Sp) (_:∀ l∈ls,¬ iS l.nm<6) (xs:Ch3) (ts:List Tc) (_:ts.length≤300),runT ls (xs,ts)=lateAll ls ts
 | [],_,xs,ts,ht=>by rw [runT,lateAll,if_pos ht]
 | l :: r,h,xs,ts,ht=>by
  have hl:=h l (List.mem_cons_self ..)
  have e:stT l (xs,ts)=(xs,lgC l ts):=by unfold stT;rw [if_neg (by omega),if_neg hl]
  rw [runT,lateAll,if_pos ht,e]
  by_cases hb:(lgC l ts).length≤300
  ·rw [if_pos hb]
   exact runT_late r (fun q hq=>h q (List.mem_cons_of_mem _ hq)) xs (lgC l ts) hb
  ·rw [if_neg hb,lateAll_big _ _ hb]
theorem runT_take (cu:Sp) (ls:List Sp) (hc:¬ iS cu.nm<3∧iS cu.nm<6) (hl:∀ l∈ls,¬ iS l.nm<6):∀ (es:List Sp) (_:∀ e∈es,iS e.nm<3) (xs:Ch3),runT (es++cu :: ls) (xs,[])=takeP es cu ls xs
 | [],_,xs=>by
  have e:stT cu (xs,[])=(xs,cutC cu xs):=by unfold stT;rw [if_neg hc.1,if_pos hc.2]
  rw [List.nil_append,runT,e]
  unfold takeP
  by_cases hb:(cutC cu xs).length≤300
  ·rw [if_pos hb,runT_late ls hl xs _ hb];rfl
  ·rw [if_neg hb];exact (lateAll_big _ _ hb).symm
 | e :: r,he,xs=>by
  have e1:stT e (xs,[])=(eaS e xs,[]):=by unfold stT;rw [if_pos (he e (List.mem_cons_self ..))]
  rw [List.cons_append,runT,e1,if_pos (by simp),runT_take cu ls hc hl r (fun q hq=>he q (List.mem_cons_of_mem _ hq)) (eaS e xs)]
  rfl
theorem iS_late:∀ i (h:i<lates.length),iS (lates[i])=6:=by decide +kernel
theorem rowC_some {α:Type} (s:ByteArray) (item:Nat→Bool × Nat) (cont:Nat→α):∀ m a,∀ x∈rowC s item cont m a,∃ a',x=cont a'
 | 0,a,x,h=>by simp [rowC] at h
 | m+1,a,x,h=>by
  rw [rowC] at h
  rcases List.mem_cons.1 h with rfl | h
  ·exact ⟨a,rfl⟩
  ·split at h
   ·exact rowC_some s item cont m _ x h
   ·simp at h
theorem ps_size (s:ByteArray) (hm:s.size≤80) (y:ByteArray) (k b:Nat):∀ p∈(spC s y k b).ps,p.1.size≤1000:=by
 intro p hp
 simp only [spC] at hp
 split at hp
 ·obtain ⟨a,rfl⟩:=rowC_some s (pairP s) (pairC s) _ b p hp
  show (s.extract a _).size≤1000
  rw [ByteArray.size_extract];omega
 ·simp at hp
theorem lo_of (s:ByteArray) (y:ByteArray) (b c:Nat) (h:body s 3 b=(true,c)):1≤(spC s y 3 b).lo∧(spC s y 3 b).lo≤9:=by
 have hb:bnds s b=(true,c):=by simpa [body] using h
 unfold bnds at hb
 by_cases h1:byteIn s 49 57 b=true
 ·obtain ⟨_,h2,h3⟩:=byteIn_lt h1
  simp only [spC,bndsC,if_true]
  omega
 ·rw [if_neg h1] at hb
  exact absurd (Prod.mk.inj hb).1 (by simp)
end Pl
structure Kst (sp:Sp):Prop where
 ex:(∃ i,∃ hi:i<Pl.starts.length,sp.nm=Pl.starts[i])∨(∃ i,∃ hi:i<Pl.lates.length,sp.nm=Pl.lates[i]∧(4≤i→1≤sp.lo∧sp.lo≤9))
 w:SpW sp
 p8:∀ p∈sp.ps,p.1.size≤1000
theorem kst_E {s:ByteArray} (hm:s.size≤80) {e:Sp} (h:Pl.isE s e):Kst e∧Pl.iS e.nm<3:=by
 obtain ⟨i,b,c,hi,h3,rfl,hb,hbs⟩:=h
 exact ⟨⟨.inl ⟨i,hi,rfl⟩,Pl.spW_of s hm _ _ b c hbs hb,Pl.ps_size s hm _ _ b⟩,by rw [show (Pl.spC s (Pl.starts[i]) (Pl.kindS i) b).nm=Pl.starts[i] from rfl,Pl.iS_at i hi];exact h3⟩
theorem kst_C {s:ByteArray} (hm:s.size≤80) {e:Sp} (h:Pl.isC s e):Kst e∧¬ Pl.iS e.nm<3∧Pl.iS e.nm<6:=by
 obtain ⟨i,b,c,hi,h3,rfl,hb,hbs⟩:=h
 refine ⟨⟨.inl ⟨i,hi,rfl⟩,Pl.spW_of s hm _ _ b c hbs hb,Pl.ps_size s hm _ _ b⟩,?_⟩
 rw [show (Pl.spC s (Pl.starts[i]) (Pl.kindS i) b).nm=Pl.starts[i] from rfl,Pl.iS_at i hi]
 have:i<6:=hi
 omega
theorem kst_L {s:ByteArray} (hm:s.size≤80) {e:Sp} (h:Pl.isL s e):Kst e∧¬ Pl.iS e.nm<6:=by
 obtain ⟨i,b,c,hi,rfl,hb,hbs⟩:=h
 refine ⟨⟨.inr ⟨i,hi,rfl,fun h4=>?_⟩,Pl.spW_of s hm _ _ b c hbs hb,Pl.ps_size s hm _ _ b⟩,?_⟩
 ·have hk:Pl.kindL i=3:=by unfold Pl.kindL;rw [if_neg (by omega),if_neg (by omega),if_pos h4]
  rw [hk] at hb ⊢
  exact Pl.lo_of s _ b c hb
 ·rw [show (Pl.spC s (Pl.lates[i]) (Pl.kindL i) b).nm=Pl.lates[i] from rfl,Pl.iS_late i hi];omega
end Go.Proofs.YtcmgclckknpecaaGreatDoor
namespace Go.Proofs.YtcmgclckknpecaaGreatDoor
open Go.RowKit
end Go.Proofs.YtcmgclckknpecaaGreatDoor
namespace Go.Proofs.YtcmgclckknpecaaGreatDoor
open Go.RowKit
end Go.Proofs.YtcmgclckknpecaaGreatDoor
namespace Go.Proofs.YtcmgclckknpecaaGreatDoor
open Go.RowKit
end Go.Proofs.YtcmgclckknpecaaGreatDoor
namespace Go.Proofs.YtcmgclckknpecaaGreatDoor
open Go.RowKit
end Go.Proofs.YtcmgclckknpecaaGreatDoor
namespace Go.Proofs.YtcmgclckknpecaaGreatDoor
open Go.RowKit
end Go.Proofs.YtcmgclckknpecaaGreatDoor
namespace Go.Proofs.YtcmgclckknpecaaGreatDoor
open Go.RowKit
end Go.Proofs.YtcmgclckknpecaaGreatDoor
namespace Go.Proofs.YtcmgclckknpecaaGreatDoor
open Go.RowKit
end Go.Proofs.YtcmgclckknpecaaGreatDoor
namespace Go.Proofs.YtcmgclckknpecaaGreatDoor
open Go.RowKit
end Go.Proofs.YtcmgclckknpecaaGreatDoor
namespace Go.Proofs.YtcmgclckknpecaaGreatDoor
open Go.RowKit
namespace Pl
def tkE:List (List Sp)→List ByteArray→Nat→Option (Nat × Nat)
 | C :: Cs,t :: ts,i=>if 120<t.size then some (1,i) else if (runT C (cs (bt t) t.size t.size 0,[])).isNone=true then some (3,i) else tkE Cs ts (i+1)
 | _,_,_=>none
def ins (d:Nat × List ByteArray):List (Nat × List ByteArray)→Bool→List (Nat × List ByteArray)
 | [],done=>if done=true then [] else [d]
 | x :: r,done=>(if done=false∧d.1≤x.1 then [d] else [])++((if x.1≠d.1 then [x] else [])++ins d r (done || decide (d.1≤x.1)))
end Pl
structure TxA (a:Addr) (tx:List ByteArray) (w:World):Prop where
 c:∀ i (h:i<tx.length),w.cell? (a.add i)=some (.string (tx[i]))
end Go.Proofs.YtcmgclckknpecaaGreatDoor
namespace Go.Proofs.YtcmgclckknpecaaGreatDoor
open Go.RowKit
theorem info177:(Tryz.prog.info? 177).map (fun i=>(i.zero,i.size,i.bytes))=some (some (.agg #[.string ⟨#[]⟩,.string ⟨#[]⟩]),2,32):=by kernel_rfl
structure FsA (g o:Nat) (fs:List (ByteArray × ByteArray)) (w:World):Prop where
 c:∀ i (h:i<fs.length),w.cell? ⟨g,o+i*2,none⟩=some (.string (fs[i]).1)∧w.cell? ⟨g,o+i*2+1,none⟩=some (.string (fs[i]).2)
theorem FsA.below {g o:Nat} {fs:List (ByteArray × ByteArray)} {B:Nat} {w w':World} (h:FsA g o fs w) (hg:0<fs.length→g<B) (hb:Below B w w'):FsA g o fs w' :=
 ⟨fun i hi=>⟨(hb.cell (p:=⟨g,o+i*2,none⟩) (hg (by omega))).trans (h.c i hi).1,(hb.cell (p:=⟨g,o+i*2+1,none⟩) (hg (by omega))).trans (h.c i hi).2⟩⟩
structure FsI (g:Nat) (fs:List (ByteArray × ByteArray)) (w:World):Prop where
 c:∀ i (h:i<fs.length),w.cell? ⟨g,i*2,none⟩=some (.string (fs[i]).1)∧w.cell? ⟨g,i*2+1,none⟩=some (.string (fs[i]).2)
theorem FsI.below {g:Nat} {fs:List (ByteArray × ByteArray)} {w w':World} (h:FsI g fs w) (hg:0<fs.length→g<w.heap.size) (hb:Below w.heap.size w w'):FsI g fs w' :=
 ⟨fun i hi=>⟨(hb.cell (p:=⟨g,i*2,none⟩) (hg (by omega))).trans (h.c i hi).1,(hb.cell (p:=⟨g,i*2+1,none⟩) (hg (by omega))).trans (h.c i hi).2⟩⟩
theorem slice_of_row {w:World} {b sz n:Nat} {t:TypeId} {v:Value} {xs:List Value} (h:w.ownsRow b t sz v n xs):∃ p c,v=.slice p n c:=by
 rcases h.2 with ⟨rfl,rfl,_⟩ | ⟨g',cap,c2,rfl,_⟩
 ·exact ⟨none,0,rfl⟩
 ·exact ⟨_,_,rfl⟩
structure LpL (w:World) (fs:List (ByteArray × ByteArray)) (ov iv:Value) (wr:World):Prop where
 ex:∃ j:Nat,iv=.int .i64 (j:Int)∧j≤fs.length∧wr.ownsRow w.heap.size 177 2 ov j ((fs.take j).flatMap fenc)∧Below w.heap.size w wr
set_option maxRecDepth 100000 in
set_option maxHeartbeats 4000000 in
theorem lplain_any (a:Option Addr) (g o cap:Nat) (fs:List (ByteArray × ByteArray)) (w:World) (hF:FsA g o fs w) (ha:0<fs.length→a=some ⟨g,o,none⟩) (hg:0<fs.length→g<w.heap.size) (hl:fs.length≤4398046510976) :
  Calls Tryz.prog 34 #[.slice a fs.length cap] w fun e w'=>∃ p c,e=.returned (.slice p fs.length c)∧w'.ownsRow w.heap.size 177 2 (.slice p fs.length c) fs.length (fs.flatMap fenc)∧Below w.heap.size w w':=by
 obtain ⟨i0,hi,hz0,hz1,hz2⟩:=info_parts info177
 have HFA:Hid (∀ W,Below w.heap.size w W→∀ q (hq:q<fs.length),a=some ⟨g,o,none⟩∧W.cell? ⟨g,o+q*2,none⟩=some (.string (fs[q]).1)∧W.cell? ⟨g,o+q*2+1,none⟩=some (.string (fs[q]).2)):=fun W hW q hq=>⟨ha (by omega),(hF.below hg hW).c q hq⟩
 clear hF ha hg
 go_enter Tryz.func34,Tryz.ntmps34
 go_wp2_with fail
 go_loopw [3,4] (fun ov iv wr=>LpL w fs ov iv wr) (fun _ iv _=>fs.length - (intOf iv).toNat)
 case atStart=>exact ⟨0,rfl,by omega,World.ownsRow_nil _ _ _ _,Below.refl _ _⟩
 case round =>
  obtain ⟨j,rfl,hj,hP,hB⟩:=hrel.ex
  clear hrel
  have hs1:=hB.size
  obtain ⟨la,lc,rfl⟩:=slice_of_row hP
  by_cases hjl:j<fs.length
  ·have hjI:(j:Int)<(fs.length:Int):=by omega
   obtain ⟨rfl,p0,p1⟩:=HFA.out wr hB j hjl
   have htk:fs.take (j+1)=fs.take j++[fs[j]]:=(List.take_append_getElem hjl).symm
   obtain ⟨⟨y,z⟩,hx⟩:∃ x,fs[j]=x:=⟨_,rfl⟩
   rw [hx] at p0 p1 htk
   simp only at p0 p1
   have HTK:Hid (fs.take (j+1)=fs.take j++[(y,z)]):=htk
   have HCK:Hid (∀ W,Below w.heap.size w W→W.cell? ⟨g,o+j*2,none⟩=some (.string y)∧W.cell? ⟨g,o+j*2+1,none⟩=some (.string z)):=fun W hW=>by have h:=(HFA.out W hW j hjl).2;rw [hx] at h;exact h
   have HNB:Hid (∀ W:World,(W.alloc (.cells #[.string y,.string z] 177)).heap[W.heap.size]?=some (Obj.cells #[.string y,.string z] 177 (0,0))):=fun W=>heap_alloc_new W _
   clear hx htk
   go_wp2_with fail
   go_region_held3 (fun w'=>w'.cell? ⟨g,o+j*2,none⟩=some (.string y)∧w'.cell? ⟨g,o+j*2+1,none⟩=some (.string z)) (first | go_keep | exact HCK.out _ hB3) ((refine step_append_lies _ (by rfl) _ _ 58 (by rfl) w.heap.size 177 i0 (.agg #[.string ⟨#[]⟩,.string ⟨#[]⟩]) 2 32 Tryz.underlying58 hi hz0 hz1 hz2 rfl (by decide) _ j ((fs.take j).flatMap fenc) (by rfl) (hP.drew.alloc _) ⟨wr.heap.size,0,none⟩ 1 1 (fenc (y,z)) (by rfl) rfl (World.news_of_block (HNB.out wr.drew)) (by simp [fenc,Value.oneCell']) (by decide) (by unfold maxLen;omega) (by omega) (by simp;omega) (wr.heap.size+1) (by simp) ?_;intro gn capn w3 hown1 hgrow hat hlt1;have hB3:Below w.heap.size w w3:=Below.grown (hB.drew.alloc (by simp;omega) _) hgrow (by simp;omega) fun j ej=>(ownBlock_lt hP ej).2))
   go_wp2
   refine ⟨⟨j+1,by go_num,by omega,?_,hB3⟩,by simp [intOf];omega⟩
   rw [HTK.out,List.flatMap_append]
   simpa using hown1
  ·have hjI:¬ (j:Int)<(fs.length:Int):=by omega
   obtain rfl:j=fs.length:=by omega
   rw [List.take_length] at hP
   go_wp2_with fail
   go_ret
   exact ⟨_,_,rfl,hP,hB⟩
end Go.Proofs.YtcmgclckknpecaaGreatDoor
namespace Go.Proofs.YtcmgclckknpecaaGreatDoor
open Go.RowKit
end Go.Proofs.YtcmgclckknpecaaGreatDoor
namespace Go.Proofs.YtcmgclckknpecaaGreatDoor
open Go.RowKit Go.Shelf
set_option maxHeartbeats 1000000 in
theorem chain_long (s:ByteArray) (w:World) (hm:80<s.size) :
  Calls Tryz.prog 35 #[.string s] w fun e w'=>∃ p1 n1 c1 p2 n2 c2 p3 n3 c3 p4 n4 c4,∃ t:ByteArray,∃ x z:Int,e=.returned (.tuple #[.agg #[.slice p1 n1 c1,.string t,.slice p2 n2 c2,.slice p3 n3 c3,.int .i64 x,.int .i64 z,.slice p4 n4 c4],.int .i64 1,.int .i64 0])∧Below w.heap.size w w':=by
 have hm':(80:Int)<(s.size:Int):=by omega
 have bR:Blk w.heap.size 98 #[.slice none 0 0,.string ⟨#[]⟩,.slice none 0 0,.slice none 0 0,.int .i64 0,.int .i64 0,.slice none 0 0] (w.alloc (.cells #[.slice none 0 0,.string ⟨#[]⟩,.slice none 0 0,.slice none 0 0,.int .i64 0,.int .i64 0,.slice none 0 0] 98)):=heap_alloc_new w _
 obtain ⟨⟨r0,r1,r2,r3,r4,r5,r6⟩,rf⟩:=bR.seven
 go_enter Tryz.func35,Tryz.ntmps35
 go_wp2
 refine bodyPost_ret (res13 rfl rfl rfl ⟨r0,r1,r2,r3,r4,r5,r6⟩) rfl ⟨_,_,_,_,_,_,_,_,_,_,_,_,_,_,_,rfl,?_⟩
 exact (Below.refl _ w).alloc (Nat.le_refl _) _
theorem read_long (s:ByteArray) (w:World) (hm:80<s.size) :
  Calls Tryz.prog 37 #[.string s] w fun e w'=>∃ p n c,e=.returned (.tuple #[.slice p n c,.int .i64 1,.int .i64 0])∧Below w.heap.size w w':=by
 have hm':(80:Int)<(s.size:Int):=by omega
 go_enter Tryz.func37,Tryz.ntmps37
 go_wp2
 go_ret3
 exact ⟨none,0,0,rfl,Below.refl _ _⟩
def ansOf (s:ByteArray):Nat × Nat:=if 80<s.size then (1,0) else verdict (Pl.chn s (s.size+1) false 0 0)
namespace Pl
theorem eaAll_inv {b:Nat→Prop}:∀ (es:List Sp) (xs:Ch3),(∀ e∈es,SpW e)→Inv b xs→Inv b (eaAll es xs)
 | [],_,_,h=>h
 | e :: r,xs,hw,h=>eaAll_inv r _ (fun x hx=>hw x (by simp [hx])) (eaK_inv h _ e (hw e (by simp)))
end Pl
end Go.Proofs.YtcmgclckknpecaaGreatDoor
namespace Go.Proofs.YtcmgclckknpecaaGreatDoor
open Go.RowKit
theorem info122:(Tryz.prog.info? 122).map (fun i=>(i.zero,i.size,i.bytes))=some (some (.slice none 0 0),1,24):=by kernel_rfl
namespace Pl
def chOf (f:ByteArray × ByteArray):List Sp:=Pl.chC f.2 (f.2.size+1) false 0
def nwE:List (ByteArray × ByteArray)→List (ByteArray × ByteArray)→Option (Nat × Nat)
 | _,[]=>none
 | pre,f :: r=>if (Pl.isNm f.1 && decide (f.1.size≤8) && decide (Pl.fld f.1 pre 0<0))=true then (if (ansOf f.2).1=0 then nwE (pre++[f]) r else some ((ansOf f.2).1,pre.length)) else some (5,pre.length)
end Pl
structure KqG (w w':World):Prop where
 k:∀ (g:Nat) (cur:Array Value) (t:TypeId),(t=9∨t=287∨t=207)→w.heap[g]?=some (Obj.cells cur t (0,0))→w'.heap[g]?=some (Obj.cells cur t (0,0))
theorem KqG.trans {x y z:World} (h:KqG x y) (k:KqG y z):KqG x z:=⟨fun g cur t ht e=>k.k g cur t ht (h.k g cur t ht e)⟩
theorem KqG.below {w w':World} (h:Below w.heap.size w w'):KqG w w':=⟨fun g _ _ _ e=>(h.block g (Array.getElem?_eq_some_iff.1 e).1).trans e⟩
theorem KqG.row {w w':World} {b0:Nat} {t:TypeId} {sz n:Nat} {v:Value} {xs:List Value} (h:w.ownsRow b0 t sz v n xs) (h9:t≠9) (h287:t≠287) (h207:t≠207) (hg:w.grownBy w' v.ownBlock):KqG w w':=⟨fun g cur t2 ht e=>by
 refine (hg.block g (Array.getElem?_eq_some_iff.1 e).1 fun hs=>?_).trans e
 rcases h.2 with ⟨rfl,_⟩ | ⟨g',cap,c2,rfl,_,hh,_⟩
 ·simp [Value.ownBlock] at hs
 ·have:g=g':=by simpa [Value.ownBlock] using hs
  subst this
  rw [e] at hh
  injection hh with hh
  injection hh with _ h2 _
  subst h2
  rcases ht with h | h | h
  ·exact h9 h
  ·exact h287 h
  ·exact h207 h⟩
theorem KqG.set {w:World} {d:Nat} {cs:Array Value} (hd:w.heap[d]?=some (Obj.cells cs 62 (0,0))) (o:Nat) (u:Value):KqG w (w.setCell ⟨d,o,none⟩ u):=⟨fun g cur t ht e=>by
 have hgd:g≠d:=fun h=>by
  subst h
  rw [e] at hd
  injection hd with hd
  injection hd with _ h2 _
  subst h2
  rcases ht with h | h | h <;> exact absurd h (by decide)
 exact ((grown_set w d o u).block g (Array.getElem?_eq_some_iff.1 e).1 (by simpa using hgd)).trans e⟩
structure ChU (v:Value) (C:List Sp) (w:World):Prop where
 ex:∃ p n k xs b b2,v=.slice p n k∧w.ownsRow b 207 5 v n xs∧Stq b2 C xs w
theorem ChU.keep {v:Value} {C:List Sp} {w w':World} (h:ChU v C w) (k:KqG w w'):ChU v C w':=by
 obtain ⟨p,n,c,xs,b,b2,h1,h2,h3⟩:=h.ex
 exact ⟨p,n,c,xs,b,b2,h1,row_keep h2 fun g cur _=>k.k g cur 207 (.inr (.inr rfl)),h3.keep fun g cur t _ ht=>k.k g cur t (ht.elim .inl fun h=>.inr (.inl h))⟩
structure ChR (base:Nat) (v:Value) (Cs:List (List Sp)) (w:World):Prop where
 ex:∃ us:List (Value × List Sp),us.map (·.2)=Cs∧w.ownsRow base 122 1 v us.length (us.map (·.1))∧∀ u∈us,ChU u.1 u.2 w
theorem ChR.nil (base:Nat) (w:World):ChR base (.slice none 0 0) [] w:=⟨[],rfl,World.ownsRow_nil _ _ _ _,by simp⟩
theorem ChR.below {base:Nat} {v:Value} {Cs:List (List Sp)} {w w':World} (h:ChR base v Cs w) (hb:Below w.heap.size w w'):ChR base v Cs w':=by
 obtain ⟨us,h1,h2,h3⟩:=h.ex
 exact ⟨us,h1,ownsRow_below h2 hb,fun u hu=>(h3 u hu).keep (KqG.below hb)⟩
theorem ChR.far {base:Nat} {v:Value} {Cs:List (List Sp)} {w w':World} (h:ChR base v Cs w) (hk:KqG w w') (h2:∀ xs n,w.ownsRow base 122 1 v n xs→w'.ownsRow base 122 1 v n xs):ChR base v Cs w':=by
 obtain ⟨us,h1,h3,h4⟩:=h.ex
 exact ⟨us,h1,h2 _ _ h3,fun u hu=>(h4 u hu).keep hk⟩
theorem fenc_at (us:List (ByteArray × ByteArray)):∀ (i:Nat) (hi:i<us.length),(us.flatMap fenc)[i*2]?=some (.string (us[i]).1)∧(us.flatMap fenc)[i*2+1]?=some (.string (us[i]).2):=by
 induction us with
 | nil=>intro i hi;simp at hi
 | cons p r ih =>
  intro i hi
  rw [List.flatMap_cons]
  cases i with
  | zero=>simp [fenc]
  | succ i =>
   have:=ih i (by simpa using hi)
   rw [List.getElem?_append_right (by simp [fenc];omega),List.getElem?_append_right (by simp [fenc];omega)]
   rw [show (i+1)*2 - (fenc p).length=i*2 by simp [fenc];omega,show (i+1)*2+1 - (fenc p).length=i*2+1 by simp [fenc];omega]
   simpa using this
theorem fs_at {w:World} {base:Nat} {v:Value} {fs:List (ByteArray × ByteArray)} (h:w.ownsRow base 177 2 v fs.length (fs.flatMap fenc)):∃ a cap g,v=.slice a fs.length cap∧(0<fs.length→a=some ⟨g,0,none⟩)∧(0<fs.length→g<w.heap.size)∧FsI g fs w:=by
 rcases h.2 with ⟨rfl,hn⟩ | ⟨g,cap,cur,rfl,hb,hh,_,_,_,ht⟩
 ·exact ⟨none,0,0,by simp [hn],by simp [hn],by simp [hn],⟨fun i hi=>by omega⟩⟩
 ·refine ⟨some ⟨g,0,none⟩,cap,g,rfl,fun _=>rfl,fun _=>(Array.getElem?_eq_some_iff.1 hh).1,⟨fun i hi=>?_⟩⟩
  have hp:=fenc_at fs i hi
  have c:∀ j u,j<fs.length*2→(fs.flatMap fenc)[j]?=some u→w.cell? ⟨g,j,none⟩=some u:=fun j u hj hu=>by
   rw [← ht,List.getElem?_take_of_lt hj] at hu
   have h3:cur[j]?=some u:=by simpa using hu
   simp [World.cell?,hh,h3]
  exact ⟨c _ _ (by omega) hp.1,c _ _ (by omega) hp.2⟩
theorem read_allC (s:ByteArray) (w:World) (cd at_:Nat) (h:Hid (ansOf s=(cd,at_))) (LL:List Sp) (HLL:Hid (Pl.chC s (s.size+1) false 0=LL)) :
  Calls Tryz.prog 37 #[.string s] w fun e w'=>∃ p n c,e=.returned (.tuple #[.slice p n c,.int .i64 (cd:Int),.int .i64 (at_:Int)])∧Below w.heap.size w w'∧RdC cd w.heap.size LL (.slice p n c) n w':=by
 have h0:=h.out
 unfold ansOf at h0
 by_cases hm:80<s.size
 ·rw [if_pos hm] at h0
  simp only [Prod.mk.injEq] at h0
  obtain ⟨rfl,rfl⟩:=h0
  refine (read_long s w hm).mono ?_
  rintro e w' ⟨p,n,c,rfl,hB⟩
  exact ⟨p,n,c,rfl,hB,⟨fun h=>absurd h (by decide)⟩⟩
 ·rw [if_neg hm] at h0
  exact read_anyC s w (by omega) _ rfl cd at_ h0 LL HLL
end Go.Proofs.YtcmgclckknpecaaGreatDoor
