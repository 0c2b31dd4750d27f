import Derived.Test.YtcmgclckknpecaaGreatDoorKbt
import Derived.Deep.SlicePairs
import Derived.Deep.Strs
namespace Go.Proofs.YtcmgclckknpecaaGreatDoor
open Go.RowKit Go.Maps Go.Shelf
structure UpL (B:Nat) (fs:List (ByteArray × ByteArray)) (pa pb n:Nat) (w0:World) (iv:Value) (wr:World):Prop where
 ex:∃ j:Nat,iv=.int .i64 (j:Int)∧j≤n∧Up B fs pa pb (900*j) w0 wr
theorem up_start {B:Nat} {fs:List (ByteArray × ByteArray)} {X X':Nat→Prop} {a b:Pq} {w0 w1 w2 w3 w4:World} {pa pb:Nat} (hB:B≤w0.heap.size) (h1:Below w0.heap.size w0 w1) (ha:Pr B fs X a w1) (h12:Below w1.heap.size w1 w2) (hpa:Blk pa 50 #[.pointer (some ⟨a.b,0,none⟩),.pointer (some ⟨a.d,0,none⟩)] w2) (h23:Below w2.heap.size w2 w3) (hb:Pr B fs X' b w3) (hG3:Gl B X' (fun _=>False) 0 w3) (hX:∀ i,X i→X' i) (hX2:∀ i,X' i→X i∨w2.heap.size≤i) (hm:w2.heap.size≤b.m) (hf:∀ f∈b.L,w2.heap.size≤f.1) (hd:w2.heap.size≤b.d) (h34:Below w3.heap.size w3 w4) (hpb:Blk pb 50 #[.pointer (some ⟨b.b,0,none⟩),.pointer (some ⟨b.d,0,none⟩)] w4) (hE:Ends w0):Up B fs pa pb 0 w0 w4:=by
 have s1:=h1.size
 have s2:=h12.size
 have s3:=h23.size
 have s4:=h34.size
 have h14:Below w1.heap.size w1 w4:=h12.trans ((h23.trans (h34.mono s3)).mono s2)
 have h04:Below w0.heap.size w0 w4:=h1.trans (h14.mono s1)
 have ham:a.m<w1.heap.size:=by
  obtain ⟨D,q,_⟩:=ha.e.d.ex
  exact q.lt
 have ha4:Pr B fs X' a w4:=by
  have h:=ha.below (by omega) h14
  refine ⟨h.e.keep (Kc.below (by omega) (Below.refl _ w4)) hX (fun q=>?_) rfl (fun _ _=>rfl),h.l,h.r,h.d,h.n⟩
  rcases hX2 _ q with q | q
  ·exact ha.e.p.2.2 q
  ·omega
 refine ⟨⟨X',fun _=>False,a,b,hG3.below h34,⟨fun h=>h,fun h=>h⟩,⟨(hpa.below h23).below h34,hpb⟩,ha4,hb.below (by omega) h34,⟨by omega,fun x hx y hy=>?_,?_⟩⟩,h04.mono hB,by omega,hE.below h04⟩
 ·obtain ⟨cs,q,_⟩:=(ha.e.f x hx).1.blk
  have:=q.lt
  have:=hf y hy
  omega
 ·have:=ha.r.lt.1
  omega
set_option maxRecDepth 100000 in
set_option maxHeartbeats 8000000 in
theorem upto_any (B:Nat) (a:Option Addr) (g o cap:Nat) (fs:List (ByteArray × ByteArray)) (sa:Option Addr) (gs os sc:Nat) (ops:List Opd) (w:World) (hp:0<B) (hB:B=w.heap.size) (HEN:Hid (Ends w)) (hF:FsA g o fs w) (ha:0<fs.length→a=some ⟨g,o,none⟩) (hg:0<fs.length→g<w.heap.size) (hl:fs.length≤4398046510976) (HSZ:Hid (∀ f∈fs,f.1.size≤9223372036854775807)) (hS:Scr B gs os ops w) (hsa:0<ops.length→sa=some ⟨gs,os,none⟩) (hol:ops.length≤4398046511104) :
  Calls Tryz.prog 20 #[.slice a fs.length cap,.slice sa ops.length sc,.int .i64 1,.int .i64 2,.int .i64 2] w fun e w'=>e=.returned (.int .i64 (-1))∧Below w.heap.size w w':=by
 have HMD:Hid (∀ W X Y N,Below w.heap.size w W→Gl B X Y N W→Calls Tryz.prog 42 #[.slice a fs.length cap] W fun e w'=>MdO B fs X Y N W e w'):=fun W X Y N hW hG=>made_any B a g o cap fs X Y N W hp (by have:=hW.size;omega) hG (hF.below hg hW) ha (fun h=>Nat.lt_of_lt_of_le (hg h) hW.size) hl HSZ
 clear hF ha hg
 go_enter Tryz.func20,Tryz.ntmps20
 go_wp2_with fail
 refine (HMD.out w (fun _=>False) (fun _=>False) 0 (Below.refl _ _) (Gl.nil _ _)).mono ?_
 rintro e w1 hO1
 have hB1:=hO1.b
 have hs1:=hB1.size
 rcases hO1.r with ⟨hno,rfl,hG1⟩ | ⟨hok,qa,X1,rfl,hPa,hG1,_,hXa,hXb,hma,hfa,hda⟩
 ·have hBp:Below w.heap.size w (w1.alloc (.cells #[.pointer none,.pointer none] 50)):=hB1.alloc hs1 _
  have HM2:Hid (Calls Tryz.prog 42 #[.slice a fs.length cap] (w1.alloc (.cells #[.pointer none,.pointer none] 50)) fun e w'=>MdO B fs (fun _=>False) (fun _=>False) 0 (w1.alloc (.cells #[.pointer none,.pointer none] 50)) e w'):=HMD.out _ _ _ 0 hBp (Gl.nil _ _)
  have HNO:Hid (¬ OkF fs):=hno
  clear hO1 HMD hno hG1
  go_wp2_with fail
  refine HM2.out.mono ?_
  rintro e w2 hO2
  have hB2:=hO2.b
  have he:e=.returned (.tuple #[.agg #[.pointer none,.pointer none],.bool true]):=by
   rcases hO2.r with ⟨_,q,_⟩ | ⟨q,_⟩
   ·exact q
   ·exact absurd q HNO.out
  subst he
  have hb2:w2.heap[w1.heap.size]?=some (.cells #[.pointer none,.pointer none] 50 (0,0)):=(hB2.block _ (by simp)).trans (heap_alloc_new w1 _)
  have hs2:=hB2.size
  rw [World.size_alloc] at hs2
  have c1:(w2.alloc (.cells #[.pointer none,.pointer none] 50)).cell? ⟨w1.heap.size,1,none⟩=some (.pointer none):=(((Below.refl _ w2).alloc (Nat.le_refl _) _).cell (p:=⟨w1.heap.size,1,none⟩) (show w1.heap.size<w2.heap.size by omega)).trans (blk_cell (show Blk w1.heap.size 50 _ w2 from hb2) 1)
  have hfin:Below w.heap.size w (w2.alloc (.cells #[.pointer none,.pointer none] 50)):=(hBp.trans (hB2.mono hBp.size)).alloc (by omega) _
  clear hO2 HM2
  go_wp2_with fail
  go_ret
  exact ⟨rfl,hfin⟩
 ·obtain ⟨ab,hab⟩:∃ ab,qa.b=ab:=⟨_,rfl⟩
  obtain ⟨ad,had⟩:∃ ad,qa.d=ad:=⟨_,rfl⟩
  rw [hab,had]
  have hBa:Below w1.heap.size w1 (w1.alloc (.cells #[.pointer (some ⟨ab,0,none⟩),.pointer (some ⟨ad,0,none⟩)] 50)):=(Below.refl _ _).alloc (Nat.le_refl _) _
  have hpa:Blk w1.heap.size 50 #[.pointer (some ⟨ab,0,none⟩),.pointer (some ⟨ad,0,none⟩)] (w1.alloc (.cells #[.pointer (some ⟨ab,0,none⟩),.pointer (some ⟨ad,0,none⟩)] 50)):=heap_alloc_new w1 _
  have hBp:=hB1.trans (hBa.mono hs1)
  have HM2:Hid (Calls Tryz.prog 42 #[.slice a fs.length cap] (w1.alloc (.cells #[.pointer (some ⟨ab,0,none⟩),.pointer (some ⟨ad,0,none⟩)] 50)) fun e w'=>MdO B fs X1 (fun _=>False) 0 (w1.alloc (.cells #[.pointer (some ⟨ab,0,none⟩),.pointer (some ⟨ad,0,none⟩)] 50)) e w'):=HMD.out _ _ _ 0 hBp (hG1.below hBa)
  have HPA:Hid (Pr B fs X1 qa w1∧Gl B X1 (fun _=>False) 0 w1∧OkF fs):=⟨hPa,hG1,hok⟩
  have HAB:Hid (qa.b=ab∧qa.d=ad):=⟨hab,had⟩
  clear hO1 HMD hPa hG1 hok hXa hXb hma hfa hda hab had
  go_wp2_with fail
  refine HM2.out.mono ?_
  rintro e w3 hO2
  have hB3:=hO2.b
  obtain ⟨qb,X2,rfl,hPb,hG3,hX1,hX2,hmb,hfb,hdb⟩:∃ qb:Pq,∃ X2:Nat→Prop,e=.returned (.tuple #[.agg #[.pointer (some ⟨qb.b,0,none⟩),.pointer (some ⟨qb.d,0,none⟩)],.bool true])∧Pr B fs X2 qb w3∧Gl B X2 (fun _=>False) 0 w3∧(∀ i,X1 i→X2 i)∧(∀ i,X2 i→X1 i∨(w1.alloc (.cells #[.pointer (some ⟨ab,0,none⟩),.pointer (some ⟨ad,0,none⟩)] 50)).heap.size≤i)∧(w1.alloc (.cells #[.pointer (some ⟨ab,0,none⟩),.pointer (some ⟨ad,0,none⟩)] 50)).heap.size≤qb.m∧(∀ f∈qb.L,(w1.alloc (.cells #[.pointer (some ⟨ab,0,none⟩),.pointer (some ⟨ad,0,none⟩)] 50)).heap.size≤f.1)∧(w1.alloc (.cells #[.pointer (some ⟨ab,0,none⟩),.pointer (some ⟨ad,0,none⟩)] 50)).heap.size≤qb.d:=by
   rcases hO2.r with ⟨q,_⟩ | ⟨_,qb,X2,q1,q2,q3,_,q4⟩
   ·exact absurd HPA.out.2.2 q
   ·exact ⟨qb,X2,q1,q2,q3,q4⟩
  obtain ⟨bb,hbb⟩:∃ bb,qb.b=bb:=⟨_,rfl⟩
  obtain ⟨bd,hbd⟩:∃ bd,qb.d=bd:=⟨_,rfl⟩
  have hUp:Up B fs w1.heap.size w3.heap.size 0 w (w3.alloc (.cells #[.pointer (some ⟨bb,0,none⟩),.pointer (some ⟨bd,0,none⟩)] 50)):=by
   refine up_start (by omega) hB1 HPA.out.1 hBa (by rw [HAB.out.1,HAB.out.2];exact hpa) hB3 hPb hG3 hX1 hX2 hmb hfb hdb ((Below.refl _ _).alloc (Nat.le_refl _) _) (by rw [hbb,hbd];exact heap_alloc_new w3 _) HEN.out
  rw [hbb,hbd]
  have hs3:=hB3.size
  rw [World.size_alloc] at hs3
  have hpa3:=hpa.below hB3
  have c1:(w3.alloc (.cells #[.pointer (some ⟨bb,0,none⟩),.pointer (some ⟨bd,0,none⟩)] 50)).cell? ⟨w1.heap.size,1,none⟩=some (.pointer (some ⟨ad,0,none⟩)):=(((Below.refl _ w3).alloc (Nat.le_refl _) _).cell (p:=⟨w1.heap.size,1,none⟩) (show w1.heap.size<w3.heap.size by omega)).trans (blk_cell hpa3 1)
  have HUP:Hid (Up B fs w1.heap.size w3.heap.size 0 w (w3.alloc (.cells #[.pointer (some ⟨bb,0,none⟩),.pointer (some ⟨bd,0,none⟩)] 50))):=hUp
  clear hO2 HM2 hPb hG3 hX1 hX2 hmb hfb hdb hUp hbb hbd HPA HAB hpa3 hpa hBa
  go_wp2_with fail
  go_loopw [15] (fun iv wr=>UpL B fs w1.heap.size w3.heap.size ops.length w iv wr) (fun iv _=>ops.length - (intOf iv).toNat)
  case atStart=>exact ⟨0,rfl,by omega,HUP.out⟩
  case round =>
   obtain ⟨j,rfl,hj,hU⟩:=hrel.ex
   clear hrel
   by_cases hjl:j<ops.length
   ·have hjI:(j:Int)<(ops.length:Int):=by omega
    obtain rfl:=hsa (by omega)
    have hSr:=hS.below hU.b
    have hcell:=hSr.c j hjl
    have hmem:=List.getElem_mem hjl
    obtain ⟨p,hpp⟩:∃ p,ops[j]=p:=⟨_,rfl⟩
    rw [hpp] at hcell hmem
    clear hpp hSr
    have k0:=hcell 0 (.int .i64 p.k) rfl
    have k1:=hcell 1 (.int .i64 p.wi) rfl
    have k2:=hcell 2 (.int .i64 p.id) rfl
    have k3:=hcell 3 (.slice p.ta p.tx.length p.tc) rfl
    have k4:=hcell 4 (.string p.qs) rfl
    have k5:=hcell 5 (.string p.fl) rfl
    have k6:=hcell 6 (.int .i64 p.sz) rfl
    have k7:=hcell 7 (.int .i64 p.ct) rfl
    rw [Nat.add_zero] at k0
    clear hcell
    by_cases hk:2<p.k
    ·have HN:Hid (∀ w2,Below wr.heap.size wr w2→UpL B fs w1.heap.size w3.heap.size ops.length w (.int .i64 ((j+1:Nat):Int)) w2):=fun w2 h2=>⟨j+1,rfl,by omega,(hU.below h2).mono (by omega)⟩
     clear hU
     go_wp2_with fail
     exact ⟨HN.out _ ((Below.refl _ wr).alloc (Nat.le_refl _) _),by simp [intOf];omega⟩
    ·have hwa:Below wr.heap.size wr (wr.alloc (.cells p.cs 69)):=(Below.refl _ wr).alloc (Nat.le_refl _) _
     have hUa:=hU.below hwa
     have HSA:Hid (Calls Tryz.prog 43 #[.pointer (some ⟨w1.heap.size,0,none⟩),.slice a fs.length cap,.agg p.cs] (wr.alloc (.cells p.cs 69)) fun e w'=>e=.returned (.bool true)∧Up B fs w1.heap.size w3.heap.size (900*j+900) w w'∧(∀ (k:Nat) (cs:Array Value),Blk k 69 cs (wr.alloc (.cells p.cs 69))→Blk k 69 cs w')):=hUa.step (.slice a fs.length cap) hS hmem (by omega) (by omega)
     have HSB:Hid (Calls Tryz.prog 43 #[.pointer (some ⟨w3.heap.size,0,none⟩),.slice a fs.length cap,.agg p.cs] (wr.alloc (.cells p.cs 69)) fun e w'=>e=.returned (.bool true)∧Up B fs w3.heap.size w1.heap.size (900*j+900) w w'∧(∀ (k:Nat) (cs:Array Value),Blk k 69 cs (wr.alloc (.cells p.cs 69))→Blk k 69 cs w')):=hUa.swap.step (.slice a fs.length cap) hS hmem (by omega) (by omega)
     rw [Opd.cs] at HSA HSB
     clear hU hUa hwa
     go_wp2_with fail
     ·refine HSA.out.mono ?_
      rintro e w4 ⟨rfl,hU4,_⟩
      have HN:Hid (UpL B fs w1.heap.size w3.heap.size ops.length w (.int .i64 ((j+1:Nat):Int)) w4):=⟨j+1,rfl,by omega,hU4⟩
      clear hU4 HSA HSB
      go_wp2_with fail
      exact ⟨HN.out,by simp [intOf];omega⟩
     ·refine HSB.out.mono ?_
      rintro e w4 ⟨rfl,hU4,_⟩
      have HN:Hid (UpL B fs w1.heap.size w3.heap.size ops.length w (.int .i64 ((j+1:Nat):Int)) w4):=⟨j+1,rfl,by omega,hU4.swap⟩
      clear hU4 HSA HSB
      go_wp2_with fail
      exact ⟨HN.out,by simp [intOf];omega⟩
   ·have hjI:¬ (j:Int)<(ops.length:Int):=by omega
    have hfin:Below w.heap.size w wr:=by rw [← hB];exact hU.b
    clear hU
    go_wp2_with fail
    go_ret
    exact ⟨rfl,hfin⟩
set_option maxRecDepth 100000 in
theorem puts_all (a:Option Addr) (g o cap:Nat) (fs:List (ByteArray × ByteArray)) (sa:Option Addr) (gs os sc:Nat) (ops:List Opd) (w:World) (hw:0<w.heap.size) (HEN:Hid (Ends w)) (hF:FsA g o fs w) (ha:0<fs.length→a=some ⟨g,o,none⟩) (hg:0<fs.length→g<w.heap.size) (hl:fs.length≤4398046510976) (HSZ:Hid (∀ f∈fs,f.1.size≤9223372036854775807)) (hS:Scr w.heap.size gs os ops w) (hsa:0<ops.length→sa=some ⟨gs,os,none⟩) (hol:ops.length≤4398046511104) :
  Calls Tryz.prog 6 #[.slice a fs.length cap,.slice sa ops.length sc] w fun e w'=>e=.returned (.bool true)∧Below w.heap.size w w':=by
 have HUP:Hid (Calls Tryz.prog 20 #[.slice a fs.length cap,.slice sa ops.length sc,.int .i64 1,.int .i64 2,.int .i64 2] w fun e w'=>e=.returned (.int .i64 (-1))∧Below w.heap.size w w'):=upto_any w.heap.size a g o cap fs sa gs os sc ops w hw rfl HEN hF ha hg hl HSZ hS hsa hol
 clear hF ha hg hS hsa
 go_enter Tryz.func6,Tryz.ntmps6
 go_wp2_with fail
 refine HUP.out.mono ?_
 rintro e w1 ⟨rfl,hB⟩
 go_wp2_with fail
 go_ret
 exact ⟨rfl,hB⟩
end Go.Proofs.YtcmgclckknpecaaGreatDoor
namespace Go.Proofs.YtcmgclckknpecaaGreatDoor
open Go.RowKit Go.Deep
theorem add_none (g o k:Nat):((⟨g,o,none⟩:Addr).add k)=⟨g,o+k,none⟩:=by
 unfold Addr.add
 split
 ·simp_all
 ·rfl
theorem add_block (a:Addr) (k:Nat):(a.add k).block=a.block:=by
 unfold Addr.add
 split <;> rfl
theorem cell_lt {w:World} {a:Addr} {v:Value} (h:w.cell? a=some v):a.block<w.heap.size∧a.spot=none:=by
 unfold World.cell? at h
 split at h
 ·rename_i c t f e
  split at h
  ·cases h
  ·rename_i hs
   exact ⟨(Array.getElem?_eq_some_iff.1 e).1,by simpa using hs⟩
 ·cases h
theorem addr_eta {a:Addr} (h:a.spot=none):a=⟨a.block,a.off,none⟩:=by
 cases a
 simp at h
 rw [h]
def strOf:Value→ByteArray
 | .string s=>s
 | _=>⟨#[]⟩
variable {H : Type} {enc : TypeId × Value → H} {W : World}
theorem bytes74:Tryz.prog.bytesOf 74=32:=by kernel_rfl
theorem bytes69:Tryz.prog.bytesOf 69=96:=by kernel_rfl
theorem cells74:Tryz.prog.cellsOf 74=2:=by kernel_rfl
theorem cells69:Tryz.prog.cellsOf 69=8:=by kernel_rfl
theorem cells9:Tryz.prog.cellsOf 9=1:=by kernel_rfl
theorem cells3:Tryz.prog.cellsOf 3=1:=by kernel_rfl
theorem cells63:Tryz.prog.cellsOf 63=1:=by kernel_rfl
theorem open_fields {fuel:Nat} {cs:List Value} {x:DataW H × List MemPlace} (h:DataW.trod enc Tryz.prog W 0 (fun _=>true) true fuel 43 cs=some x) (hz:∀ n∈x.1.weights Tryz.prog 43,n≤reachBytes) :
  ∃ (a:Option Addr) (g o cap:Nat) (fs:List (ByteArray × ByteArray)),cs=[.slice a fs.length cap]∧FsA g o fs W∧(0<fs.length→a=some ⟨g,o,none⟩)∧(0<fs.length→g<W.heap.size)∧fs.length≤4398046510976∧∀ f∈fs,f.1.size≤9223372036854775807:=by
 rcases open_slice_pairs Tryz.underlying43 Tryz.underlying74 cells74 rfl rfl cells9 cells9 h with ⟨rfl,_⟩ | ⟨a,len,cap,m,n,V0,V1,D0,D1,P0,P1,rfl,_,hl,_,hm,rfl,hx⟩
 ·exact ⟨none,0,0,0,[],rfl,⟨fun i hi=>by simp at hi⟩,by simp,by simp,by simp,by simp⟩
 ·have hml:len≤m:=by rw [hm];simp;omega
  have hw:len*32≤reachBytes:=by
   have:=hz ((((List.range len).map fun i=>(DataW.agg [D0 i,D1 i]:DataW H)).length+((List.range (m - len)).map fun j=>(DataW.agg [D0 (len+j),D1 (len+j)]:DataW H)).length)*32) (by simp [DataW.weights,Tryz.underlying43,bytes74])
   simp at this
   omega
  have str:∀ i,i<len→V0 i=.string (strOf (V0 i))∧V1 i=.string (strOf (V1 i))∧(strOf (V0 i)).size≤maxLen:=fun i hi=>by
   obtain ⟨_,_,h3,h4⟩:=hx i (by omega)
   obtain ⟨s,e1,_,e3⟩:=DataW.trod_string Tryz.underlying9 h3
   obtain ⟨t,f1,_,_⟩:=DataW.trod_string Tryz.underlying9 h4
   simp only [List.cons.injEq,and_true] at e1 f1
   rw [e1,f1]
   exact ⟨rfl,rfl,e3⟩
  have hsp:0<len→a.block<W.heap.size∧a=⟨a.block,a.off,none⟩:=fun h0=>by
   obtain ⟨h1,_⟩:=hx 0 (by omega)
   have:a.add (0*2)=a:=by simp [Addr.add]
   rw [this] at h1
   exact ⟨(cell_lt h1).1,addr_eta (cell_lt h1).2⟩
  refine ⟨some a,a.block,a.off,cap,(List.range len).map fun i=>(strOf (V0 i),strOf (V1 i)),by simp,⟨fun i hi=>?_⟩,fun h=>?_,fun h=>?_,?_,fun f hf=>?_⟩
  ·have hi':i<len:=by simpa using hi
   obtain ⟨h1,h2,_⟩:=hx i (by omega)
   obtain ⟨e1,e2,_⟩:=str i hi'
   have hae:=(hsp (by omega)).2
   rw [hae,add_none,e1] at h1
   rw [hae,add_none,e2,← Nat.add_assoc] at h2
   simp only [List.getElem_map,List.getElem_range]
   exact ⟨h1,h2⟩
  ·rw [(hsp (by simpa using h)).2]
  ·exact (hsp (by simpa using h)).1
  ·have:reachBytes=140737488351232:=rfl
   simp
   omega
  ·obtain ⟨i,hi,rfl⟩:=List.mem_map.1 hf
   have:=(str i (by simpa using hi)).2.2
   unfold maxLen at this
   exact this
set_option maxRecDepth 100000 in
theorem open_op {fuel:Nat} {cs:List Value} {x:DataW H × List MemPlace} (h:DataW.trod enc Tryz.prog W 0 (fun _=>true) true fuel 69 cs=some x) :
  ∃ p:Opd,cs=p.cs.toList∧(Lit.int .i64 p.id).wf=true∧(0<p.tx.length→p.ta=some p.ga)∧(0<p.tx.length→∀ j,(p.ga.add j).block<W.heap.size)∧p.tx.length≤9223372036854775807∧TxA p.ga p.tx W:=by
 obtain ⟨xs,k,_,_,hlen,hxl,hf⟩:=DataW.trod_struct Tryz.underlying69 h
 rw [cells69] at hlen
 have hxl':xs.length=8:=hxl
 match cs,hlen with
 | [c0,c1,c2,c3,c4,c5,c6,c7],_ =>
  match xs,hxl' with
  | [x0,x1,x2,x3,x4,x5,x6,x7],_ =>
   have g0:=hf 0 _ rfl
   have g1:=hf 1 _ rfl
   have g2:=hf 2 _ rfl
   have g3:=hf 3 _ rfl
   have g4:=hf 4 _ rfl
   have g5:=hf 5 _ rfl
   have g6:=hf 6 _ rfl
   have g7:=hf 7 _ rfl
   simp [cells3,cells9,cells63] at g0 g1 g2 g3 g4 g5 g6 g7
   obtain ⟨k0,e0,_,_⟩:=DataW.trod_int Tryz.underlying3 g0
   obtain ⟨k1,e1,_,_⟩:=DataW.trod_int Tryz.underlying3 g1
   obtain ⟨k2,e2,_,w2⟩:=DataW.trod_int Tryz.underlying3 g2
   obtain ⟨s4,e4,_,_⟩:=DataW.trod_string Tryz.underlying9 g4
   obtain ⟨s5,e5,_,_⟩:=DataW.trod_string Tryz.underlying9 g5
   obtain ⟨k6,e6,_,_⟩:=DataW.trod_int Tryz.underlying3 g6
   obtain ⟨k7,e7,_,_⟩:=DataW.trod_int Tryz.underlying3 g7
   simp only [List.cons.injEq,and_true] at e0 e1 e2 e4 e5 e6 e7
   subst e0 e1 e2 e4 e5 e6 e7
   rcases open_strs Tryz.underlying63 Tryz.underlying9 cells9 g3 with ⟨e3,_⟩ | ⟨a,len,cap,m,Sx,e3,_,hl,hc,hm,_,hx⟩
   ·simp only [List.cons.injEq,and_true] at e3
    subst e3
    exact ⟨⟨k0,k1,k2,none,⟨0,0,none⟩,0,[],s4,s5,k6,k7⟩,rfl,w2,by simp,by simp,by simp,⟨fun i hi=>by simp at hi⟩⟩
   ·simp only [List.cons.injEq,and_true] at e3
    subst e3
    have hml:len≤m:=by rw [hm];simp;omega
    refine ⟨⟨k0,k1,k2,some a,a,cap,(List.range len).map Sx,s4,s5,k6,k7⟩,by simp [Opd.cs],w2,fun _=>rfl,fun h0 j=>?_,?_,⟨fun i hi=>?_⟩⟩
    ·have h0':0<len:=by simpa using h0
     have:=(hx 0 (by omega)).1
     have h2:=(cell_lt this).1
     rw [add_block] at h2 ⊢
     exact h2
    ·show ((List.range len).map Sx).length≤_
     simp
     unfold maxLen at hc
     omega
    ·have hi':i<len:=by simpa using hi
     show W.cell? (a.add i)=some (.string (((List.range len).map Sx)[i]))
     simp only [List.getElem_map,List.getElem_range]
     exact (hx i (by omega)).1
theorem open_script {fuel:Nat} {cs:List Value} {x:DataW H × List MemPlace} (h:DataW.trod enc Tryz.prog W 0 (fun _=>true) true fuel 44 cs=some x) (hz:∀ n∈x.1.weights Tryz.prog 44,n≤reachBytes) :
  ∃ (a:Option Addr) (g o cap:Nat) (ops:List Opd),cs=[.slice a ops.length cap]∧Scr W.heap.size g o ops W∧(0<ops.length→a=some ⟨g,o,none⟩)∧ops.length≤4398046511104:=by
 rcases open_slice Tryz.underlying44 h with ⟨rfl,_⟩ | ⟨a,len,cap,m,n,D,Pl,rfl,_,hl,_,hm,rfl,hx⟩
 ·exact ⟨none,0,0,0,[],rfl,⟨fun i hi=>by simp at hi,by simp,by simp⟩,by simp,by simp⟩
 ·have hml:len≤m:=by rw [hm];simp;omega
  have hw:len*96≤reachBytes:=by
   have:=hz ((((List.range len).map D).length+((List.range (m - len)).map fun j=>D (len+j)).length)*96) (by simp [DataW.weights,Tryz.underlying44,bytes69])
   simp at this
   omega
  rw [cells69] at hx
  have each:∀ i,∃ p:Opd,i<len→(∀ j v,p.cs[j]?=some v→W.cell? (a.add (i*8+j))=some v)∧(Lit.int .i64 p.id).wf=true∧(0<p.tx.length→p.ta=some p.ga)∧(0<p.tx.length→∀ j,(p.ga.add j).block<W.heap.size)∧p.tx.length≤9223372036854775807∧TxA p.ga p.tx W:=fun i=>by
   by_cases hi:i<len
   ·obtain ⟨cs',h1,h2⟩:=hx i (by omega)
    obtain ⟨_,hlen,hcell⟩:=World.cells?_some h1
    obtain ⟨p,rfl,r⟩:=open_op h2
    refine ⟨p,fun _=>⟨fun j v e=>?_,r⟩⟩
    have hj:j<8:=(Array.getElem?_eq_some_iff.1 e).1
    have h3:=hcell j hj
    rw [add_add] at h3
    rw [h3]
    simpa using e
   ·exact ⟨⟨0,0,0,none,⟨0,0,none⟩,0,[],⟨#[]⟩,⟨#[]⟩,0,0⟩,fun h=>absurd h hi⟩
  let q:=fun i=>Classical.choose (each i)
  have hq:∀ i,i<len→(∀ j v,(q i).cs[j]?=some v→W.cell? (a.add (i*8+j))=some v)∧(Lit.int .i64 (q i).id).wf=true∧(0<(q i).tx.length→(q i).ta=some (q i).ga)∧(0<(q i).tx.length→∀ j,((q i).ga.add j).block<W.heap.size)∧(q i).tx.length≤9223372036854775807∧TxA (q i).ga (q i).tx W:=fun i hi=>Classical.choose_spec (each i) hi
  have hsp:0<len→a.block<W.heap.size∧a=⟨a.block,a.off,none⟩:=fun h0=>by
   have h1:=(hq 0 h0).1 0 _ rfl
   have:a.add (0*8+0)=a:=by simp [Addr.add]
   rw [this] at h1
   exact ⟨(cell_lt h1).1,addr_eta (cell_lt h1).2⟩
  refine ⟨some a,a.block,a.off,cap,(List.range len).map q,by simp,⟨fun i hi j v e=>?_,fun h=>(hsp (by simpa using h)).1,fun p hp=>?_⟩,fun h=>?_,?_⟩
  ·have hi':i<len:=by simpa using hi
   simp only [List.getElem_map,List.getElem_range] at e
   have h1:=(hq i hi').1 j v e
   rw [(hsp (by omega)).2,add_none,← Nat.add_assoc] at h1
   exact h1
  ·obtain ⟨i,hi,rfl⟩:=List.mem_map.1 hp
   exact (hq i (by simpa using hi)).2
  ·rw [(hsp (by simpa using h)).2]
  ·have:reachBytes=140737488351232:=rfl
   simp
   omega
end Go.Proofs.YtcmgclckknpecaaGreatDoor
