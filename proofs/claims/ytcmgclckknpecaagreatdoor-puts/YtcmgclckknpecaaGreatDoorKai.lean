import Derived.Test.YtcmgclckknpecaaGreatDoorKab
import Derived.Test.YtcmgclckknpecaaGreatDoorKah
import Derived.BigCall
import Derived.Deep.RegionHeld3
import Derived.Deep.AppendLies
import Derived.RangeFuncCalls
import Derived.OrdersIn
namespace Go.Proofs.YtcmgclckknpecaaGreatDoor
open Go.RowKit Go.Shelf
attribute [local go_sem] Oper.semAt_some
abbrev Pce (n:Nat):={ p:Nat × Nat // 1≤p.2∧p.1+p.2≤n }
def Pl.cutS (n:Nat) (zf:Nat→Nat) (hz:∀ i,i<n→i+zf i≤n):Nat→Nat→List (Pce n)
 | 0,_=>[]
 | m+1,i=>if h:i<n then (if h0:zf i=0 then Pl.cutS n zf hz m (i+1) else ⟨(i,zf i),by simp only;omega,hz i h⟩ :: Pl.cutS n zf hz m (i+zf i)) else []
theorem Pl.cutS_pass {n:Nat} {zf:Nat→Nat} {hz:∀ i,i<n→i+zf i≤n} {m i:Nat} (h:i<n) (hm:n≤i+m) (h0:zf i=0):∃ m',n≤i+1+m'∧Pl.cutS n zf hz m i=Pl.cutS n zf hz m' (i+1):=by
 obtain ⟨m',rfl⟩:∃ m',m=m'+1:=⟨m - 1,by omega⟩
 exact ⟨m',by omega,by rw [Pl.cutS,dif_pos h,dif_pos h0]⟩
theorem Pl.cutS_cons {n:Nat} {zf:Nat→Nat} {hz:∀ i,i<n→i+zf i≤n} {m i:Nat} (h:i<n) (hm:n≤i+m) (h0:zf i≠0):∃ (m':Nat) (x:Pce n),x.1=(i,zf i)∧n≤i+zf i+m'∧Pl.cutS n zf hz m i=x :: Pl.cutS n zf hz m' (i+zf i):=by
 obtain ⟨m',rfl⟩:∃ m',m=m'+1:=⟨m - 1,by omega⟩
 have hp:1≤zf i∧i+zf i≤n:=⟨by omega,hz i h⟩
 exact ⟨m',⟨(i,zf i),hp⟩,rfl,by omega,by rw [Pl.cutS,dif_pos h,dif_neg h0]⟩
theorem Pl.cutS_nil {n:Nat} {zf:Nat→Nat} {hz:∀ i,i<n→i+zf i≤n} {m i:Nat} (h:¬ i<n):Pl.cutS n zf hz m i=[]:=by
 cases m with
 | zero=>rfl
 | succ m=>rw [Pl.cutS,dif_neg h]
theorem Cr.below {g o n0:Nat} {xs:List (Nat × Nat × Nat)} {w w':World} (h:Cr g o xs w) (hb:Below n0 w w') (hg:0<xs.length→g<n0):Cr g o xs w' :=
 ⟨fun i hi=>by
  have hg':=hg (by omega)
  have k:∀ j,w'.cell? ⟨g,j,none⟩=w.cell? ⟨g,j,none⟩:=fun j=>hb.cell (p:=⟨g,j,none⟩) hg'
  rw [k,k,k];exact h.c i hi⟩
structure KeepB (n0 Bc:Nat) (W W':World):Prop where
 size:W.heap.size≤W'.heap.size
 block:∀ k,k<n0∨k=Bc→W'.heap[k]?=W.heap[k]?
theorem KeepB.trans {n0 Bc:Nat} {A B C:World} (h:KeepB n0 Bc A B) (k:KeepB n0 Bc B C):KeepB n0 Bc A C:=⟨Nat.le_trans h.size k.size,fun i hi=>(k.block i hi).trans (h.block i hi)⟩
theorem KeepB.cell {n0 Bc:Nat} {W W':World} (h:KeepB n0 Bc W W') {b:Nat} (hb:b<n0∨b=Bc) (o:Nat):W'.cell? ⟨b,o,none⟩=W.cell? ⟨b,o,none⟩:=by simp [World.cell?,h.block b hb]
theorem keepB_put {n0 Bc:Nat} {w:World} (h1:n0≤w.heap.size) (h2:Bc<w.heap.size) (W:World) (l:Nat) (o o':Obj) (hl:w.heap.size≤l) (_:W.heap[l]?=some o) (_:o.isCells=false) (_:o.isWalk=false):KeepB n0 Bc W (W.putObj l o') :=
 ⟨by simp,fun k hk=>World.putObj_heap_other (by omega)⟩
theorem Cr.keepB {g o n0 Bc:Nat} {xs:List (Nat × Nat × Nat)} {w w':World} (h:Cr g o xs w) (hb:KeepB n0 Bc w w') (hg:0<xs.length→g<n0):Cr g o xs w' :=
 ⟨fun i hi=>by
  have hg':=hg (by omega)
  rw [hb.cell (.inl hg'),hb.cell (.inl hg'),hb.cell (.inl hg')];exact h.c i hi⟩
def encp (g o cap:Nat) {n:Nat} (x:Pce n):Array Value:=#[.slice (some ⟨g,o+x.1.1*3,none⟩) x.1.2 (cap - x.1.1)]
set_option maxRecDepth 100000 in
set_option maxHeartbeats 1000000 in
theorem rows160_in (F0:Nat) (eF:∀ args w,(callFunc F0 args).run Tryz.prog w=.ok (.enter F0 args) w) (n:Nat) (hn:1≤n) (l Bc Bs n0 g o cap:Nat) (cs:List (Nat × Nat × Nat)) (hl:cs.length≤268435456) (hcap:cs.length≤cap) (a:Option Addr) (ha:0<cs.length→a=some ⟨g,o,none⟩) (hg:0<cs.length→g<n0)
  (zf:Nat→Nat) (hz:∀ i,i<cs.length→i+zf i≤cs.length) (HF:Hid (∀ k w,Cr g o cs w→k<cs.length→Calls Tryz.prog F0 #[.slice (some ⟨g,o,none⟩) cs.length cap,.int .i64 (k:Int)] w fun e w'=>e=.returned (.int .i64 ((zf k:Nat):Int))∧w'=w))
  (xs:List (Pce cs.length)) (HXS:Hid (Pl.cutS cs.length zf hz cs.length 0=xs)) (J Jx:List (Pce cs.length)→World→Prop)
  (W:World) (hBs:Bs<n0) (_hJ:AbidesFrom W.heap.size J)
  (hY:∀ pre x W,J pre W→pre.length<xs.length→YieldAt Fence.wide (n - 1) Tryz.prog l (encp g o cap x) W fun e W' =>
   (e=.returned (.bool true)∧J (pre++[x]) W'∧KeepB n0 Bc W W')∨(e=.returned (.bool false)∧Jx (pre++[x]) W'))
  (hc:W.cell? ⟨Bc,0,none⟩=some (.slice a cs.length cap)) (hs:W.cell? ⟨Bs,0,none⟩=some (.func (.func F0) #[] #[])) (hCr:Cr g o cs W) (hn0:n0≤W.heap.size) (h0:J [] W) :
  CallsIn Fence.wide n Tryz.prog 297 #[.func (.yield l) #[] #[],.pointer (some ⟨Bc,0,none⟩),.pointer (some ⟨Bs,0,none⟩)] W fun e W'=>(∃ v,e=.returned v) ∧
   ((∃ ys,ys=xs∧J ys W')∨(∃ pre,pre <+: xs∧Jx pre W')):=by
 refine callsIn_of_wp Tryz.func297 rfl trivial ?_ rfl
 simp only [Tryz.ntmps297,List.size_toArray,List.length_cons,List.length_nil,Nat.reduceAdd,Nat.reduceSub,Array.replicate_succ,Array.replicate_zero,List.push_toArray,List.append_toArray,List.nil_append,List.cons_append]
 gi_wp2
 gi_loopw [4] (fun b wr=>∃ (k m:Nat) (pre:List (Pce cs.length)),b=.int .i64 k∧k≤cs.length∧cs.length≤k+m∧Hid (pre++Pl.cutS cs.length zf hz m k=xs)∧wr.cell? ⟨Bc,0,none⟩=some (.slice a cs.length cap)∧wr.cell? ⟨Bs,0,none⟩=some (.func (.func F0) #[] #[])∧Cr g o cs wr∧n0≤wr.heap.size∧J pre wr) (fun b _=>cs.length - (intOf b).toNat)
 case atStart=>exact ⟨0,cs.length,[],rfl,by omega,by omega,HXS,hc,hs,hCr,hn0,h0⟩
 case round =>
  obtain ⟨k,m,pre,rfl,hk,hkm,HX,hcr,hsr,hCrr,hnr,hJr⟩:=hrel
  by_cases hlt:k<cs.length
  ·have hlt':(k:Int)<(cs.length:Int):=by omega
   obtain rfl:=ha (by omega)
   have hg':=hg (by omega)
   have hzk:=hz k hlt
   have hfk:=fun w h=>HF.out k w h hlt
   by_cases h0k:zf k=0
   ·obtain ⟨m',hm',hcs⟩:=Pl.cutS_pass (hz:=hz) hlt hkm h0k
    have HX2:Hid (pre++Pl.cutS cs.length zf hz m' (k+1)=xs):=by
     have:=HX.out;rw [hcs] at this;exact this
    rw [h0k] at hfk
    have HFI:Hid (∀ w,Cr g o cs w→Calls Tryz.prog F0 #[.slice (some ⟨g,o,none⟩) cs.length cap,.int .i64 (k:Int)] w fun e w'=>e=.returned (.int .i64 ((0:Nat):Int))∧w'=w):=hfk
    clear hfk hcs HX
    gi_wp2_with fail
    refine ⟨trivial,?_⟩
    refine (callsIn_wide.2 (HFI.out _ hCrr)).mono ?_
    rintro e w2 ⟨rfl,rfl⟩
    gi_wp2
    go_roundw
    case rel=>exact ⟨k+1,m',pre,by go_num,by omega,hm',HX2,hcr,hsr,hCrr,hnr,hJr⟩
    case measure=>simp [intOf];omega
   ·obtain ⟨m',x,hx1,hm',hcs⟩:=Pl.cutS_cons (hz:=hz) hlt hkm h0k
    obtain ⟨z,hzz⟩:∃ z,zf k=z:=⟨_,rfl⟩
    rw [hzz] at hfk hzk hm' hcs h0k hx1
    have HX2:Hid ((pre++[x])++Pl.cutS cs.length zf hz m' (k+z)=xs):=by
     have:=HX.out;rw [hcs] at this;show _=_;rw [← this];simp
    have hpl:pre.length<xs.length:=by
     have:=congrArg List.length HX2.out;simp at this;omega
    have HFI:Hid (∀ w,Cr g o cs w→Calls Tryz.prog F0 #[.slice (some ⟨g,o,none⟩) cs.length cap,.int .i64 (k:Int)] w fun e w'=>e=.returned (.int .i64 (z:Int))∧w'=w):=hfk
    have hzq:((z:Int) == 0)=false:=by simp;omega
    obtain ⟨fn,tmps,assign,body,hy,hR⟩:=hY pre x wr hJr hpl
    simp only [encp,hx1] at hy
    clear hfk hcs HX hx1 hzz
    gi_wp2_with fail
    refine ⟨trivial,?_⟩
    refine (callsIn_wide.2 (HFI.out _ hCrr)).mono ?_
    rintro e w2 ⟨rfl,rfl⟩
    gi_wp2
    refine hR.mono ?_
    rintro e W3 (⟨rfl,hJ3,hk3⟩ | ⟨rfl,hJx3⟩)
    ·have hc3:W3.cell? ⟨Bc,0,none⟩=some (.slice (some ⟨g,o,none⟩) cs.length cap):=(hk3.cell (.inr rfl) 0).trans hcr
     have hs3:W3.cell? ⟨Bs,0,none⟩=some (.func (.func F0) #[] #[]):=(hk3.cell (.inl hBs) 0).trans hsr
     have hC3:=hCrr.keepB hk3 hg
     gi_wp2
     go_roundw
     case rel=>exact ⟨k+z,m',pre++[x],by go_num,by omega,hm',HX2,hc3,hs3,hC3,by have:=hk3.size;omega,hJ3⟩
     case measure=>simp [intOf];omega
    ·gi_wp2
     refine bodyPost_ret (results_none rfl _ _ _) rfl ?_
     exact ⟨⟨_,rfl⟩,.inr ⟨pre++[x],⟨_,HX2.out⟩,hJx3⟩⟩
  ·have hx:pre=xs:=by have:=HX.out;rw [Pl.cutS_nil hlt] at this;simpa using this
   have hlt':¬ (k:Int)<(cs.length:Int):=by omega
   gi_wp2
   go_end0
   refine ⟨⟨_,rfl⟩,.inl ?_⟩
   first | exact ⟨pre,hx,hJr⟩ | (rw [← hx];exact hJr)
theorem rows160_stops (F0:Nat) (eF:∀ args w,(callFunc F0 args).run Tryz.prog w=.ok (.enter F0 args) w) (n:Nat) (hn:1≤n) (Bc Bs n0 g o cap:Nat) (cs:List (Nat × Nat × Nat)) (hl:cs.length≤268435456) (hcap:cs.length≤cap) (a:Option Addr) (ha:0<cs.length→a=some ⟨g,o,none⟩) (hg:0<cs.length→g<n0)
  (zf:Nat→Nat) (hz:∀ i,i<cs.length→i+zf i≤cs.length) (HF:Hid (∀ k w,Cr g o cs w→k<cs.length→Calls Tryz.prog F0 #[.slice (some ⟨g,o,none⟩) cs.length cap,.int .i64 (k:Int)] w fun e w'=>e=.returned (.int .i64 ((zf k:Nat):Int))∧w'=w))
  (xs:List (Pce cs.length)) (HXS:Hid (Pl.cutS cs.length zf hz cs.length 0=xs)) (w:World) (hBc:Bc<w.heap.size) (hBs:Bs<n0) (hn0:n0≤w.heap.size)
  (hc:w.cell? ⟨Bc,0,none⟩=some (.slice a cs.length cap)) (hs:w.cell? ⟨Bs,0,none⟩=some (.func (.func F0) #[] #[])) (hCr:Cr g o cs w) :
  SeqStopsK Fence.wide n Tryz.prog 297 #[.pointer (some ⟨Bc,0,none⟩),.pointer (some ⟨Bs,0,none⟩)] (encp g o cap) (KeepB n0 Bc) (fun ys=>ys=xs) (fun pre=>pre <+: xs) xs.length w:=fun l J Jx W hW hJ _ hY h0 =>
 rows160_in F0 eF n hn l Bc Bs n0 g o cap cs hl hcap a ha hg zf hz HF xs HXS J Jx W hBs hJ hY ((hW.cell (p:=⟨Bc,0,none⟩) (by show Bc<_;omega)).trans hc) ((hW.cell (p:=⟨Bs,0,none⟩) (by show Bs<_;omega)).trans hs) (hCr.below hW (fun h=>by have:=hg h;omega)) (by have:=hW.size;omega) h0
end Go.Proofs.YtcmgclckknpecaaGreatDoor
namespace Go.Proofs.YtcmgclckknpecaaGreatDoor
open Go.RowKit Go.Shelf
def Pl.tbs (cs:List (Nat × Nat × Nat)):List UInt8:=cs.flatMap fun x=>Lib.encodeRune (x.1:Int)
theorem Pl.tbs_le:∀ cs:List (Nat × Nat × Nat),(Pl.tbs cs).length≤4*cs.length
 | []=>by simp [Pl.tbs]
 | x :: r=>by
  have:=Pl.tbs_le r
  have h4:=Lib.runeCells_le (x.1:Int)
  rw [Lib.runeCells_length] at h4
  simp only [Pl.tbs,List.flatMap_cons,List.length_append,List.length_cons] at this ⊢
  omega
theorem Pl.tbs_snoc (cs:List (Nat × Nat × Nat)) (x:Nat × Nat × Nat):Pl.tbs (cs++[x])=Pl.tbs cs++Lib.encodeRune (x.1:Int):=by simp [Pl.tbs]
set_option maxHeartbeats 4000000 in
set_option maxRecDepth 1000000 in
theorem termOf_any (g o cap:Nat) (cs:List (Nat × Nat × Nat)) (w:World) (hC:Cr g o cs w) (hg:g<w.heap.size) (hl:cs.length≤268435456) (hcd:∀ k,Pl.cdx cs k≤67108863) :
  Calls Tryz.prog 130 #[.slice (some ⟨g,o,none⟩) cs.length cap] w fun e w'=>e=.returned (.string ⟨(Pl.tbs cs).toArray⟩)∧Below w.heap.size w w':=by
 go_enter Tryz.func130,Tryz.ntmps130
 go_wp2
 go_loopw [8] (fun i wr=>∃ k:Nat,i=.int .i64 (k:Int)∧k≤cs.length∧Lib.IsBuilderF 166 5 w.heap.size w.heap.size (Lib.byteCells (Pl.tbs (cs.take k))) wr∧Below w.heap.size w wr) (fun i _=>cs.length - (intOf i).toNat)
 case atStart=>exact ⟨0,rfl,by omega,Lib.IsBuilderF.of (Lib.fresh_isBuilder 166 5 w),(Below.refl _ w).alloc (Nat.le_refl _) _⟩
 case round =>
  obtain ⟨k,rfl,hk,hI,hB⟩:=hrel
  by_cases hkl:k<cs.length
  ·have hkI:(k:Int)<(cs.length:Int):=by omega
   have hCr:=hC.below hB (fun _=>hg)
   obtain ⟨c0,c1,c2⟩:=hCr.c k hkl
   have hck:=hcd k
   rw [Pl.cdx_eq hkl] at hck
   have htk:Pl.tbs (cs.take (k+1))=Pl.tbs (cs.take k)++Lib.encodeRune ((cs[k]).1:Int):=by rw [List.take_succ_eq_append_getElem hkl,Pl.tbs_snoc]
   have hle:=Pl.tbs_le (cs.take k)
   have hle2:(cs.take k).length≤268435456:=by simp;omega
   obtain ⟨x,hx⟩:∃ x,cs[k]=x:=⟨_,rfl⟩
   rw [hx] at c0 c1 c2 hck htk
   obtain ⟨acc,hacc⟩:∃ acc,Pl.tbs (cs.take k)=acc:=⟨_,rfl⟩
   rw [hacc] at hI hle htk
   have HTK:Hid (Pl.tbs (cs.take (k+1))=acc++Lib.encodeRune (x.1:Int)):=htk
   have hsz:=hB.size
   clear htk hacc hx
   go_wp2_with (go_at_call 219;refine (writeRune_any w.heap.size w.heap.size _ (x.1:Int) (by omega) (by omega) _ (hI.alloc (.cells #[.int .i64 (x.1:Int),.int .i64 (x.2.1:Int),.int .i64 (x.2.2:Int)] 38)) (by rw [Lib.byteCells_length];omega) (by simp;omega)).mono ?_)
   rintro e W1 ⟨rfl,h1,b1,k1⟩
   go_wp2
   refine ⟨⟨k+1,by go_num,by omega,?_,(hB.alloc hsz _).trans b1⟩,by simp [intOf];omega⟩
   rw [HTK.out,Lib.byteCells_append,Lib.byteCells_encodeRune]
   exact Or.inr h1
  ·have hkI:¬ (k:Int)<(cs.length:Int):=by omega
   have htk:cs.take k=cs:=List.take_of_length_le (by omega)
   rw [htk] at hI
   go_wp2_with (go_at_call 59;refine (string_any w.heap.size w.heap.size _ _ hI hB.size).mono ?_;rintro e W1 ⟨rfl,h1,b1,k1⟩)
   go_ret
   exact ⟨rfl,hB.trans b1⟩
end Go.Proofs.YtcmgclckknpecaaGreatDoor
namespace Go.Proofs.YtcmgclckknpecaaGreatDoor
open Go.RowKit Go.Shelf
attribute [local go_sem] Oper.semAt_some
theorem info27':(Tryz.prog.info? 38).map (fun i=>(i.zero,i.size,i.bytes))=some (some (.agg #[.int .i64 0,.int .i64 0,.int .i64 0]),3,24):=by kernel_rfl
theorem seq_stops (n:Nat) (hn:1≤n) (Bn n0:Nat) (s:ByteArray) (hm:s.size≤120) (xs:List (Nat × Nat × Nat)) (HXS:Hid (Pl.cs (Pl.bt s) s.size s.size 0=xs)) (w:World) (hBn:Bn<n0) (hn0:n0≤w.heap.size)
  (hc:w.cell? ⟨Bn,0,none⟩=some (.string s)) :
  SeqStopsK Fence.wide n Tryz.prog 83 #[.pointer (some ⟨Bn,0,none⟩)] encs (Below n0) (fun ys=>ys=xs) (fun pre=>pre <+: xs) xs.length w:=fun l J Jx W hW hJ _ hY h0 =>
 seq_in n hn l Bn n0 s hm xs HXS J Jx W hBn hJ hY ((hW.cell (p:=⟨Bn,0,none⟩) (by show Bn<_;omega)).trans hc) (by have:=hW.size;omega) h0
theorem cells_own {X Y:World} {row:Option Nat} {Bx:Nat} {cs:Array Value} {t:TypeId} (h:X.heap[Bx]?=some (.cells cs t (0,0))) (hg:X.grownBy Y row) (hr:∀ r,row=some r→∃ o:Obj,X.heap[r]?=some o∧o.isCells=false) :
  Y.heap[Bx]?=some (.cells cs t (0,0)):=by
 refine (hg.block Bx (Array.getElem?_eq_some_iff.1 h).1 (fun e=>?_)).trans h
 obtain ⟨o,ho,hc⟩:=hr Bx e.symm
 rw [h] at ho;cases ho;cases hc
set_option maxRecDepth 100000 in
set_option maxHeartbeats 2000000 in
theorem appendseq_in (n:Nat) (hn:3≤n) (Bn:Nat) (s:ByteArray) (hm:s.size≤120) (xs:List (Nat × Nat × Nat)) (hlen:xs.length≤120) (HXS:Hid (Pl.cs (Pl.bt s) s.size s.size 0=xs)) (w:World) (hBn:Bn<w.heap.size)
  (hc:w.cell? ⟨Bn,0,none⟩=some (.string s)) :
  CallsIn Fence.wide n Tryz.prog 82 #[.slice none 0 0,.func (.func 83) #[] #[.pointer (some ⟨Bn,0,none⟩)]] w fun e W'=>∃ v,e=.returned v∧W'.ownsRow w.heap.size 38 3 v xs.length (xs.flatMap enc)∧Below w.heap.size w W':=by
 have h1:1≤n:=by omega
 obtain ⟨i0,hi,hz0,hz1,hz2⟩:=info_parts info27'
 refine callsIn_of_wp_marks Tryz.func82 rfl trivial ?_ rfl
 simp only [Tryz.ntmps82,List.size_toArray,List.length_cons,List.length_nil,Nat.reduceAdd,Nat.reduceSub,Array.replicate_succ,Array.replicate_zero,List.push_toArray,List.append_toArray,List.nil_append,List.cons_append]
 gi_wp2_with fail
 have bO:=Boxed.new w 34 (.slice none 0 0)
 have hB0:Below w.heap.size w (w.alloc (.cells #[.slice none 0 0] 34)):=(Below.refl _ w).alloc (Nat.le_refl _) _
 have hcW:(w.alloc (.cells #[.slice none 0 0] 34)).cell? ⟨Bn,0,none⟩=some (.string s):=(hB0.cell (p:=⟨Bn,0,none⟩) hBn).trans hc
 refine wpIn_rangeFunc_ownH rfl h1 (gf:=83) (lb:=#[.pointer (some ⟨Bn,0,none⟩)]) rfl trivial (enters_of Tryz.func83 (by kernel_rfl) rfl)
  (seq_stops (n - 1) (by omega) Bn w.heap.size s hm xs HXS _ hBn (by simp) hcW) belowK_t (belowK_b (by simp)) (Below.refl _ _) (fun _=>rfl)
  (fun (pre:List (Nat × Nat × Nat)) W=>(∃ v,Boxed W w.heap.size 34 v∧W.ownsRow w.heap.size 38 3 v pre.length (pre.flatMap enc)∧True)∧Below w.heap.size w W)
  (fun _ _ _=>False)
  (OwnFrom.and (Own.from (holdsRow_own w.heap.size w.heap.size 34 38 3 (fun pre:List (Nat × Nat × Nat)=>pre.length) (fun pre=>pre.flatMap enc) (fun _ _=>True)) _) (ownFrom_below (Nat.le_refl _) (by simp)))
  (fun _ _ _ _ _ hs _ _=>hs)
  ⟨⟨_,bO,World.ownsRow_nil _ _ _ _,trivial⟩,hB0⟩
  (fun x a' W=>∃ Bx,w.heap.size<Bx∧W.heap[Bx]?=some (.cells #[.int .i64 (x.1:Int),.int .i64 (x.2.1:Int),.int .i64 (x.2.2:Int)] 38 (0,0)) ∧
   a'={ tmps:=#[.slice none 0 0,.func (.func 83) #[] #[.pointer (some ⟨Bn,0,none⟩)],.pointer (some ⟨w.heap.size,0,none⟩),undef,.slice none 0 0,.pointer (some ⟨Bx,0,none⟩),.func (.func 83) #[] #[.pointer (some ⟨Bn,0,none⟩)],.agg #[.int .i64 (x.1:Int),.int .i64 (x.2.1:Int),.int .i64 (x.2.2:Int)],undef,undef,undef,undef,undef],defers:=[] })
  (fun x a' _ X Y row hs hg hr=>by obtain ⟨Bx,h1,h2,h3⟩:=hs;exact ⟨Bx,h1,cells_own h2 hg (fun r e=>(hr r e).2),h3⟩)
  ?assign ?body ?done ?stop
 case assign =>
  rintro l pre x W K ⟨⟨v,hv,hrow,_⟩,hB⟩ hK
  simp only [encs]
  gi_wp2
  exact hK _ _ ((KeepsOthers.alloc _ _).from _) ((Below.refl _ W).alloc hB.size _) ⟨⟨v,hv.alloc _,hrow.alloc _,trivial⟩,hB.alloc hB.size _⟩ ⟨W.heap.size,hv.lt,heap_alloc_new W _,rfl⟩
 case body =>
  rintro l pre x a' W hl ⟨r,hr⟩ ⟨⟨v,hv,hrow,_⟩,hB⟩ ⟨Bx,hBx,bX,rfl⟩ hlt
  have hcv:=hv.cell
  have c0:W.cell? ⟨Bx,0,none⟩=some (.int .i64 (x.1:Int)):=by simp [World.cell?,bX]
  have c1:W.cell? ⟨Bx,1,none⟩=some (.int .i64 (x.2.1:Int)):=by simp [World.cell?,bX]
  have c2:W.cell? ⟨Bx,2,none⟩=some (.int .i64 (x.2.2:Int)):=by simp [World.cell?,bX]
  have HNB:Hid ((W.alloc (.cells #[.int .i64 (x.1:Int),.int .i64 (x.2.1:Int),.int .i64 (x.2.2:Int)] 38)).heap[W.heap.size]?=some (.cells #[.int .i64 (x.1:Int),.int .i64 (x.2.1:Int),.int .i64 (x.2.2:Int)] 38 (0,0))):=heap_alloc_new W _
  clear bX
  gi_wp2_with (gi_at_builtin;go_must (refine wpListIn_append_own _ (by rfl) _ _ 34 (by rfl) w.heap.size 38 i0 (.agg #[.int .i64 0,.int .i64 0,.int .i64 0]) 3 24 Tryz.underlying34 hi hz0 hz1 hz2 rfl (by decide) _ pre.length (pre.flatMap enc) (by rfl) (hrow.alloc _) ⟨W.heap.size,0,none⟩ 1 1 (enc x) (by rfl) rfl (World.news_of_block HNB.out) (enc_one x) (by unfold maxLen;omega) (by omega) (by have:=hB.size;simp;omega) ?_);intro v' w1 hown' hgrow _;obtain ⟨g',cap',rfl⟩:=ownsRow_succ hown';obtain ⟨hv1,hv2,hr2,hk2,hb2⟩:=hv.appended (by decide) hrow hB.size (Nat.le_refl _) hown' hgrow;have hc1:=hv1.cell;have hf1:=hv1.frozen)
  refine ⟨hk2.from _,hb2,⟨_,hv2,?_,trivial⟩,hB.trans hb2⟩
  rw [enc_snoc,List.length_append]
  exact hr2
 case done =>
  rintro D ys W hD rfl ⟨⟨v,hv,hrow,_⟩,hB⟩ hK
  have hcv:=hv.cell
  gi_wp2
  refine ⟨by simp,.inl ⟨_,_,rfl,run_takeDeferred hK,?_⟩⟩
  exact ⟨_,results_tmp rfl _ _ _,v,rfl,ownsRow_putObj hrow _ hK rfl,hB.trans (belowK_b (w:=w) (Nat.le_refl _) W D _ _ (by simp at hD;omega) hK rfl rfl)⟩
 case stop =>
  rintro D c pre W _ _ h _
  exact h.elim
end Go.Proofs.YtcmgclckknpecaaGreatDoor
namespace Go.Proofs.YtcmgclckknpecaaGreatDoor
open Go.RowKit Go.Shelf
def noDefer (ops:Array Oper):Bool:=ops.toList.all fun o=>match o.op with | .defer _=>false | _=>true
theorem noDefer_spec {ops:Array Oper} (h:noDefer ops=true) (j:Nat) (o:Oper) (ho:ops[j]?=some o) (c:Call):o.op≠.defer c:=by
 intro hc
 have hm:o∈ops.toList:=by
  rw [← Array.getElem?_toList] at ho
  exact List.mem_of_getElem? ho
 have:=List.all_eq_true.1 h o hm
 rw [hc] at this
 simp at this
theorem opIn_of_op {P:Program} {l n:Nat} {ops:Array Oper} {Q:Exit→Act→World→Prop} (hnd:∀ (j:Nat) (o:Oper),ops[j]?=some o→(∀ c,o.op≠.defer c)) (hQ:¬ LetsOut Q) {i:Nat} {K:Act→World→Prop} {a:Act} {w:World}
  (h:wpOp P ops Q i K a w):wpOpIn (Fence.wide.inRound l) n P ops Q i K a w:=by
 unfold wpOp at h
 unfold wpOpIn
 cases ho:ops[i]? with
 | none=>simpa only [ho] using h
 | some o =>
  simp only [ho] at h ⊢
  split
  ·rename_i hw
   simp only [hw,if_true] at h
   rcases h with h | ⟨_,h⟩
   ·refine ⟨fun _ _=>trivial,?_⟩
    rw [show (Fence.wide.inRound l).round=some l from rfl,Oper.semAt_some l _ o (hnd i o ho)]
    unfold Oper.wp at h
    generalize (execOp a.eval o).run P w=r at *
    cases r with
    | ok x w' =>
     cases x
     case enter f args=>exact ⟨fun h'=>by simp [Fence.wide] at h',CallsIn.inRound l (callsIn_wide.2 h)⟩
     case row row args =>
      refine ⟨fun h'=>by simp [Fence.wide] at h',fun c cs _=>?_⟩
      obtain ⟨v,w'',r,s⟩:=h c cs
      exact ⟨v,w'',r,stepsIn_wide.2 s⟩
     all_goals first | exact h | exact h.elim
    | halt x w'=>cases x <;> exact h
   ·exact absurd h hQ
  ·rename_i hw
   simp only [hw] at h
   exact ⟨fun _ _=>trivial,h⟩
theorem anyIn_of_any {P:Program} {l n:Nat} {ops:Array Oper} {Q:Exit→Act→World→Prop} {md:Region.Mode} (hnd:∀ (j:Nat) (o:Oper),ops[j]?=some o→(∀ c,o.op≠.defer c)) (hQ:¬ LetsOut Q) :
  ∀ (fuel:Nat) (listed:Array Bool) (a:Act) (w:World),wpAny P md ops Q fuel listed a w→wpAnyIn (Fence.wide.inRound l) n P md ops Q fuel listed a w
 | 0,_,_,_,h=>h
 | fuel+1,_,_,_,h=>⟨h.1,fun i hi=>wpOpIn_mono (fun a' w' h'=>anyIn_of_any hnd hQ fuel _ a' w' h') (opIn_of_op hnd hQ (h.2 i hi))⟩
def waits (md:Region.Mode) (ops:Array Oper) (c i:Nat):Bool:=match ops[c]? with
 | some oc=>oc.after.toList.any fun e=>Region.binds md e && e.on == i
 | none=>false
theorem not_ready_of_waits {md:Region.Mode} {ops:Array Oper} {c i:Nat} {listed:Array Bool} (hw:waits md ops c i=true) (hi:i∈Region.ready md ops listed):c ∉ Region.ready md ops listed:=fun hc=>by
 obtain ⟨_,oc,hoc,hall⟩:=mem_ready.1 hc
 obtain ⟨hi0,_⟩:=mem_ready.1 hi
 simp only [waits,hoc,List.any_eq_true,Bool.and_eq_true,beq_iff_eq] at hw
 obtain ⟨e,he,hb,rfl⟩:=hw
 have h1:=hall e (by simpa using he) hb
 rcases Nat.lt_or_ge e.on listed.size with h' | h'
 ·simp [h'] at hi0 h1;rw [hi0] at h1;cases h1
 ·simp [Array.getElem?_eq_none h'] at h1
def wpAnyG (P:Program) (md:Region.Mode) (ops:Array Oper) (Q:Exit→Act→World→Prop) (S:World→Prop) (c:Nat):Nat→Array Bool→Act→World→Prop
 | 0,listed,a,w=>Region.ready md ops listed=[]∧Q .normal a w
 | fuel+1,listed,a,w =>
  (Region.ready md ops listed=[]→Q .normal a w) ∧
  ∀ i∈Region.ready md ops listed,wpOp P ops Q i (fun a' w'=>((listed.setIfInBounds i true).getD c true=false→S w')∧wpAnyG P md ops Q S c fuel (listed.setIfInBounds i true) a' w') a w
theorem wpAny_of_G {P:Program} {md:Region.Mode} {ops:Array Oper} {Q:Exit→Act→World→Prop} {S:World→Prop} {c:Nat}:∀ (fuel:Nat) (listed:Array Bool) (a:Act) (w:World),wpAnyG P md ops Q S c fuel listed a w→wpAny P md ops Q fuel listed a w
 | 0,_,_,_,h=>h
 | fuel+1,_,_,_,h=>⟨h.1,fun i hi=>wpOp_mono (fun a' w' h'=>wpAny_of_G fuel _ a' w' h'.2) (h.2 i hi)⟩
theorem wpAnyG_first {P:Program} {md:Region.Mode} {ops:Array Oper} {Q:Exit→Act→World→Prop} {S:World→Prop} {c i:Nat} {oi:Oper} {v:Value} (hi:ops[i]?=some oi) (hwt:waits md ops c i=true) (hci:c≠i)
  (hsel:∀ (j:Nat) (o:Oper) cs b,ops[j]?=some o→o.op≠.select cs b) (hQ:∀ ch a w,Q (.panic ch) (a.put oi.dst v) w→Q (.panic ch) a w) :
  ∀ (fuel:Nat) (listed:Array Bool) (a:Act) (w:World),
   (∀ j oj,ops[j]?=some oj→j≠i→listed.getD j true=false→(∀ e∈oj.after,Region.binds md e=true→e.on≠i)→oi.apart ops oj=true) →
   i∈Region.ready md ops listed→listed.getD c true=false→YieldsIf P ops S oi v a→S w →
   wpAnyG P md ops Q S c fuel (listed.setIfInBounds i true) (a.put oi.dst v) w→wpAnyG P md ops Q S c (fuel+1) listed a w:=by
 intro fuel
 induction fuel with
 | zero =>
  intro listed a w _ hr _ hy hS H
  refine ⟨fun h=>(by rw [h] at hr;cases hr),fun j hj=>?_⟩
  by_cases hji:j=i
  ·subst hji;exact hy.wpOp hi hS ⟨fun _=>hS,H⟩
  ·have:=ready_mono hj hji
   rw [H.1] at this
   cases this
 | succ fuel ih =>
  intro listed a w hfree hr hg hy hS H
  refine ⟨fun h=>(by rw [h] at hr;cases hr),fun j hj=>?_⟩
  by_cases hji:j=i
  ·subst hji;exact hy.wpOp hi hS ⟨fun _=>hS,H⟩
  ·have h1:=H.2 j (ready_mono hj hji)
   have hjc:j≠c:=fun e=>not_ready_of_waits hwt hr (e ▸ hj)
   obtain ⟨hjun,oj,hoj,hall⟩:=mem_ready.1 hj
   have hnot:∀ e∈oj.after,Region.binds md e=true→e.on≠i:=fun e he hb heq=>by
    have h1:=hall e he hb
    have h0:=(mem_ready.1 hr).1
    rw [heq] at h1
    rcases Nat.lt_or_ge i listed.size with h' | h'
    ·simp [h'] at h0 h1;rw [h0] at h1;cases h1
    ·simp [Array.getElem?_eq_none h'] at h1
   have h2:=wpOp_putIf hoj (hfree j oj hoj hji hjun hnot) (fun cs b=>hsel i oi cs b hi) (fun cs b=>hsel j oj cs b hoj) hQ hy h1
   have hg1:(listed.setIfInBounds j true).getD c true=false:=by rw [getD_set_ne true hjc];exact hg
   have hg2:((listed.setIfInBounds i true).setIfInBounds j true).getD c true=false:=by rw [getD_set_ne true hjc,getD_set_ne true (Ne.symm hci)];exact hg
   have hfree':∀ k ok,ops[k]?=some ok→k≠i→(listed.setIfInBounds j true).getD k true=false →
     (∀ e∈ok.after,Region.binds md e=true→e.on≠i)→oi.apart ops ok=true:=fun k ok hk hki hun hno=>by
    refine hfree k ok hk hki ?_ hno
    by_cases hjk:j=k
    ·subst hjk;exact hjun
    ·rw [getD_set_ne true hjk] at hun;exact hun
   refine wpOp_mono (fun a' w' h3=>⟨fun _=>h3.2.1 hg2,ih (listed.setIfInBounds j true) a' w' hfree' (ready_mono hr (Ne.symm hji)) hg1 h3.1 (h3.2.1 hg2) ?_⟩) h2
   rw [Array.setIfInBounds_comm _ _ hji]
   exact h3.2.2
theorem wpAnyG_take {P:Program} {md:Region.Mode} {ops:Array Oper} {Q:Exit→Act→World→Prop} {S:World→Prop} {c i:Nat} {oi:Oper} {v:Value} {fuel:Nat} {listed:Array Bool} {tmps:Array Value} {df:List Deferred} {w:World} (d:Nat) (hi:ops[i]?=some oi) (hd:oi.dst=some d)
  (hs:Region.noSelect ops=true) (hf:Region.free md ops listed i=true) (hr:(Region.ready md ops listed).contains i=true) (hwt:waits md ops c i=true) (hci:c≠i) (hg:listed.getD c true=false)
  (hQ:∀ ch a w,Q (.panic ch) (a.put oi.dst v) w→Q (.panic ch) a w) (hy:YieldsIf P ops S oi v ⟨tmps,df⟩) (hS:S w)
  (h:wpAnyG P md ops Q S c fuel (listed.setIfInBounds i true) ⟨tmps.setIfInBounds d v,df⟩ w):wpAnyG P md ops Q S c (fuel+1) listed ⟨tmps,df⟩ w:=by
 refine wpAnyG_first hi hwt hci (Region.noSelect_spec hs) hQ fuel listed ⟨tmps,df⟩ w (Region.free_spec hi hf) (by simpa using hr) hg hy hS ?_
 rw [hd]
 exact h
theorem wpAnyG_one {P:Program} {md:Region.Mode} {ops:Array Oper} {Q:Exit→Act→World→Prop} {S:World→Prop} {c i:Nat} {oi:Oper} {fuel:Nat} {listed:Array Bool} {a:Act} {w:World} (hi:ops[i]?=some oi)
  (hr:Region.ready md ops listed=[i]) (hw:Region.wanted oi (yielded ops a.tmps)=true)
  (h:oi.wp P a w (fun a' w'=>((listed.setIfInBounds i true).getD c true=false→S w')∧wpAnyG P md ops Q S c fuel (listed.setIfInBounds i true) a' w') Q):wpAnyG P md ops Q S c (fuel+1) listed a w:=by
 refine ⟨fun h0=>(by rw [hr] at h0;cases h0),fun j hj=>?_⟩
 rw [hr] at hj
 obtain rfl:j=i:=by simpa using hj
 unfold wpOp
 simp only [hi,hw,if_true]
 exact .inl h
theorem wpAnyG_done {P:Program} {md:Region.Mode} {ops:Array Oper} {Q:Exit→Act→World→Prop} {S:World→Prop} {c:Nat} {listed:Array Bool} {a:Act} {w:World} (hr:Region.ready md ops listed=[]) (h:Q .normal a w) :
  ∀ fuel,wpAnyG P md ops Q S c fuel listed a w
 | 0=>⟨hr,h⟩
 | _+1=>⟨fun _=>h,by rw [hr];simp⟩
theorem wpIn_region_G {P:Program} {l n:Nat} {ops:Array Oper} {Q:Exit→Act→World→Prop} {S:World→Prop} {c id:Nat} {a:Act} {w:World} (hm:P.follows .mixedOrders=true) (hnd:noDefer ops=true) (hQ:¬ LetsOut Q)
  (h:wpAnyG P .any ops Q S c ops.size (Array.replicate ops.size false) a w.drew):(Code.region id ops true).wpIn (Fence.wide.inRound l) n P Q a w :=
 wpIn_region_any hm (anyIn_of_any (noDefer_spec hnd) hQ _ _ _ _ (wpAny_of_G _ _ _ _ h))
theorem wp_region_G {P:Program} {ops:Array Oper} {Q:Exit→Act→World→Prop} {S:World→Prop} {c id:Nat} {a:Act} {w:World} (hm:P.follows .mixedOrders=true)
  (h:wpAnyG P .any ops Q S c ops.size (Array.replicate ops.size false) a w.drew):(Code.region id ops true).wp P Q a w :=
 wp_region_any hm (wpAny_of_G _ _ _ _ h)
end Go.Proofs.YtcmgclckknpecaaGreatDoor
