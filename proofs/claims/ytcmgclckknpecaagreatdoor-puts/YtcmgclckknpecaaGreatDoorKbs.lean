import Derived.Test.YtcmgclckknpecaaGreatDoorKbr
import Derived.Laws.ResultCell
namespace Go.Proofs.YtcmgclckknpecaaGreatDoor
open Go.RowKit Go.Maps Go.Shelf
structure Rfs (d nf:Nat) (Cs:List (List Sp)) (ds:Dl) (w:World):Prop where
 ex:∃ fa fc v1 v2 base b2,Dg d (.slice fa nf fc) v1 v2 w∧ChR b2 v1 Cs w∧Ds base v2 ds w
theorem Ds.far {base:Nat} {v:Value} {ds:Dl} {w w':World} (h:Ds base v ds w) (k:∀ (g:Nat) (cs:Array Value) (t:TypeId),(t=65∨t=9)→w.heap[g]?=some (Obj.cells cs t (0,0))→w'.heap[g]?=some (Obj.cells cs t (0,0))):Ds base v ds w':=by
 obtain ⟨us,h1,h2,h3⟩:=h.r
 exact ⟨us,h1,row_keep h2 fun g cur _=>k g cur 65 (.inl rfl),fun u hu=>row_keep (h3 u hu) fun g cur _=>k g cur 9 (.inr rfl)⟩
theorem Rfs.keep {d nf:Nat} {Cs:List (List Sp)} {ds:Dl} {w w':World} (h:Rfs d nf Cs ds w) (hd:w'.heap[d]?=w.heap[d]?) (k:∀ (g:Nat) (cs:Array Value) (t:TypeId),(t=65∨t=9∨t=287∨t=207∨t=122)→w.heap[g]?=some (Obj.cells cs t (0,0))→w'.heap[g]?=some (Obj.cells cs t (0,0))):Rfs d nf Cs ds w':=by
 obtain ⟨fa,fc,v1,v2,base,b2,h1,h2,h3⟩:=h.ex
 refine ⟨fa,fc,v1,v2,base,b2,⟨hd.trans h1.b⟩,h2.far ⟨fun g cur t ht e=>k g cur t ?_ e⟩ fun xs n hr=>row_keep hr fun g cur _=>k g cur 122 (.inr (.inr (.inr (.inr rfl)))),h3.far fun g cs t ht e=>k g cs t ?_ e⟩
 ·rcases ht with h | h | h
  ·exact .inr (.inl h)
  ·exact .inr (.inr (.inl h))
  ·exact .inr (.inr (.inr (.inl h)))
 ·rcases ht with h | h
  ·exact .inl h
  ·exact .inr (.inl h)
theorem Rfs.kc {B d nf:Nat} {Cs:List (List Sp)} {ds:Dl} {w w':World} (h:Rfs d nf Cs ds w) (k:Kc B w w'):Rfs d nf Cs ds w':=by
 obtain ⟨fa,fc,v1,v2,base,b2,h1,_⟩:=h.ex
 refine h.keep ((k.c _ _ _ _ (by decide) (by decide) h1.b).trans (Eq.symm h1.b)) fun g cs t ht e=>k.c g cs t _ ?_ ?_ e
 ·rintro rfl;simp at ht
 ·rintro rfl;simp at ht
theorem Rfs.lt {d nf:Nat} {Cs:List (List Sp)} {ds:Dl} {w:World} (h:Rfs d nf Cs ds w):d<w.heap.size∧∃ cs,w.heap[d]?=some (Obj.cells cs 62 (0,0)):=by
 obtain ⟨fa,fc,v1,v2,base,b2,h1,_⟩:=h.ex
 exact ⟨(Array.getElem?_eq_some_iff.1 h1.b).1,_,h1.b⟩
structure Pq where
 b:Nat
 m:Nat
 d:Nat
 L:List Fe
 ds:Dl
structure Pr (B:Nat) (fs:List (ByteArray × ByteArray)) (X:Nat→Prop) (q:Pq) (w:World):Prop where
 e:Eng B q.b q.L q.m q.ds X w
 l:q.L.map (·.2.1)=fs
 r:Rfs q.d fs.length (fs.map Pl.chOf) q.ds w
 d:B≤q.d
 n:Dnd q.ds∧q.ds.length≤12
theorem Pr.below {B:Nat} {fs:List (ByteArray × ByteArray)} {X:Nat→Prop} {q:Pq} {w w':World} (h:Pr B fs X q w) (hB:B≤w.heap.size) (hb:Below w.heap.size w w'):Pr B fs X q w' :=
 ⟨h.e.below hB hb,h.l,h.r.kc (Kc.below hB hb),h.d,h.n⟩
theorem Pr.other {B:Nat} {fs:List (ByteArray × ByteArray)} {X:Nat→Prop} {q:Pq} {w w':World} {r:Nat} {cs:Array Value} {t:TypeId} {f:Nat × Nat} (h:Pr B fs X q w) (hg:w.grownBy w' (some r)) (hr:w.heap[r]?=some (.cells cs t f)) (hr0:r≠0) (ht:t≠157∧t≠167∧t≠189∧t≠194∧t≠9∧t≠96∧t≠357∧t≠372∧t≠175∧t≠65∧t≠287∧t≠207∧t≠122) (hd:r≠q.d):Pr B fs X q w':=by
 obtain ⟨n1,n2,n3,n4,n5,n6,n7,n8,n9,n10,n11,n12,n13⟩:=ht
 have ne:∀ {k:Nat} {cs':Array Value} {t':TypeId} {f':Nat × Nat},w.heap[k]?=some (.cells cs' t' f')→t'≠t→w'.heap[k]?=some (.cells cs' t' f'):=fun {k cs' t' f'} e h=>(hg.block k (Array.getElem?_eq_some_iff.1 e).1 fun q=>by
  injection q with q
  subst q
  rw [hr] at e
  injection e with e
  injection e with _ e _
  exact h e.symm).trans e
 refine ⟨h.e.keepd (Kd.far hg fun i e=>?_) (fun _ q=>q) h.e.p.2.2 ?_ fun f hf=>.inl ?_,h.l,h.r.keep (hg.block q.d h.r.lt.1 (by simpa using Ne.symm hd)) fun g cs' t' ht' e=>ne e ?_,h.d,h.n⟩
 ·injection e with e
  subst e
  refine ⟨hr0,fun cs' t' f' ht' e'=>?_⟩
  rw [hr] at e'
  injection e' with e'
  injection e' with _ e' _
  subst e'
  rcases ht' with h | h | h | h | h | h | h | h
  ·exact n1 h
  ·exact n2 h
  ·exact n3 h
  ·exact n4 h
  ·exact n5 h
  ·exact n6 h
  ·exact n7 h
  ·exact n8 h
 ·obtain ⟨D,⟨es,c,q1,_⟩,_⟩:=h.e.d.ex
  refine hg.block _ (Array.getElem?_eq_some_iff.1 q1).1 fun q=>?_
  injection q with q
  rw [q,hr] at q1
  cases q1
 ·obtain ⟨cs',q1,_⟩:=(h.e.f f hf).1.blk
  exact (ne q1 (Ne.symm n9)).trans (Eq.symm q1)
 ·rcases ht' with h | h | h | h | h
  ·rw [h];exact Ne.symm n10
  ·rw [h];exact Ne.symm n5
  ·rw [h];exact Ne.symm n11
  ·rw [h];exact Ne.symm n12
  ·rw [h];exact Ne.symm n13
theorem Gl.new_xs {B:Nat} {X Y:Nat→Prop} {N:Nat} {w w':World} {Ls:List Nat} (h:Gl B X Y N w) (hb:Below w.heap.size w w') (hl:∀ x∈Ls,w.heap.size≤x∧w'.ownsMap Tryz.prog 9 mpE x 0 (.map [])) (hB:B≤w.heap.size):Gl B (fun i=>X i∨i∈Ls) Y N w':=by
 obtain ⟨DX,DY,hI⟩:=h.ex
 have h':=hI.below hb
 refine ⟨fun i=>if i∈Ls then .map [] else DX i,DY,⟨fun i hi=>?_,fun i kl hi=>?_,h'.y,h'.yk,fun i hi hj=>?_,h'.u⟩⟩
 ·by_cases he:i∈Ls
  ·simp only [he,if_true]
   exact ⟨by have:=(hl i he).1;omega,0,Nat.zero_le _,(hl i he).2⟩
  ·simp only [he,if_false]
   exact h'.x i (hi.resolve_right he)
 ·by_cases he:i∈Ls
  ·simp only [he,if_true]
   exact .inl fun z=>rfl
  ·simp only [he,if_false]
   exact h'.xk i kl (hi.resolve_right he)
 ·rcases hi with hi | hi
  ·exact h'.d i hi hj
  ·have h1:=(hl i hi).1
   have h2:=h.y_lt hj
   omega
theorem Gl.nil (B:Nat) (w:World):Gl B (fun _=>False) (fun _=>False) 0 w:=⟨fun _=>.nil,fun _=>.nil,⟨fun _ h=>h.elim,fun _ _ h=>h.elim,fun _ h=>h.elim,fun _ _ h=>h.elim,fun _ h=>h.elim,fun _ _ _ _ _ _ _ h=>h.elim⟩⟩
theorem Dcs.nil {m:Nat} {w:World} (h:w.ownsMap Tryz.prog 3 slE m 0 (.map [])):Dcs m [] w:=⟨.map [],h,rfl,fun _=>rfl,fun d hd=>by simp at hd⟩
theorem Eng.of_new {B:Nat} {fs:List (ByteArray × ByteArray)} {X:Nat→Prop} {w w':World} {L:List Fe} {fv:Value} (hp:0<B) (hB:B≤w.heap.size) (hX:∀ i,X i→i<w.heap.size) (hlf:L.map (·.2.1)=fs) (h0:0<fs.length) (h3:fs.length≤3) (hBk:Blk (w.heap.size+1) 157 #[fv,.map (some w.heap.size)] w') (hrow:w'.ownsRow (w.heap.size+2) 167 1 fv L.length (L.map fun f=>.pointer (some ⟨f.1,0,none⟩))) (hN:Nfs w L w') (hM:w'.ownsMap Tryz.prog 3 slE w.heap.size 0 (.map [])):Eng B (w.heap.size+1) L w.heap.size [] (fun i=>X i∨i∈L.map (·.2.2)) w':=by
 have hll:L.length=fs.length:=by rw [← hlf];simp
 obtain ⟨g,cap,rfl,_⟩:=hrow.form (by omega)
 refine ⟨⟨g,cap,hBk,ownsRow_low hrow (Nat.zero_le _)⟩,fun f hf=>?_,Dcs.nil hM,⟨hp,hB,fun q=>?_⟩,hN.n,by omega⟩
 ·obtain ⟨q1,_,q3,_⟩:=hN.f f hf
  exact ⟨q1,.inr (List.mem_map.2 ⟨f,hf,rfl⟩),by omega⟩
 ·rcases q with q | q
  ·have:=hX _ q;omega
  ·obtain ⟨f,hf,e⟩:=List.mem_map.1 q
   have:=(hN.f f hf).2.2.2
   omega
structure OkF (fs:List (ByteArray × ByteArray)):Prop where
 h:0<fs.length∧fs.length≤3∧Pl.nwE [] fs=none
structure MdO (B:Nat) (fs:List (ByteArray × ByteArray)) (X Y:Nat→Prop) (N:Nat) (w:World) (e:Ending) (w':World):Prop where
 b:Below w.heap.size w w'
 r:(¬ OkF fs∧e=.returned (.tuple #[.agg #[.pointer none,.pointer none],.bool true])∧Gl B X Y N w') ∨
  (OkF fs∧∃ q:Pq,∃ X':Nat→Prop,e=.returned (.tuple #[.agg #[.pointer (some ⟨q.b,0,none⟩),.pointer (some ⟨q.d,0,none⟩)],.bool true])∧Pr B fs X' q w'∧Gl B X' Y N w'∧q.ds=[]∧(∀ i,X i→X' i)∧(∀ i,X' i→X i∨w.heap.size≤i)∧w.heap.size≤q.m∧(∀ f∈q.L,w.heap.size≤f.1)∧w.heap.size≤q.d)
set_option maxRecDepth 100000 in
set_option maxHeartbeats 4000000 in
theorem made_any (B:Nat) (a:Option Addr) (g o cap:Nat) (fs:List (ByteArray × ByteArray)) (X Y:Nat→Prop) (N:Nat) (w:World) (hp:0<B) (hB:B≤w.heap.size) (hG:Gl B X Y N w) (hF:FsA g o fs w) (ha:0<fs.length→a=some ⟨g,o,none⟩) (hg:0<fs.length→g<w.heap.size) (hl:fs.length≤4398046510976) (HSZ:Hid (∀ f∈fs,f.1.size≤9223372036854775807)) :
  Calls Tryz.prog 42 #[.slice a fs.length cap] w fun e w'=>MdO B fs X Y N w e w':=by
 have hBa:Below w.heap.size w (w.alloc (.cells #[.pointer none,.pointer none] 50)):=(Below.refl _ w).alloc (Nat.le_refl _) _
 have HNS:Hid (Calls Tryz.prog 44 #[.slice a fs.length cap] (w.alloc (.cells #[.pointer none,.pointer none] 50)) fun e w'=>NsO fs (w.alloc (.cells #[.pointer none,.pointer none] 50)) e w'):=snew_any a g o cap fs _ (by simp) (hF.below (B:=w.heap.size) hg hBa) ha (fun h=>by have:=hg h;simp;omega) hl HSZ
 have HPL:Hid (∀ W,Below w.heap.size w W→Calls Tryz.prog 34 #[.slice a fs.length cap] W fun e w'=>∃ p c,e=.returned (.slice p fs.length c)∧w'.ownsRow W.heap.size 177 2 (.slice p fs.length c) fs.length (fs.flatMap fenc)∧Below W.heap.size W w'):=fun W hW=>lplain_any a g o cap fs W (hF.below hg hW) ha (fun h=>Nat.lt_of_lt_of_le (hg h) hW.size) hl
 have HRN:Hid (∀ W p c base,W.ownsRow base 177 2 (.slice p fs.length c) fs.length (fs.flatMap fenc)→Calls Tryz.prog 33 #[.slice p fs.length c] W fun e w'=>NewO fs W e w'):=fun W p c base h=>by
  obtain ⟨p',c',g',e1,e2,e3,e4⟩:=fs_at h
  injection e1 with e1 _ _
  subst e1
  exact rnew_any p g' c fs W e4 e2 e3 HSZ.out
 clear hF ha hg
 go_enter Tryz.func42,Tryz.ntmps42
 go_wp2_with fail
 refine HNS.out.mono ?_
 rintro e w1 hO
 have hB1:=hO.b
 have hBw1:Below w.heap.size w w1:=hBa.trans (hB1.mono (by simp))
 obtain ⟨pe,c1,i1,rfl,hr1⟩:∃ pe,∃ c1 i1:Nat,e=.returned (.tuple #[.pointer pe,.int .i64 (c1:Int),.int .i64 (i1:Int)])∧((pe=none∧c1≠0∧((c1=4∧i1=0∧(fs.length=0∨3<fs.length))∨(0<fs.length∧fs.length≤3∧Pl.nwE [] fs=some (c1,i1))))∨(pe=some ⟨w.heap.size+1+1,0,none⟩∧c1=0∧i1=0∧0<fs.length∧fs.length≤3∧Pl.nwE [] fs=none∧∃ L fv,L.map (·.2.1)=fs∧Blk (w.heap.size+1+1) 157 #[fv,.map (some (w.heap.size+1))] w1∧w1.ownsRow (w.heap.size+1+2) 167 1 fv L.length (L.map fun f=>.pointer (some ⟨f.1,0,none⟩))∧Nfs (w.alloc (.cells #[.pointer none,.pointer none] 50)) L w1∧w1.ownsMap Tryz.prog 3 slE (w.heap.size+1) 0 (.map []))):=by
  rcases hO.r with ⟨c,i,h1,rfl,h2⟩ | ⟨h1,h2,h3,rfl,L,fv,h4⟩
  ·exact ⟨none,c,i,rfl,.inl ⟨rfl,h1,h2⟩⟩
  ·rw [World.size_alloc] at h4
   exact ⟨_,0,0,by rw [World.size_alloc];rfl,.inr ⟨rfl,rfl,rfl,h1,h2,h3,L,fv,h4⟩⟩
 have HP1:=HPL.out w1 hBw1
 have HPW:Hid (Calls Tryz.prog 34 #[.slice a fs.length cap] w1 fun e w'=>∃ p c,e=.returned (.slice p fs.length c)∧w'.ownsRow w1.heap.size 177 2 (.slice p fs.length c) fs.length (fs.flatMap fenc)∧Below w1.heap.size w1 w'):=HP1
 have HR1:Hid _:=hr1
 clear HP1 hr1 hO HNS HPL
 go_wp2_with fail
 refine HPW.out.mono ?_
 rintro e w2 ⟨p,c,rfl,hrow,hB2⟩
 have HRW:Hid (Calls Tryz.prog 33 #[.slice p fs.length c] w2 fun e w'=>NewO fs w2 e w'):=HRN.out w2 p c _ hrow
 clear HRN HPW
 go_wp2_with fail
 refine HRW.out.mono ?_
 rintro e w3 hO3
 obtain ⟨hB3,hr3⟩:=hO3.ex
 have hB13:Below w1.heap.size w1 w3:=hB2.trans (hB3.mono hB2.size)
 have hBw3:Below w.heap.size w w3:=hBw1.trans (hB13.mono hBw1.size)
 have hw1s:=hB1.size
 rw [World.size_alloc] at hw1s
 have hpb:w3.heap[w.heap.size]?=some (.cells #[.pointer none,.pointer none] 50 (0,0)):=(hB13.block _ (by omega)).trans ((hB1.block _ (by simp)).trans (heap_alloc_new w _))
 have z0:w3.cell? ⟨w.heap.size,0,none⟩=some (.pointer none):=blk_cell (show Blk w.heap.size 50 _ w3 from hpb) 0
 have z1:w3.cell? ⟨w.heap.size,1,none⟩=some (.pointer none):=blk_cell (show Blk w.heap.size 50 _ w3 from hpb) 1
 have zf0:=blk_frozen (show Blk w.heap.size 50 _ w3 from hpb) 0
 have zf1:=blk_frozen (show Blk w.heap.size 50 _ w3 from hpb) 1
 clear hO3 HRW
 rcases hr3 with ⟨c2,i2,hc2,rfl,hcond⟩ | ⟨q1,q2,q3,rfl,fv2,cv2,hDg,hrow2,hCh⟩
 ·obtain ⟨rfl,rfl,rfl⟩:pe=none∧c1=c2∧i1=i2:=by
   rcases HR1.out with ⟨h1,h2,h3⟩ | ⟨h1,h2,h3,h4,h5,h6,_⟩
   ·refine ⟨h1,?_⟩
    rcases h3 with ⟨e1,e2,e3⟩ | ⟨e1,e2,e3⟩ <;> rcases hcond with ⟨f1,f2,f3⟩ | ⟨f1,f2,f3⟩
    ·exact ⟨e1.trans f1.symm,e2.trans f2.symm⟩
    ·omega
    ·omega
    ·rw [e3] at f3
     injection f3 with f3
     injection f3 with f3 f4
     exact ⟨f3,f4⟩
   ·rcases hcond with ⟨f1,f2,f3⟩ | ⟨f1,f2,f3⟩
    ·omega
    ·rw [h6] at f3;cases f3
  have HNK:Hid (¬ OkF fs):=fun q=>by
   obtain ⟨o1,o2,o3⟩:=q.h
   rcases hcond with ⟨f1,f2,f3⟩ | ⟨f1,f2,f3⟩
   ·omega
   ·rw [o3] at f3;cases f3
  have hJf:Below w.heap.size w ((w3.setCell ⟨w.heap.size,0,none⟩ (.pointer none)).setCell ⟨w.heap.size,1,none⟩ (.pointer none)):=(hBw3.setCell (p:=⟨w.heap.size,0,none⟩) (Nat.le_refl _) _).setCell (p:=⟨w.heap.size,1,none⟩) (Nat.le_refl _) _
  have hbf:Blk w.heap.size 50 #[.pointer none,.pointer none] ((w3.setCell ⟨w.heap.size,0,none⟩ (.pointer none)).setCell ⟨w.heap.size,1,none⟩ (.pointer none)):=(Blk.set (show Blk w.heap.size 50 #[.pointer none,.pointer none] w3 from hpb) 0 (.pointer none)).set 1 (.pointer none)
  have HFI:Hid (MdO B fs X Y N w (.returned (.tuple #[.agg #[.pointer none,.pointer none],.bool true])) ((w3.setCell ⟨w.heap.size,0,none⟩ (.pointer none)).setCell ⟨w.heap.size,1,none⟩ (.pointer none))):=⟨hJf,.inl ⟨HNK.out,rfl,hG.below hJf⟩⟩
  have y0:=blk_cell hbf 0
  have y1:=blk_cell hbf 1
  clear HR1 hcond
  go_wp2_with (go_at_call 16;refine (num_any _ _).mono ?_;rintro e w9 ⟨rfl,hw9⟩;rw [hw9];clear hw9 w9)
  refine bodyPost_ret (v:=.tuple #[.agg #[.pointer none,.pointer none],.bool true]) ?_ rfl HFI.out
  rw [results_cell_tmp (by rfl)]
  go_simp
 ·obtain ⟨rfl,rfl,rfl,L,fv,hlf,hBk,hrw,hN,hM⟩:pe=some ⟨w.heap.size+1+1,0,none⟩∧c1=0∧i1=0∧∃ L fv,L.map (·.2.1)=fs∧Blk (w.heap.size+1+1) 157 #[fv,.map (some (w.heap.size+1))] w1∧w1.ownsRow (w.heap.size+1+2) 167 1 fv L.length (L.map fun f=>.pointer (some ⟨f.1,0,none⟩))∧Nfs (w.alloc (.cells #[.pointer none,.pointer none] 50)) L w1∧w1.ownsMap Tryz.prog 3 slE (w.heap.size+1) 0 (.map []):=by
   rcases HR1.out with ⟨h1,h2,h3⟩ | ⟨h1,h2,h3,h4,h5,h6,h7⟩
   ·rcases h3 with ⟨e1,e2,e3⟩ | ⟨e1,e2,e3⟩
    ·omega
    ·rw [q3] at e3;cases e3
   ·exact ⟨h1,h2,h3,h7⟩
  have hp3:Pr B fs (fun i=>X i∨i∈L.map (·.2.2)) ⟨w.heap.size+1+1,w.heap.size+1,w2.heap.size,L,[]⟩ w3:=by
   have hwa:(w.alloc (.cells #[.pointer none,.pointer none] 50)).heap.size=w.heap.size+1:=by simp
   have hEn:=Eng.of_new (X:=X) (w:=w.alloc (.cells #[.pointer none,.pointer none] 50)) hp (by omega) (fun i q=>by have:=hG.x_lt q;omega) hlf q1 q2 (by rw [hwa];exact hBk) (by rw [hwa];exact hrw) hN (by rw [hwa];exact hM)
   rw [hwa] at hEn
   have hs2:=hB2.size
   obtain ⟨p',c',rfl⟩:=slice_of_row hrow2
   exact ⟨hEn.below (by omega) hB13,hlf,⟨p',c',cv2,.slice none 0 0,0,_,hDg,hCh,Ds.nil _ _⟩,by show B≤w2.heap.size;omega,by unfold Dnd;exact ⟨by simp,by simp⟩⟩
  have hG3:Gl B (fun i=>X i∨i∈L.map (·.2.2)) Y N w3:=(hG.new_xs hBw1 (fun x hx=>by
   obtain ⟨f,hf,rfl⟩:=List.mem_map.1 hx
   obtain ⟨_,q4,_,q5⟩:=hN.f f hf
   rw [World.size_alloc] at q5
   exact ⟨by omega,q4⟩) hB).below hB13
  have hs2:=hB2.size
  have hgf:∀ u v,w3.grownBy ((w3.setCell ⟨w.heap.size,0,none⟩ u).setCell ⟨w.heap.size,1,none⟩ v) (some w.heap.size):=fun u v=>grown_trans (grown_set _ _ _ _) (grown_set _ _ _ _)
  have hw0:w.heap.size≠0:=by omega
  have hpr4:=fun u v=>hp3.other (hgf u v) hpb hw0 (by decide) (by show w.heap.size≠w2.heap.size;omega)
  have hgl4:=fun u v=>hG3.far (hgf u v) (hG3.not_cells hpb).1 (hG3.not_cells hpb).2 (fun c f q=>by rw [hpb] at q;injection q with q;injection q with _ q _;cases q)
  have hJf:∀ u v,Below w.heap.size w ((w3.setCell ⟨w.heap.size,0,none⟩ u).setCell ⟨w.heap.size,1,none⟩ v):=fun u v=>(hBw3.setCell (p:=⟨w.heap.size,0,none⟩) (Nat.le_refl _) _).setCell (p:=⟨w.heap.size,1,none⟩) (Nat.le_refl _) _
  have hbf:∀ u v,Blk w.heap.size 50 #[u,v] ((w3.setCell ⟨w.heap.size,0,none⟩ u).setCell ⟨w.heap.size,1,none⟩ v):=fun u v=>(Blk.set (show Blk w.heap.size 50 #[.pointer none,.pointer none] w3 from hpb) 0 u).set 1 v
  have HFI:Hid (∀ u v,u=Value.pointer (some ⟨w.heap.size+1+1,0,none⟩)→v=Value.pointer (some ⟨w2.heap.size,0,none⟩)→MdO B fs X Y N w (.returned (.tuple #[.agg #[u,v],.bool true])) ((w3.setCell ⟨w.heap.size,0,none⟩ u).setCell ⟨w.heap.size,1,none⟩ v)):=fun u v hu hv=>by
   subst hu hv
   refine ⟨hJf _ _,.inr ⟨⟨q1,q2,q3⟩,⟨w.heap.size+1+1,w.heap.size+1,w2.heap.size,L,[]⟩,_,rfl,hpr4 _ _,hgl4 _ _,rfl,fun i q=>.inl q,fun i q=>?_,by show w.heap.size≤w.heap.size+1;omega,fun f hf=>?_,by show w.heap.size≤w2.heap.size;omega⟩⟩
   ·rcases q with q | q
    ·exact .inl q
    ·obtain ⟨f,hf,rfl⟩:=List.mem_map.1 q
     have:=(hN.f f hf).2.2.2
     rw [World.size_alloc] at this
     exact .inr (by omega)
   ·have:=(hN.f f hf).2.2.1
    rw [World.size_alloc] at this
    omega
  have y0:=blk_cell (hbf (.pointer (some ⟨w.heap.size+1+1,0,none⟩)) (.pointer (some ⟨w2.heap.size,0,none⟩))) 0
  have y1:=blk_cell (hbf (.pointer (some ⟨w.heap.size+1+1,0,none⟩)) (.pointer (some ⟨w2.heap.size,0,none⟩))) 1
  clear HR1 hp3 hG3 hpr4 hgl4 hJf hbf hDg hrow2 hCh hBk hrw hN hM hlf hrow
  go_wp2_with (go_at_call 16;refine (num_any _ _).mono ?_;rintro e w9 ⟨rfl,hw9⟩;rw [hw9];clear hw9 w9)
  refine bodyPost_ret (v:=.tuple #[.agg #[.pointer (some ⟨w.heap.size+1+1,0,none⟩),.pointer (some ⟨w2.heap.size,0,none⟩)],.bool true]) ?_ rfl (HFI.out _ _ rfl rfl)
  rw [results_cell_tmp (by rfl)]
  go_simp
end Go.Proofs.YtcmgclckknpecaaGreatDoor
