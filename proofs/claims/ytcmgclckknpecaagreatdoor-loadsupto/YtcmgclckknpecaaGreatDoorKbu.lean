import Derived.Test.YtcmgclckknpecaaGreatDoorKbr
import Derived.Test.YtcmgclckknpecaaGreatDoorKbt
import Derived.Test.YtcmgclckknpecaaGreatDoorKax
import Derived.OpenShut
import Derived.MakeChecks
import Derived.LaidMore
import Derived.Deep.SlicePairs
import Derived.Deep.Strs
import Derived.Lib.LaidU8T
import Derived.Lib.LaidTab
import Derived.LaidLaws
namespace Go.Proofs.YtcmgclckknpecaaGreatDoor
open Go.RowKit Go.Maps Go.Shelf
theorem Gl.new_xs {B:Nat} {w w':World} {Ls:List Nat} (hl:∀ x∈Ls,w.heap.size≤x∧w'.ownsMap Tryz.prog 9 mpE x 0 (.map [])) (hB:B≤w.heap.size):Gl B (fun i=>i∈Ls) (fun _=>False) 0 w':=by
 refine ⟨fun _=>.map [],fun _=>.nil,⟨fun i hi=>?_,fun i kl hi=>.inl fun z=>rfl,fun _ h=>h.elim,fun _ _ h=>h.elim,fun i hi hj=>hj.elim,fun _ _ _ _ _ _ _ h=>h.elim⟩⟩
 exact ⟨by have:=(hl i hi).1;omega,0,Nat.zero_le _,(hl i hi).2⟩
theorem Dcs.nil [Inhabited Exb] {m:Nat} {w:World} (h:w.ownsMap Tryz.prog 3 slE m 0 (.map [])):Dcs m [] w:=⟨.map [],h,rfl,fun _=>rfl,fun d hd=>by simp at hd⟩
theorem Ena.of_new {B:Nat} {fs:List (ByteArray × ByteArray)} {w w':World} {L:List Fe} {fv:Value} (hp:0<B) (hB:B≤w.heap.size) (hlf:L.map (·.2.1)=fs) (h0:0<fs.length) (h3:fs.length≤3) (hBk:Blk (w.heap.size+1) 157 #[fv,.map (some w.heap.size)] w') (hrow:w'.ownsRow (w.heap.size+2) 167 1 fv L.length (L.map fun f=>.pointer (some ⟨f.1,0,none⟩))) (hN:Nfs w L w') (hM:w'.ownsMap Tryz.prog 3 slE w.heap.size 0 (.map [])):Ena B (w.heap.size+1) L w.heap.size (fun i=>i∈L.map (·.2.2)) w':=fun E hE=>by
 have hll:L.length=fs.length:=by rw [← hlf];simp
 obtain ⟨g,cap,rfl,_⟩:=hrow.form (by omega)
 refine ⟨⟨g,cap,hBk,ownsRow_low hrow (Nat.zero_le _)⟩,fun f hf=>?_,Dcs.nil hM,⟨hp,hB,fun q=>?_⟩,hN.n,by omega⟩
 ·obtain ⟨q1,_,q3,_⟩:=hN.f f hf
  exact ⟨q1 E hE,List.mem_map.2 ⟨f,hf,rfl⟩,by omega⟩
 ·obtain ⟨f,hf,e⟩:=List.mem_map.1 q
  have:=(hN.f f hf).2.2.2
  omega
theorem nwE_names:∀ (fs pre:List (ByteArray × ByteArray)),Pl.nwE pre fs=none→∀ f∈fs,f.1.size≤8
 | [],_,_,f,hf=>by cases hf
 | x :: r,pre,h,f,hf=>by
  rw [Pl.nwE] at h
  split at h
  ·rename_i h1
   split at h
   ·rcases List.mem_cons.1 hf with rfl | hf
    ·simp only [Bool.and_eq_true,decide_eq_true_eq] at h1
     exact h1.1.2
    ·exact nwE_names r _ h f hf
   ·cases h
  ·cases h
structure Rdy (b:Nat) (s:ByteArray) (w:World):Prop where
 ex:∃ (E:Inhabited Exb) (B:Nat) (L:List Fe) (m:Nat) (X:Nat→Prop) (ds:Dl),@Eng E B b L m ds X w∧Dok ds∧Pl.sav (L.map (·.2.1)) ds=s∧B≤w.heap.size∧∀ f∈L,f.2.1.1.size≤1000
theorem Rdy.below {b:Nat} {s:ByteArray} {w w':World} (h:Rdy b s w) (hb:Below w.heap.size w w'):Rdy b s w':=by
 obtain ⟨E,B,L,m,X,ds,h1,h2,h3,h4,h5⟩:=h.ex
 exact ⟨E,B,L,m,X,ds,@Eng.below E _ _ _ _ _ _ _ _ h1 h4 hb,h2,h3,Nat.le_trans h4 hb.size,h5⟩
theorem Rdy.save {b:Nat} {s:ByteArray} {w:World} (h:Rdy b s w) (hT:Tbs w):Calls Tryz.prog 29 #[.pointer (some ⟨b,0,none⟩)] w fun e w'=>e=.returned (.string s)∧Below w.heap.size w w':=by
 obtain ⟨E,B,L,m,X,ds,h1,h2,h3,h4,h5⟩:=h.ex
 have:=@save_any E B b L m ds X w h1 h2 hT h5
 rwa [h3] at this
structure Tbl (w:World):Prop where
 e:Ends w
 r:Tbr w
 s:Tbs w
theorem Tbl.below {w w':World} (h:Tbl w) (hb:Below w.heap.size w w'):Tbl w':=⟨h.e.below hb,h.r.below hb,h.s.below hb⟩
structure LdO (fs:List (ByteArray × ByteArray)) (s:ByteArray) (w:World) (e:Ending) (w':World):Prop where
 w:Below w.heap.size w w'
 r:(∃ c i:Nat,c≠0∧e=.returned (.tuple #[.pointer none,.int .i64 (c:Int),.int .i64 (i:Int)])∧((c=4∧i=0∧(fs.length=0∨3<fs.length))∨(0<fs.length∧fs.length≤3∧Pl.nwE [] fs=some (c,i)))) ∨
  (0<fs.length∧fs.length≤3∧Pl.nwE [] fs=none∧(e=.returned (.tuple #[.pointer none,.int .i64 9,.int .i64 0])∨∃ b,e=.returned (.tuple #[.pointer (some ⟨b,0,none⟩),.int .i64 0,.int .i64 0])∧Rdy b s w'))
set_option maxRecDepth 100000 in
set_option maxHeartbeats 4000000 in
theorem load_any (a:Option Addr) (g o cap:Nat) (fs:List (ByteArray × ByteArray)) (s:ByteArray) (hsz:s.size≤100000000) (w:World) (hw0:0<w.heap.size) (hF:FsA g o fs w) (ha:0<fs.length→a=some ⟨g,o,none⟩) (hg:0<fs.length→g<w.heap.size) (hl:fs.length≤4398046510976) (HSZ:Hid (∀ f∈fs,f.1.size≤9223372036854775807)) (hT:Tbl w) :
  Calls Tryz.prog 32 #[.slice a fs.length cap,.string s] w fun e w'=>LdO fs s w e w':=by
 have cN:=snew_any a g o cap fs w hw0 hF ha hg hl HSZ
 have HT:Hid (Tbl w):=hT
 clear hF ha hg hT
 go_enter Tryz.func32,Tryz.ntmps32
 go_wp2_with fail
 refine cN.mono ?_
 rintro e w1 hO
 have HB1:Hid (Below w.heap.size w w1):=hO.b
 rcases hO.r with ⟨c,i,hc,rfl,hcd⟩ | ⟨h1,h2,h3,rfl,L,fv,hlf,hBk,hrw,hN,hM⟩
 ·have HCD:Hid ((c=4∧i=0∧(fs.length=0∨3<fs.length))∨(0<fs.length∧fs.length≤3∧Pl.nwE [] fs=some (c,i))):=hcd
  have e0:((c:Int) == 0)=false:=beq_eq_false_iff_ne.mpr (by omega)
  have e1:(c:Int)≠0:=by omega
  clear hcd hO cN
  go_wp2_with fail
  (try simp only [Exit.inBlock,Exit.then])
  refine bodyPost_ret (results_three' rfl _ _ _) rfl ?_
  exact ⟨HB1.out,.inl ⟨c,i,hc,rfl,HCD.out⟩⟩
 ·have hEa:Ena w.heap.size (w.heap.size+1) L w.heap.size (fun i=>i∈L.map (·.2.2)) w1:=Ena.of_new hw0 (Nat.le_refl _) hlf h1 h2 hBk hrw hN hM
  have hG:Gl w.heap.size (fun i=>i∈L.map (·.2.2)) (fun _=>False) 0 w1:=Gl.new_xs (fun x hx=>by
   obtain ⟨f,hf,rfl⟩:=List.mem_map.1 hx
   obtain ⟨_,q2,_,q4⟩:=hN.f f hf
   exact ⟨by omega,q2⟩) (Nat.le_refl _)
  have hnm:∀ f∈L,f.2.1.1.size≤1000:=fun f hf=>by
   have:=nwE_names fs [] h3 f.2.1 (by rw [← hlf];exact List.mem_map.2 ⟨f,hf,rfl⟩)
   omega
  have cR:=eread_any w.heap.size (w.heap.size+1) L w.heap.size _ _ s hsz w1 HB1.out.size hEa hG (fun q=>q) (HT.out.below HB1.out).s hnm (fun w' h=>by
   have:=HT.out.below (HB1.out.trans h)
   exact ⟨this.e,this.r,this.s⟩)
  have HNM:Hid (∀ f∈L,f.2.1.1.size≤1000):=hnm
  have H3:Hid (Pl.nwE [] fs=none):=h3
  clear hO hBk hrw hN hM hEa hG hnm cN h3
  go_wp2_with fail
  refine cR.mono ?_
  rintro e w2 hR
  have HW2:Hid (Below w.heap.size w w2):=HB1.out.trans hR.w
  rcases hR.r with rfl | ⟨rfl,E,ds,hE2,hD2,hs2⟩
  ·clear hR cR
   go_wp2_with fail
   (try simp only [Exit.inBlock,Exit.then])
   refine bodyPost_ret (results_three' rfl _ _ _) rfl ?_
   exact ⟨HW2.out,.inr ⟨h1,h2,H3.out,.inl rfl⟩⟩
  ·have HRD:Hid (Rdy (w.heap.size+1) s w2):=⟨E,_,L,_,_,ds,hE2,hD2,hs2,HW2.out.size,HNM.out⟩
   clear hR cR hE2 hs2
   go_wp2_with fail
   (try simp only [Exit.inBlock,Exit.then])
   refine bodyPost_ret (results_three' rfl _ _ _) rfl ?_
   exact ⟨HW2.out,.inr ⟨h1,h2,H3.out,.inr ⟨_,rfl,HRD.out⟩⟩⟩
end Go.Proofs.YtcmgclckknpecaaGreatDoor
namespace Go.Proofs.YtcmgclckknpecaaGreatDoor
open Go.RowKit Go.Maps Go.Shelf
set_option maxRecDepth 100000 in
set_option maxHeartbeats 4000000 in
theorem loads_all (a:Option Addr) (g o cap:Nat) (fs:List (ByteArray × ByteArray)) (s:ByteArray) (hsz:s.size≤100000000) (w:World) (hw0:0<w.heap.size) (hF:FsA g o fs w) (ha:0<fs.length→a=some ⟨g,o,none⟩) (hg:0<fs.length→g<w.heap.size) (hl:fs.length≤4398046510976) (HSZ:Hid (∀ f∈fs,f.1.size≤9223372036854775807)) (hT:Tbl w) :
  Calls Tryz.prog 12 #[.slice a fs.length cap,.string s] w fun e w'=>e=.returned (.bool true)∧Below w.heap.size w w':=by
 have cL:=load_any a g o cap fs s hsz w hw0 hF ha hg hl HSZ hT
 have HPL:Hid (∀ W,Below w.heap.size w W→Calls Tryz.prog 34 #[.slice a fs.length cap] W fun e w'=>∃ p c,e=.returned (.slice p fs.length c)∧w'.ownsRow W.heap.size 177 2 (.slice p fs.length c) fs.length (fs.flatMap fenc)∧Below W.heap.size W w'):=fun W hW=>lplain_any a g o cap fs W (hF.below hg hW) ha (fun h=>Nat.lt_of_lt_of_le (hg h) hW.size) hl
 have HRN:Hid (∀ W p c base,W.ownsRow base 177 2 (.slice p fs.length c) fs.length (fs.flatMap fenc)→Calls Tryz.prog 33 #[.slice p fs.length c] W fun e w'=>NewO fs W e w'):=fun W p c base h=>by
  obtain ⟨p',c',g',e1,e2,e3,e4⟩:=fs_at h
  injection e1 with e1 _ _
  subst e1
  exact rnew_any p g' c fs W e4 e2 e3 HSZ.out
 have HT:Hid (Tbl w):=hT
 clear hF ha hg hT
 go_enter Tryz.func12,Tryz.ntmps12
 go_wp2_with fail
 refine cL.mono ?_
 rintro e w1 hO
 obtain ⟨pe,c1,i1,rfl,hr1⟩:∃ pe,∃ c1 i1:Nat,e=.returned (.tuple #[.pointer pe,.int .i64 (c1:Int),.int .i64 (i1:Int)])∧((pe=none∧c1≠0∧((c1=4∧i1=0∧(fs.length=0∨3<fs.length))∨(0<fs.length∧fs.length≤3∧Pl.nwE [] fs=some (c1,i1))))∨(0<fs.length∧fs.length≤3∧Pl.nwE [] fs=none∧i1=0∧((pe=none∧c1=9)∨(c1=0∧∃ b,pe=some ⟨b,0,none⟩∧Rdy b s w1)))):=by
  rcases hO.r with ⟨c,i,h1,rfl,h2⟩ | ⟨h1,h2,h3,rfl | ⟨b,rfl,h4⟩⟩
  ·exact ⟨none,c,i,rfl,.inl ⟨rfl,h1,h2⟩⟩
  ·exact ⟨none,9,0,rfl,.inr ⟨h1,h2,h3,rfl,.inl ⟨rfl,rfl⟩⟩⟩
  ·exact ⟨_,0,0,rfl,.inr ⟨h1,h2,h3,rfl,.inr ⟨rfl,b,rfl,h4⟩⟩⟩
 have HB1:Hid (Below w.heap.size w w1):=hO.w
 have HR1:Hid _:=hr1
 clear hr1 hO cL
 go_wp2_with fail
 refine (HPL.out w1 HB1.out).mono ?_
 rintro e w2 ⟨p,c,rfl,hrow,hB2⟩
 have HRW:Hid (Calls Tryz.prog 33 #[.slice p fs.length c] w2 fun e w'=>NewO fs w2 e w'):=HRN.out w2 p c _ hrow
 clear HRN HPL
 go_wp2_with fail
 refine HRW.out.mono ?_
 rintro e w3 hO3
 obtain ⟨hB3,hr3⟩:=hO3.ex
 have hB13:Below w1.heap.size w1 w3:=hB2.trans (hB3.mono hB2.size)
 have HBw3:Hid (Below w.heap.size w w3):=HB1.out.trans (hB13.mono HB1.out.size)
 have HB13:Hid (Below w1.heap.size w1 w3):=hB13
 clear hO3 HRW hrow hB2 hB3 hB13
 rcases hr3 with ⟨c2,i2,hc2,rfl,hcond⟩ | ⟨q1,q2,q3,rfl,_⟩
 ·obtain ⟨rfl,rfl,rfl⟩:pe=none∧c1=c2∧i1=i2:=by
   rcases HR1.out with ⟨h1,h2,h3⟩ | ⟨h1,h2,h3,_⟩
   ·refine ⟨h1,?_⟩
    rcases h3 with ⟨e1,e2,e3⟩ | ⟨e1,e2,e3⟩ <;> rcases hcond with ⟨f1,f2,f3⟩ | ⟨f1,f2,f3⟩
    ·exact ⟨e1.trans f1.symm,e2.trans f2.symm⟩
    ·omega
    ·omega
    ·rw [e3] at f3
     injection f3 with f3
     injection f3 with f3 f4
     exact ⟨f3,f4⟩
   ·rcases hcond with ⟨f1,f2,f3⟩ | ⟨f1,f2,f3⟩
    ·omega
    ·rw [h3] at f3;cases f3
  have e0:((c1:Int) == 0)=false:=beq_eq_false_iff_ne.mpr (by omega)
  have e1:(c1:Int)≠0:=by omega
  clear HR1 hcond
  go_wp2_with (go_at_call 16;refine (num_any _ _).mono ?_;rintro e w9 ⟨rfl,hw9⟩;rw [hw9];clear hw9 w9)
  go_ret
  exact ⟨by simp,HBw3.out⟩
 ·obtain ⟨rfl,hk⟩:i1=0∧((pe=none∧c1=9)∨(c1=0∧∃ b,pe=some ⟨b,0,none⟩∧Rdy b s w1)):=by
   rcases HR1.out with ⟨h1,h2,h3⟩ | ⟨h1,h2,h3,h4,h5⟩
   ·rcases h3 with ⟨e1,e2,e3⟩ | ⟨e1,e2,e3⟩
    ·omega
    ·rw [q3] at e3;cases e3
   ·exact ⟨h4,h5⟩
  clear HR1
  rcases hk with ⟨rfl,rfl⟩ | ⟨rfl,b,rfl,hRd⟩
  ·go_wp2_with (go_at_call 16;refine (num_any _ _).mono ?_;rintro e w9 ⟨rfl,hw9⟩;rw [hw9];clear hw9 w9)
   go_ret
   exact ⟨by simp,HBw3.out⟩
  ·have cS:=(hRd.below HB13.out).save (HT.out.below HBw3.out).s
   clear hRd
   go_wp2_with (go_at_call 16;refine (num_any _ _).mono ?_;rintro e w9 ⟨rfl,hw9⟩;rw [hw9];clear hw9 w9)
   refine cS.mono ?_
   rintro e w4 ⟨rfl,hb4⟩
   have HB4:Hid (Below w.heap.size w w4):=HBw3.out.trans (hb4.mono HBw3.out.size)
   clear hb4 cS
   go_wp2_with fail
   go_ret
   exact ⟨by simp,HB4.out⟩
end Go.Proofs.YtcmgclckknpecaaGreatDoor
namespace Go.Proofs.YtcmgclckknpecaaGreatDoor
open Go.RowKit
theorem flat3:∀ (l:List (List Value)) (cs:List Value),cs.length=l.length*3→(∀ i,i<l.length→some ((cs.drop (i*3)).take 3)=l[i]?)→cs=l.flatten
 | [],cs,h,_=>by simpa using h
 | x :: r,cs,h,hi=>by
  have h0:=hi 0 (by simp)
  simp only [Nat.zero_mul,List.drop_zero,List.getElem?_cons_zero,Option.some.injEq] at h0
  have ih:=flat3 r (cs.drop 3) (by simp only [List.length_drop,List.length_cons] at h ⊢;omega) (fun i hl=>by
   have:=hi (i+1) (by simpa using hl)
   rw [List.getElem?_cons_succ,show (i+1)*3=3+i*3 by omega,← List.drop_drop] at this
   exact this)
  rw [List.flatten_cons,← h0,← ih,List.take_append_drop]
def e3 (x:List UInt8 × Int × List UInt8):List Value:=[.string ⟨x.1.toArray⟩,.int .i64 x.2.1,.string ⟨x.2.2.toArray⟩]
def d3 (x:List UInt8 × Int × List UInt8):DataW Unit:=.agg [.lit (.string x.1),.lit (.int .i64 x.2.1),.lit (.string x.2.2)]
theorem len3 {α:Type}:∀ l:List α,l.length=3→∃ a b c,l=[a,b,c]
 | [a,b,c],_=>⟨a,b,c,rfl⟩
theorem c433:Tryz.prog.cellsOf 433=3:=by kernel_rfl
theorem c434:Tryz.prog.cellsOf 434=27:=by kernel_rfl
theorem c9:Tryz.prog.cellsOf 9=1:=by kernel_rfl
theorem c3:Tryz.prog.cellsOf 3=1:=by kernel_rfl
theorem open433 {w:World} {fuel:Nat} {cs:List Value} {p:List MemPlace} (x:List UInt8 × Int × List UInt8) (h:DataW.trod (fun _=>()) Tryz.prog w 0 (fun _=>true) false fuel 433 cs=some (d3 x,p)):cs=e3 x:=by
 obtain ⟨ys,m,_,hx,hl,hn,hf⟩:=DataW.trod_struct Tryz.underlying433 h
 have l3:ys.length=3:=hn
 obtain ⟨y0,y1,y2,rfl⟩:=len3 ys l3
 have f0:=(show DataW.trod (fun _=>()) Tryz.prog w 0 (fun _=>true) false m 9 ((cs.drop 0).take (Tryz.prog.cellsOf 9))=some y0 from hf 0 _ rfl)
 have f1:=(show DataW.trod (fun _=>()) Tryz.prog w 0 (fun _=>true) false m 3 ((cs.drop 1).take (Tryz.prog.cellsOf 3))=some y1 from hf 1 _ rfl)
 have f2:=(show DataW.trod (fun _=>()) Tryz.prog w 0 (fun _=>true) false m 9 ((cs.drop 2).take (Tryz.prog.cellsOf 9))=some y2 from hf 2 _ rfl)
 rw [c9] at f0 f2
 rw [c3] at f1
 clear hf h
 obtain ⟨s0,a0,b0,_⟩:=DataW.trod_string Tryz.underlying9 f0
 obtain ⟨n1,a1,b1,_⟩:=DataW.trod_int Tryz.underlying3 f1
 obtain ⟨s2,a2,b2,_⟩:=DataW.trod_string Tryz.underlying9 f2
 subst b0 b1 b2
 simp only [d3,List.map_cons,List.map_nil,Prod.mk.injEq,DataW.agg.injEq,List.cons.injEq,DataW.lit.injEq,Lit.string.injEq,Lit.int.injEq,and_true,true_and] at hx
 obtain ⟨⟨e0,e1,e2⟩,_⟩:=hx
 rw [c433] at hl
 obtain ⟨k0,k1,k2,rfl⟩:=len3 cs hl
 obtain rfl:k0=.string s0:=(List.cons.inj a0).1
 obtain rfl:k1=.int .i64 n1:=(List.cons.inj a1).1
 obtain rfl:k2=.string s2:=(List.cons.inj a2).1
 rw [e3,e0,e1,e2]
def ends9D:List (List UInt8 × Int × List UInt8):=[([115,115,101,115],1,[115,115]),([105,101,115],2,[121]),([115,115],1,[115,115]),([117,115],1,[117,115]),([115],2,[]),([105,110,103],3,[]),([101,100,108,121],3,[]),([101,100],3,[]),([108,121],3,[])]
theorem ends_flat:((ends9D.map e3).flatten).toArray=endC:=by rfl
theorem open434 {w:World} {fuel:Nat} {cs:List Value} {p:List MemPlace} (h:DataW.trod (fun _=>()) Tryz.prog w 0 (fun _=>true) false fuel 434 cs=some (.agg (ends9D.map d3),p)):cs=(ends9D.map e3).flatten:=by
 obtain ⟨ys,m,_,hx,hl,hn,hf⟩:=DataW.trod_array Tryz.underlying434 h
 simp only [Prod.mk.injEq,DataW.agg.injEq] at hx
 rw [c434] at hl
 rw [c433] at hf
 refine flat3 _ cs (by rw [hl];rfl) (fun i hi=>?_)
 have hi9:i<9:=hi
 have hy:=hf i hi9
 have hiy:i<ys.length:=by omega
 rw [List.getElem?_eq_getElem hiy] at hy
 have hE:i<ends9D.length:=hi9
 have hd:(ys[i]).1=d3 (ends9D[i]):=by
  have e:=congrArg (fun l=>l[i]?) hx.1
  simp only [List.getElem?_map] at e
  rw [List.getElem?_eq_getElem hiy,List.getElem?_eq_getElem hE] at e
  exact (Option.some.inj e).symm
 have ho:=open433 (ends9D[i]) (p:=(ys[i]).2) (by rw [hy];exact congrArg some (Prod.ext hd rfl))
 rw [ho,List.getElem?_map,List.getElem?_eq_getElem hE]
 rfl
end Go.Proofs.YtcmgclckknpecaaGreatDoor
namespace Go.Proofs.YtcmgclckknpecaaGreatDoor
open Go.RowKit Go.Deep
theorem add_none (g o k:Nat):((⟨g,o,none⟩:Addr).add k)=⟨g,o+k,none⟩:=by
 unfold Addr.add
 split
 ·simp_all
 ·rfl
theorem cell_lt {w:World} {a:Addr} {v:Value} (h:w.cell? a=some v):a.block<w.heap.size∧a.spot=none:=by
 unfold World.cell? at h
 split at h
 ·rename_i c t f e
  split at h
  ·cases h
  ·rename_i hs
   exact ⟨(Array.getElem?_eq_some_iff.1 e).1,by simpa using hs⟩
 ·cases h
theorem addr_eta {a:Addr} (h:a.spot=none):a=⟨a.block,a.off,none⟩:=by
 cases a
 simp at h
 rw [h]
def strOf:Value→ByteArray
 | .string s=>s
 | _=>⟨#[]⟩
variable {H : Type} {enc : TypeId × Value → H} {W : World}
theorem bytes74:Tryz.prog.bytesOf 74=32:=by kernel_rfl
theorem cells74:Tryz.prog.cellsOf 74=2:=by kernel_rfl
theorem cells9:Tryz.prog.cellsOf 9=1:=by kernel_rfl
theorem open_fields {fuel:Nat} {cs:List Value} {x:DataW H × List MemPlace} (h:DataW.trod enc Tryz.prog W 0 (fun _=>true) true fuel 43 cs=some x) (hz:∀ n∈x.1.weights Tryz.prog 43,n≤reachBytes) :
  ∃ (a:Option Addr) (g o cap:Nat) (fs:List (ByteArray × ByteArray)),cs=[.slice a fs.length cap]∧FsA g o fs W∧(0<fs.length→a=some ⟨g,o,none⟩)∧(0<fs.length→g<W.heap.size)∧fs.length≤4398046510976∧∀ f∈fs,f.1.size≤9223372036854775807:=by
 rcases open_slice_pairs Tryz.underlying43 Tryz.underlying74 cells74 rfl rfl cells9 cells9 h with ⟨rfl,_⟩ | ⟨a,len,cap,m,n,V0,V1,D0,D1,P0,P1,rfl,_,hl,_,hm,rfl,hx⟩
 ·exact ⟨none,0,0,0,[],rfl,⟨fun i hi=>by simp at hi⟩,by simp,by simp,by simp,by simp⟩
 ·have hml:len≤m:=by rw [hm];simp;omega
  have hw:len*32≤reachBytes:=by
   have:=hz ((((List.range len).map fun i=>(DataW.agg [D0 i,D1 i]:DataW H)).length+((List.range (m - len)).map fun j=>(DataW.agg [D0 (len+j),D1 (len+j)]:DataW H)).length)*32) (by simp [DataW.weights,Tryz.underlying43,bytes74])
   simp at this
   omega
  have str:∀ i,i<len→V0 i=.string (strOf (V0 i))∧V1 i=.string (strOf (V1 i))∧(strOf (V0 i)).size≤maxLen:=fun i hi=>by
   obtain ⟨_,_,h3,h4⟩:=hx i (by omega)
   obtain ⟨s,e1,_,e3⟩:=DataW.trod_string Tryz.underlying9 h3
   obtain ⟨t,f1,_,_⟩:=DataW.trod_string Tryz.underlying9 h4
   simp only [List.cons.injEq,and_true] at e1 f1
   rw [e1,f1]
   exact ⟨rfl,rfl,e3⟩
  have hsp:0<len→a.block<W.heap.size∧a=⟨a.block,a.off,none⟩:=fun h0=>by
   obtain ⟨h1,_⟩:=hx 0 (by omega)
   have:a.add (0*2)=a:=by simp [Addr.add]
   rw [this] at h1
   exact ⟨(cell_lt h1).1,addr_eta (cell_lt h1).2⟩
  refine ⟨some a,a.block,a.off,cap,(List.range len).map fun i=>(strOf (V0 i),strOf (V1 i)),by simp,⟨fun i hi=>?_⟩,fun h=>?_,fun h=>?_,?_,fun f hf=>?_⟩
  ·have hi':i<len:=by simpa using hi
   obtain ⟨h1,h2,_⟩:=hx i (by omega)
   obtain ⟨e1,e2,_⟩:=str i hi'
   have hae:=(hsp (by omega)).2
   rw [hae,add_none,e1] at h1
   rw [hae,add_none,e2,← Nat.add_assoc] at h2
   simp only [List.getElem_map,List.getElem_range]
   exact ⟨h1,h2⟩
  ·rw [(hsp (by simpa using h)).2]
  ·exact (hsp (by simpa using h)).1
  ·have:reachBytes=140737488351232:=rfl
   simp
   omega
  ·obtain ⟨i,hi,rfl⟩:=List.mem_map.1 hf
   have:=(str i (by simpa using hi)).2.2
   unfold maxLen at this
   exact this
theorem ends_of_met {w:World} {l:List (String × DataW Unit)} (h:laidMet Tryz.prog l w) (hm:("seek/seek.endings",DataW.agg (ends9D.map d3))∈l):Ends w:=by
 obtain ⟨g,t,cs,fuel,p,h1,h2,h3,h4⟩:=Go.Lib.laidMet.reads h hm
 have hg:g=0:=Option.some.inj (h1.symm.trans (by kernel_rfl))
 subst hg
 have ht:t=434:=Option.some.inj (h2.symm.trans (by kernel_rfl))
 subst ht
 have ho:=open434 h4
 unfold World.var? at h3
 rw [h1,Option.bind_some] at h3
 split at h3
 ·rename_i cs' t' fr hh
  cases h3
  refine ⟨t',fr,?_⟩
  rw [hh,← ends_flat,← ho]
 ·cases h3
theorem u8x:U8Extra Tryz.prog ren196:=⟨by kernel_rfl,by kernel_rfl,by kernel_rfl,by kernel_rfl,by kernel_rfl,by kernel_rfl,by kernel_rfl⟩
theorem err_of_met {w:World} {l:List (String × DataW Unit)} (h:laidMet Tryz.prog l w) {n:String} {g:Nat} {nm:String} {d:DataW Unit} (hg:Tryz.prog.globalNamed n=some g) (ht:(Tryz.prog.globals[g]?).map (·.type)=some 169) (hm:(n,DataW.iface nm d)∈l):∃ te pe,w.cell? ⟨g,0,none⟩=some (.iface te pe):=by
 obtain ⟨g',t,cs,fuel,p,h1,h2,h3,h4⟩:=Go.Lib.laidMet.reads h hm
 obtain rfl:=Option.some.inj (h1.symm.trans hg)
 obtain rfl:=Option.some.inj (h2.symm.trans ht)
 obtain ⟨fuel',u,v,hcs,_⟩:=iface_of_trod Tryz.underlying169 h4
 refine ⟨u,v,?_⟩
 rw [World.var?_cell hg h3 0,← Array.getElem?_toList,hcs]
 rfl
end Go.Proofs.YtcmgclckknpecaaGreatDoor
